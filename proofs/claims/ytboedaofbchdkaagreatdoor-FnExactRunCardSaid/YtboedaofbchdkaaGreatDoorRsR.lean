/- Contracts over this seat's translation, laid together; conditions stand as hypotheses of each. -/
import Derived.Test.YtboedaofbchdkaaGreatDoorRsQ
namespace Go.Proofs.YtboedaofbchdkaaGreatDoor
open Go.ChangeShapes Go.WideShapes Go.ChangeAt Go.RowKit
set_option maxHeartbeats 16000000
set_option linter.unusedVariables false
set_option maxRecDepth 8000
set_option linter.unusedSimpArgs false
def cntL : List Int := [0, 4096, 4096, 4096, 4096, 4096, 4096, 64, 64, 64, 64, 64, 64, 64, 64, 512, 8, 256, 256, 256, 256, 256, 1, 256]
def cntAt (k : Nat) : Int := cntL.getD k 0
def Hit (n : Int) (k : Nat) : Prop := baseAt k ≤ n ∧ n - baseAt k < cntAt k
def getK (k : Nat) (f : Int) : Is :=
 if k ≤ 6 then ⟨(k : Int), opdOf (f / 64), opdOf f, 0⟩
 else if k ≤ 14 then ⟨(k : Int), zO, opdOf f, 0⟩
 else if k = 15 then ⟨(k : Int), zO, opdOf f, f / 64⟩
 else if 17 ≤ k ∧ k ≤ 21 then ⟨(k : Int), zO, zO, if 127 < f then f - 256 else f⟩
 else ⟨(k : Int), zO, zO, f⟩
theorem getK_br (k : Nat) (h : 17 ≤ k ∧ k ≤ 21) (f : Int) : getK k f = ⟨(k : Int), zO, zO, if 127 < f then f - 256 else f⟩ := by
 unfold getK
 rw [if_neg (show ¬ k ≤ 6 by omega), if_neg (show ¬ k ≤ 14 by omega), if_neg (show ¬ k = 15 by omega), if_pos h]
theorem hit_bd {n : Int} {k : Nat} (hk : k < 24) (h : Hit n k) : 0 ≤ n ∧ n ≤ 65535 ∧ 0 ≤ n - baseAt k ∧ n - baseAt k < 4096 := by
 have key : ∀ i : Fin 24, 0 ≤ baseAt i.val ∧ baseAt i.val + cntAt i.val ≤ 65536 ∧ cntAt i.val ≤ 4096 := by decide +kernel
 have := key ⟨k, hk⟩
 simp only at this
 unfold Hit at h
 omega
theorem dne {m : Int} {lo c : Nat} (h : ∀ j, lo ≤ j → j < lo + c → baseAt j ≠ m) : ¬ findOp m lo c ≠ 0 := by
 rw [find_none m c lo h]; simp
theorem dOp_lo {n : Int} (h0 : ¬ n = 0) (h1 : ∀ j, 1 ≤ j → j < 7 → baseAt j ≠ n / 4096 * 4096) : dOp n = (if findOp (n / 64 * 64) 7 8 ≠ 0 then ⟨(findOp (n / 64 * 64) 7 8 : Nat), zO, opdOf n, 0⟩
 else if n / 512 * 512 = 2048 then ⟨15, zO, opdOf n, n / 64 % 8⟩
 else if n / 8 * 8 = 128 then ⟨16, zO, zO, n % 8⟩
 else if n / 256 * 256 = 34816 then ⟨23, zO, zO, n % 256⟩
 else if findOp (n / 256 * 256) 17 5 ≠ 0 then ⟨(findOp (n / 256 * 256) 17 5 : Nat), zO, zO, if 127 < n % 256 then n % 256 - 256 else n % 256⟩
 else ⟨0, zO, zO, 0⟩) := by
 unfold dOp
 rw [if_neg h0, if_neg (dne (fun j a b => h1 j a (by omega)))]
theorem dOp_lo2 {n : Int} (h0 : ¬ n = 0) (h1 : ∀ j, 1 ≤ j → j < 7 → baseAt j ≠ n / 4096 * 4096) (h2 : ∀ j, 7 ≤ j → j < 15 → baseAt j ≠ n / 64 * 64) : dOp n = (if n / 512 * 512 = 2048 then ⟨15, zO, opdOf n, n / 64 % 8⟩
 else if n / 8 * 8 = 128 then ⟨16, zO, zO, n % 8⟩
 else if n / 256 * 256 = 34816 then ⟨23, zO, zO, n % 256⟩
 else if findOp (n / 256 * 256) 17 5 ≠ 0 then ⟨(findOp (n / 256 * 256) 17 5 : Nat), zO, zO, if 127 < n % 256 then n % 256 - 256 else n % 256⟩
 else ⟨0, zO, zO, 0⟩) := by
 rw [dOp_lo h0 h1, if_neg (dne (fun j a b => h2 j a (by omega)))]
theorem fin_lo (P : Nat → Prop) (h1 : P 1) (h2 : P 2) (h3 : P 3) (h4 : P 4) (h5 : P 5) (h6 : P 6) : ∀ j, 1 ≤ j → j < 7 → P j := by
 intro j a b
 obtain rfl | rfl | rfl | rfl | rfl | rfl : j = 1 ∨ j = 2 ∨ j = 3 ∨ j = 4 ∨ j = 5 ∨ j = 6 := by omega
 all_goals assumption
theorem fin_mid (P : Nat → Prop) (h1 : P 7) (h2 : P 8) (h3 : P 9) (h4 : P 10) (h5 : P 11) (h6 : P 12) (h7 : P 13) (h8 : P 14) : ∀ j, 7 ≤ j → j < 15 → P j := by
 intro j a b
 obtain rfl | rfl | rfl | rfl | rfl | rfl | rfl | rfl : j = 7 ∨ j = 8 ∨ j = 9 ∨ j = 10 ∨ j = 11 ∨ j = 12 ∨ j = 13 ∨ j = 14 := by omega
 all_goals assumption
theorem fin_hi (P : Nat → Prop) (h1 : P 17) (h2 : P 18) (h3 : P 19) (h4 : P 20) (h5 : P 21) : ∀ j, 17 ≤ j → j < 22 → P j := by
 intro j a b
 obtain rfl | rfl | rfl | rfl | rfl : j = 17 ∨ j = 18 ∨ j = 19 ∨ j = 20 ∨ j = 21 := by omega
 all_goals assumption
theorem is_ext {a b : Is} (h1 : a.op = b.op) (h2 : a.s.m = b.s.m) (h3 : a.s.r = b.s.r) (h4 : a.s.x = b.s.x) (h5 : a.d.m = b.d.m) (h6 : a.d.r = b.d.r) (h7 : a.d.x = b.d.x) (h8 : a.n = b.n) : a = b := by
 obtain ⟨o, ⟨a1, a2, a3⟩, ⟨b1, b2, b3⟩, n⟩ := a
 obtain ⟨o', ⟨a1', a2', a3'⟩, ⟨b1', b2', b3'⟩, n'⟩ := b
 simp_all
theorem bs1 : baseAt 1 = 4096 := rfl
theorem ct1 : cntAt 1 = 4096 := rfl
theorem bs2 : baseAt 2 = 8192 := rfl
theorem ct2 : cntAt 2 = 4096 := rfl
theorem bs3 : baseAt 3 = 16384 := rfl
theorem ct3 : cntAt 3 = 4096 := rfl
theorem bs4 : baseAt 4 = 20480 := rfl
theorem ct4 : cntAt 4 = 4096 := rfl
theorem bs5 : baseAt 5 = 24576 := rfl
theorem ct5 : cntAt 5 = 4096 := rfl
theorem bs6 : baseAt 6 = 57344 := rfl
theorem ct6 : cntAt 6 = 4096 := rfl
theorem bs7 : baseAt 7 = 2560 := rfl
theorem ct7 : cntAt 7 = 64 := rfl
theorem bs8 : baseAt 8 = 2688 := rfl
theorem ct8 : cntAt 8 = 64 := rfl
theorem bs9 : baseAt 9 = 2752 := rfl
theorem ct9 : cntAt 9 = 64 := rfl
theorem bs10 : baseAt 10 = 2816 := rfl
theorem ct10 : cntAt 10 = 64 := rfl
theorem bs11 : baseAt 11 = 3008 := rfl
theorem ct11 : cntAt 11 = 64 := rfl
theorem bs12 : baseAt 12 = 3200 := rfl
theorem ct12 : cntAt 12 = 64 := rfl
theorem bs13 : baseAt 13 = 3264 := rfl
theorem ct13 : cntAt 13 = 64 := rfl
theorem bs14 : baseAt 14 = 64 := rfl
theorem ct14 : cntAt 14 = 64 := rfl
theorem bs15 : baseAt 15 = 2048 := rfl
theorem ct15 : cntAt 15 = 512 := rfl
theorem bs16 : baseAt 16 = 128 := rfl
theorem ct16 : cntAt 16 = 8 := rfl
theorem bs17 : baseAt 17 = 256 := rfl
theorem ct17 : cntAt 17 = 256 := rfl
theorem bs18 : baseAt 18 = 512 := rfl
theorem ct18 : cntAt 18 = 256 := rfl
theorem bs19 : baseAt 19 = 768 := rfl
theorem ct19 : cntAt 19 = 256 := rfl
theorem bs20 : baseAt 20 = 1024 := rfl
theorem ct20 : cntAt 20 = 256 := rfl
theorem bs21 : baseAt 21 = 1280 := rfl
theorem ct21 : cntAt 21 = 256 := rfl
theorem bs22 : baseAt 22 = 0 := rfl
theorem ct22 : cntAt 22 = 1 := rfl
theorem bs23 : baseAt 23 = 34816 := rfl
theorem ct23 : cntAt 23 = 256 := rfl
theorem dOp_hit1 {n : Int} (h : Hit n 1) : dOp n = getK 1 (n - baseAt 1) := by
 unfold Hit at h
 rw [bs1, ct1] at h
 rw [bs1]
 have hm : n / 4096 * 4096 = 4096 := by omega
 have hf : findOp 4096 1 6 = 1 := by decide +kernel
 unfold dOp
 rw [if_neg (by omega), hm, hf, if_pos (by decide)]
 unfold getK
 rw [if_pos (by omega)]
 apply is_ext <;> simp only [opdOf, zO] <;> omega
theorem dOp_hit2 {n : Int} (h : Hit n 2) : dOp n = getK 2 (n - baseAt 2) := by
 unfold Hit at h
 rw [bs2, ct2] at h
 rw [bs2]
 have hm : n / 4096 * 4096 = 8192 := by omega
 have hf : findOp 8192 1 6 = 2 := by decide +kernel
 unfold dOp
 rw [if_neg (by omega), hm, hf, if_pos (by decide)]
 unfold getK
 rw [if_pos (by omega)]
 apply is_ext <;> simp only [opdOf, zO] <;> omega
theorem dOp_hit3 {n : Int} (h : Hit n 3) : dOp n = getK 3 (n - baseAt 3) := by
 unfold Hit at h
 rw [bs3, ct3] at h
 rw [bs3]
 have hm : n / 4096 * 4096 = 16384 := by omega
 have hf : findOp 16384 1 6 = 3 := by decide +kernel
 unfold dOp
 rw [if_neg (by omega), hm, hf, if_pos (by decide)]
 unfold getK
 rw [if_pos (by omega)]
 apply is_ext <;> simp only [opdOf, zO] <;> omega
theorem dOp_hit4 {n : Int} (h : Hit n 4) : dOp n = getK 4 (n - baseAt 4) := by
 unfold Hit at h
 rw [bs4, ct4] at h
 rw [bs4]
 have hm : n / 4096 * 4096 = 20480 := by omega
 have hf : findOp 20480 1 6 = 4 := by decide +kernel
 unfold dOp
 rw [if_neg (by omega), hm, hf, if_pos (by decide)]
 unfold getK
 rw [if_pos (by omega)]
 apply is_ext <;> simp only [opdOf, zO] <;> omega
theorem dOp_hit5 {n : Int} (h : Hit n 5) : dOp n = getK 5 (n - baseAt 5) := by
 unfold Hit at h
 rw [bs5, ct5] at h
 rw [bs5]
 have hm : n / 4096 * 4096 = 24576 := by omega
 have hf : findOp 24576 1 6 = 5 := by decide +kernel
 unfold dOp
 rw [if_neg (by omega), hm, hf, if_pos (by decide)]
 unfold getK
 rw [if_pos (by omega)]
 apply is_ext <;> simp only [opdOf, zO] <;> omega
theorem dOp_hit6 {n : Int} (h : Hit n 6) : dOp n = getK 6 (n - baseAt 6) := by
 unfold Hit at h
 rw [bs6, ct6] at h
 rw [bs6]
 have hm : n / 4096 * 4096 = 57344 := by omega
 have hf : findOp 57344 1 6 = 6 := by decide +kernel
 unfold dOp
 rw [if_neg (by omega), hm, hf, if_pos (by decide)]
 unfold getK
 rw [if_pos (by omega)]
 apply is_ext <;> simp only [opdOf, zO] <;> omega
theorem dOp_hit7 {n : Int} (h : Hit n 7) : dOp n = getK 7 (n - baseAt 7) := by
 unfold Hit at h
 rw [bs7, ct7] at h
 rw [bs7]
 have hm : n / 64 * 64 = 2560 := by omega
 have hf : findOp 2560 7 8 = 7 := by decide +kernel
 rw [dOp_lo (by omega) (fin_lo _ (by rw [bs1]; omega) (by rw [bs2]; omega) (by rw [bs3]; omega) (by rw [bs4]; omega) (by rw [bs5]; omega) (by rw [bs6]; omega)), hm, hf, if_pos (by decide)]
 unfold getK
 rw [if_neg (by omega), if_pos (by omega)]
 apply is_ext <;> simp only [opdOf, zO] <;> omega
theorem dOp_hit8 {n : Int} (h : Hit n 8) : dOp n = getK 8 (n - baseAt 8) := by
 unfold Hit at h
 rw [bs8, ct8] at h
 rw [bs8]
 have hm : n / 64 * 64 = 2688 := by omega
 have hf : findOp 2688 7 8 = 8 := by decide +kernel
 rw [dOp_lo (by omega) (fin_lo _ (by rw [bs1]; omega) (by rw [bs2]; omega) (by rw [bs3]; omega) (by rw [bs4]; omega) (by rw [bs5]; omega) (by rw [bs6]; omega)), hm, hf, if_pos (by decide)]
 unfold getK
 rw [if_neg (by omega), if_pos (by omega)]
 apply is_ext <;> simp only [opdOf, zO] <;> omega
theorem dOp_hit9 {n : Int} (h : Hit n 9) : dOp n = getK 9 (n - baseAt 9) := by
 unfold Hit at h
 rw [bs9, ct9] at h
 rw [bs9]
 have hm : n / 64 * 64 = 2752 := by omega
 have hf : findOp 2752 7 8 = 9 := by decide +kernel
 rw [dOp_lo (by omega) (fin_lo _ (by rw [bs1]; omega) (by rw [bs2]; omega) (by rw [bs3]; omega) (by rw [bs4]; omega) (by rw [bs5]; omega) (by rw [bs6]; omega)), hm, hf, if_pos (by decide)]
 unfold getK
 rw [if_neg (by omega), if_pos (by omega)]
 apply is_ext <;> simp only [opdOf, zO] <;> omega
theorem dOp_hit10 {n : Int} (h : Hit n 10) : dOp n = getK 10 (n - baseAt 10) := by
 unfold Hit at h
 rw [bs10, ct10] at h
 rw [bs10]
 have hm : n / 64 * 64 = 2816 := by omega
 have hf : findOp 2816 7 8 = 10 := by decide +kernel
 rw [dOp_lo (by omega) (fin_lo _ (by rw [bs1]; omega) (by rw [bs2]; omega) (by rw [bs3]; omega) (by rw [bs4]; omega) (by rw [bs5]; omega) (by rw [bs6]; omega)), hm, hf, if_pos (by decide)]
 unfold getK
 rw [if_neg (by omega), if_pos (by omega)]
 apply is_ext <;> simp only [opdOf, zO] <;> omega
theorem dOp_hit11 {n : Int} (h : Hit n 11) : dOp n = getK 11 (n - baseAt 11) := by
 unfold Hit at h
 rw [bs11, ct11] at h
 rw [bs11]
 have hm : n / 64 * 64 = 3008 := by omega
 have hf : findOp 3008 7 8 = 11 := by decide +kernel
 rw [dOp_lo (by omega) (fin_lo _ (by rw [bs1]; omega) (by rw [bs2]; omega) (by rw [bs3]; omega) (by rw [bs4]; omega) (by rw [bs5]; omega) (by rw [bs6]; omega)), hm, hf, if_pos (by decide)]
 unfold getK
 rw [if_neg (by omega), if_pos (by omega)]
 apply is_ext <;> simp only [opdOf, zO] <;> omega
theorem dOp_hit12 {n : Int} (h : Hit n 12) : dOp n = getK 12 (n - baseAt 12) := by
 unfold Hit at h
 rw [bs12, ct12] at h
 rw [bs12]
 have hm : n / 64 * 64 = 3200 := by omega
 have hf : findOp 3200 7 8 = 12 := by decide +kernel
 rw [dOp_lo (by omega) (fin_lo _ (by rw [bs1]; omega) (by rw [bs2]; omega) (by rw [bs3]; omega) (by rw [bs4]; omega) (by rw [bs5]; omega) (by rw [bs6]; omega)), hm, hf, if_pos (by decide)]
 unfold getK
 rw [if_neg (by omega), if_pos (by omega)]
 apply is_ext <;> simp only [opdOf, zO] <;> omega
theorem dOp_hit13 {n : Int} (h : Hit n 13) : dOp n = getK 13 (n - baseAt 13) := by
 unfold Hit at h
 rw [bs13, ct13] at h
 rw [bs13]
 have hm : n / 64 * 64 = 3264 := by omega
 have hf : findOp 3264 7 8 = 13 := by decide +kernel
 rw [dOp_lo (by omega) (fin_lo _ (by rw [bs1]; omega) (by rw [bs2]; omega) (by rw [bs3]; omega) (by rw [bs4]; omega) (by rw [bs5]; omega) (by rw [bs6]; omega)), hm, hf, if_pos (by decide)]
 unfold getK
 rw [if_neg (by omega), if_pos (by omega)]
 apply is_ext <;> simp only [opdOf, zO] <;> omega
theorem dOp_hit14 {n : Int} (h : Hit n 14) : dOp n = getK 14 (n - baseAt 14) := by
 unfold Hit at h
 rw [bs14, ct14] at h
 rw [bs14]
 have hm : n / 64 * 64 = 64 := by omega
 have hf : findOp 64 7 8 = 14 := by decide +kernel
 rw [dOp_lo (by omega) (fin_lo _ (by rw [bs1]; omega) (by rw [bs2]; omega) (by rw [bs3]; omega) (by rw [bs4]; omega) (by rw [bs5]; omega) (by rw [bs6]; omega)), hm, hf, if_pos (by decide)]
 unfold getK
 rw [if_neg (by omega), if_pos (by omega)]
 apply is_ext <;> simp only [opdOf, zO] <;> omega
theorem dOp_hit15 {n : Int} (h : Hit n 15) : dOp n = getK 15 (n - baseAt 15) := by
 unfold Hit at h
 rw [bs15, ct15] at h
 rw [bs15]
 rw [dOp_lo2 (by omega) (fin_lo _ (by rw [bs1]; omega) (by rw [bs2]; omega) (by rw [bs3]; omega) (by rw [bs4]; omega) (by rw [bs5]; omega) (by rw [bs6]; omega)) (fin_mid _ (by rw [bs7]; omega) (by rw [bs8]; omega) (by rw [bs9]; omega) (by rw [bs10]; omega) (by rw [bs11]; omega) (by rw [bs12]; omega) (by rw [bs13]; omega) (by rw [bs14]; omega)), if_pos (by omega)]
 unfold getK
 rw [if_neg (by omega), if_neg (by omega), if_pos rfl]
 apply is_ext <;> simp only [opdOf, zO] <;> omega
theorem dOp_hit16 {n : Int} (h : Hit n 16) : dOp n = getK 16 (n - baseAt 16) := by
 unfold Hit at h
 rw [bs16, ct16] at h
 rw [bs16]
 rw [dOp_lo2 (by omega) (fin_lo _ (by rw [bs1]; omega) (by rw [bs2]; omega) (by rw [bs3]; omega) (by rw [bs4]; omega) (by rw [bs5]; omega) (by rw [bs6]; omega)) (fin_mid _ (by rw [bs7]; omega) (by rw [bs8]; omega) (by rw [bs9]; omega) (by rw [bs10]; omega) (by rw [bs11]; omega) (by rw [bs12]; omega) (by rw [bs13]; omega) (by rw [bs14]; omega)), if_neg (by omega), if_pos (by omega)]
 unfold getK
 rw [if_neg (by omega), if_neg (by omega), if_neg (by omega), if_neg (by omega)]
 apply is_ext <;> simp only [opdOf, zO] <;> omega
theorem dOp_hit17 {n : Int} (h : Hit n 17) : dOp n = getK 17 (n - baseAt 17) := by
 unfold Hit at h
 rw [bs17, ct17] at h
 rw [bs17]
 have hm : n / 256 * 256 = 256 := by omega
 have hf : findOp 256 17 5 = 17 := by decide +kernel
 rw [dOp_lo2 (by omega) (fin_lo _ (by rw [bs1]; omega) (by rw [bs2]; omega) (by rw [bs3]; omega) (by rw [bs4]; omega) (by rw [bs5]; omega) (by rw [bs6]; omega)) (fin_mid _ (by rw [bs7]; omega) (by rw [bs8]; omega) (by rw [bs9]; omega) (by rw [bs10]; omega) (by rw [bs11]; omega) (by rw [bs12]; omega) (by rw [bs13]; omega) (by rw [bs14]; omega)), if_neg (by omega), if_neg (by omega), if_neg (by omega), hm, hf, if_pos (by decide)]
 have e : n % 256 = n - 256 := by omega
 rw [getK_br 17 (by omega), e]
theorem dOp_hit18 {n : Int} (h : Hit n 18) : dOp n = getK 18 (n - baseAt 18) := by
 unfold Hit at h
 rw [bs18, ct18] at h
 rw [bs18]
 have hm : n / 256 * 256 = 512 := by omega
 have hf : findOp 512 17 5 = 18 := by decide +kernel
 rw [dOp_lo2 (by omega) (fin_lo _ (by rw [bs1]; omega) (by rw [bs2]; omega) (by rw [bs3]; omega) (by rw [bs4]; omega) (by rw [bs5]; omega) (by rw [bs6]; omega)) (fin_mid _ (by rw [bs7]; omega) (by rw [bs8]; omega) (by rw [bs9]; omega) (by rw [bs10]; omega) (by rw [bs11]; omega) (by rw [bs12]; omega) (by rw [bs13]; omega) (by rw [bs14]; omega)), if_neg (by omega), if_neg (by omega), if_neg (by omega), hm, hf, if_pos (by decide)]
 have e : n % 256 = n - 512 := by omega
 rw [getK_br 18 (by omega), e]
theorem dOp_hit19 {n : Int} (h : Hit n 19) : dOp n = getK 19 (n - baseAt 19) := by
 unfold Hit at h
 rw [bs19, ct19] at h
 rw [bs19]
 have hm : n / 256 * 256 = 768 := by omega
 have hf : findOp 768 17 5 = 19 := by decide +kernel
 rw [dOp_lo2 (by omega) (fin_lo _ (by rw [bs1]; omega) (by rw [bs2]; omega) (by rw [bs3]; omega) (by rw [bs4]; omega) (by rw [bs5]; omega) (by rw [bs6]; omega)) (fin_mid _ (by rw [bs7]; omega) (by rw [bs8]; omega) (by rw [bs9]; omega) (by rw [bs10]; omega) (by rw [bs11]; omega) (by rw [bs12]; omega) (by rw [bs13]; omega) (by rw [bs14]; omega)), if_neg (by omega), if_neg (by omega), if_neg (by omega), hm, hf, if_pos (by decide)]
 have e : n % 256 = n - 768 := by omega
 rw [getK_br 19 (by omega), e]
theorem dOp_hit20 {n : Int} (h : Hit n 20) : dOp n = getK 20 (n - baseAt 20) := by
 unfold Hit at h
 rw [bs20, ct20] at h
 rw [bs20]
 have hm : n / 256 * 256 = 1024 := by omega
 have hf : findOp 1024 17 5 = 20 := by decide +kernel
 rw [dOp_lo2 (by omega) (fin_lo _ (by rw [bs1]; omega) (by rw [bs2]; omega) (by rw [bs3]; omega) (by rw [bs4]; omega) (by rw [bs5]; omega) (by rw [bs6]; omega)) (fin_mid _ (by rw [bs7]; omega) (by rw [bs8]; omega) (by rw [bs9]; omega) (by rw [bs10]; omega) (by rw [bs11]; omega) (by rw [bs12]; omega) (by rw [bs13]; omega) (by rw [bs14]; omega)), if_neg (by omega), if_neg (by omega), if_neg (by omega), hm, hf, if_pos (by decide)]
 have e : n % 256 = n - 1024 := by omega
 rw [getK_br 20 (by omega), e]
theorem dOp_hit21 {n : Int} (h : Hit n 21) : dOp n = getK 21 (n - baseAt 21) := by
 unfold Hit at h
 rw [bs21, ct21] at h
 rw [bs21]
 have hm : n / 256 * 256 = 1280 := by omega
 have hf : findOp 1280 17 5 = 21 := by decide +kernel
 rw [dOp_lo2 (by omega) (fin_lo _ (by rw [bs1]; omega) (by rw [bs2]; omega) (by rw [bs3]; omega) (by rw [bs4]; omega) (by rw [bs5]; omega) (by rw [bs6]; omega)) (fin_mid _ (by rw [bs7]; omega) (by rw [bs8]; omega) (by rw [bs9]; omega) (by rw [bs10]; omega) (by rw [bs11]; omega) (by rw [bs12]; omega) (by rw [bs13]; omega) (by rw [bs14]; omega)), if_neg (by omega), if_neg (by omega), if_neg (by omega), hm, hf, if_pos (by decide)]
 have e : n % 256 = n - 1280 := by omega
 rw [getK_br 21 (by omega), e]
theorem dOp_hit22 {n : Int} (h : Hit n 22) : dOp n = getK 22 (n - baseAt 22) := by
 unfold Hit at h
 rw [bs22, ct22] at h
 rw [bs22]
 obtain rfl : n = 0 := by omega
 rfl
theorem dOp_hit23 {n : Int} (h : Hit n 23) : dOp n = getK 23 (n - baseAt 23) := by
 unfold Hit at h
 rw [bs23, ct23] at h
 rw [bs23]
 rw [dOp_lo2 (by omega) (fin_lo _ (by rw [bs1]; omega) (by rw [bs2]; omega) (by rw [bs3]; omega) (by rw [bs4]; omega) (by rw [bs5]; omega) (by rw [bs6]; omega)) (fin_mid _ (by rw [bs7]; omega) (by rw [bs8]; omega) (by rw [bs9]; omega) (by rw [bs10]; omega) (by rw [bs11]; omega) (by rw [bs12]; omega) (by rw [bs13]; omega) (by rw [bs14]; omega)), if_neg (by omega), if_neg (by omega), if_pos (by omega)]
 unfold getK
 rw [if_neg (by omega), if_neg (by omega), if_neg (by omega), if_neg (by omega)]
 apply is_ext <;> simp only [opdOf, zO] <;> omega
theorem dOp_hit {n : Int} {k : Nat} (h1 : 1 ≤ k) (h2 : k ≤ 23) (h : Hit n k) : dOp n = getK k (n - baseAt k) := by
 obtain rfl | rfl | rfl | rfl | rfl | rfl | rfl | rfl | rfl | rfl | rfl | rfl | rfl | rfl | rfl | rfl | rfl | rfl | rfl | rfl | rfl | rfl | rfl : k = 1 ∨ k = 2 ∨ k = 3 ∨ k = 4 ∨ k = 5 ∨ k = 6 ∨ k = 7 ∨ k = 8 ∨ k = 9 ∨ k = 10 ∨ k = 11 ∨ k = 12 ∨ k = 13 ∨ k = 14 ∨ k = 15 ∨ k = 16 ∨ k = 17 ∨ k = 18 ∨ k = 19 ∨ k = 20 ∨ k = 21 ∨ k = 22 ∨ k = 23 := by omega
 · exact dOp_hit1 h
 · exact dOp_hit2 h
 · exact dOp_hit3 h
 · exact dOp_hit4 h
 · exact dOp_hit5 h
 · exact dOp_hit6 h
 · exact dOp_hit7 h
 · exact dOp_hit8 h
 · exact dOp_hit9 h
 · exact dOp_hit10 h
 · exact dOp_hit11 h
 · exact dOp_hit12 h
 · exact dOp_hit13 h
 · exact dOp_hit14 h
 · exact dOp_hit15 h
 · exact dOp_hit16 h
 · exact dOp_hit17 h
 · exact dOp_hit18 h
 · exact dOp_hit19 h
 · exact dOp_hit20 h
 · exact dOp_hit21 h
 · exact dOp_hit22 h
 · exact dOp_hit23 h
theorem dOp_miss {n : Int} (h0 : 0 ≤ n) (h1 : n ≤ 65535) (hm : ∀ k, 1 ≤ k → k ≤ 23 → ¬ Hit n k) : dOp n = ⟨0, zO, zO, 0⟩ := by
 have hh : ∀ k, 1 ≤ k → k ≤ 23 → ¬ (baseAt k ≤ n ∧ n - baseAt k < cntAt k) := hm
 have z : ¬ n = 0 := fun e => hm 22 (by omega) (by omega) (by unfold Hit; rw [bs22, ct22]; omega)
 have a15 := hh 15 (by omega) (by omega)
 have a16 := hh 16 (by omega) (by omega)
 have a23 := hh 23 (by omega) (by omega)
 rw [bs15, ct15] at a15
 rw [bs16, ct16] at a16
 rw [bs23, ct23] at a23
 rw [dOp_lo2 z (fin_lo _ (by rw [bs1]; have := hm 1 (by omega) (by omega); unfold Hit at this; rw [bs1, ct1] at this; omega) (by rw [bs2]; have := hm 2 (by omega) (by omega); unfold Hit at this; rw [bs2, ct2] at this; omega) (by rw [bs3]; have := hm 3 (by omega) (by omega); unfold Hit at this; rw [bs3, ct3] at this; omega) (by rw [bs4]; have := hm 4 (by omega) (by omega); unfold Hit at this; rw [bs4, ct4] at this; omega) (by rw [bs5]; have := hm 5 (by omega) (by omega); unfold Hit at this; rw [bs5, ct5] at this; omega) (by rw [bs6]; have := hm 6 (by omega) (by omega); unfold Hit at this; rw [bs6, ct6] at this; omega)) (fin_mid _ (by rw [bs7]; have := hm 7 (by omega) (by omega); unfold Hit at this; rw [bs7, ct7] at this; omega) (by rw [bs8]; have := hm 8 (by omega) (by omega); unfold Hit at this; rw [bs8, ct8] at this; omega) (by rw [bs9]; have := hm 9 (by omega) (by omega); unfold Hit at this; rw [bs9, ct9] at this; omega) (by rw [bs10]; have := hm 10 (by omega) (by omega); unfold Hit at this; rw [bs10, ct10] at this; omega) (by rw [bs11]; have := hm 11 (by omega) (by omega); unfold Hit at this; rw [bs11, ct11] at this; omega) (by rw [bs12]; have := hm 12 (by omega) (by omega); unfold Hit at this; rw [bs12, ct12] at this; omega) (by rw [bs13]; have := hm 13 (by omega) (by omega); unfold Hit at this; rw [bs13, ct13] at this; omega) (by rw [bs14]; have := hm 14 (by omega) (by omega); unfold Hit at this; rw [bs14, ct14] at this; omega)), if_neg (by omega), if_neg (by omega), if_neg (by omega), if_neg (dne (fun j a b => fin_hi (fun j => baseAt j ≠ n / 256 * 256) (by rw [bs17]; have := hm 17 (by omega) (by omega); unfold Hit at this; rw [bs17, ct17] at this; omega) (by rw [bs18]; have := hm 18 (by omega) (by omega); unfold Hit at this; rw [bs18, ct18] at this; omega) (by rw [bs19]; have := hm 19 (by omega) (by omega); unfold Hit at this; rw [bs19, ct19] at this; omega) (by rw [bs20]; have := hm 20 (by omega) (by omega); unfold Hit at this; rw [bs20, ct20] at this; omega) (by rw [bs21]; have := hm 21 (by omega) (by omega); unfold Hit at this; rw [bs21, ct21] at this; omega) j a (by omega)))]
def dI (n : Int) : Is := if 0 ≤ n ∧ n ≤ 65535 then dOp n else ⟨0, zO, zO, 0⟩
theorem getK_op (k : Nat) (f : Int) : (getK k f).op = (k : Int) := by
 unfold getK
 repeat' split
 all_goals rfl
theorem dI_hit {n : Int} {k : Nat} (h1 : 1 ≤ k) (h2 : k ≤ 23) (h : Hit n k) : dI n = getK k (n - baseAt k) := by
 have hb := hit_bd (by omega) h
 unfold dI
 rw [if_pos ⟨hb.1, hb.2.1⟩, dOp_hit h1 h2 h]
theorem dI_miss {n : Int} (hm : ∀ k, 1 ≤ k → k ≤ 23 → ¬ Hit n k) : dI n = ⟨0, zO, zO, 0⟩ := by
 unfold dI
 split
 ·
  rename_i h
  exact dOp_miss h.1 h.2 hm
 · rfl
def oneX (b : Bool) : Nat := if b = true then 1 else 0
def Is.need (x : Is) : Nat := oneX x.s.hasX + oneX x.d.hasX
def Is.fill (x : Is) (ns : List Int) (p : Nat) : Is :=
 ⟨x.op, ⟨x.s.m, x.s.r, if x.s.hasX = true then nAt ns p else x.s.x⟩, ⟨x.d.m, x.d.r, if x.d.hasX = true then nAt ns (p + oneX x.s.hasX) else x.d.x⟩, x.n⟩
def decIn (ns : List Int) (i : Int) : Bool := inB i 0 ((ns.length : Int) - 1) && inB (nAt ns i.toNat) 0 65535
def decX (ns : List Int) (i : Int) : Is := (dOp (nAt ns i.toNat)).fill ns (i.toNat + 1)
def decOk (ns : List Int) (i : Int) : Bool := decIn ns i && (decide (i.toNat + 1 + (dOp (nAt ns i.toNat)).need ≤ ns.length) && (decX ns i).ok)
def isZ : Is := ⟨0, zO, zO, 0⟩
def decIs (ns : List Int) (i : Int) : Is := if decOk ns i = true then decX ns i else isZ
def decN (ns : List Int) (i : Int) : Int := if decOk ns i = true then 1 + ((dOp (nAt ns i.toNat)).need : Int) else 0
def decV (ns : List Int) (i : Int) : Value := .tuple #[(decIs ns i).v, .int .i64 (decN ns i), .bool (decOk ns i)]
def noV : Value := .tuple #[isZ.v, .int .i64 0, .bool false]
theorem decV_no {ns : List Int} {i : Int} (h : decOk ns i = false) : noV = decV ns i := by
 unfold decV noV decIs decN
 rw [h]
 rfl
theorem decV_yes {ns : List Int} {i : Int} (h : decOk ns i = true) : Value.tuple #[(decX ns i).v, .int .i64 (1 + ((dOp (nAt ns i.toNat)).need : Int)), .bool true] = decV ns i := by
 unfold decV decIs decN
 rw [h]
 rfl
theorem decOk_out {ns : List Int} {i : Int} (h : decIn ns i = false) : decOk ns i = false := by
 unfold decOk
 rw [h]
 rfl
theorem decOk_in {ns : List Int} {i : Int} (h : decIn ns i = true) : decOk ns i = (decide (i.toNat + 1 + (dOp (nAt ns i.toNat)).need ≤ ns.length) && (decX ns i).ok) := by
 unfold decOk
 rw [h]
 rfl
theorem dOp_form (n : Int) (h0 : 0 ≤ n) (h1 : n ≤ 65535) : ∃ op sm sr dm dr x : Int, dOp n = ⟨op, ⟨sm, sr, 0⟩, ⟨dm, dr, 0⟩, x⟩ ∧ 0 ≤ op ∧ op ≤ 23 ∧ (6 < op → Od.hasX ⟨sm, sr, 0⟩ = false) ∧ (15 < op → Od.hasX ⟨dm, dr, 0⟩ = false) := by
 by_cases hm : ∀ k, 1 ≤ k → k ≤ 23 → ¬ Hit n k
 · exact ⟨0, 0, 0, 0, 0, 0, dOp_miss h0 h1 hm, by omega, by omega, fun _ => rfl, fun _ => rfl⟩
 ·
  simp only [Classical.not_forall, Classical.not_not] at hm
  obtain ⟨k, hk1, hk2, hh⟩ := hm
  rw [dOp_hit hk1 hk2 hh]
  unfold getK
  split
  · exact ⟨_, _, _, _, _, _, rfl, by omega, by omega, fun _ => by omega, fun _ => by omega⟩
  split
  · exact ⟨_, _, _, _, _, _, rfl, by omega, by omega, fun _ => rfl, fun _ => by omega⟩
  split
  · exact ⟨_, _, _, _, _, _, rfl, by omega, by omega, fun _ => rfl, fun _ => by omega⟩
  split
  · exact ⟨_, _, _, _, _, _, rfl, by omega, by omega, fun _ => rfl, fun _ => rfl⟩
  · exact ⟨_, _, _, _, _, _, rfl, by omega, by omega, fun _ => rfl, fun _ => rfl⟩
structure Dz (w wr : World) (bx : Nat) (l : List Int) : Prop where
 rz : Rz w wr [0, 0, 0, 0, 0, 0, 0, 0]
 row : wr.rowIs bx 48 8 (c8 l)
 ne : w.heap.size < bx
theorem Dz.later {w wr w' : World} {bx : Nat} {l : List Int} (h : Dz w wr bx l) (hb : Below wr.heap.size wr w') : Dz w w' bx l := ⟨h.rz.later hb, h.row.of_block (hb.block _ h.row.lt), h.ne⟩
theorem Dz.set {w wr : World} {bx : Nat} {l : List Int} (h : Dz w wr bx l) (k : Nat) (x : Int) (l' : List Int) (he : ∀ j, j < 8 → (if j = k then Value.int .i64 x else c8 l j) = c8 l' j) : Dz w (wr.setCell ⟨bx, k, none⟩ (.int .i64 x)) bx l' :=
 ⟨⟨h.rz.bel.setCell (Nat.le_of_lt h.ne) _, h.rz.row.of_block (Below.heap_setCell _ _ _ _ (Nat.ne_of_lt h.ne))⟩, row8_set h.row k x he, h.ne⟩
theorem dz_new {w wr : World} (h : Rz w wr [0, 0, 0, 0, 0, 0, 0, 0]) (l : List Int) : Dz w (wr.alloc (Obj.cells (cs8 l) 48)) wr.heap.size l :=
 ⟨h.later ((Below.refl _ _).alloc (Nat.le_refl _) _), row8 wr l 48, h.row.lt⟩
theorem results_row2Q {P : Program} {fn : Func} {p u : Tmp} {ty : TypeId} (h : fn.results = #[.cell p ty, .tmp u]) (tmps : Array Value) (w : World) (g : Nat) (t : TypeId) (cs : Array Value) (fr : Nat × Nat) (d : TypeDesc)
  (hp : tmps.getD p undef = .pointer (some ⟨g, 0, none⟩)) (hg : w.heap[g]? = some (.cells cs t fr))
  (hu : P.underlying ty = some d) (hd : (match d with | .struct _ | .array _ _ => true | _ => false) = true) (hi : (P.info? ty).map (·.size) = some cs.size) :
  (results fn tmps).run P w = .ok (.tuple #[.agg cs, tmps.getD u undef]) w := by
 have hp' : tmps[p]?.getD undef = .pointer (some ⟨g, 0, none⟩) := by simpa using hp
 simp [results, h, hp', asAddr, run_loadVar_row w g t ty cs fr d hg hu hd hi]
theorem results_row3 {P : Program} {fn : Func} {p u v : Tmp} {ty : TypeId} (h : fn.results = #[.cell p ty, .tmp u, .tmp v]) (tmps : Array Value) (w : World) (g : Nat) (t : TypeId) (cs : Array Value) (fr : Nat × Nat) (d : TypeDesc)
  (hp : tmps.getD p undef = .pointer (some ⟨g, 0, none⟩)) (hg : w.heap[g]? = some (.cells cs t fr))
  (hu : P.underlying ty = some d) (hd : (match d with | .struct _ | .array _ _ => true | _ => false) = true) (hi : (P.info? ty).map (·.size) = some cs.size) :
  (results fn tmps).run P w = .ok (.tuple #[.agg cs, tmps.getD u undef, tmps.getD v undef]) w := by
 have hp' : tmps[p]?.getD undef = .pointer (some ⟨g, 0, none⟩) := by simpa using hp
 simp [results, h, hp', asAddr, run_loadVar_row w g t ty cs fr d hg hu hd hi]
theorem i64_and7 (n : Int) : bits .and .i64 n 7 = n % 8 := by
 have h127 : (BitVec.ofInt 64 7).toNat = 2 ^ 3 - 1 := by decide
 have key : (BitVec.ofInt 64 n &&& BitVec.ofInt 64 7).toNat = (n % ((2 ^ 64 : Nat) : Int)).toNat % 2 ^ 3 := by
  rw [BitVec.toNat_and, BitVec.toNat_ofInt, h127, Nat.and_two_pow_sub_one_eq_mod]
 show IntKind.i64.wrap ((BitVec.ofInt 64 n &&& BitVec.ofInt 64 7).toNat : Nat) = n % 8
 rw [key, IntKind.wrap_i64]
 omega
theorem operandI_any (f : Int) (w : World) : Calls Tryz.prog 131 #[.int .i64 f] w fun e w' => e = .returned (opdOf f).v ∧ Below w.heap.size w w' := by
 have h1 := i64_and7 f
 have h2 := i64_and7 (f / 8)
 have HG : ∀ o, (w.alloc o).heap[w.heap.size]? = some o := fun o => Array.getElem?_push_size
 have HG' := hide HG
 clear HG
 unfold opdOf Od.v
 simp only
 go_enter Tryz.func131, Tryz.ntmps131
 go_wp2
 refine bodyPost_ret (results_cell_row (P := Tryz.prog) rfl _ _ w.heap.size 46 #[.int .i64 (f / 8 % 8), .int .i64 (f % 8), .int .i64 0] (0, 0) _ rfl (uh HG' _) Tryz.underlying46 rfl (by kernel_rfl)) rfl ?_
 exact ⟨rfl, (Below.refl _ _).alloc (Nat.le_refl _) _⟩
theorem getNumber_any (f : Int) (w : World) : Calls Tryz.prog 121 #[.int .i64 f] w fun e w' => e = .returned (Is.v ⟨0, zO, zO, f⟩) ∧ Below w.heap.size w w' := by
 have HG : ∀ o, (w.alloc o).heap[w.heap.size]? = some o := fun o => Array.getElem?_push_size
 have HG' := hide HG
 clear HG
 unfold Is.v zO
 simp only
 go_enter Tryz.func121, Tryz.ntmps121
 go_wp2
 refine bodyPost_ret (results_cell_row (P := Tryz.prog) rfl _ _ w.heap.size 48 #[.int .i64 0, .int .i64 0, .int .i64 0, .int .i64 0, .int .i64 0, .int .i64 0, .int .i64 0, .int .i64 f] (0, 0) _ rfl (uh HG' _) Tryz.underlying48 rfl (by kernel_rfl)) rfl ?_
 exact ⟨rfl, (Below.refl _ _).alloc (Nat.le_refl _) _⟩
theorem getBranch_any (f : Int) (h : 0 ≤ f ∧ f ≤ 255) (w : World) : Calls Tryz.prog 123 #[.int .i64 f] w fun e w' => e = .returned (Is.v ⟨0, zO, zO, if 127 < f then f - 256 else f⟩) ∧ Below w.heap.size w w' := by
 have HG : ∀ o, (w.alloc o).heap[w.heap.size]? = some o := fun o => Array.getElem?_push_size
 have HG' := hide HG
 clear HG
 have h1 : IntKind.i8.wrap f = (if 127 < f then f - 256 else f) := by
  have e : IntKind.i8.wrap f = if f % 256 ≥ 128 then f % 256 - 256 else f % 256 := by simp [IntKind.wrap, IntKind.bits, IntKind.signed]
  rw [e]
  split <;> split <;> omega
 have HB := hide (show -128 ≤ (if 127 < f then f - 256 else f) ∧ (if 127 < f then f - 256 else f) ≤ 127 by split <;> omega)
 generalize (if 127 < f then f - 256 else f) = g at h1 HB ⊢
 have hb := uh HB
 unfold Is.v zO
 simp only
 go_enter Tryz.func123, Tryz.ntmps123
 go_wp2
 refine bodyPost_ret (results_cell_row (P := Tryz.prog) rfl _ _ w.heap.size 48 #[.int .i64 0, .int .i64 0, .int .i64 0, .int .i64 0, .int .i64 0, .int .i64 0, .int .i64 0, .int .i64 g] (0, 0) _ rfl (uh HG' _) Tryz.underlying48 rfl (by kernel_rfl)) rfl ?_
 exact ⟨rfl, (Below.refl _ _).alloc (Nat.le_refl _) _⟩
theorem getTwo_any (f : Int) (w : World) : Calls Tryz.prog 115 #[.int .i64 f] w fun e w' => e = .returned (Is.v ⟨0, opdOf (f / 64), opdOf f, 0⟩) ∧ Below w.heap.size w w' := by
 have Z0 := hide (rz_new w)
 unfold Is.v
 simp only
 go_enter Tryz.func115, Tryz.ntmps115
 go_wp2_with fail
 refine (operandI_any (f / 64) _).mono ?_
 rintro e w1 ⟨rfl, hb⟩
 have Z1 := hide ((uh Z0).later hb)
 clear hb Z0
 unfold opdOf Od.v
 simp only
 go_wp2_with fail
 refine (operandI_any (f) _).mono ?_
 rintro e w2 ⟨rfl, hb⟩
 have Z2 := hide ((uh Z1).later hb)
 clear hb Z1
 unfold opdOf Od.v
 simp only
 have zz := uh Z2
 have c0 : w2.cell? ⟨w.heap.size, 0, none⟩ = some (.int .i64 0) := zz.row.cell (i := 0) (by omega)
 have f0 := zz.row.frozen 0
 have c1 : w2.cell? ⟨w.heap.size, 1, none⟩ = some (.int .i64 0) := zz.row.cell (i := 1) (by omega)
 have f1 := zz.row.frozen 1
 have c2 : w2.cell? ⟨w.heap.size, 2, none⟩ = some (.int .i64 0) := zz.row.cell (i := 2) (by omega)
 have f2 := zz.row.frozen 2
 have c3 : w2.cell? ⟨w.heap.size, 3, none⟩ = some (.int .i64 0) := zz.row.cell (i := 3) (by omega)
 have f3 := zz.row.frozen 3
 have c4 : w2.cell? ⟨w.heap.size, 4, none⟩ = some (.int .i64 0) := zz.row.cell (i := 4) (by omega)
 have f4 := zz.row.frozen 4
 have c5 : w2.cell? ⟨w.heap.size, 5, none⟩ = some (.int .i64 0) := zz.row.cell (i := 5) (by omega)
 have f5 := zz.row.frozen 5
 have c6 : w2.cell? ⟨w.heap.size, 6, none⟩ = some (.int .i64 0) := zz.row.cell (i := 6) (by omega)
 have f6 := zz.row.frozen 6
 have c7 : w2.cell? ⟨w.heap.size, 7, none⟩ = some (.int .i64 0) := zz.row.cell (i := 7) (by omega)
 have f7 := zz.row.frozen 7
 clear zz
 go_wp2
 refine bodyPost_ret (results_cell_row (P := Tryz.prog) rfl _ _ w.heap.size 48 (cs8 [0, f / 64 / 8 % 8, f / 64 % 8, 0, f / 8 % 8, f % 8, 0, 0]) (0, 0) _ rfl (row8_heap ((uh Z2).put (0) (f / 64 / 8 % 8) (f / 64 % 8) (0) (f / 8 % 8) (f % 8) (0) (0)).row) Tryz.underlying48 rfl (by kernel_rfl)) rfl ?_
 exact ⟨rfl, ((uh Z2).put (0) (f / 64 / 8 % 8) (f / 64 % 8) (0) (f / 8 % 8) (f % 8) (0) (0)).bel⟩
theorem getOperand_any (f : Int) (w : World) : Calls Tryz.prog 117 #[.int .i64 f] w fun e w' => e = .returned (Is.v ⟨0, zO, opdOf f, 0⟩) ∧ Below w.heap.size w w' := by
 have Z0 := hide (rz_new w)
 unfold Is.v zO
 simp only
 go_enter Tryz.func117, Tryz.ntmps117
 go_wp2_with fail
 refine (operandI_any (f) _).mono ?_
 rintro e w1 ⟨rfl, hb⟩
 have Z1 := hide ((uh Z0).later hb)
 clear hb Z0
 unfold opdOf Od.v
 simp only
 have zz := uh Z1
 have c0 : w1.cell? ⟨w.heap.size, 0, none⟩ = some (.int .i64 0) := zz.row.cell (i := 0) (by omega)
 have f0 := zz.row.frozen 0
 have c1 : w1.cell? ⟨w.heap.size, 1, none⟩ = some (.int .i64 0) := zz.row.cell (i := 1) (by omega)
 have f1 := zz.row.frozen 1
 have c2 : w1.cell? ⟨w.heap.size, 2, none⟩ = some (.int .i64 0) := zz.row.cell (i := 2) (by omega)
 have f2 := zz.row.frozen 2
 have c3 : w1.cell? ⟨w.heap.size, 3, none⟩ = some (.int .i64 0) := zz.row.cell (i := 3) (by omega)
 have f3 := zz.row.frozen 3
 have c4 : w1.cell? ⟨w.heap.size, 4, none⟩ = some (.int .i64 0) := zz.row.cell (i := 4) (by omega)
 have f4 := zz.row.frozen 4
 have c5 : w1.cell? ⟨w.heap.size, 5, none⟩ = some (.int .i64 0) := zz.row.cell (i := 5) (by omega)
 have f5 := zz.row.frozen 5
 have c6 : w1.cell? ⟨w.heap.size, 6, none⟩ = some (.int .i64 0) := zz.row.cell (i := 6) (by omega)
 have f6 := zz.row.frozen 6
 have c7 : w1.cell? ⟨w.heap.size, 7, none⟩ = some (.int .i64 0) := zz.row.cell (i := 7) (by omega)
 have f7 := zz.row.frozen 7
 clear zz
 go_wp2
 refine bodyPost_ret (results_cell_row (P := Tryz.prog) rfl _ _ w.heap.size 48 (cs8 [0, 0, 0, 0, f / 8 % 8, f % 8, 0, 0]) (0, 0) _ rfl (row8_heap ((uh Z1).put (0) (0) (0) (0) (f / 8 % 8) (f % 8) (0) (0)).row) Tryz.underlying48 rfl (by kernel_rfl)) rfl ?_
 exact ⟨rfl, ((uh Z1).put (0) (0) (0) (0) (f / 8 % 8) (f % 8) (0) (0)).bel⟩
theorem getReg_any (f : Int) (w : World) : Calls Tryz.prog 119 #[.int .i64 f] w fun e w' => e = .returned (Is.v ⟨0, zO, opdOf f, f / 64⟩) ∧ Below w.heap.size w w' := by
 have Z0 := hide (rz_new w)
 unfold Is.v zO
 simp only
 go_enter Tryz.func119, Tryz.ntmps119
 go_wp2_with fail
 refine (operandI_any (f) _).mono ?_
 rintro e w1 ⟨rfl, hb⟩
 have Z1 := hide ((uh Z0).later hb)
 clear hb Z0
 unfold opdOf Od.v
 simp only
 have zz := uh Z1
 have c0 : w1.cell? ⟨w.heap.size, 0, none⟩ = some (.int .i64 0) := zz.row.cell (i := 0) (by omega)
 have f0 := zz.row.frozen 0
 have c1 : w1.cell? ⟨w.heap.size, 1, none⟩ = some (.int .i64 0) := zz.row.cell (i := 1) (by omega)
 have f1 := zz.row.frozen 1
 have c2 : w1.cell? ⟨w.heap.size, 2, none⟩ = some (.int .i64 0) := zz.row.cell (i := 2) (by omega)
 have f2 := zz.row.frozen 2
 have c3 : w1.cell? ⟨w.heap.size, 3, none⟩ = some (.int .i64 0) := zz.row.cell (i := 3) (by omega)
 have f3 := zz.row.frozen 3
 have c4 : w1.cell? ⟨w.heap.size, 4, none⟩ = some (.int .i64 0) := zz.row.cell (i := 4) (by omega)
 have f4 := zz.row.frozen 4
 have c5 : w1.cell? ⟨w.heap.size, 5, none⟩ = some (.int .i64 0) := zz.row.cell (i := 5) (by omega)
 have f5 := zz.row.frozen 5
 have c6 : w1.cell? ⟨w.heap.size, 6, none⟩ = some (.int .i64 0) := zz.row.cell (i := 6) (by omega)
 have f6 := zz.row.frozen 6
 have c7 : w1.cell? ⟨w.heap.size, 7, none⟩ = some (.int .i64 0) := zz.row.cell (i := 7) (by omega)
 have f7 := zz.row.frozen 7
 clear zz
 go_wp2
 refine bodyPost_ret (results_cell_row (P := Tryz.prog) rfl _ _ w.heap.size 48 (cs8 [0, 0, 0, 0, f / 8 % 8, f % 8, 0, f / 64]) (0, 0) _ rfl (row8_heap ((uh Z1).put (0) (0) (0) (0) (f / 8 % 8) (f % 8) (0) (f / 64)).row) Tryz.underlying48 rfl (by kernel_rfl)) rfl ?_
 exact ⟨rfl, ((uh Z1).put (0) (0) (0) (0) (f / 8 % 8) (f % 8) (0) (f / 64)).bel⟩
end Go.Proofs.YtboedaofbchdkaaGreatDoor
