/- Contracts over this seat's translation, laid together; conditions stand as hypotheses of each. -/
import Derived.Test.YtjnblcgekpgkoaaGreatDoorTqE
import Derived.Deep.MidRow
import Derived.Deep.Upon
import Derived.LaidMore
import Derived.Defers
import Derived.Recover
import Derived.Laws.Pointers
import Derived.Laws.CopyRow
import Derived.OrdersHeld
import Derived.Laws.BitsAllLaws
import Derived.WalkSmall
import Derived.Shelf.RegionOpenPlain
import Derived.Test.YtjnblcgekpgkoaaGreatDoorRows
import Derived.Stop.LaidErr
import Derived.MakeChecks
namespace Go.Proofs.YtjnblcgekpgkoaaGreatDoor
open Go.ChangeShapes Go.WideShapes Go.ChangeAt Go.RowKit
set_option maxHeartbeats 16000000
set_option linter.unusedVariables false
set_option maxRecDepth 8000
set_option linter.unusedSimpArgs false
def jnT : List (List Tk) → List Tk
 | [] => []
 | p :: r => p ++ (r.map fun x => mkT 44 :: x).flatten
theorem jn_cm (l : List Ex) : jnT (l.map (toksF 6)) = cmT l := by
 cases l with
 | nil => rfl
 | cons e r => simp [jnT, cmT, List.map_map, Function.comp_def]
theorem jn_one (ps : List (List Tk)) (h : 0 < ps.length) : jnT (ps.take 1) = ps.getD 0 [] := by
 cases ps with
 | nil => simp at h
 | cons p r => simp [jnT]
theorem jn_more (ps : List (List Tk)) (j : Nat) (h0 : 0 < j) (h : j < ps.length) : jnT (ps.take (j + 1)) = jnT (ps.take j) ++ [mkT 44] ++ ps.getD j [] := by
 cases ps with
 | nil => simp at h
 | cons p r =>
  obtain ⟨i, rfl⟩ : ∃ i, j = i + 1 := ⟨j - 1, by omega⟩
  have hi : i < r.length := by simpa using h
  simp only [List.take_succ_cons, jnT]
  rw [List.take_succ_eq_append_getElem hi]
  have hg : (p :: r).getD (i + 1) [] = r[i] := by simp [List.getD_eq_getElem?_getD, hi]
  rw [hg]
  simp only [List.map_append, List.flatten_append, List.map_cons, List.map_nil, List.flatten_cons, List.flatten_nil, List.append_nil, List.append_assoc, List.cons_append, List.nil_append]
def ovrS : ByteArray := ⟨#[111, 118, 101, 114]⟩
def dotL : List ByteArray := [E0, E0, E0, E0, ⟨#[46, 119, 111, 114, 100]⟩, ⟨#[46, 98, 108, 107, 119]⟩, ⟨#[46, 115, 101, 99, 116]⟩, ⟨#[46, 103, 108, 111, 98, 108]⟩, ⟨#[46, 101, 110, 100]⟩]
def hdT (x : Ln) : List Tk := if x.k = 0 then [] else if x.k = 1 then [⟨1, 0, x.s⟩, mkT 58] else if x.k = 2 then [⟨1, 0, x.s⟩, mkT 61] else if x.k = 3 then [kpT (x.op - 1).toNat] else [⟨3, 0, dotL.getD x.k.toNat E0⟩]
def lnA (x : Ln) : List Ag := (if (shX x.k x.op).src = true then [x.src] else []) ++ (if (shX x.k x.op).dst = true then [x.dst] else [])
theorem lnO_is (x : Ln) : lnO x = (lnA x).map opP := by
 unfold lnO lnA opsL
 cases (shX x.k x.op).src <;> cases (shX x.k x.op).dst <;> rfl
theorem lnA_ok {x : Ln} (ok : lnX x = true) : ∀ a ∈ lnA x, agX a = true := by
 rw [← st_eq] at ok
 unfold stX at ok
 simp only [Bool.and_eq_true] at ok
 obtain ⟨_, _, _, ⟨h1, h2⟩, _⟩ := ok
 unfold agW at h1 h2
 unfold lnA
 intro a ha
 rcases List.mem_append.1 ha with h | h
 ·
  cases hs : (shX x.k x.op).src with
  | false => rw [hs] at h; simp at h
  | true => rw [hs] at h h1; simp at h; rw [h]; simpa using h1
 ·
  cases hs : (shX x.k x.op).dst with
  | false => rw [hs] at h; simp at h
  | true => rw [hs] at h h2; simp at h; rw [h]; simpa using h2
theorem lnA_len (x : Ln) : (lnA x).length ≤ 2 := by
 unfold lnA
 cases (shX x.k x.op).src <;> cases (shX x.k x.op).dst <;> simp
theorem lnL_ok {x : Ln} (ok : lnX x = true) : x.l.all (okF 6 true) = true ∧ x.l.length ≤ 6 := by
 rw [← st_eq] at ok
 unfold stX at ok
 simp only [Bool.and_eq_true] at ok
 obtain ⟨_, _, _, _, h⟩ := ok
 unfold tmX at h
 rw [Bool.and_eq_true] at h
 refine ⟨List.all_eq_true.2 fun e he => ?_, ?_⟩
 ·
  have := List.all_eq_true.1 h.2 e he
  unfold tmF at this
  rw [Bool.and_eq_true] at this
  exact this.1
 ·
  have h1 := ((inB_iff _ _ _).1 h.1).2
  have hm : (shX x.k x.op).mo ≤ 6 := by
   unfold shX shP sh0
   repeat' split
   all_goals simp
   all_goals (repeat' split)
   all_goals simp
  omega
def bhT (x : Ln) : List (List Tk) := (if x.k = 6 then [⟨1, 0, x.s⟩] :: (if x.n = 1 then [[⟨1, 0, ovrS⟩]] else []) else []) ++ ((if regB x.op = true then [[rgT x.n.toNat]] else []) ++ ((lnA x).map agT ++ x.l.map (toksF 6)))
theorem one_lx {l : List Ex} (h : l.length = 1) : l = [xAt l 0] := by
 match l, h with
 | [a], _ => rfl
theorem ln_join {x : Ln} (ok : lnX x = true) : lnT x = hdT x ++ jnT (bhT x) := by
 rw [← st_eq] at ok
 obtain ⟨k, s, op, src, dst, n, l⟩ := x
 by_cases hk : k = 3
 ·
  subst hk
  by_cases h : 1 ≤ op ∧ op ≤ 6
  ·
   have f1 : inB op 1 6 = true := inB_t _ _ _ (by omega) (by omega)
   have f2 : inB op 1 15 = true := inB_t _ _ _ (by omega) (by omega)
   have f3 : inB op 7 14 = false := inB_f _ _ _ (by omega)
   have f4 : inB op 17 21 = false := inB_f _ _ _ (by omega)
   have f5 : inB op 1 23 = true := inB_t _ _ _ (by omega) (by omega)
   have e1 : (op == 15) = false := beq_eq_false_iff_ne.2 (by omega)
   have e2 : (op == 16) = false := beq_eq_false_iff_ne.2 (by omega)
   have e3 : (op == 22) = false := beq_eq_false_iff_ne.2 (by omega)
   have e4 : (op == 23) = false := beq_eq_false_iff_ne.2 (by omega)
   have R : regB op = false := by unfold regB; rw [e1, e2]; rfl
   have hX : shX 3 op = ⟨false, true, true, 0, 0, 0, false⟩ := by unfold shX; rw [if_pos rfl, R, f1, f2, f4, e4]; rfl
   have hB : shB 3 op = true := by unfold shB; rw [if_pos rfl, f5]
   rw [stX_of (x := Ln.mk 3 s op src dst n l) hX hB] at ok
   simp only [Bool.and_eq_true] at ok
   obtain ⟨_, _, _, _, ok⟩ := ok
   simp only [tm_00] at ok
   have hl : l = [] := List.eq_nil_of_length_eq_zero (by simpa using ok)
   subst hl
   unfold bhT lnA
   simp only [hX, R]
   unfold lnT hdT insT
   simp only
   rw [if_pos (show op ≤ 6 by omega)]
   simp [jnT, xAt]
  by_cases h : 7 ≤ op ∧ op ≤ 14
  ·
   have f1 : inB op 1 6 = false := inB_f _ _ _ (by omega)
   have f2 : inB op 1 15 = true := inB_t _ _ _ (by omega) (by omega)
   have f3 : inB op 7 14 = true := inB_t _ _ _ (by omega) (by omega)
   have f4 : inB op 17 21 = false := inB_f _ _ _ (by omega)
   have f5 : inB op 1 23 = true := inB_t _ _ _ (by omega) (by omega)
   have e1 : (op == 15) = false := beq_eq_false_iff_ne.2 (by omega)
   have e2 : (op == 16) = false := beq_eq_false_iff_ne.2 (by omega)
   have e3 : (op == 22) = false := beq_eq_false_iff_ne.2 (by omega)
   have e4 : (op == 23) = false := beq_eq_false_iff_ne.2 (by omega)
   have R : regB op = false := by unfold regB; rw [e1, e2]; rfl
   have hX : shX 3 op = ⟨false, false, true, 0, 0, 0, false⟩ := by unfold shX; rw [if_pos rfl, R, f1, f2, f4, e4]; rfl
   have hB : shB 3 op = true := by unfold shB; rw [if_pos rfl, f5]
   rw [stX_of (x := Ln.mk 3 s op src dst n l) hX hB] at ok
   simp only [Bool.and_eq_true] at ok
   obtain ⟨_, _, _, _, ok⟩ := ok
   simp only [tm_00] at ok
   have hl : l = [] := List.eq_nil_of_length_eq_zero (by simpa using ok)
   subst hl
   unfold bhT lnA
   simp only [hX, R]
   unfold lnT hdT insT
   simp only
   rw [if_neg (show ¬ op ≤ 6 by omega), if_pos (show op ≤ 14 by omega)]
   simp [jnT, xAt]
  by_cases h : op = 15
  ·
   have f1 : inB op 1 6 = false := inB_f _ _ _ (by omega)
   have f2 : inB op 1 15 = true := inB_t _ _ _ (by omega) (by omega)
   have f3 : inB op 7 14 = false := inB_f _ _ _ (by omega)
   have f4 : inB op 17 21 = false := inB_f _ _ _ (by omega)
   have f5 : inB op 1 23 = true := inB_t _ _ _ (by omega) (by omega)
   have e1 : (op == 15) = true := by rw [h]; rfl
   have e2 : (op == 16) = false := beq_eq_false_iff_ne.2 (by omega)
   have e3 : (op == 22) = false := beq_eq_false_iff_ne.2 (by omega)
   have e4 : (op == 23) = false := beq_eq_false_iff_ne.2 (by omega)
   have R : regB op = true := by unfold regB; rw [e1, e2]; rfl
   have hX : shX 3 op = ⟨false, false, true, 7, 0, 0, false⟩ := by unfold shX; rw [if_pos rfl, R, f1, f2, f4, e4]; rfl
   have hB : shB 3 op = true := by unfold shB; rw [if_pos rfl, f5]
   rw [stX_of (x := Ln.mk 3 s op src dst n l) hX hB] at ok
   simp only [Bool.and_eq_true] at ok
   obtain ⟨_, _, _, _, ok⟩ := ok
   simp only [tm_00] at ok
   have hl : l = [] := List.eq_nil_of_length_eq_zero (by simpa using ok)
   subst hl
   unfold bhT lnA
   simp only [hX, R]
   unfold lnT hdT insT
   simp only
   rw [if_neg (show ¬ op ≤ 6 by omega), if_neg (show ¬ op ≤ 14 by omega), if_pos h]
   simp [jnT, xAt]
  by_cases h : op = 16
  ·
   have f1 : inB op 1 6 = false := inB_f _ _ _ (by omega)
   have f2 : inB op 1 15 = false := inB_f _ _ _ (by omega)
   have f3 : inB op 7 14 = false := inB_f _ _ _ (by omega)
   have f4 : inB op 17 21 = false := inB_f _ _ _ (by omega)
   have f5 : inB op 1 23 = true := inB_t _ _ _ (by omega) (by omega)
   have e1 : (op == 15) = false := beq_eq_false_iff_ne.2 (by omega)
   have e2 : (op == 16) = true := by rw [h]; rfl
   have e3 : (op == 22) = false := beq_eq_false_iff_ne.2 (by omega)
   have e4 : (op == 23) = false := beq_eq_false_iff_ne.2 (by omega)
   have R : regB op = true := by unfold regB; rw [e1, e2]; rfl
   have hX : shX 3 op = ⟨false, false, false, 7, 0, 0, false⟩ := by unfold shX; rw [if_pos rfl, R, f1, f2, f4, e4]; rfl
   have hB : shB 3 op = true := by unfold shB; rw [if_pos rfl, f5]
   rw [stX_of (x := Ln.mk 3 s op src dst n l) hX hB] at ok
   simp only [Bool.and_eq_true] at ok
   obtain ⟨_, _, _, _, ok⟩ := ok
   simp only [tm_00] at ok
   have hl : l = [] := List.eq_nil_of_length_eq_zero (by simpa using ok)
   subst hl
   unfold bhT lnA
   simp only [hX, R]
   unfold lnT hdT insT
   simp only
   rw [if_neg (show ¬ op ≤ 6 by omega), if_neg (show ¬ op ≤ 14 by omega), if_neg (show ¬ op = 15 by omega), if_pos h]
   simp [jnT, xAt]
  by_cases h : 17 ≤ op ∧ op ≤ 21
  ·
   have f1 : inB op 1 6 = false := inB_f _ _ _ (by omega)
   have f2 : inB op 1 15 = false := inB_f _ _ _ (by omega)
   have f3 : inB op 7 14 = false := inB_f _ _ _ (by omega)
   have f4 : inB op 17 21 = true := inB_t _ _ _ (by omega) (by omega)
   have f5 : inB op 1 23 = true := inB_t _ _ _ (by omega) (by omega)
   have e1 : (op == 15) = false := beq_eq_false_iff_ne.2 (by omega)
   have e2 : (op == 16) = false := beq_eq_false_iff_ne.2 (by omega)
   have e3 : (op == 22) = false := beq_eq_false_iff_ne.2 (by omega)
   have e4 : (op == 23) = false := beq_eq_false_iff_ne.2 (by omega)
   have R : regB op = false := by unfold regB; rw [e1, e2]; rfl
   have hX : shX 3 op = ⟨false, false, false, 0, 1, 1, false⟩ := by unfold shX; rw [if_pos rfl, R, f1, f2, f4, e4]; rfl
   have hB : shB 3 op = true := by unfold shB; rw [if_pos rfl, f5]
   rw [stX_of (x := Ln.mk 3 s op src dst n l) hX hB] at ok
   simp only [Bool.and_eq_true] at ok
   obtain ⟨_, _, _, _, ok⟩ := ok
   simp only [tm_11, Bool.and_eq_true] at ok
   have hl := one_lx (show l.length = 1 by simpa using ok.1)
   generalize xAt l 0 = e0 at hl
   subst hl
   unfold bhT lnA
   simp only [hX, R]
   unfold lnT hdT insT
   simp only
   rw [if_neg (show ¬ op ≤ 6 by omega), if_neg (show ¬ op ≤ 14 by omega), if_neg (show ¬ op = 15 by omega), if_neg (show ¬ op = 16 by omega), if_neg (show ¬ op = 22 by omega)]
   simp [jnT, xAt]
  by_cases h : op = 22
  ·
   have f1 : inB op 1 6 = false := inB_f _ _ _ (by omega)
   have f2 : inB op 1 15 = false := inB_f _ _ _ (by omega)
   have f3 : inB op 7 14 = false := inB_f _ _ _ (by omega)
   have f4 : inB op 17 21 = false := inB_f _ _ _ (by omega)
   have f5 : inB op 1 23 = true := inB_t _ _ _ (by omega) (by omega)
   have e1 : (op == 15) = false := beq_eq_false_iff_ne.2 (by omega)
   have e2 : (op == 16) = false := beq_eq_false_iff_ne.2 (by omega)
   have e3 : (op == 22) = true := by rw [h]; rfl
   have e4 : (op == 23) = false := beq_eq_false_iff_ne.2 (by omega)
   have R : regB op = false := by unfold regB; rw [e1, e2]; rfl
   have hX : shX 3 op = ⟨false, false, false, 0, 0, 0, false⟩ := by unfold shX; rw [if_pos rfl, R, f1, f2, f4, e4]; rfl
   have hB : shB 3 op = true := by unfold shB; rw [if_pos rfl, f5]
   rw [stX_of (x := Ln.mk 3 s op src dst n l) hX hB] at ok
   simp only [Bool.and_eq_true] at ok
   obtain ⟨_, _, _, _, ok⟩ := ok
   simp only [tm_00] at ok
   have hl : l = [] := List.eq_nil_of_length_eq_zero (by simpa using ok)
   subst hl
   unfold bhT lnA
   simp only [hX, R]
   unfold lnT hdT insT
   simp only
   rw [if_neg (show ¬ op ≤ 6 by omega), if_neg (show ¬ op ≤ 14 by omega), if_neg (show ¬ op = 15 by omega), if_neg (show ¬ op = 16 by omega), if_pos h]
   simp [jnT, xAt]
  by_cases h : op = 23
  ·
   have f1 : inB op 1 6 = false := inB_f _ _ _ (by omega)
   have f2 : inB op 1 15 = false := inB_f _ _ _ (by omega)
   have f3 : inB op 7 14 = false := inB_f _ _ _ (by omega)
   have f4 : inB op 17 21 = false := inB_f _ _ _ (by omega)
   have f5 : inB op 1 23 = true := inB_t _ _ _ (by omega) (by omega)
   have e1 : (op == 15) = false := beq_eq_false_iff_ne.2 (by omega)
   have e2 : (op == 16) = false := beq_eq_false_iff_ne.2 (by omega)
   have e3 : (op == 22) = false := beq_eq_false_iff_ne.2 (by omega)
   have e4 : (op == 23) = true := by rw [h]; rfl
   have R : regB op = false := by unfold regB; rw [e1, e2]; rfl
   have hX : shX 3 op = ⟨false, false, false, 0, 1, 1, false⟩ := by unfold shX; rw [if_pos rfl, R, f1, f2, f4, e4]; rfl
   have hB : shB 3 op = true := by unfold shB; rw [if_pos rfl, f5]
   rw [stX_of (x := Ln.mk 3 s op src dst n l) hX hB] at ok
   simp only [Bool.and_eq_true] at ok
   obtain ⟨_, _, _, _, ok⟩ := ok
   simp only [tm_11, Bool.and_eq_true] at ok
   have hl := one_lx (show l.length = 1 by simpa using ok.1)
   generalize xAt l 0 = e0 at hl
   subst hl
   unfold bhT lnA
   simp only [hX, R]
   unfold lnT hdT insT
   simp only
   rw [if_neg (show ¬ op ≤ 6 by omega), if_neg (show ¬ op ≤ 14 by omega), if_neg (show ¬ op = 15 by omega), if_neg (show ¬ op = 16 by omega), if_neg (show ¬ op = 22 by omega)]
   simp [jnT, xAt]
  have hB : shB 3 op = false := by unfold shB; rw [if_pos rfl]; exact inB_f _ _ _ (by omega)
  rw [stX_of (x := Ln.mk 3 s op src dst n l) rfl hB, Bool.false_and] at ok
  cases ok
 by_cases ho : op = 0
 ·
  subst ho
  have R : regB 0 = false := rfl
  by_cases h0 : k = 0
  ·
   subst h0
   have hX : shX 0 0 = ⟨false, false, false, 0, 0, 0, false⟩ := rfl
   have hB : shB 0 0 = true := rfl
   rw [stX_of (x := Ln.mk 0 s 0 src dst n l) hX hB] at ok
   simp only [Bool.and_eq_true] at ok
   obtain ⟨_, _, _, _, ok⟩ := ok
   simp only [tm_00] at ok
   have hl : l = [] := List.eq_nil_of_length_eq_zero (by simpa using ok)
   subst hl
   unfold bhT lnA
   simp only [hX, R]
   unfold lnT hdT
   simp [jnT, tmT, cmT, dotL, xAt]
  by_cases h8 : k = 8
  ·
   subst h8
   have hX : shX 8 0 = ⟨false, false, false, 0, 0, 0, false⟩ := rfl
   have hB : shB 8 0 = true := rfl
   rw [stX_of (x := Ln.mk 8 s 0 src dst n l) hX hB] at ok
   simp only [Bool.and_eq_true] at ok
   obtain ⟨_, _, _, _, ok⟩ := ok
   simp only [tm_00] at ok
   have hl : l = [] := List.eq_nil_of_length_eq_zero (by simpa using ok)
   subst hl
   unfold bhT lnA
   simp only [hX, R]
   unfold lnT hdT
   simp [jnT, tmT, cmT, dotL, xAt]
  by_cases h1 : k = 1
  ·
   subst h1
   have hX : shX 1 0 = ⟨true, false, false, 0, 0, 0, false⟩ := rfl
   have hB : shB 1 0 = true := rfl
   rw [stX_of (x := Ln.mk 1 s 0 src dst n l) hX hB] at ok
   simp only [Bool.and_eq_true] at ok
   obtain ⟨_, _, _, _, ok⟩ := ok
   simp only [tm_00] at ok
   have hl : l = [] := List.eq_nil_of_length_eq_zero (by simpa using ok)
   subst hl
   unfold bhT lnA
   simp only [hX, R]
   unfold lnT hdT
   simp [jnT, tmT, cmT, dotL, xAt]
  by_cases h2 : k = 2
  ·
   subst h2
   have hX : shX 2 0 = ⟨true, false, false, 0, 1, 1, false⟩ := rfl
   have hB : shB 2 0 = true := rfl
   rw [stX_of (x := Ln.mk 2 s 0 src dst n l) hX hB] at ok
   simp only [Bool.and_eq_true] at ok
   obtain ⟨_, _, _, _, ok⟩ := ok
   simp only [tm_11, Bool.and_eq_true] at ok
   have hl := one_lx (show l.length = 1 by simpa using ok.1)
   generalize xAt l 0 = e0 at hl
   subst hl
   unfold bhT lnA
   simp only [hX, R]
   unfold lnT hdT
   simp [jnT, tmT, cmT, dotL, xAt]
  by_cases h4 : k = 4
  ·
   subst h4
   have hX : shX 4 0 = ⟨false, false, false, 0, 1, 6, false⟩ := rfl
   have hB : shB 4 0 = true := rfl
   rw [stX_of (x := Ln.mk 4 s 0 src dst n l) hX hB] at ok
   simp only [Bool.and_eq_true] at ok
   obtain ⟨_, _, _, _, ok⟩ := ok
   unfold bhT lnA
   simp only [hX, R]
   unfold lnT hdT
   have JC := jn_cm l
   simp [tmT, dotL, JC]
  by_cases h5 : k = 5
  ·
   subst h5
   have hX : shX 5 0 = ⟨false, false, false, 0, 1, 1, false⟩ := rfl
   have hB : shB 5 0 = true := rfl
   rw [stX_of (x := Ln.mk 5 s 0 src dst n l) hX hB] at ok
   simp only [Bool.and_eq_true] at ok
   obtain ⟨_, _, _, _, ok⟩ := ok
   simp only [tm_11, Bool.and_eq_true] at ok
   have hl := one_lx (show l.length = 1 by simpa using ok.1)
   generalize xAt l 0 = e0 at hl
   subst hl
   unfold bhT lnA
   simp only [hX, R]
   unfold lnT hdT
   simp [jnT, tmT, cmT, dotL, xAt]
  by_cases h6 : k = 6
  ·
   subst h6
   have hX : shX 6 0 = ⟨true, false, false, 1, 0, 0, false⟩ := rfl
   have hB : shB 6 0 = true := rfl
   rw [stX_of (x := Ln.mk 6 s 0 src dst n l) hX hB] at ok
   simp only [Bool.and_eq_true] at ok
   obtain ⟨_, _, _, _, ok⟩ := ok
   simp only [tm_00] at ok
   have hl : l = [] := List.eq_nil_of_length_eq_zero (by simpa using ok)
   subst hl
   unfold bhT lnA
   simp only [hX, R]
   unfold lnT hdT
   by_cases hn : n = 1
   ·
    subst hn
    simp [jnT, dotL, ovrS]
   · simp [jnT, dotL, hn]
  by_cases h7 : k = 7
  ·
   subst h7
   have hX : shX 7 0 = ⟨false, false, false, 0, 1, 6, true⟩ := rfl
   have hB : shB 7 0 = true := rfl
   rw [stX_of (x := Ln.mk 7 s 0 src dst n l) hX hB] at ok
   simp only [Bool.and_eq_true] at ok
   obtain ⟨_, _, _, _, ok⟩ := ok
   unfold bhT lnA
   simp only [hX, R]
   unfold lnT hdT
   have JC := jn_cm l
   simp [tmT, dotL, JC]
  have hB : shB k 0 = false := by unfold shB; rw [if_neg hk, if_pos rfl]; exact inB_f _ _ _ (by omega)
  rw [stX_of (x := Ln.mk k s 0 src dst n l) rfl hB, Bool.false_and] at ok
  cases ok
 have hB : shB k op = false := by unfold shB; rw [if_neg hk, if_neg ho]
 rw [stX_of (x := Ln.mk k s op src dst n l) rfl hB, Bool.false_and] at ok
 cases ok
theorem TabK.rg {w : World} (h : TabK w) (n : Nat) (hn : n < 8) : w.cell? ⟨3, n, none⟩ = some (.string (wRg.getD n E0)) := by
 obtain ⟨_, t, fr, h⟩ := h
 have : n = 0 ∨ n = 1 ∨ n = 2 ∨ n = 3 ∨ n = 4 ∨ n = 5 ∨ n = 6 ∨ n = 7 := by omega
 rcases this with rfl | rfl | rfl | rfl | rfl | rfl | rfl | rfl
 · exact Lib.cell_of_heap h 0
 · exact Lib.cell_of_heap h 1
 · exact Lib.cell_of_heap h 2
 · exact Lib.cell_of_heap h 3
 · exact Lib.cell_of_heap h 4
 · exact Lib.cell_of_heap h 5
 · exact Lib.cell_of_heap h 6
 · exact Lib.cell_of_heap h 7
theorem rgT_word (n : Nat) (hn : n < 8) : wordT (wRg.getD n E0) = rgT n := by
 have : n = 0 ∨ n = 1 ∨ n = 2 ∨ n = 3 ∨ n = 4 ∨ n = 5 ∨ n = 6 ∨ n = 7 := by omega
 rcases this with rfl | rfl | rfl | rfl | rfl | rfl | rfl | rfl <;> (unfold wordT; rw [if_pos (by decide +kernel)]; rfl)
theorem regI (n : Nat) (hn : n < 8) (w : World) (ht : TabK w) : Calls Tryz.prog 103 #[.int .i64 (n : Int)] w fun e w' => e = .returned (Tk.v (rgT n)) ∧ Below w.heap.size w w' := by
 have B0 := hide (below_new w (.cells T0c 71))
 have R0 := hide (heap_alloc_new w (.cells T0c 71))
 have t1 := ht.next (uh B0)
 have WI := hide (wordI_any (wRg.getD n E0) _ t1)
 rw [rgT_word n hn] at WI
 have c := t1.rg n hn
 have h1 : (n : Int) < 8 := by omega
 have h0 : (0 : Int) ≤ (n : Int) := by omega
 have h2 : ¬ ((n : Int) < 0) := by omega
 have h3 : ¬ ((8 : Int) ≤ (n : Int)) := by omega
 clear ht t1 hn
 generalize wRg.getD n E0 = s at *
 unfold T0c at B0 R0 WI c
 unfold Tk.v Tk.cs at WI ⊢
 generalize (rgT n).k = tk at *
 generalize (rgT n).n = tn at *
 generalize (rgT n).s = ts at *
 go_enter Tryz.func103, Tryz.ntmps103
 go_wp2_with fail
 generalize w.alloc (.cells #[.int .i64 0, .int .i64 0, .string ⟨#[]⟩] 71) = W at *
 refine (uh WI).mono ?_
 rintro e w1 ⟨rfl, hb1⟩
 have R1 := hide (row_keep (uh R0) hb1)
 have B1 := hide ((uh B0).trans (hb1.mono (uh B0).size))
 clear hb1 WI R0 B0 c
 go_wp2_with (first | (refine wpList_store_row rfl 71 _ _ rfl w.heap.size #[.int .i64 tk, .int .i64 tn, .string ts] rfl rfl 71 _ (uh R1) szK rfl (tk_one _ _ _) ?_))
 refine bodyPost_ret (results_cell_row (P := Tryz.prog) rfl _ _ w.heap.size 71 #[.int .i64 tk, .int .i64 tn, .string ts] (0, 0) _ rfl (setRow_heap _ _ _ _ _ _ (uh R1)) Tryz.underlying71 rfl szK) rfl ?_
 exact ⟨rfl, below_row (uh B1)⟩
theorem opt_0 (rn : Nat) (hrn : rn < 8) (e : Ex) (ok : True) (w : World) (ht : TabA w) (hg : TabG w) : Calls Tryz.prog 58 #[.agg #[.nilIface, .int .i64 0, .int .i64 (rn : Int)]] w fun r w' => ∃ v, r = .returned v ∧ OwnT w' w.heap.size v (agT ⟨0, (rn : Int), e⟩) ∧ Below w.heap.size w w' := by
 have hbW := below_new w (.cells #[.nilIface, .int .i64 0, .int .i64 (rn : Int)] 85)
 obtain ⟨W, hW⟩ : ∃ W, w.alloc (.cells #[.nilIface, .int .i64 0, .int .i64 (rn : Int)] 85) = W := ⟨_, rfl⟩
 have xl : w.heap.size < W.heap.size := by rw [← hW]; simp
 have xc : ∀ (i : Nat) (v : Value), (#[.nilIface, .int .i64 0, .int .i64 (rn : Int)] : Array Value)[i]? = some v → ∀ w1, Below W.heap.size W w1 → w1.cell? ⟨w.heap.size, i, none⟩ = some v := fun i v h w1 hb => (hb.cell (p := ⟨w.heap.size, i, none⟩) xl).trans (by rw [← hW]; exact box17 w _ _ i v h)
 rw [hW] at hbW
 obtain ⟨y0, hy0⟩ : ∃ z : Sub W.heap.size W, w.alloc (.cells #[.nilIface, .int .i64 0, .int .i64 (rn : Int)] 85) = z.w := ⟨⟨W, Below.refl _ _⟩, hW⟩
 have ne := Sub.ne W.heap.size W
 have HZ := hide (Nat.le_refl W.heap.size)
 have HB := hide (fun y : Sub W.heap.size W => hbW.trans (y.h.mono hbW.size))
 have HO := hide (fun (y : Sub W.heap.size W) v ts (h : OwnT y.w W.heap.size v ts) => h.base hbW.size)
 have E0 : ∀ y : Sub W.heap.size W, y.w.cell? ⟨w.heap.size, 0, none⟩ = some .nilIface := fun y => xc 0 _ rfl y.w y.h
 have E1 : ∀ y : Sub W.heap.size W, y.w.cell? ⟨w.heap.size, 1, none⟩ = some (.int .i64 0) := fun y => xc 1 _ rfl y.w y.h
 have E2 : ∀ y : Sub W.heap.size W, y.w.cell? ⟨w.heap.size, 2, none⟩ = some (.int .i64 (rn : Int)) := fun y => xc 2 _ rfl y.w y.h
 have T0 : ∀ y : Sub W.heap.size W, y.w.cell? ⟨2, 0, none⟩ = some (.string ⟨#[82]⟩) := fun y => (ht.f.next (uh HB y)).at0
 have MK := hide (fun x w1 => markI_any x w1)
 have RG := hide (fun y : Sub W.heap.size W => regI rn hrn y.w (ht.k.next (uh HB y)))
 have AT : agT ⟨0, (rn : Int), e⟩ = [rgT rn] := rfl
 rw [AT]
 clear AT ok ht hg hW xc xl hbW hrn
 unfold Tk.v Tk.cs at MK RG
 simp only at MK RG
 generalize hrg : rgT rn = rt at *
 obtain ⟨T, hT⟩ : ∃ T, [rt] = T := ⟨_, rfl⟩
 have HT := hide hT
 rw [hT]
 clear hT hrg
 have l0 : ([] : List Tk).length ≤ 0 := Nat.le_refl 0
 have O0 := hide (ownT_none y0.w W.heap.size)
 go_enter Tryz.func58, Tryz.ntmps58
 go_wp2_with fail
 refine wp_loop_rounds 2 ?_
 rw [rounds_succ]
 go_wp2_with fail
 refine (uh RG y0).mono ?_
 rintro r w1 ⟨rfl, hb⟩
 have O1 := hide ((uh O0).later hb)
 clear O0
 obtain ⟨y1, rfl⟩ := Sub.step (uh HZ) hb
 clear hb
 obtain ⟨y2, hy2⟩ := Sub.step (uh HZ) (below_new y1.w (.cells #[.int .i64 rt.k, .int .i64 rt.n, .string rt.s] 71))
 have S2 := hide (show OwnT y2.w W.heap.size (.slice (some ⟨y1.w.heap.size, 0, none⟩) 1 1) [rt] by rw [← hy2]; exact ownT_new y1.w rt W.heap.size (Nat.le_trans (uh HZ) y1.h.size))
 have O2 := hide (show OwnT y2.w W.heap.size (.slice none 0 0) [] by rw [← hy2]; exact (uh O1).later (below_new _ _))
 clear O1
 go_wp2_with (at_builtin; go_must (refine appT rfl _ _ rfl (uh HZ) y2.h rfl (uh O2) rfl (uh S2) (one_ne _) (lsum l0 (one_le _) (by decide)) ?_; intro v3 y3 hO; obtain ⟨u3, hu⟩ : ∃ u, ([] ++ [rt]) = u := ⟨_, rfl⟩; rw [hu] at hO; have l3 := lapp hu l0 (one_le _); have O3 := hide hO; have H3 := hide hu; clear hO hu O2 S2))
 rw [rounds_succ]
 go_wp2_with fail
 have EQ : u3 = T := by
  rw [← uh HT]
  rw [← uh H3]
  simp [mkT, mkS]
 rw [EQ] at O3
 go_ret
 exact ⟨_, rfl, uh HO y3 _ _ (uh O3), uh HB y3⟩
theorem opt_1 (rn : Nat) (hrn : rn < 8) (e : Ex) (ok : True) (w : World) (ht : TabA w) (hg : TabG w) : Calls Tryz.prog 58 #[.agg #[.nilIface, .int .i64 1, .int .i64 (rn : Int)]] w fun r w' => ∃ v, r = .returned v ∧ OwnT w' w.heap.size v (agT ⟨1, (rn : Int), e⟩) ∧ Below w.heap.size w w' := by
 have hbW := below_new w (.cells #[.nilIface, .int .i64 1, .int .i64 (rn : Int)] 85)
 obtain ⟨W, hW⟩ : ∃ W, w.alloc (.cells #[.nilIface, .int .i64 1, .int .i64 (rn : Int)] 85) = W := ⟨_, rfl⟩
 have xl : w.heap.size < W.heap.size := by rw [← hW]; simp
 have xc : ∀ (i : Nat) (v : Value), (#[.nilIface, .int .i64 1, .int .i64 (rn : Int)] : Array Value)[i]? = some v → ∀ w1, Below W.heap.size W w1 → w1.cell? ⟨w.heap.size, i, none⟩ = some v := fun i v h w1 hb => (hb.cell (p := ⟨w.heap.size, i, none⟩) xl).trans (by rw [← hW]; exact box17 w _ _ i v h)
 rw [hW] at hbW
 obtain ⟨y0, hy0⟩ : ∃ z : Sub W.heap.size W, w.alloc (.cells #[.nilIface, .int .i64 1, .int .i64 (rn : Int)] 85) = z.w := ⟨⟨W, Below.refl _ _⟩, hW⟩
 have ne := Sub.ne W.heap.size W
 have HZ := hide (Nat.le_refl W.heap.size)
 have HB := hide (fun y : Sub W.heap.size W => hbW.trans (y.h.mono hbW.size))
 have HO := hide (fun (y : Sub W.heap.size W) v ts (h : OwnT y.w W.heap.size v ts) => h.base hbW.size)
 have E0 : ∀ y : Sub W.heap.size W, y.w.cell? ⟨w.heap.size, 0, none⟩ = some .nilIface := fun y => xc 0 _ rfl y.w y.h
 have E1 : ∀ y : Sub W.heap.size W, y.w.cell? ⟨w.heap.size, 1, none⟩ = some (.int .i64 1) := fun y => xc 1 _ rfl y.w y.h
 have E2 : ∀ y : Sub W.heap.size W, y.w.cell? ⟨w.heap.size, 2, none⟩ = some (.int .i64 (rn : Int)) := fun y => xc 2 _ rfl y.w y.h
 have T0 : ∀ y : Sub W.heap.size W, y.w.cell? ⟨2, 1, none⟩ = some (.string ⟨#[40, 82, 41]⟩) := fun y => (ht.f.next (uh HB y)).at1
 have MK := hide (fun x w1 => markI_any x w1)
 have RG := hide (fun y : Sub W.heap.size W => regI rn hrn y.w (ht.k.next (uh HB y)))
 have X0 : (⟨#[40, 82, 41]⟩ : ByteArray).extract 0 1 = ⟨#[40]⟩ := by kernel_rfl
 have X2 : (⟨#[40, 82, 41]⟩ : ByteArray).extract 2 3 = ⟨#[41]⟩ := by kernel_rfl
 have AT : agT ⟨1, (rn : Int), e⟩ = rnT rn := rfl
 rw [AT]
 unfold rnT
 clear AT ok ht hg hW xc xl hbW hrn
 unfold Tk.v Tk.cs at MK RG
 simp only at MK RG
 generalize hrg : rgT rn = rt at *
 obtain ⟨T, hT⟩ : ∃ T, [mkT 40, rt, mkT 41] = T := ⟨_, rfl⟩
 have HT := hide hT
 rw [hT]
 clear hT hrg
 have l0 : ([] : List Tk).length ≤ 0 := Nat.le_refl 0
 have O0 := hide (ownT_none y0.w W.heap.size)
 go_enter Tryz.func58, Tryz.ntmps58
 go_wp2_with fail
 refine wp_loop_rounds 4 ?_
 rw [rounds_succ]
 go_wp2_with fail
 refine (uh MK ⟨#[40]⟩ y0.w).mono ?_
 rintro r w1 ⟨rfl, hb⟩
 have O1 := hide ((uh O0).later hb)
 clear O0
 obtain ⟨y1, rfl⟩ := Sub.step (uh HZ) hb
 clear hb
 obtain ⟨y2, hy2⟩ := Sub.step (uh HZ) (below_new y1.w (.cells #[.int .i64 4, .int .i64 0, .string ⟨#[40]⟩] 71))
 have S2 := hide (show OwnT y2.w W.heap.size (.slice (some ⟨y1.w.heap.size, 0, none⟩) 1 1) [(Tk.mk 4 0 ⟨#[40]⟩)] by rw [← hy2]; exact ownT_new y1.w (Tk.mk 4 0 ⟨#[40]⟩) W.heap.size (Nat.le_trans (uh HZ) y1.h.size))
 have O2 := hide (show OwnT y2.w W.heap.size (.slice none 0 0) [] by rw [← hy2]; exact (uh O1).later (below_new _ _))
 clear O1
 go_wp2_with (at_builtin; go_must (refine appT rfl _ _ rfl (uh HZ) y2.h rfl (uh O2) rfl (uh S2) (one_ne _) (lsum l0 (one_le _) (by decide)) ?_; intro v3 y3 hO; obtain ⟨u3, hu⟩ : ∃ u, ([] ++ [(Tk.mk 4 0 ⟨#[40]⟩)]) = u := ⟨_, rfl⟩; rw [hu] at hO; have l3 := lapp hu l0 (one_le _); have O3 := hide hO; have H3 := hide hu; clear hO hu O2 S2))
 rw [rounds_succ]
 go_wp2_with fail
 refine (uh RG y3).mono ?_
 rintro r w4 ⟨rfl, hb⟩
 have O4 := hide ((uh O3).later hb)
 clear O3
 obtain ⟨y4, rfl⟩ := Sub.step (uh HZ) hb
 clear hb
 obtain ⟨y5, hy5⟩ := Sub.step (uh HZ) (below_new y4.w (.cells #[.int .i64 rt.k, .int .i64 rt.n, .string rt.s] 71))
 have S5 := hide (show OwnT y5.w W.heap.size (.slice (some ⟨y4.w.heap.size, 0, none⟩) 1 1) [rt] by rw [← hy5]; exact ownT_new y4.w rt W.heap.size (Nat.le_trans (uh HZ) y4.h.size))
 have O5 := hide (show OwnT y5.w W.heap.size (v3) u3 by rw [← hy5]; exact (uh O4).later (below_new _ _))
 clear O4
 go_wp2_with (at_builtin; go_must (refine appT rfl _ _ rfl (uh HZ) y5.h rfl (uh O5) rfl (uh S5) (one_ne _) (lsum l3 (one_le _) (by decide)) ?_; intro v6 y6 hO; obtain ⟨u6, hu⟩ : ∃ u, (u3 ++ [rt]) = u := ⟨_, rfl⟩; rw [hu] at hO; have l6 := lapp hu l3 (one_le _); have O6 := hide hO; have H6 := hide hu; clear hO hu O5 S5))
 rw [rounds_succ]
 go_wp2_with fail
 refine (uh MK ⟨#[41]⟩ y6.w).mono ?_
 rintro r w7 ⟨rfl, hb⟩
 have O7 := hide ((uh O6).later hb)
 clear O6
 obtain ⟨y7, rfl⟩ := Sub.step (uh HZ) hb
 clear hb
 obtain ⟨y8, hy8⟩ := Sub.step (uh HZ) (below_new y7.w (.cells #[.int .i64 4, .int .i64 0, .string ⟨#[41]⟩] 71))
 have S8 := hide (show OwnT y8.w W.heap.size (.slice (some ⟨y7.w.heap.size, 0, none⟩) 1 1) [(Tk.mk 4 0 ⟨#[41]⟩)] by rw [← hy8]; exact ownT_new y7.w (Tk.mk 4 0 ⟨#[41]⟩) W.heap.size (Nat.le_trans (uh HZ) y7.h.size))
 have O8 := hide (show OwnT y8.w W.heap.size (v6) u6 by rw [← hy8]; exact (uh O7).later (below_new _ _))
 clear O7
 go_wp2_with (at_builtin; go_must (refine appT rfl _ _ rfl (uh HZ) y8.h rfl (uh O8) rfl (uh S8) (one_ne _) (lsum l6 (one_le _) (by decide)) ?_; intro v9 y9 hO; obtain ⟨u9, hu⟩ : ∃ u, (u6 ++ [(Tk.mk 4 0 ⟨#[41]⟩)]) = u := ⟨_, rfl⟩; rw [hu] at hO; have l9 := lapp hu l6 (one_le _); have O9 := hide hO; have H9 := hide hu; clear hO hu O8 S8))
 rw [rounds_succ]
 go_wp2_with fail
 have EQ : u9 = T := by
  rw [← uh HT]
  rw [← uh H9, ← uh H6, ← uh H3]
  simp [mkT, mkS]
 rw [EQ] at O9
 go_ret
 exact ⟨_, rfl, uh HO y9 _ _ (uh O9), uh HB y9⟩
theorem opt_2 (rn : Nat) (hrn : rn < 8) (e : Ex) (ok : True) (w : World) (ht : TabA w) (hg : TabG w) : Calls Tryz.prog 58 #[.agg #[.nilIface, .int .i64 2, .int .i64 (rn : Int)]] w fun r w' => ∃ v, r = .returned v ∧ OwnT w' w.heap.size v (agT ⟨2, (rn : Int), e⟩) ∧ Below w.heap.size w w' := by
 have hbW := below_new w (.cells #[.nilIface, .int .i64 2, .int .i64 (rn : Int)] 85)
 obtain ⟨W, hW⟩ : ∃ W, w.alloc (.cells #[.nilIface, .int .i64 2, .int .i64 (rn : Int)] 85) = W := ⟨_, rfl⟩
 have xl : w.heap.size < W.heap.size := by rw [← hW]; simp
 have xc : ∀ (i : Nat) (v : Value), (#[.nilIface, .int .i64 2, .int .i64 (rn : Int)] : Array Value)[i]? = some v → ∀ w1, Below W.heap.size W w1 → w1.cell? ⟨w.heap.size, i, none⟩ = some v := fun i v h w1 hb => (hb.cell (p := ⟨w.heap.size, i, none⟩) xl).trans (by rw [← hW]; exact box17 w _ _ i v h)
 rw [hW] at hbW
 obtain ⟨y0, hy0⟩ : ∃ z : Sub W.heap.size W, w.alloc (.cells #[.nilIface, .int .i64 2, .int .i64 (rn : Int)] 85) = z.w := ⟨⟨W, Below.refl _ _⟩, hW⟩
 have ne := Sub.ne W.heap.size W
 have HZ := hide (Nat.le_refl W.heap.size)
 have HB := hide (fun y : Sub W.heap.size W => hbW.trans (y.h.mono hbW.size))
 have HO := hide (fun (y : Sub W.heap.size W) v ts (h : OwnT y.w W.heap.size v ts) => h.base hbW.size)
 have E0 : ∀ y : Sub W.heap.size W, y.w.cell? ⟨w.heap.size, 0, none⟩ = some .nilIface := fun y => xc 0 _ rfl y.w y.h
 have E1 : ∀ y : Sub W.heap.size W, y.w.cell? ⟨w.heap.size, 1, none⟩ = some (.int .i64 2) := fun y => xc 1 _ rfl y.w y.h
 have E2 : ∀ y : Sub W.heap.size W, y.w.cell? ⟨w.heap.size, 2, none⟩ = some (.int .i64 (rn : Int)) := fun y => xc 2 _ rfl y.w y.h
 have T0 : ∀ y : Sub W.heap.size W, y.w.cell? ⟨2, 2, none⟩ = some (.string ⟨#[40, 82, 41, 43]⟩) := fun y => (ht.f.next (uh HB y)).at2
 have MK := hide (fun x w1 => markI_any x w1)
 have RG := hide (fun y : Sub W.heap.size W => regI rn hrn y.w (ht.k.next (uh HB y)))
 have X0 : (⟨#[40, 82, 41, 43]⟩ : ByteArray).extract 0 1 = ⟨#[40]⟩ := by kernel_rfl
 have X2 : (⟨#[40, 82, 41, 43]⟩ : ByteArray).extract 2 3 = ⟨#[41]⟩ := by kernel_rfl
 have X3 : (⟨#[40, 82, 41, 43]⟩ : ByteArray).extract 3 4 = ⟨#[43]⟩ := by kernel_rfl
 have AT : agT ⟨2, (rn : Int), e⟩ = rnT rn ++ [mkT 43] := rfl
 rw [AT]
 unfold rnT
 clear AT ok ht hg hW xc xl hbW hrn
 unfold Tk.v Tk.cs at MK RG
 simp only at MK RG
 generalize hrg : rgT rn = rt at *
 obtain ⟨T, hT⟩ : ∃ T, [mkT 40, rt, mkT 41] ++ [mkT 43] = T := ⟨_, rfl⟩
 have HT := hide hT
 rw [hT]
 clear hT hrg
 have l0 : ([] : List Tk).length ≤ 0 := Nat.le_refl 0
 have O0 := hide (ownT_none y0.w W.heap.size)
 go_enter Tryz.func58, Tryz.ntmps58
 go_wp2_with fail
 refine wp_loop_rounds 5 ?_
 rw [rounds_succ]
 go_wp2_with fail
 refine (uh MK ⟨#[40]⟩ y0.w).mono ?_
 rintro r w1 ⟨rfl, hb⟩
 have O1 := hide ((uh O0).later hb)
 clear O0
 obtain ⟨y1, rfl⟩ := Sub.step (uh HZ) hb
 clear hb
 obtain ⟨y2, hy2⟩ := Sub.step (uh HZ) (below_new y1.w (.cells #[.int .i64 4, .int .i64 0, .string ⟨#[40]⟩] 71))
 have S2 := hide (show OwnT y2.w W.heap.size (.slice (some ⟨y1.w.heap.size, 0, none⟩) 1 1) [(Tk.mk 4 0 ⟨#[40]⟩)] by rw [← hy2]; exact ownT_new y1.w (Tk.mk 4 0 ⟨#[40]⟩) W.heap.size (Nat.le_trans (uh HZ) y1.h.size))
 have O2 := hide (show OwnT y2.w W.heap.size (.slice none 0 0) [] by rw [← hy2]; exact (uh O1).later (below_new _ _))
 clear O1
 go_wp2_with (at_builtin; go_must (refine appT rfl _ _ rfl (uh HZ) y2.h rfl (uh O2) rfl (uh S2) (one_ne _) (lsum l0 (one_le _) (by decide)) ?_; intro v3 y3 hO; obtain ⟨u3, hu⟩ : ∃ u, ([] ++ [(Tk.mk 4 0 ⟨#[40]⟩)]) = u := ⟨_, rfl⟩; rw [hu] at hO; have l3 := lapp hu l0 (one_le _); have O3 := hide hO; have H3 := hide hu; clear hO hu O2 S2))
 rw [rounds_succ]
 go_wp2_with fail
 refine (uh RG y3).mono ?_
 rintro r w4 ⟨rfl, hb⟩
 have O4 := hide ((uh O3).later hb)
 clear O3
 obtain ⟨y4, rfl⟩ := Sub.step (uh HZ) hb
 clear hb
 obtain ⟨y5, hy5⟩ := Sub.step (uh HZ) (below_new y4.w (.cells #[.int .i64 rt.k, .int .i64 rt.n, .string rt.s] 71))
 have S5 := hide (show OwnT y5.w W.heap.size (.slice (some ⟨y4.w.heap.size, 0, none⟩) 1 1) [rt] by rw [← hy5]; exact ownT_new y4.w rt W.heap.size (Nat.le_trans (uh HZ) y4.h.size))
 have O5 := hide (show OwnT y5.w W.heap.size (v3) u3 by rw [← hy5]; exact (uh O4).later (below_new _ _))
 clear O4
 go_wp2_with (at_builtin; go_must (refine appT rfl _ _ rfl (uh HZ) y5.h rfl (uh O5) rfl (uh S5) (one_ne _) (lsum l3 (one_le _) (by decide)) ?_; intro v6 y6 hO; obtain ⟨u6, hu⟩ : ∃ u, (u3 ++ [rt]) = u := ⟨_, rfl⟩; rw [hu] at hO; have l6 := lapp hu l3 (one_le _); have O6 := hide hO; have H6 := hide hu; clear hO hu O5 S5))
 rw [rounds_succ]
 go_wp2_with fail
 refine (uh MK ⟨#[41]⟩ y6.w).mono ?_
 rintro r w7 ⟨rfl, hb⟩
 have O7 := hide ((uh O6).later hb)
 clear O6
 obtain ⟨y7, rfl⟩ := Sub.step (uh HZ) hb
 clear hb
 obtain ⟨y8, hy8⟩ := Sub.step (uh HZ) (below_new y7.w (.cells #[.int .i64 4, .int .i64 0, .string ⟨#[41]⟩] 71))
 have S8 := hide (show OwnT y8.w W.heap.size (.slice (some ⟨y7.w.heap.size, 0, none⟩) 1 1) [(Tk.mk 4 0 ⟨#[41]⟩)] by rw [← hy8]; exact ownT_new y7.w (Tk.mk 4 0 ⟨#[41]⟩) W.heap.size (Nat.le_trans (uh HZ) y7.h.size))
 have O8 := hide (show OwnT y8.w W.heap.size (v6) u6 by rw [← hy8]; exact (uh O7).later (below_new _ _))
 clear O7
 go_wp2_with (at_builtin; go_must (refine appT rfl _ _ rfl (uh HZ) y8.h rfl (uh O8) rfl (uh S8) (one_ne _) (lsum l6 (one_le _) (by decide)) ?_; intro v9 y9 hO; obtain ⟨u9, hu⟩ : ∃ u, (u6 ++ [(Tk.mk 4 0 ⟨#[41]⟩)]) = u := ⟨_, rfl⟩; rw [hu] at hO; have l9 := lapp hu l6 (one_le _); have O9 := hide hO; have H9 := hide hu; clear hO hu O8 S8))
 rw [rounds_succ]
 go_wp2_with fail
 refine (uh MK ⟨#[43]⟩ y9.w).mono ?_
 rintro r w10 ⟨rfl, hb⟩
 have O10 := hide ((uh O9).later hb)
 clear O9
 obtain ⟨y10, rfl⟩ := Sub.step (uh HZ) hb
 clear hb
 obtain ⟨y11, hy11⟩ := Sub.step (uh HZ) (below_new y10.w (.cells #[.int .i64 4, .int .i64 0, .string ⟨#[43]⟩] 71))
 have S11 := hide (show OwnT y11.w W.heap.size (.slice (some ⟨y10.w.heap.size, 0, none⟩) 1 1) [(Tk.mk 4 0 ⟨#[43]⟩)] by rw [← hy11]; exact ownT_new y10.w (Tk.mk 4 0 ⟨#[43]⟩) W.heap.size (Nat.le_trans (uh HZ) y10.h.size))
 have O11 := hide (show OwnT y11.w W.heap.size (v9) u9 by rw [← hy11]; exact (uh O10).later (below_new _ _))
 clear O10
 go_wp2_with (at_builtin; go_must (refine appT rfl _ _ rfl (uh HZ) y11.h rfl (uh O11) rfl (uh S11) (one_ne _) (lsum l9 (one_le _) (by decide)) ?_; intro v12 y12 hO; obtain ⟨u12, hu⟩ : ∃ u, (u9 ++ [(Tk.mk 4 0 ⟨#[43]⟩)]) = u := ⟨_, rfl⟩; rw [hu] at hO; have l12 := lapp hu l9 (one_le _); have O12 := hide hO; have H12 := hide hu; clear hO hu O11 S11))
 rw [rounds_succ]
 go_wp2_with fail
 have EQ : u12 = T := by
  rw [← uh HT]
  rw [← uh H12, ← uh H9, ← uh H6, ← uh H3]
  simp [mkT, mkS]
 rw [EQ] at O12
 go_ret
 exact ⟨_, rfl, uh HO y12 _ _ (uh O12), uh HB y12⟩
theorem opt_3 (rn : Nat) (hrn : rn < 8) (e : Ex) (ok : True) (w : World) (ht : TabA w) (hg : TabG w) : Calls Tryz.prog 58 #[.agg #[.nilIface, .int .i64 3, .int .i64 (rn : Int)]] w fun r w' => ∃ v, r = .returned v ∧ OwnT w' w.heap.size v (agT ⟨3, (rn : Int), e⟩) ∧ Below w.heap.size w w' := by
 have hbW := below_new w (.cells #[.nilIface, .int .i64 3, .int .i64 (rn : Int)] 85)
 obtain ⟨W, hW⟩ : ∃ W, w.alloc (.cells #[.nilIface, .int .i64 3, .int .i64 (rn : Int)] 85) = W := ⟨_, rfl⟩
 have xl : w.heap.size < W.heap.size := by rw [← hW]; simp
 have xc : ∀ (i : Nat) (v : Value), (#[.nilIface, .int .i64 3, .int .i64 (rn : Int)] : Array Value)[i]? = some v → ∀ w1, Below W.heap.size W w1 → w1.cell? ⟨w.heap.size, i, none⟩ = some v := fun i v h w1 hb => (hb.cell (p := ⟨w.heap.size, i, none⟩) xl).trans (by rw [← hW]; exact box17 w _ _ i v h)
 rw [hW] at hbW
 obtain ⟨y0, hy0⟩ : ∃ z : Sub W.heap.size W, w.alloc (.cells #[.nilIface, .int .i64 3, .int .i64 (rn : Int)] 85) = z.w := ⟨⟨W, Below.refl _ _⟩, hW⟩
 have ne := Sub.ne W.heap.size W
 have HZ := hide (Nat.le_refl W.heap.size)
 have HB := hide (fun y : Sub W.heap.size W => hbW.trans (y.h.mono hbW.size))
 have HO := hide (fun (y : Sub W.heap.size W) v ts (h : OwnT y.w W.heap.size v ts) => h.base hbW.size)
 have E0 : ∀ y : Sub W.heap.size W, y.w.cell? ⟨w.heap.size, 0, none⟩ = some .nilIface := fun y => xc 0 _ rfl y.w y.h
 have E1 : ∀ y : Sub W.heap.size W, y.w.cell? ⟨w.heap.size, 1, none⟩ = some (.int .i64 3) := fun y => xc 1 _ rfl y.w y.h
 have E2 : ∀ y : Sub W.heap.size W, y.w.cell? ⟨w.heap.size, 2, none⟩ = some (.int .i64 (rn : Int)) := fun y => xc 2 _ rfl y.w y.h
 have T0 : ∀ y : Sub W.heap.size W, y.w.cell? ⟨2, 3, none⟩ = some (.string ⟨#[64, 40, 82, 41, 43]⟩) := fun y => (ht.f.next (uh HB y)).at3
 have MK := hide (fun x w1 => markI_any x w1)
 have RG := hide (fun y : Sub W.heap.size W => regI rn hrn y.w (ht.k.next (uh HB y)))
 have X0 : (⟨#[64, 40, 82, 41, 43]⟩ : ByteArray).extract 0 1 = ⟨#[64]⟩ := by kernel_rfl
 have X1 : (⟨#[64, 40, 82, 41, 43]⟩ : ByteArray).extract 1 2 = ⟨#[40]⟩ := by kernel_rfl
 have X3 : (⟨#[64, 40, 82, 41, 43]⟩ : ByteArray).extract 3 4 = ⟨#[41]⟩ := by kernel_rfl
 have X4 : (⟨#[64, 40, 82, 41, 43]⟩ : ByteArray).extract 4 5 = ⟨#[43]⟩ := by kernel_rfl
 have AT : agT ⟨3, (rn : Int), e⟩ = mkT 64 :: (rnT rn ++ [mkT 43]) := rfl
 rw [AT]
 unfold rnT
 clear AT ok ht hg hW xc xl hbW hrn
 unfold Tk.v Tk.cs at MK RG
 simp only at MK RG
 generalize hrg : rgT rn = rt at *
 obtain ⟨T, hT⟩ : ∃ T, mkT 64 :: ([mkT 40, rt, mkT 41] ++ [mkT 43]) = T := ⟨_, rfl⟩
 have HT := hide hT
 rw [hT]
 clear hT hrg
 have l0 : ([] : List Tk).length ≤ 0 := Nat.le_refl 0
 have O0 := hide (ownT_none y0.w W.heap.size)
 go_enter Tryz.func58, Tryz.ntmps58
 go_wp2_with fail
 refine wp_loop_rounds 6 ?_
 rw [rounds_succ]
 go_wp2_with fail
 refine (uh MK ⟨#[64]⟩ y0.w).mono ?_
 rintro r w1 ⟨rfl, hb⟩
 have O1 := hide ((uh O0).later hb)
 clear O0
 obtain ⟨y1, rfl⟩ := Sub.step (uh HZ) hb
 clear hb
 obtain ⟨y2, hy2⟩ := Sub.step (uh HZ) (below_new y1.w (.cells #[.int .i64 4, .int .i64 0, .string ⟨#[64]⟩] 71))
 have S2 := hide (show OwnT y2.w W.heap.size (.slice (some ⟨y1.w.heap.size, 0, none⟩) 1 1) [(Tk.mk 4 0 ⟨#[64]⟩)] by rw [← hy2]; exact ownT_new y1.w (Tk.mk 4 0 ⟨#[64]⟩) W.heap.size (Nat.le_trans (uh HZ) y1.h.size))
 have O2 := hide (show OwnT y2.w W.heap.size (.slice none 0 0) [] by rw [← hy2]; exact (uh O1).later (below_new _ _))
 clear O1
 go_wp2_with (at_builtin; go_must (refine appT rfl _ _ rfl (uh HZ) y2.h rfl (uh O2) rfl (uh S2) (one_ne _) (lsum l0 (one_le _) (by decide)) ?_; intro v3 y3 hO; obtain ⟨u3, hu⟩ : ∃ u, ([] ++ [(Tk.mk 4 0 ⟨#[64]⟩)]) = u := ⟨_, rfl⟩; rw [hu] at hO; have l3 := lapp hu l0 (one_le _); have O3 := hide hO; have H3 := hide hu; clear hO hu O2 S2))
 rw [rounds_succ]
 go_wp2_with fail
 refine (uh MK ⟨#[40]⟩ y3.w).mono ?_
 rintro r w4 ⟨rfl, hb⟩
 have O4 := hide ((uh O3).later hb)
 clear O3
 obtain ⟨y4, rfl⟩ := Sub.step (uh HZ) hb
 clear hb
 obtain ⟨y5, hy5⟩ := Sub.step (uh HZ) (below_new y4.w (.cells #[.int .i64 4, .int .i64 0, .string ⟨#[40]⟩] 71))
 have S5 := hide (show OwnT y5.w W.heap.size (.slice (some ⟨y4.w.heap.size, 0, none⟩) 1 1) [(Tk.mk 4 0 ⟨#[40]⟩)] by rw [← hy5]; exact ownT_new y4.w (Tk.mk 4 0 ⟨#[40]⟩) W.heap.size (Nat.le_trans (uh HZ) y4.h.size))
 have O5 := hide (show OwnT y5.w W.heap.size (v3) u3 by rw [← hy5]; exact (uh O4).later (below_new _ _))
 clear O4
 go_wp2_with (at_builtin; go_must (refine appT rfl _ _ rfl (uh HZ) y5.h rfl (uh O5) rfl (uh S5) (one_ne _) (lsum l3 (one_le _) (by decide)) ?_; intro v6 y6 hO; obtain ⟨u6, hu⟩ : ∃ u, (u3 ++ [(Tk.mk 4 0 ⟨#[40]⟩)]) = u := ⟨_, rfl⟩; rw [hu] at hO; have l6 := lapp hu l3 (one_le _); have O6 := hide hO; have H6 := hide hu; clear hO hu O5 S5))
 rw [rounds_succ]
 go_wp2_with fail
 refine (uh RG y6).mono ?_
 rintro r w7 ⟨rfl, hb⟩
 have O7 := hide ((uh O6).later hb)
 clear O6
 obtain ⟨y7, rfl⟩ := Sub.step (uh HZ) hb
 clear hb
 obtain ⟨y8, hy8⟩ := Sub.step (uh HZ) (below_new y7.w (.cells #[.int .i64 rt.k, .int .i64 rt.n, .string rt.s] 71))
 have S8 := hide (show OwnT y8.w W.heap.size (.slice (some ⟨y7.w.heap.size, 0, none⟩) 1 1) [rt] by rw [← hy8]; exact ownT_new y7.w rt W.heap.size (Nat.le_trans (uh HZ) y7.h.size))
 have O8 := hide (show OwnT y8.w W.heap.size (v6) u6 by rw [← hy8]; exact (uh O7).later (below_new _ _))
 clear O7
 go_wp2_with (at_builtin; go_must (refine appT rfl _ _ rfl (uh HZ) y8.h rfl (uh O8) rfl (uh S8) (one_ne _) (lsum l6 (one_le _) (by decide)) ?_; intro v9 y9 hO; obtain ⟨u9, hu⟩ : ∃ u, (u6 ++ [rt]) = u := ⟨_, rfl⟩; rw [hu] at hO; have l9 := lapp hu l6 (one_le _); have O9 := hide hO; have H9 := hide hu; clear hO hu O8 S8))
 rw [rounds_succ]
 go_wp2_with fail
 refine (uh MK ⟨#[41]⟩ y9.w).mono ?_
 rintro r w10 ⟨rfl, hb⟩
 have O10 := hide ((uh O9).later hb)
 clear O9
 obtain ⟨y10, rfl⟩ := Sub.step (uh HZ) hb
 clear hb
 obtain ⟨y11, hy11⟩ := Sub.step (uh HZ) (below_new y10.w (.cells #[.int .i64 4, .int .i64 0, .string ⟨#[41]⟩] 71))
 have S11 := hide (show OwnT y11.w W.heap.size (.slice (some ⟨y10.w.heap.size, 0, none⟩) 1 1) [(Tk.mk 4 0 ⟨#[41]⟩)] by rw [← hy11]; exact ownT_new y10.w (Tk.mk 4 0 ⟨#[41]⟩) W.heap.size (Nat.le_trans (uh HZ) y10.h.size))
 have O11 := hide (show OwnT y11.w W.heap.size (v9) u9 by rw [← hy11]; exact (uh O10).later (below_new _ _))
 clear O10
 go_wp2_with (at_builtin; go_must (refine appT rfl _ _ rfl (uh HZ) y11.h rfl (uh O11) rfl (uh S11) (one_ne _) (lsum l9 (one_le _) (by decide)) ?_; intro v12 y12 hO; obtain ⟨u12, hu⟩ : ∃ u, (u9 ++ [(Tk.mk 4 0 ⟨#[41]⟩)]) = u := ⟨_, rfl⟩; rw [hu] at hO; have l12 := lapp hu l9 (one_le _); have O12 := hide hO; have H12 := hide hu; clear hO hu O11 S11))
 rw [rounds_succ]
 go_wp2_with fail
 refine (uh MK ⟨#[43]⟩ y12.w).mono ?_
 rintro r w13 ⟨rfl, hb⟩
 have O13 := hide ((uh O12).later hb)
 clear O12
 obtain ⟨y13, rfl⟩ := Sub.step (uh HZ) hb
 clear hb
 obtain ⟨y14, hy14⟩ := Sub.step (uh HZ) (below_new y13.w (.cells #[.int .i64 4, .int .i64 0, .string ⟨#[43]⟩] 71))
 have S14 := hide (show OwnT y14.w W.heap.size (.slice (some ⟨y13.w.heap.size, 0, none⟩) 1 1) [(Tk.mk 4 0 ⟨#[43]⟩)] by rw [← hy14]; exact ownT_new y13.w (Tk.mk 4 0 ⟨#[43]⟩) W.heap.size (Nat.le_trans (uh HZ) y13.h.size))
 have O14 := hide (show OwnT y14.w W.heap.size (v12) u12 by rw [← hy14]; exact (uh O13).later (below_new _ _))
 clear O13
 go_wp2_with (at_builtin; go_must (refine appT rfl _ _ rfl (uh HZ) y14.h rfl (uh O14) rfl (uh S14) (one_ne _) (lsum l12 (one_le _) (by decide)) ?_; intro v15 y15 hO; obtain ⟨u15, hu⟩ : ∃ u, (u12 ++ [(Tk.mk 4 0 ⟨#[43]⟩)]) = u := ⟨_, rfl⟩; rw [hu] at hO; have l15 := lapp hu l12 (one_le _); have O15 := hide hO; have H15 := hide hu; clear hO hu O14 S14))
 rw [rounds_succ]
 go_wp2_with fail
 have EQ : u15 = T := by
  rw [← uh HT]
  rw [← uh H15, ← uh H12, ← uh H9, ← uh H6, ← uh H3]
  simp [mkT, mkS]
 rw [EQ] at O15
 go_ret
 exact ⟨_, rfl, uh HO y15 _ _ (uh O15), uh HB y15⟩
theorem opt_4 (rn : Nat) (hrn : rn < 8) (e : Ex) (ok : True) (w : World) (ht : TabA w) (hg : TabG w) : Calls Tryz.prog 58 #[.agg #[.nilIface, .int .i64 4, .int .i64 (rn : Int)]] w fun r w' => ∃ v, r = .returned v ∧ OwnT w' w.heap.size v (agT ⟨4, (rn : Int), e⟩) ∧ Below w.heap.size w w' := by
 have hbW := below_new w (.cells #[.nilIface, .int .i64 4, .int .i64 (rn : Int)] 85)
 obtain ⟨W, hW⟩ : ∃ W, w.alloc (.cells #[.nilIface, .int .i64 4, .int .i64 (rn : Int)] 85) = W := ⟨_, rfl⟩
 have xl : w.heap.size < W.heap.size := by rw [← hW]; simp
 have xc : ∀ (i : Nat) (v : Value), (#[.nilIface, .int .i64 4, .int .i64 (rn : Int)] : Array Value)[i]? = some v → ∀ w1, Below W.heap.size W w1 → w1.cell? ⟨w.heap.size, i, none⟩ = some v := fun i v h w1 hb => (hb.cell (p := ⟨w.heap.size, i, none⟩) xl).trans (by rw [← hW]; exact box17 w _ _ i v h)
 rw [hW] at hbW
 obtain ⟨y0, hy0⟩ : ∃ z : Sub W.heap.size W, w.alloc (.cells #[.nilIface, .int .i64 4, .int .i64 (rn : Int)] 85) = z.w := ⟨⟨W, Below.refl _ _⟩, hW⟩
 have ne := Sub.ne W.heap.size W
 have HZ := hide (Nat.le_refl W.heap.size)
 have HB := hide (fun y : Sub W.heap.size W => hbW.trans (y.h.mono hbW.size))
 have HO := hide (fun (y : Sub W.heap.size W) v ts (h : OwnT y.w W.heap.size v ts) => h.base hbW.size)
 have E0 : ∀ y : Sub W.heap.size W, y.w.cell? ⟨w.heap.size, 0, none⟩ = some .nilIface := fun y => xc 0 _ rfl y.w y.h
 have E1 : ∀ y : Sub W.heap.size W, y.w.cell? ⟨w.heap.size, 1, none⟩ = some (.int .i64 4) := fun y => xc 1 _ rfl y.w y.h
 have E2 : ∀ y : Sub W.heap.size W, y.w.cell? ⟨w.heap.size, 2, none⟩ = some (.int .i64 (rn : Int)) := fun y => xc 2 _ rfl y.w y.h
 have T0 : ∀ y : Sub W.heap.size W, y.w.cell? ⟨2, 4, none⟩ = some (.string ⟨#[45, 40, 82, 41]⟩) := fun y => (ht.f.next (uh HB y)).at4
 have MK := hide (fun x w1 => markI_any x w1)
 have RG := hide (fun y : Sub W.heap.size W => regI rn hrn y.w (ht.k.next (uh HB y)))
 have X0 : (⟨#[45, 40, 82, 41]⟩ : ByteArray).extract 0 1 = ⟨#[45]⟩ := by kernel_rfl
 have X1 : (⟨#[45, 40, 82, 41]⟩ : ByteArray).extract 1 2 = ⟨#[40]⟩ := by kernel_rfl
 have X3 : (⟨#[45, 40, 82, 41]⟩ : ByteArray).extract 3 4 = ⟨#[41]⟩ := by kernel_rfl
 have AT : agT ⟨4, (rn : Int), e⟩ = mkT 45 :: rnT rn := rfl
 rw [AT]
 unfold rnT
 clear AT ok ht hg hW xc xl hbW hrn
 unfold Tk.v Tk.cs at MK RG
 simp only at MK RG
 generalize hrg : rgT rn = rt at *
 obtain ⟨T, hT⟩ : ∃ T, mkT 45 :: [mkT 40, rt, mkT 41] = T := ⟨_, rfl⟩
 have HT := hide hT
 rw [hT]
 clear hT hrg
 have l0 : ([] : List Tk).length ≤ 0 := Nat.le_refl 0
 have O0 := hide (ownT_none y0.w W.heap.size)
 go_enter Tryz.func58, Tryz.ntmps58
 go_wp2_with fail
 refine wp_loop_rounds 5 ?_
 rw [rounds_succ]
 go_wp2_with fail
 refine (uh MK ⟨#[45]⟩ y0.w).mono ?_
 rintro r w1 ⟨rfl, hb⟩
 have O1 := hide ((uh O0).later hb)
 clear O0
 obtain ⟨y1, rfl⟩ := Sub.step (uh HZ) hb
 clear hb
 obtain ⟨y2, hy2⟩ := Sub.step (uh HZ) (below_new y1.w (.cells #[.int .i64 4, .int .i64 0, .string ⟨#[45]⟩] 71))
 have S2 := hide (show OwnT y2.w W.heap.size (.slice (some ⟨y1.w.heap.size, 0, none⟩) 1 1) [(Tk.mk 4 0 ⟨#[45]⟩)] by rw [← hy2]; exact ownT_new y1.w (Tk.mk 4 0 ⟨#[45]⟩) W.heap.size (Nat.le_trans (uh HZ) y1.h.size))
 have O2 := hide (show OwnT y2.w W.heap.size (.slice none 0 0) [] by rw [← hy2]; exact (uh O1).later (below_new _ _))
 clear O1
 go_wp2_with (at_builtin; go_must (refine appT rfl _ _ rfl (uh HZ) y2.h rfl (uh O2) rfl (uh S2) (one_ne _) (lsum l0 (one_le _) (by decide)) ?_; intro v3 y3 hO; obtain ⟨u3, hu⟩ : ∃ u, ([] ++ [(Tk.mk 4 0 ⟨#[45]⟩)]) = u := ⟨_, rfl⟩; rw [hu] at hO; have l3 := lapp hu l0 (one_le _); have O3 := hide hO; have H3 := hide hu; clear hO hu O2 S2))
 rw [rounds_succ]
 go_wp2_with fail
 refine (uh MK ⟨#[40]⟩ y3.w).mono ?_
 rintro r w4 ⟨rfl, hb⟩
 have O4 := hide ((uh O3).later hb)
 clear O3
 obtain ⟨y4, rfl⟩ := Sub.step (uh HZ) hb
 clear hb
 obtain ⟨y5, hy5⟩ := Sub.step (uh HZ) (below_new y4.w (.cells #[.int .i64 4, .int .i64 0, .string ⟨#[40]⟩] 71))
 have S5 := hide (show OwnT y5.w W.heap.size (.slice (some ⟨y4.w.heap.size, 0, none⟩) 1 1) [(Tk.mk 4 0 ⟨#[40]⟩)] by rw [← hy5]; exact ownT_new y4.w (Tk.mk 4 0 ⟨#[40]⟩) W.heap.size (Nat.le_trans (uh HZ) y4.h.size))
 have O5 := hide (show OwnT y5.w W.heap.size (v3) u3 by rw [← hy5]; exact (uh O4).later (below_new _ _))
 clear O4
 go_wp2_with (at_builtin; go_must (refine appT rfl _ _ rfl (uh HZ) y5.h rfl (uh O5) rfl (uh S5) (one_ne _) (lsum l3 (one_le _) (by decide)) ?_; intro v6 y6 hO; obtain ⟨u6, hu⟩ : ∃ u, (u3 ++ [(Tk.mk 4 0 ⟨#[40]⟩)]) = u := ⟨_, rfl⟩; rw [hu] at hO; have l6 := lapp hu l3 (one_le _); have O6 := hide hO; have H6 := hide hu; clear hO hu O5 S5))
 rw [rounds_succ]
 go_wp2_with fail
 refine (uh RG y6).mono ?_
 rintro r w7 ⟨rfl, hb⟩
 have O7 := hide ((uh O6).later hb)
 clear O6
 obtain ⟨y7, rfl⟩ := Sub.step (uh HZ) hb
 clear hb
 obtain ⟨y8, hy8⟩ := Sub.step (uh HZ) (below_new y7.w (.cells #[.int .i64 rt.k, .int .i64 rt.n, .string rt.s] 71))
 have S8 := hide (show OwnT y8.w W.heap.size (.slice (some ⟨y7.w.heap.size, 0, none⟩) 1 1) [rt] by rw [← hy8]; exact ownT_new y7.w rt W.heap.size (Nat.le_trans (uh HZ) y7.h.size))
 have O8 := hide (show OwnT y8.w W.heap.size (v6) u6 by rw [← hy8]; exact (uh O7).later (below_new _ _))
 clear O7
 go_wp2_with (at_builtin; go_must (refine appT rfl _ _ rfl (uh HZ) y8.h rfl (uh O8) rfl (uh S8) (one_ne _) (lsum l6 (one_le _) (by decide)) ?_; intro v9 y9 hO; obtain ⟨u9, hu⟩ : ∃ u, (u6 ++ [rt]) = u := ⟨_, rfl⟩; rw [hu] at hO; have l9 := lapp hu l6 (one_le _); have O9 := hide hO; have H9 := hide hu; clear hO hu O8 S8))
 rw [rounds_succ]
 go_wp2_with fail
 refine (uh MK ⟨#[41]⟩ y9.w).mono ?_
 rintro r w10 ⟨rfl, hb⟩
 have O10 := hide ((uh O9).later hb)
 clear O9
 obtain ⟨y10, rfl⟩ := Sub.step (uh HZ) hb
 clear hb
 obtain ⟨y11, hy11⟩ := Sub.step (uh HZ) (below_new y10.w (.cells #[.int .i64 4, .int .i64 0, .string ⟨#[41]⟩] 71))
 have S11 := hide (show OwnT y11.w W.heap.size (.slice (some ⟨y10.w.heap.size, 0, none⟩) 1 1) [(Tk.mk 4 0 ⟨#[41]⟩)] by rw [← hy11]; exact ownT_new y10.w (Tk.mk 4 0 ⟨#[41]⟩) W.heap.size (Nat.le_trans (uh HZ) y10.h.size))
 have O11 := hide (show OwnT y11.w W.heap.size (v9) u9 by rw [← hy11]; exact (uh O10).later (below_new _ _))
 clear O10
 go_wp2_with (at_builtin; go_must (refine appT rfl _ _ rfl (uh HZ) y11.h rfl (uh O11) rfl (uh S11) (one_ne _) (lsum l9 (one_le _) (by decide)) ?_; intro v12 y12 hO; obtain ⟨u12, hu⟩ : ∃ u, (u9 ++ [(Tk.mk 4 0 ⟨#[41]⟩)]) = u := ⟨_, rfl⟩; rw [hu] at hO; have l12 := lapp hu l9 (one_le _); have O12 := hide hO; have H12 := hide hu; clear hO hu O11 S11))
 rw [rounds_succ]
 go_wp2_with fail
 have EQ : u12 = T := by
  rw [← uh HT]
  rw [← uh H12, ← uh H9, ← uh H6, ← uh H3]
  simp [mkT, mkS]
 rw [EQ] at O12
 go_ret
 exact ⟨_, rfl, uh HO y12 _ _ (uh O12), uh HB y12⟩
theorem opt_5 (rn : Nat) (hrn : rn < 8) (e : Ex) (ok : True) (w : World) (ht : TabA w) (hg : TabG w) : Calls Tryz.prog 58 #[.agg #[.nilIface, .int .i64 5, .int .i64 (rn : Int)]] w fun r w' => ∃ v, r = .returned v ∧ OwnT w' w.heap.size v (agT ⟨5, (rn : Int), e⟩) ∧ Below w.heap.size w w' := by
 have hbW := below_new w (.cells #[.nilIface, .int .i64 5, .int .i64 (rn : Int)] 85)
 obtain ⟨W, hW⟩ : ∃ W, w.alloc (.cells #[.nilIface, .int .i64 5, .int .i64 (rn : Int)] 85) = W := ⟨_, rfl⟩
 have xl : w.heap.size < W.heap.size := by rw [← hW]; simp
 have xc : ∀ (i : Nat) (v : Value), (#[.nilIface, .int .i64 5, .int .i64 (rn : Int)] : Array Value)[i]? = some v → ∀ w1, Below W.heap.size W w1 → w1.cell? ⟨w.heap.size, i, none⟩ = some v := fun i v h w1 hb => (hb.cell (p := ⟨w.heap.size, i, none⟩) xl).trans (by rw [← hW]; exact box17 w _ _ i v h)
 rw [hW] at hbW
 obtain ⟨y0, hy0⟩ : ∃ z : Sub W.heap.size W, w.alloc (.cells #[.nilIface, .int .i64 5, .int .i64 (rn : Int)] 85) = z.w := ⟨⟨W, Below.refl _ _⟩, hW⟩
 have ne := Sub.ne W.heap.size W
 have HZ := hide (Nat.le_refl W.heap.size)
 have HB := hide (fun y : Sub W.heap.size W => hbW.trans (y.h.mono hbW.size))
 have HO := hide (fun (y : Sub W.heap.size W) v ts (h : OwnT y.w W.heap.size v ts) => h.base hbW.size)
 have E0 : ∀ y : Sub W.heap.size W, y.w.cell? ⟨w.heap.size, 0, none⟩ = some .nilIface := fun y => xc 0 _ rfl y.w y.h
 have E1 : ∀ y : Sub W.heap.size W, y.w.cell? ⟨w.heap.size, 1, none⟩ = some (.int .i64 5) := fun y => xc 1 _ rfl y.w y.h
 have E2 : ∀ y : Sub W.heap.size W, y.w.cell? ⟨w.heap.size, 2, none⟩ = some (.int .i64 (rn : Int)) := fun y => xc 2 _ rfl y.w y.h
 have T0 : ∀ y : Sub W.heap.size W, y.w.cell? ⟨2, 5, none⟩ = some (.string ⟨#[64, 45, 40, 82, 41]⟩) := fun y => (ht.f.next (uh HB y)).at5
 have MK := hide (fun x w1 => markI_any x w1)
 have RG := hide (fun y : Sub W.heap.size W => regI rn hrn y.w (ht.k.next (uh HB y)))
 have X0 : (⟨#[64, 45, 40, 82, 41]⟩ : ByteArray).extract 0 1 = ⟨#[64]⟩ := by kernel_rfl
 have X1 : (⟨#[64, 45, 40, 82, 41]⟩ : ByteArray).extract 1 2 = ⟨#[45]⟩ := by kernel_rfl
 have X2 : (⟨#[64, 45, 40, 82, 41]⟩ : ByteArray).extract 2 3 = ⟨#[40]⟩ := by kernel_rfl
 have X4 : (⟨#[64, 45, 40, 82, 41]⟩ : ByteArray).extract 4 5 = ⟨#[41]⟩ := by kernel_rfl
 have AT : agT ⟨5, (rn : Int), e⟩ = mkT 64 :: mkT 45 :: rnT rn := rfl
 rw [AT]
 unfold rnT
 clear AT ok ht hg hW xc xl hbW hrn
 unfold Tk.v Tk.cs at MK RG
 simp only at MK RG
 generalize hrg : rgT rn = rt at *
 obtain ⟨T, hT⟩ : ∃ T, mkT 64 :: mkT 45 :: [mkT 40, rt, mkT 41] = T := ⟨_, rfl⟩
 have HT := hide hT
 rw [hT]
 clear hT hrg
 have l0 : ([] : List Tk).length ≤ 0 := Nat.le_refl 0
 have O0 := hide (ownT_none y0.w W.heap.size)
 go_enter Tryz.func58, Tryz.ntmps58
 go_wp2_with fail
 refine wp_loop_rounds 6 ?_
 rw [rounds_succ]
 go_wp2_with fail
 refine (uh MK ⟨#[64]⟩ y0.w).mono ?_
 rintro r w1 ⟨rfl, hb⟩
 have O1 := hide ((uh O0).later hb)
 clear O0
 obtain ⟨y1, rfl⟩ := Sub.step (uh HZ) hb
 clear hb
 obtain ⟨y2, hy2⟩ := Sub.step (uh HZ) (below_new y1.w (.cells #[.int .i64 4, .int .i64 0, .string ⟨#[64]⟩] 71))
 have S2 := hide (show OwnT y2.w W.heap.size (.slice (some ⟨y1.w.heap.size, 0, none⟩) 1 1) [(Tk.mk 4 0 ⟨#[64]⟩)] by rw [← hy2]; exact ownT_new y1.w (Tk.mk 4 0 ⟨#[64]⟩) W.heap.size (Nat.le_trans (uh HZ) y1.h.size))
 have O2 := hide (show OwnT y2.w W.heap.size (.slice none 0 0) [] by rw [← hy2]; exact (uh O1).later (below_new _ _))
 clear O1
 go_wp2_with (at_builtin; go_must (refine appT rfl _ _ rfl (uh HZ) y2.h rfl (uh O2) rfl (uh S2) (one_ne _) (lsum l0 (one_le _) (by decide)) ?_; intro v3 y3 hO; obtain ⟨u3, hu⟩ : ∃ u, ([] ++ [(Tk.mk 4 0 ⟨#[64]⟩)]) = u := ⟨_, rfl⟩; rw [hu] at hO; have l3 := lapp hu l0 (one_le _); have O3 := hide hO; have H3 := hide hu; clear hO hu O2 S2))
 rw [rounds_succ]
 go_wp2_with fail
 refine (uh MK ⟨#[45]⟩ y3.w).mono ?_
 rintro r w4 ⟨rfl, hb⟩
 have O4 := hide ((uh O3).later hb)
 clear O3
 obtain ⟨y4, rfl⟩ := Sub.step (uh HZ) hb
 clear hb
 obtain ⟨y5, hy5⟩ := Sub.step (uh HZ) (below_new y4.w (.cells #[.int .i64 4, .int .i64 0, .string ⟨#[45]⟩] 71))
 have S5 := hide (show OwnT y5.w W.heap.size (.slice (some ⟨y4.w.heap.size, 0, none⟩) 1 1) [(Tk.mk 4 0 ⟨#[45]⟩)] by rw [← hy5]; exact ownT_new y4.w (Tk.mk 4 0 ⟨#[45]⟩) W.heap.size (Nat.le_trans (uh HZ) y4.h.size))
 have O5 := hide (show OwnT y5.w W.heap.size (v3) u3 by rw [← hy5]; exact (uh O4).later (below_new _ _))
 clear O4
 go_wp2_with (at_builtin; go_must (refine appT rfl _ _ rfl (uh HZ) y5.h rfl (uh O5) rfl (uh S5) (one_ne _) (lsum l3 (one_le _) (by decide)) ?_; intro v6 y6 hO; obtain ⟨u6, hu⟩ : ∃ u, (u3 ++ [(Tk.mk 4 0 ⟨#[45]⟩)]) = u := ⟨_, rfl⟩; rw [hu] at hO; have l6 := lapp hu l3 (one_le _); have O6 := hide hO; have H6 := hide hu; clear hO hu O5 S5))
 rw [rounds_succ]
 go_wp2_with fail
 refine (uh MK ⟨#[40]⟩ y6.w).mono ?_
 rintro r w7 ⟨rfl, hb⟩
 have O7 := hide ((uh O6).later hb)
 clear O6
 obtain ⟨y7, rfl⟩ := Sub.step (uh HZ) hb
 clear hb
 obtain ⟨y8, hy8⟩ := Sub.step (uh HZ) (below_new y7.w (.cells #[.int .i64 4, .int .i64 0, .string ⟨#[40]⟩] 71))
 have S8 := hide (show OwnT y8.w W.heap.size (.slice (some ⟨y7.w.heap.size, 0, none⟩) 1 1) [(Tk.mk 4 0 ⟨#[40]⟩)] by rw [← hy8]; exact ownT_new y7.w (Tk.mk 4 0 ⟨#[40]⟩) W.heap.size (Nat.le_trans (uh HZ) y7.h.size))
 have O8 := hide (show OwnT y8.w W.heap.size (v6) u6 by rw [← hy8]; exact (uh O7).later (below_new _ _))
 clear O7
 go_wp2_with (at_builtin; go_must (refine appT rfl _ _ rfl (uh HZ) y8.h rfl (uh O8) rfl (uh S8) (one_ne _) (lsum l6 (one_le _) (by decide)) ?_; intro v9 y9 hO; obtain ⟨u9, hu⟩ : ∃ u, (u6 ++ [(Tk.mk 4 0 ⟨#[40]⟩)]) = u := ⟨_, rfl⟩; rw [hu] at hO; have l9 := lapp hu l6 (one_le _); have O9 := hide hO; have H9 := hide hu; clear hO hu O8 S8))
 rw [rounds_succ]
 go_wp2_with fail
 refine (uh RG y9).mono ?_
 rintro r w10 ⟨rfl, hb⟩
 have O10 := hide ((uh O9).later hb)
 clear O9
 obtain ⟨y10, rfl⟩ := Sub.step (uh HZ) hb
 clear hb
 obtain ⟨y11, hy11⟩ := Sub.step (uh HZ) (below_new y10.w (.cells #[.int .i64 rt.k, .int .i64 rt.n, .string rt.s] 71))
 have S11 := hide (show OwnT y11.w W.heap.size (.slice (some ⟨y10.w.heap.size, 0, none⟩) 1 1) [rt] by rw [← hy11]; exact ownT_new y10.w rt W.heap.size (Nat.le_trans (uh HZ) y10.h.size))
 have O11 := hide (show OwnT y11.w W.heap.size (v9) u9 by rw [← hy11]; exact (uh O10).later (below_new _ _))
 clear O10
 go_wp2_with (at_builtin; go_must (refine appT rfl _ _ rfl (uh HZ) y11.h rfl (uh O11) rfl (uh S11) (one_ne _) (lsum l9 (one_le _) (by decide)) ?_; intro v12 y12 hO; obtain ⟨u12, hu⟩ : ∃ u, (u9 ++ [rt]) = u := ⟨_, rfl⟩; rw [hu] at hO; have l12 := lapp hu l9 (one_le _); have O12 := hide hO; have H12 := hide hu; clear hO hu O11 S11))
 rw [rounds_succ]
 go_wp2_with fail
 refine (uh MK ⟨#[41]⟩ y12.w).mono ?_
 rintro r w13 ⟨rfl, hb⟩
 have O13 := hide ((uh O12).later hb)
 clear O12
 obtain ⟨y13, rfl⟩ := Sub.step (uh HZ) hb
 clear hb
 obtain ⟨y14, hy14⟩ := Sub.step (uh HZ) (below_new y13.w (.cells #[.int .i64 4, .int .i64 0, .string ⟨#[41]⟩] 71))
 have S14 := hide (show OwnT y14.w W.heap.size (.slice (some ⟨y13.w.heap.size, 0, none⟩) 1 1) [(Tk.mk 4 0 ⟨#[41]⟩)] by rw [← hy14]; exact ownT_new y13.w (Tk.mk 4 0 ⟨#[41]⟩) W.heap.size (Nat.le_trans (uh HZ) y13.h.size))
 have O14 := hide (show OwnT y14.w W.heap.size (v12) u12 by rw [← hy14]; exact (uh O13).later (below_new _ _))
 clear O13
 go_wp2_with (at_builtin; go_must (refine appT rfl _ _ rfl (uh HZ) y14.h rfl (uh O14) rfl (uh S14) (one_ne _) (lsum l12 (one_le _) (by decide)) ?_; intro v15 y15 hO; obtain ⟨u15, hu⟩ : ∃ u, (u12 ++ [(Tk.mk 4 0 ⟨#[41]⟩)]) = u := ⟨_, rfl⟩; rw [hu] at hO; have l15 := lapp hu l12 (one_le _); have O15 := hide hO; have H15 := hide hu; clear hO hu O14 S14))
 rw [rounds_succ]
 go_wp2_with fail
 have EQ : u15 = T := by
  rw [← uh HT]
  rw [← uh H15, ← uh H12, ← uh H9, ← uh H6, ← uh H3]
  simp [mkT, mkS]
 rw [EQ] at O15
 go_ret
 exact ⟨_, rfl, uh HO y15 _ _ (uh O15), uh HB y15⟩
theorem opt_6 (rn : Nat) (hrn : rn < 8) (e : Ex) (ok : okF 6 true e = true) (w : World) (ht : TabA w) (hg : TabG w) : Calls Tryz.prog 58 #[.agg #[tv e, .int .i64 6, .int .i64 (rn : Int)]] w fun r w' => ∃ v, r = .returned v ∧ OwnT w' w.heap.size v (agT ⟨6, (rn : Int), e⟩) ∧ Below w.heap.size w w' := by
 have PA := put_all 6 (by omega) e
 obtain ⟨tt, xx, e1⟩ := tv_if e
 rw [e1] at PA ⊢
 clear e1
 have m6 := mxT_le 6 (by omega)
 have hbW := below_new w (.cells #[(.iface tt xx), .int .i64 6, .int .i64 (rn : Int)] 85)
 obtain ⟨W, hW⟩ : ∃ W, w.alloc (.cells #[(.iface tt xx), .int .i64 6, .int .i64 (rn : Int)] 85) = W := ⟨_, rfl⟩
 have xl : w.heap.size < W.heap.size := by rw [← hW]; simp
 have xc : ∀ (i : Nat) (v : Value), (#[(.iface tt xx), .int .i64 6, .int .i64 (rn : Int)] : Array Value)[i]? = some v → ∀ w1, Below W.heap.size W w1 → w1.cell? ⟨w.heap.size, i, none⟩ = some v := fun i v h w1 hb => (hb.cell (p := ⟨w.heap.size, i, none⟩) xl).trans (by rw [← hW]; exact box17 w _ _ i v h)
 rw [hW] at hbW
 obtain ⟨y0, hy0⟩ : ∃ z : Sub W.heap.size W, w.alloc (.cells #[(.iface tt xx), .int .i64 6, .int .i64 (rn : Int)] 85) = z.w := ⟨⟨W, Below.refl _ _⟩, hW⟩
 have ne := Sub.ne W.heap.size W
 have HZ := hide (Nat.le_refl W.heap.size)
 have HB := hide (fun y : Sub W.heap.size W => hbW.trans (y.h.mono hbW.size))
 have HO := hide (fun (y : Sub W.heap.size W) v ts (h : OwnT y.w W.heap.size v ts) => h.base hbW.size)
 have E0 : ∀ y : Sub W.heap.size W, y.w.cell? ⟨w.heap.size, 0, none⟩ = some (.iface tt xx) := fun y => xc 0 _ rfl y.w y.h
 have E1 : ∀ y : Sub W.heap.size W, y.w.cell? ⟨w.heap.size, 1, none⟩ = some (.int .i64 6) := fun y => xc 1 _ rfl y.w y.h
 have E2 : ∀ y : Sub W.heap.size W, y.w.cell? ⟨w.heap.size, 2, none⟩ = some (.int .i64 (rn : Int)) := fun y => xc 2 _ rfl y.w y.h
 have T0 : ∀ y : Sub W.heap.size W, y.w.cell? ⟨2, 6, none⟩ = some (.string ⟨#[69, 40, 82, 41]⟩) := fun y => (ht.f.next (uh HB y)).at6
 have MK := hide (fun x w1 => markI_any x w1)
 have RG := hide (fun y : Sub W.heap.size W => regI rn hrn y.w (ht.k.next (uh HB y)))
 have PU := hide (fun (y : Sub W.heap.size W) v ts (h : OwnT y.w W.heap.size v ts) (hl : ts.length ≤ 10) => (PA ts v W.heap.size y.w ok h y.h.size (by omega) (hg.later (uh HB y) hg.lt) (Nat.lt_trans hg.lt xl)).mono (R' := fun r w' => ∃ v', r = .returned v' ∧ OwnT w' W.heap.size v' (ts ++ toksF 6 e) ∧ ∃ z : Sub W.heap.size W, w' = z.w) fun r w' ⟨v', h1, h2, h3, _⟩ => ⟨v', h1, h2, ⟨w', y.h.trans h3⟩, rfl⟩)
 have tle := toks_le ok
 have X1 : (⟨#[69, 40, 82, 41]⟩ : ByteArray).extract 1 2 = ⟨#[40]⟩ := by kernel_rfl
 have X3 : (⟨#[69, 40, 82, 41]⟩ : ByteArray).extract 3 4 = ⟨#[41]⟩ := by kernel_rfl
 have AT : agT ⟨6, (rn : Int), e⟩ = toksF 6 e ++ rnT rn := rfl
 rw [AT]
 unfold rnT
 clear AT ok ht hg hW xc xl hbW hrn PA m6
 generalize toksF 6 e = te at *
 unfold Tk.v Tk.cs at MK RG
 simp only at MK RG
 generalize hrg : rgT rn = rt at *
 obtain ⟨T, hT⟩ : ∃ T, te ++ [mkT 40, rt, mkT 41] = T := ⟨_, rfl⟩
 have HT := hide hT
 rw [hT]
 clear hT hrg
 have l0 : ([] : List Tk).length ≤ 0 := Nat.le_refl 0
 have O0 := hide (ownT_none y0.w W.heap.size)
 go_enter Tryz.func58, Tryz.ntmps58
 go_wp2_with fail
 refine wp_loop_rounds 5 ?_
 rw [rounds_succ]
 go_wp2_with fail
 refine (uh PU y0 _ _ (uh O0) (Nat.le_trans l0 (by decide))).mono ?_
 rintro r w1 ⟨v1, rfl, hO, y1, rfl⟩
 obtain ⟨u1, hu⟩ : ∃ u, ([] ++ te) = u := ⟨_, rfl⟩
 rw [hu] at hO
 have l1 := lapp hu l0 tle
 have O1 := hide hO
 have H1 := hide hu
 clear hO hu O0
 go_wp2_with fail
 rw [rounds_succ]
 go_wp2_with fail
 refine (uh MK ⟨#[40]⟩ y1.w).mono ?_
 rintro r w2 ⟨rfl, hb⟩
 have O2 := hide ((uh O1).later hb)
 clear O1
 obtain ⟨y2, rfl⟩ := Sub.step (uh HZ) hb
 clear hb
 obtain ⟨y3, hy3⟩ := Sub.step (uh HZ) (below_new y2.w (.cells #[.int .i64 4, .int .i64 0, .string ⟨#[40]⟩] 71))
 have S3 := hide (show OwnT y3.w W.heap.size (.slice (some ⟨y2.w.heap.size, 0, none⟩) 1 1) [(Tk.mk 4 0 ⟨#[40]⟩)] by rw [← hy3]; exact ownT_new y2.w (Tk.mk 4 0 ⟨#[40]⟩) W.heap.size (Nat.le_trans (uh HZ) y2.h.size))
 have O3 := hide (show OwnT y3.w W.heap.size (v1) u1 by rw [← hy3]; exact (uh O2).later (below_new _ _))
 clear O2
 go_wp2_with (at_builtin; go_must (refine appT rfl _ _ rfl (uh HZ) y3.h rfl (uh O3) rfl (uh S3) (one_ne _) (lsum l1 (one_le _) (by decide)) ?_; intro v4 y4 hO; obtain ⟨u4, hu⟩ : ∃ u, (u1 ++ [(Tk.mk 4 0 ⟨#[40]⟩)]) = u := ⟨_, rfl⟩; rw [hu] at hO; have l4 := lapp hu l1 (one_le _); have O4 := hide hO; have H4 := hide hu; clear hO hu O3 S3))
 rw [rounds_succ]
 go_wp2_with fail
 refine (uh RG y4).mono ?_
 rintro r w5 ⟨rfl, hb⟩
 have O5 := hide ((uh O4).later hb)
 clear O4
 obtain ⟨y5, rfl⟩ := Sub.step (uh HZ) hb
 clear hb
 obtain ⟨y6, hy6⟩ := Sub.step (uh HZ) (below_new y5.w (.cells #[.int .i64 rt.k, .int .i64 rt.n, .string rt.s] 71))
 have S6 := hide (show OwnT y6.w W.heap.size (.slice (some ⟨y5.w.heap.size, 0, none⟩) 1 1) [rt] by rw [← hy6]; exact ownT_new y5.w rt W.heap.size (Nat.le_trans (uh HZ) y5.h.size))
 have O6 := hide (show OwnT y6.w W.heap.size (v4) u4 by rw [← hy6]; exact (uh O5).later (below_new _ _))
 clear O5
 go_wp2_with (at_builtin; go_must (refine appT rfl _ _ rfl (uh HZ) y6.h rfl (uh O6) rfl (uh S6) (one_ne _) (lsum l4 (one_le _) (by decide)) ?_; intro v7 y7 hO; obtain ⟨u7, hu⟩ : ∃ u, (u4 ++ [rt]) = u := ⟨_, rfl⟩; rw [hu] at hO; have l7 := lapp hu l4 (one_le _); have O7 := hide hO; have H7 := hide hu; clear hO hu O6 S6))
 rw [rounds_succ]
 go_wp2_with fail
 refine (uh MK ⟨#[41]⟩ y7.w).mono ?_
 rintro r w8 ⟨rfl, hb⟩
 have O8 := hide ((uh O7).later hb)
 clear O7
 obtain ⟨y8, rfl⟩ := Sub.step (uh HZ) hb
 clear hb
 obtain ⟨y9, hy9⟩ := Sub.step (uh HZ) (below_new y8.w (.cells #[.int .i64 4, .int .i64 0, .string ⟨#[41]⟩] 71))
 have S9 := hide (show OwnT y9.w W.heap.size (.slice (some ⟨y8.w.heap.size, 0, none⟩) 1 1) [(Tk.mk 4 0 ⟨#[41]⟩)] by rw [← hy9]; exact ownT_new y8.w (Tk.mk 4 0 ⟨#[41]⟩) W.heap.size (Nat.le_trans (uh HZ) y8.h.size))
 have O9 := hide (show OwnT y9.w W.heap.size (v7) u7 by rw [← hy9]; exact (uh O8).later (below_new _ _))
 clear O8
 go_wp2_with (at_builtin; go_must (refine appT rfl _ _ rfl (uh HZ) y9.h rfl (uh O9) rfl (uh S9) (one_ne _) (lsum l7 (one_le _) (by decide)) ?_; intro v10 y10 hO; obtain ⟨u10, hu⟩ : ∃ u, (u7 ++ [(Tk.mk 4 0 ⟨#[41]⟩)]) = u := ⟨_, rfl⟩; rw [hu] at hO; have l10 := lapp hu l7 (one_le _); have O10 := hide hO; have H10 := hide hu; clear hO hu O9 S9))
 rw [rounds_succ]
 go_wp2_with fail
 have EQ : u10 = T := by
  rw [← uh HT]
  rw [← uh H10, ← uh H7, ← uh H4, ← uh H1]
  simp [mkT, mkS]
 rw [EQ] at O10
 go_ret
 exact ⟨_, rfl, uh HO y10 _ _ (uh O10), uh HB y10⟩
theorem opt_7 (rn : Nat) (hrn : rn < 8) (e : Ex) (ok : okF 6 true e = true) (w : World) (ht : TabA w) (hg : TabG w) : Calls Tryz.prog 58 #[.agg #[tv e, .int .i64 7, .int .i64 (rn : Int)]] w fun r w' => ∃ v, r = .returned v ∧ OwnT w' w.heap.size v (agT ⟨7, (rn : Int), e⟩) ∧ Below w.heap.size w w' := by
 have PA := put_all 6 (by omega) e
 obtain ⟨tt, xx, e1⟩ := tv_if e
 rw [e1] at PA ⊢
 clear e1
 have m6 := mxT_le 6 (by omega)
 have hbW := below_new w (.cells #[(.iface tt xx), .int .i64 7, .int .i64 (rn : Int)] 85)
 obtain ⟨W, hW⟩ : ∃ W, w.alloc (.cells #[(.iface tt xx), .int .i64 7, .int .i64 (rn : Int)] 85) = W := ⟨_, rfl⟩
 have xl : w.heap.size < W.heap.size := by rw [← hW]; simp
 have xc : ∀ (i : Nat) (v : Value), (#[(.iface tt xx), .int .i64 7, .int .i64 (rn : Int)] : Array Value)[i]? = some v → ∀ w1, Below W.heap.size W w1 → w1.cell? ⟨w.heap.size, i, none⟩ = some v := fun i v h w1 hb => (hb.cell (p := ⟨w.heap.size, i, none⟩) xl).trans (by rw [← hW]; exact box17 w _ _ i v h)
 rw [hW] at hbW
 obtain ⟨y0, hy0⟩ : ∃ z : Sub W.heap.size W, w.alloc (.cells #[(.iface tt xx), .int .i64 7, .int .i64 (rn : Int)] 85) = z.w := ⟨⟨W, Below.refl _ _⟩, hW⟩
 have ne := Sub.ne W.heap.size W
 have HZ := hide (Nat.le_refl W.heap.size)
 have HB := hide (fun y : Sub W.heap.size W => hbW.trans (y.h.mono hbW.size))
 have HO := hide (fun (y : Sub W.heap.size W) v ts (h : OwnT y.w W.heap.size v ts) => h.base hbW.size)
 have E0 : ∀ y : Sub W.heap.size W, y.w.cell? ⟨w.heap.size, 0, none⟩ = some (.iface tt xx) := fun y => xc 0 _ rfl y.w y.h
 have E1 : ∀ y : Sub W.heap.size W, y.w.cell? ⟨w.heap.size, 1, none⟩ = some (.int .i64 7) := fun y => xc 1 _ rfl y.w y.h
 have E2 : ∀ y : Sub W.heap.size W, y.w.cell? ⟨w.heap.size, 2, none⟩ = some (.int .i64 (rn : Int)) := fun y => xc 2 _ rfl y.w y.h
 have T0 : ∀ y : Sub W.heap.size W, y.w.cell? ⟨2, 7, none⟩ = some (.string ⟨#[64, 69, 40, 82, 41]⟩) := fun y => (ht.f.next (uh HB y)).at7
 have MK := hide (fun x w1 => markI_any x w1)
 have RG := hide (fun y : Sub W.heap.size W => regI rn hrn y.w (ht.k.next (uh HB y)))
 have PU := hide (fun (y : Sub W.heap.size W) v ts (h : OwnT y.w W.heap.size v ts) (hl : ts.length ≤ 10) => (PA ts v W.heap.size y.w ok h y.h.size (by omega) (hg.later (uh HB y) hg.lt) (Nat.lt_trans hg.lt xl)).mono (R' := fun r w' => ∃ v', r = .returned v' ∧ OwnT w' W.heap.size v' (ts ++ toksF 6 e) ∧ ∃ z : Sub W.heap.size W, w' = z.w) fun r w' ⟨v', h1, h2, h3, _⟩ => ⟨v', h1, h2, ⟨w', y.h.trans h3⟩, rfl⟩)
 have tle := toks_le ok
 have X0 : (⟨#[64, 69, 40, 82, 41]⟩ : ByteArray).extract 0 1 = ⟨#[64]⟩ := by kernel_rfl
 have X2 : (⟨#[64, 69, 40, 82, 41]⟩ : ByteArray).extract 2 3 = ⟨#[40]⟩ := by kernel_rfl
 have X4 : (⟨#[64, 69, 40, 82, 41]⟩ : ByteArray).extract 4 5 = ⟨#[41]⟩ := by kernel_rfl
 have AT : agT ⟨7, (rn : Int), e⟩ = mkT 64 :: (toksF 6 e ++ rnT rn) := rfl
 rw [AT]
 unfold rnT
 clear AT ok ht hg hW xc xl hbW hrn PA m6
 generalize toksF 6 e = te at *
 unfold Tk.v Tk.cs at MK RG
 simp only at MK RG
 generalize hrg : rgT rn = rt at *
 obtain ⟨T, hT⟩ : ∃ T, mkT 64 :: (te ++ [mkT 40, rt, mkT 41]) = T := ⟨_, rfl⟩
 have HT := hide hT
 rw [hT]
 clear hT hrg
 have l0 : ([] : List Tk).length ≤ 0 := Nat.le_refl 0
 have O0 := hide (ownT_none y0.w W.heap.size)
 go_enter Tryz.func58, Tryz.ntmps58
 go_wp2_with fail
 refine wp_loop_rounds 6 ?_
 rw [rounds_succ]
 go_wp2_with fail
 refine (uh MK ⟨#[64]⟩ y0.w).mono ?_
 rintro r w1 ⟨rfl, hb⟩
 have O1 := hide ((uh O0).later hb)
 clear O0
 obtain ⟨y1, rfl⟩ := Sub.step (uh HZ) hb
 clear hb
 obtain ⟨y2, hy2⟩ := Sub.step (uh HZ) (below_new y1.w (.cells #[.int .i64 4, .int .i64 0, .string ⟨#[64]⟩] 71))
 have S2 := hide (show OwnT y2.w W.heap.size (.slice (some ⟨y1.w.heap.size, 0, none⟩) 1 1) [(Tk.mk 4 0 ⟨#[64]⟩)] by rw [← hy2]; exact ownT_new y1.w (Tk.mk 4 0 ⟨#[64]⟩) W.heap.size (Nat.le_trans (uh HZ) y1.h.size))
 have O2 := hide (show OwnT y2.w W.heap.size (.slice none 0 0) [] by rw [← hy2]; exact (uh O1).later (below_new _ _))
 clear O1
 go_wp2_with (at_builtin; go_must (refine appT rfl _ _ rfl (uh HZ) y2.h rfl (uh O2) rfl (uh S2) (one_ne _) (lsum l0 (one_le _) (by decide)) ?_; intro v3 y3 hO; obtain ⟨u3, hu⟩ : ∃ u, ([] ++ [(Tk.mk 4 0 ⟨#[64]⟩)]) = u := ⟨_, rfl⟩; rw [hu] at hO; have l3 := lapp hu l0 (one_le _); have O3 := hide hO; have H3 := hide hu; clear hO hu O2 S2))
 rw [rounds_succ]
 go_wp2_with fail
 refine (uh PU y3 _ _ (uh O3) (Nat.le_trans l3 (by decide))).mono ?_
 rintro r w4 ⟨v4, rfl, hO, y4, rfl⟩
 obtain ⟨u4, hu⟩ : ∃ u, (u3 ++ te) = u := ⟨_, rfl⟩
 rw [hu] at hO
 have l4 := lapp hu l3 tle
 have O4 := hide hO
 have H4 := hide hu
 clear hO hu O3
 go_wp2_with fail
 rw [rounds_succ]
 go_wp2_with fail
 refine (uh MK ⟨#[40]⟩ y4.w).mono ?_
 rintro r w5 ⟨rfl, hb⟩
 have O5 := hide ((uh O4).later hb)
 clear O4
 obtain ⟨y5, rfl⟩ := Sub.step (uh HZ) hb
 clear hb
 obtain ⟨y6, hy6⟩ := Sub.step (uh HZ) (below_new y5.w (.cells #[.int .i64 4, .int .i64 0, .string ⟨#[40]⟩] 71))
 have S6 := hide (show OwnT y6.w W.heap.size (.slice (some ⟨y5.w.heap.size, 0, none⟩) 1 1) [(Tk.mk 4 0 ⟨#[40]⟩)] by rw [← hy6]; exact ownT_new y5.w (Tk.mk 4 0 ⟨#[40]⟩) W.heap.size (Nat.le_trans (uh HZ) y5.h.size))
 have O6 := hide (show OwnT y6.w W.heap.size (v4) u4 by rw [← hy6]; exact (uh O5).later (below_new _ _))
 clear O5
 go_wp2_with (at_builtin; go_must (refine appT rfl _ _ rfl (uh HZ) y6.h rfl (uh O6) rfl (uh S6) (one_ne _) (lsum l4 (one_le _) (by decide)) ?_; intro v7 y7 hO; obtain ⟨u7, hu⟩ : ∃ u, (u4 ++ [(Tk.mk 4 0 ⟨#[40]⟩)]) = u := ⟨_, rfl⟩; rw [hu] at hO; have l7 := lapp hu l4 (one_le _); have O7 := hide hO; have H7 := hide hu; clear hO hu O6 S6))
 rw [rounds_succ]
 go_wp2_with fail
 refine (uh RG y7).mono ?_
 rintro r w8 ⟨rfl, hb⟩
 have O8 := hide ((uh O7).later hb)
 clear O7
 obtain ⟨y8, rfl⟩ := Sub.step (uh HZ) hb
 clear hb
 obtain ⟨y9, hy9⟩ := Sub.step (uh HZ) (below_new y8.w (.cells #[.int .i64 rt.k, .int .i64 rt.n, .string rt.s] 71))
 have S9 := hide (show OwnT y9.w W.heap.size (.slice (some ⟨y8.w.heap.size, 0, none⟩) 1 1) [rt] by rw [← hy9]; exact ownT_new y8.w rt W.heap.size (Nat.le_trans (uh HZ) y8.h.size))
 have O9 := hide (show OwnT y9.w W.heap.size (v7) u7 by rw [← hy9]; exact (uh O8).later (below_new _ _))
 clear O8
 go_wp2_with (at_builtin; go_must (refine appT rfl _ _ rfl (uh HZ) y9.h rfl (uh O9) rfl (uh S9) (one_ne _) (lsum l7 (one_le _) (by decide)) ?_; intro v10 y10 hO; obtain ⟨u10, hu⟩ : ∃ u, (u7 ++ [rt]) = u := ⟨_, rfl⟩; rw [hu] at hO; have l10 := lapp hu l7 (one_le _); have O10 := hide hO; have H10 := hide hu; clear hO hu O9 S9))
 rw [rounds_succ]
 go_wp2_with fail
 refine (uh MK ⟨#[41]⟩ y10.w).mono ?_
 rintro r w11 ⟨rfl, hb⟩
 have O11 := hide ((uh O10).later hb)
 clear O10
 obtain ⟨y11, rfl⟩ := Sub.step (uh HZ) hb
 clear hb
 obtain ⟨y12, hy12⟩ := Sub.step (uh HZ) (below_new y11.w (.cells #[.int .i64 4, .int .i64 0, .string ⟨#[41]⟩] 71))
 have S12 := hide (show OwnT y12.w W.heap.size (.slice (some ⟨y11.w.heap.size, 0, none⟩) 1 1) [(Tk.mk 4 0 ⟨#[41]⟩)] by rw [← hy12]; exact ownT_new y11.w (Tk.mk 4 0 ⟨#[41]⟩) W.heap.size (Nat.le_trans (uh HZ) y11.h.size))
 have O12 := hide (show OwnT y12.w W.heap.size (v10) u10 by rw [← hy12]; exact (uh O11).later (below_new _ _))
 clear O11
 go_wp2_with (at_builtin; go_must (refine appT rfl _ _ rfl (uh HZ) y12.h rfl (uh O12) rfl (uh S12) (one_ne _) (lsum l10 (one_le _) (by decide)) ?_; intro v13 y13 hO; obtain ⟨u13, hu⟩ : ∃ u, (u10 ++ [(Tk.mk 4 0 ⟨#[41]⟩)]) = u := ⟨_, rfl⟩; rw [hu] at hO; have l13 := lapp hu l10 (one_le _); have O13 := hide hO; have H13 := hide hu; clear hO hu O12 S12))
 rw [rounds_succ]
 go_wp2_with fail
 have EQ : u13 = T := by
  rw [← uh HT]
  rw [← uh H13, ← uh H10, ← uh H7, ← uh H4, ← uh H3]
  simp [mkT, mkS]
 rw [EQ] at O13
 go_ret
 exact ⟨_, rfl, uh HO y13 _ _ (uh O13), uh HB y13⟩
theorem opt_8 (rn : Nat) (hrn : rn < 8) (e : Ex) (ok : okF 6 true e = true) (w : World) (ht : TabA w) (hg : TabG w) : Calls Tryz.prog 58 #[.agg #[tv e, .int .i64 8, .int .i64 (rn : Int)]] w fun r w' => ∃ v, r = .returned v ∧ OwnT w' w.heap.size v (agT ⟨8, (rn : Int), e⟩) ∧ Below w.heap.size w w' := by
 have PA := put_all 6 (by omega) e
 obtain ⟨tt, xx, e1⟩ := tv_if e
 rw [e1] at PA ⊢
 clear e1
 have m6 := mxT_le 6 (by omega)
 have hbW := below_new w (.cells #[(.iface tt xx), .int .i64 8, .int .i64 (rn : Int)] 85)
 obtain ⟨W, hW⟩ : ∃ W, w.alloc (.cells #[(.iface tt xx), .int .i64 8, .int .i64 (rn : Int)] 85) = W := ⟨_, rfl⟩
 have xl : w.heap.size < W.heap.size := by rw [← hW]; simp
 have xc : ∀ (i : Nat) (v : Value), (#[(.iface tt xx), .int .i64 8, .int .i64 (rn : Int)] : Array Value)[i]? = some v → ∀ w1, Below W.heap.size W w1 → w1.cell? ⟨w.heap.size, i, none⟩ = some v := fun i v h w1 hb => (hb.cell (p := ⟨w.heap.size, i, none⟩) xl).trans (by rw [← hW]; exact box17 w _ _ i v h)
 rw [hW] at hbW
 obtain ⟨y0, hy0⟩ : ∃ z : Sub W.heap.size W, w.alloc (.cells #[(.iface tt xx), .int .i64 8, .int .i64 (rn : Int)] 85) = z.w := ⟨⟨W, Below.refl _ _⟩, hW⟩
 have ne := Sub.ne W.heap.size W
 have HZ := hide (Nat.le_refl W.heap.size)
 have HB := hide (fun y : Sub W.heap.size W => hbW.trans (y.h.mono hbW.size))
 have HO := hide (fun (y : Sub W.heap.size W) v ts (h : OwnT y.w W.heap.size v ts) => h.base hbW.size)
 have E0 : ∀ y : Sub W.heap.size W, y.w.cell? ⟨w.heap.size, 0, none⟩ = some (.iface tt xx) := fun y => xc 0 _ rfl y.w y.h
 have E1 : ∀ y : Sub W.heap.size W, y.w.cell? ⟨w.heap.size, 1, none⟩ = some (.int .i64 8) := fun y => xc 1 _ rfl y.w y.h
 have E2 : ∀ y : Sub W.heap.size W, y.w.cell? ⟨w.heap.size, 2, none⟩ = some (.int .i64 (rn : Int)) := fun y => xc 2 _ rfl y.w y.h
 have T0 : ∀ y : Sub W.heap.size W, y.w.cell? ⟨2, 8, none⟩ = some (.string ⟨#[35, 69]⟩) := fun y => (ht.f.next (uh HB y)).at8
 have MK := hide (fun x w1 => markI_any x w1)
 have RG := hide (fun y : Sub W.heap.size W => regI rn hrn y.w (ht.k.next (uh HB y)))
 have PU := hide (fun (y : Sub W.heap.size W) v ts (h : OwnT y.w W.heap.size v ts) (hl : ts.length ≤ 10) => (PA ts v W.heap.size y.w ok h y.h.size (by omega) (hg.later (uh HB y) hg.lt) (Nat.lt_trans hg.lt xl)).mono (R' := fun r w' => ∃ v', r = .returned v' ∧ OwnT w' W.heap.size v' (ts ++ toksF 6 e) ∧ ∃ z : Sub W.heap.size W, w' = z.w) fun r w' ⟨v', h1, h2, h3, _⟩ => ⟨v', h1, h2, ⟨w', y.h.trans h3⟩, rfl⟩)
 have tle := toks_le ok
 have X0 : (⟨#[35, 69]⟩ : ByteArray).extract 0 1 = ⟨#[35]⟩ := by kernel_rfl
 have AT : agT ⟨8, (rn : Int), e⟩ = mkT 35 :: toksF 6 e := rfl
 rw [AT]
 clear AT ok ht hg hW xc xl hbW hrn PA m6
 generalize toksF 6 e = te at *
 unfold Tk.v Tk.cs at MK RG
 simp only at MK RG
 generalize hrg : rgT rn = rt at *
 obtain ⟨T, hT⟩ : ∃ T, mkT 35 :: te = T := ⟨_, rfl⟩
 have HT := hide hT
 rw [hT]
 clear hT hrg
 have l0 : ([] : List Tk).length ≤ 0 := Nat.le_refl 0
 have O0 := hide (ownT_none y0.w W.heap.size)
 go_enter Tryz.func58, Tryz.ntmps58
 go_wp2_with fail
 refine wp_loop_rounds 3 ?_
 rw [rounds_succ]
 go_wp2_with fail
 refine (uh MK ⟨#[35]⟩ y0.w).mono ?_
 rintro r w1 ⟨rfl, hb⟩
 have O1 := hide ((uh O0).later hb)
 clear O0
 obtain ⟨y1, rfl⟩ := Sub.step (uh HZ) hb
 clear hb
 obtain ⟨y2, hy2⟩ := Sub.step (uh HZ) (below_new y1.w (.cells #[.int .i64 4, .int .i64 0, .string ⟨#[35]⟩] 71))
 have S2 := hide (show OwnT y2.w W.heap.size (.slice (some ⟨y1.w.heap.size, 0, none⟩) 1 1) [(Tk.mk 4 0 ⟨#[35]⟩)] by rw [← hy2]; exact ownT_new y1.w (Tk.mk 4 0 ⟨#[35]⟩) W.heap.size (Nat.le_trans (uh HZ) y1.h.size))
 have O2 := hide (show OwnT y2.w W.heap.size (.slice none 0 0) [] by rw [← hy2]; exact (uh O1).later (below_new _ _))
 clear O1
 go_wp2_with (at_builtin; go_must (refine appT rfl _ _ rfl (uh HZ) y2.h rfl (uh O2) rfl (uh S2) (one_ne _) (lsum l0 (one_le _) (by decide)) ?_; intro v3 y3 hO; obtain ⟨u3, hu⟩ : ∃ u, ([] ++ [(Tk.mk 4 0 ⟨#[35]⟩)]) = u := ⟨_, rfl⟩; rw [hu] at hO; have l3 := lapp hu l0 (one_le _); have O3 := hide hO; have H3 := hide hu; clear hO hu O2 S2))
 rw [rounds_succ]
 go_wp2_with fail
 refine (uh PU y3 _ _ (uh O3) (Nat.le_trans l3 (by decide))).mono ?_
 rintro r w4 ⟨v4, rfl, hO, y4, rfl⟩
 obtain ⟨u4, hu⟩ : ∃ u, (u3 ++ te) = u := ⟨_, rfl⟩
 rw [hu] at hO
 have l4 := lapp hu l3 tle
 have O4 := hide hO
 have H4 := hide hu
 clear hO hu O3
 go_wp2_with fail
 rw [rounds_succ]
 go_wp2_with fail
 have EQ : u4 = T := by
  rw [← uh HT]
  rw [← uh H4, ← uh H3]
  simp [mkT, mkS]
 rw [EQ] at O4
 go_ret
 exact ⟨_, rfl, uh HO y4 _ _ (uh O4), uh HB y4⟩
theorem opt_9 (rn : Nat) (hrn : rn < 8) (e : Ex) (ok : okF 6 true e = true) (w : World) (ht : TabA w) (hg : TabG w) : Calls Tryz.prog 58 #[.agg #[tv e, .int .i64 9, .int .i64 (rn : Int)]] w fun r w' => ∃ v, r = .returned v ∧ OwnT w' w.heap.size v (agT ⟨9, (rn : Int), e⟩) ∧ Below w.heap.size w w' := by
 have PA := put_all 6 (by omega) e
 obtain ⟨tt, xx, e1⟩ := tv_if e
 rw [e1] at PA ⊢
 clear e1
 have m6 := mxT_le 6 (by omega)
 have hbW := below_new w (.cells #[(.iface tt xx), .int .i64 9, .int .i64 (rn : Int)] 85)
 obtain ⟨W, hW⟩ : ∃ W, w.alloc (.cells #[(.iface tt xx), .int .i64 9, .int .i64 (rn : Int)] 85) = W := ⟨_, rfl⟩
 have xl : w.heap.size < W.heap.size := by rw [← hW]; simp
 have xc : ∀ (i : Nat) (v : Value), (#[(.iface tt xx), .int .i64 9, .int .i64 (rn : Int)] : Array Value)[i]? = some v → ∀ w1, Below W.heap.size W w1 → w1.cell? ⟨w.heap.size, i, none⟩ = some v := fun i v h w1 hb => (hb.cell (p := ⟨w.heap.size, i, none⟩) xl).trans (by rw [← hW]; exact box17 w _ _ i v h)
 rw [hW] at hbW
 obtain ⟨y0, hy0⟩ : ∃ z : Sub W.heap.size W, w.alloc (.cells #[(.iface tt xx), .int .i64 9, .int .i64 (rn : Int)] 85) = z.w := ⟨⟨W, Below.refl _ _⟩, hW⟩
 have ne := Sub.ne W.heap.size W
 have HZ := hide (Nat.le_refl W.heap.size)
 have HB := hide (fun y : Sub W.heap.size W => hbW.trans (y.h.mono hbW.size))
 have HO := hide (fun (y : Sub W.heap.size W) v ts (h : OwnT y.w W.heap.size v ts) => h.base hbW.size)
 have E0 : ∀ y : Sub W.heap.size W, y.w.cell? ⟨w.heap.size, 0, none⟩ = some (.iface tt xx) := fun y => xc 0 _ rfl y.w y.h
 have E1 : ∀ y : Sub W.heap.size W, y.w.cell? ⟨w.heap.size, 1, none⟩ = some (.int .i64 9) := fun y => xc 1 _ rfl y.w y.h
 have E2 : ∀ y : Sub W.heap.size W, y.w.cell? ⟨w.heap.size, 2, none⟩ = some (.int .i64 (rn : Int)) := fun y => xc 2 _ rfl y.w y.h
 have T0 : ∀ y : Sub W.heap.size W, y.w.cell? ⟨2, 9, none⟩ = some (.string ⟨#[64, 35, 69]⟩) := fun y => (ht.f.next (uh HB y)).at9
 have MK := hide (fun x w1 => markI_any x w1)
 have RG := hide (fun y : Sub W.heap.size W => regI rn hrn y.w (ht.k.next (uh HB y)))
 have PU := hide (fun (y : Sub W.heap.size W) v ts (h : OwnT y.w W.heap.size v ts) (hl : ts.length ≤ 10) => (PA ts v W.heap.size y.w ok h y.h.size (by omega) (hg.later (uh HB y) hg.lt) (Nat.lt_trans hg.lt xl)).mono (R' := fun r w' => ∃ v', r = .returned v' ∧ OwnT w' W.heap.size v' (ts ++ toksF 6 e) ∧ ∃ z : Sub W.heap.size W, w' = z.w) fun r w' ⟨v', h1, h2, h3, _⟩ => ⟨v', h1, h2, ⟨w', y.h.trans h3⟩, rfl⟩)
 have tle := toks_le ok
 have X0 : (⟨#[64, 35, 69]⟩ : ByteArray).extract 0 1 = ⟨#[64]⟩ := by kernel_rfl
 have X1 : (⟨#[64, 35, 69]⟩ : ByteArray).extract 1 2 = ⟨#[35]⟩ := by kernel_rfl
 have AT : agT ⟨9, (rn : Int), e⟩ = mkT 64 :: mkT 35 :: toksF 6 e := rfl
 rw [AT]
 clear AT ok ht hg hW xc xl hbW hrn PA m6
 generalize toksF 6 e = te at *
 unfold Tk.v Tk.cs at MK RG
 simp only at MK RG
 generalize hrg : rgT rn = rt at *
 obtain ⟨T, hT⟩ : ∃ T, mkT 64 :: mkT 35 :: te = T := ⟨_, rfl⟩
 have HT := hide hT
 rw [hT]
 clear hT hrg
 have l0 : ([] : List Tk).length ≤ 0 := Nat.le_refl 0
 have O0 := hide (ownT_none y0.w W.heap.size)
 go_enter Tryz.func58, Tryz.ntmps58
 go_wp2_with fail
 refine wp_loop_rounds 4 ?_
 rw [rounds_succ]
 go_wp2_with fail
 refine (uh MK ⟨#[64]⟩ y0.w).mono ?_
 rintro r w1 ⟨rfl, hb⟩
 have O1 := hide ((uh O0).later hb)
 clear O0
 obtain ⟨y1, rfl⟩ := Sub.step (uh HZ) hb
 clear hb
 obtain ⟨y2, hy2⟩ := Sub.step (uh HZ) (below_new y1.w (.cells #[.int .i64 4, .int .i64 0, .string ⟨#[64]⟩] 71))
 have S2 := hide (show OwnT y2.w W.heap.size (.slice (some ⟨y1.w.heap.size, 0, none⟩) 1 1) [(Tk.mk 4 0 ⟨#[64]⟩)] by rw [← hy2]; exact ownT_new y1.w (Tk.mk 4 0 ⟨#[64]⟩) W.heap.size (Nat.le_trans (uh HZ) y1.h.size))
 have O2 := hide (show OwnT y2.w W.heap.size (.slice none 0 0) [] by rw [← hy2]; exact (uh O1).later (below_new _ _))
 clear O1
 go_wp2_with (at_builtin; go_must (refine appT rfl _ _ rfl (uh HZ) y2.h rfl (uh O2) rfl (uh S2) (one_ne _) (lsum l0 (one_le _) (by decide)) ?_; intro v3 y3 hO; obtain ⟨u3, hu⟩ : ∃ u, ([] ++ [(Tk.mk 4 0 ⟨#[64]⟩)]) = u := ⟨_, rfl⟩; rw [hu] at hO; have l3 := lapp hu l0 (one_le _); have O3 := hide hO; have H3 := hide hu; clear hO hu O2 S2))
 rw [rounds_succ]
 go_wp2_with fail
 refine (uh MK ⟨#[35]⟩ y3.w).mono ?_
 rintro r w4 ⟨rfl, hb⟩
 have O4 := hide ((uh O3).later hb)
 clear O3
 obtain ⟨y4, rfl⟩ := Sub.step (uh HZ) hb
 clear hb
 obtain ⟨y5, hy5⟩ := Sub.step (uh HZ) (below_new y4.w (.cells #[.int .i64 4, .int .i64 0, .string ⟨#[35]⟩] 71))
 have S5 := hide (show OwnT y5.w W.heap.size (.slice (some ⟨y4.w.heap.size, 0, none⟩) 1 1) [(Tk.mk 4 0 ⟨#[35]⟩)] by rw [← hy5]; exact ownT_new y4.w (Tk.mk 4 0 ⟨#[35]⟩) W.heap.size (Nat.le_trans (uh HZ) y4.h.size))
 have O5 := hide (show OwnT y5.w W.heap.size (v3) u3 by rw [← hy5]; exact (uh O4).later (below_new _ _))
 clear O4
 go_wp2_with (at_builtin; go_must (refine appT rfl _ _ rfl (uh HZ) y5.h rfl (uh O5) rfl (uh S5) (one_ne _) (lsum l3 (one_le _) (by decide)) ?_; intro v6 y6 hO; obtain ⟨u6, hu⟩ : ∃ u, (u3 ++ [(Tk.mk 4 0 ⟨#[35]⟩)]) = u := ⟨_, rfl⟩; rw [hu] at hO; have l6 := lapp hu l3 (one_le _); have O6 := hide hO; have H6 := hide hu; clear hO hu O5 S5))
 rw [rounds_succ]
 go_wp2_with fail
 refine (uh PU y6 _ _ (uh O6) (Nat.le_trans l6 (by decide))).mono ?_
 rintro r w7 ⟨v7, rfl, hO, y7, rfl⟩
 obtain ⟨u7, hu⟩ : ∃ u, (u6 ++ te) = u := ⟨_, rfl⟩
 rw [hu] at hO
 have l7 := lapp hu l6 tle
 have O7 := hide hO
 have H7 := hide hu
 clear hO hu O6
 go_wp2_with fail
 rw [rounds_succ]
 go_wp2_with fail
 have EQ : u7 = T := by
  rw [← uh HT]
  rw [← uh H7, ← uh H6, ← uh H3]
  simp [mkT, mkS]
 rw [EQ] at O7
 go_ret
 exact ⟨_, rfl, uh HO y7 _ _ (uh O7), uh HB y7⟩
theorem opt_10 (rn : Nat) (hrn : rn < 8) (e : Ex) (ok : okF 6 true e = true) (w : World) (ht : TabA w) (hg : TabG w) : Calls Tryz.prog 58 #[.agg #[tv e, .int .i64 10, .int .i64 (rn : Int)]] w fun r w' => ∃ v, r = .returned v ∧ OwnT w' w.heap.size v (agT ⟨10, (rn : Int), e⟩) ∧ Below w.heap.size w w' := by
 have PA := put_all 6 (by omega) e
 obtain ⟨tt, xx, e1⟩ := tv_if e
 rw [e1] at PA ⊢
 clear e1
 have m6 := mxT_le 6 (by omega)
 have hbW := below_new w (.cells #[(.iface tt xx), .int .i64 10, .int .i64 (rn : Int)] 85)
 obtain ⟨W, hW⟩ : ∃ W, w.alloc (.cells #[(.iface tt xx), .int .i64 10, .int .i64 (rn : Int)] 85) = W := ⟨_, rfl⟩
 have xl : w.heap.size < W.heap.size := by rw [← hW]; simp
 have xc : ∀ (i : Nat) (v : Value), (#[(.iface tt xx), .int .i64 10, .int .i64 (rn : Int)] : Array Value)[i]? = some v → ∀ w1, Below W.heap.size W w1 → w1.cell? ⟨w.heap.size, i, none⟩ = some v := fun i v h w1 hb => (hb.cell (p := ⟨w.heap.size, i, none⟩) xl).trans (by rw [← hW]; exact box17 w _ _ i v h)
 rw [hW] at hbW
 obtain ⟨y0, hy0⟩ : ∃ z : Sub W.heap.size W, w.alloc (.cells #[(.iface tt xx), .int .i64 10, .int .i64 (rn : Int)] 85) = z.w := ⟨⟨W, Below.refl _ _⟩, hW⟩
 have ne := Sub.ne W.heap.size W
 have HZ := hide (Nat.le_refl W.heap.size)
 have HB := hide (fun y : Sub W.heap.size W => hbW.trans (y.h.mono hbW.size))
 have HO := hide (fun (y : Sub W.heap.size W) v ts (h : OwnT y.w W.heap.size v ts) => h.base hbW.size)
 have E0 : ∀ y : Sub W.heap.size W, y.w.cell? ⟨w.heap.size, 0, none⟩ = some (.iface tt xx) := fun y => xc 0 _ rfl y.w y.h
 have E1 : ∀ y : Sub W.heap.size W, y.w.cell? ⟨w.heap.size, 1, none⟩ = some (.int .i64 10) := fun y => xc 1 _ rfl y.w y.h
 have E2 : ∀ y : Sub W.heap.size W, y.w.cell? ⟨w.heap.size, 2, none⟩ = some (.int .i64 (rn : Int)) := fun y => xc 2 _ rfl y.w y.h
 have T0 : ∀ y : Sub W.heap.size W, y.w.cell? ⟨2, 10, none⟩ = some (.string ⟨#[69]⟩) := fun y => (ht.f.next (uh HB y)).at10
 have MK := hide (fun x w1 => markI_any x w1)
 have RG := hide (fun y : Sub W.heap.size W => regI rn hrn y.w (ht.k.next (uh HB y)))
 have PU := hide (fun (y : Sub W.heap.size W) v ts (h : OwnT y.w W.heap.size v ts) (hl : ts.length ≤ 10) => (PA ts v W.heap.size y.w ok h y.h.size (by omega) (hg.later (uh HB y) hg.lt) (Nat.lt_trans hg.lt xl)).mono (R' := fun r w' => ∃ v', r = .returned v' ∧ OwnT w' W.heap.size v' (ts ++ toksF 6 e) ∧ ∃ z : Sub W.heap.size W, w' = z.w) fun r w' ⟨v', h1, h2, h3, _⟩ => ⟨v', h1, h2, ⟨w', y.h.trans h3⟩, rfl⟩)
 have tle := toks_le ok
 have AT : agT ⟨10, (rn : Int), e⟩ = toksF 6 e := rfl
 rw [AT]
 clear AT ok ht hg hW xc xl hbW hrn PA m6
 generalize toksF 6 e = te at *
 unfold Tk.v Tk.cs at MK RG
 simp only at MK RG
 generalize hrg : rgT rn = rt at *
 obtain ⟨T, hT⟩ : ∃ T, te = T := ⟨_, rfl⟩
 have HT := hide hT
 rw [hT]
 clear hT hrg
 have l0 : ([] : List Tk).length ≤ 0 := Nat.le_refl 0
 have O0 := hide (ownT_none y0.w W.heap.size)
 go_enter Tryz.func58, Tryz.ntmps58
 go_wp2_with fail
 refine wp_loop_rounds 2 ?_
 rw [rounds_succ]
 go_wp2_with fail
 refine (uh PU y0 _ _ (uh O0) (Nat.le_trans l0 (by decide))).mono ?_
 rintro r w1 ⟨v1, rfl, hO, y1, rfl⟩
 obtain ⟨u1, hu⟩ : ∃ u, ([] ++ te) = u := ⟨_, rfl⟩
 rw [hu] at hO
 have l1 := lapp hu l0 tle
 have O1 := hide hO
 have H1 := hide hu
 clear hO hu O0
 go_wp2_with fail
 rw [rounds_succ]
 go_wp2_with fail
 have EQ : u1 = T := by
  rw [← uh HT]
  rw [← uh H1]
  simp [mkT, mkS]
 rw [EQ] at O1
 go_ret
 exact ⟨_, rfl, uh HO y1 _ _ (uh O1), uh HB y1⟩
theorem opt_11 (rn : Nat) (hrn : rn < 8) (e : Ex) (ok : okF 6 true e = true) (w : World) (ht : TabA w) (hg : TabG w) : Calls Tryz.prog 58 #[.agg #[tv e, .int .i64 11, .int .i64 (rn : Int)]] w fun r w' => ∃ v, r = .returned v ∧ OwnT w' w.heap.size v (agT ⟨11, (rn : Int), e⟩) ∧ Below w.heap.size w w' := by
 have PA := put_all 6 (by omega) e
 obtain ⟨tt, xx, e1⟩ := tv_if e
 rw [e1] at PA ⊢
 clear e1
 have m6 := mxT_le 6 (by omega)
 have hbW := below_new w (.cells #[(.iface tt xx), .int .i64 11, .int .i64 (rn : Int)] 85)
 obtain ⟨W, hW⟩ : ∃ W, w.alloc (.cells #[(.iface tt xx), .int .i64 11, .int .i64 (rn : Int)] 85) = W := ⟨_, rfl⟩
 have xl : w.heap.size < W.heap.size := by rw [← hW]; simp
 have xc : ∀ (i : Nat) (v : Value), (#[(.iface tt xx), .int .i64 11, .int .i64 (rn : Int)] : Array Value)[i]? = some v → ∀ w1, Below W.heap.size W w1 → w1.cell? ⟨w.heap.size, i, none⟩ = some v := fun i v h w1 hb => (hb.cell (p := ⟨w.heap.size, i, none⟩) xl).trans (by rw [← hW]; exact box17 w _ _ i v h)
 rw [hW] at hbW
 obtain ⟨y0, hy0⟩ : ∃ z : Sub W.heap.size W, w.alloc (.cells #[(.iface tt xx), .int .i64 11, .int .i64 (rn : Int)] 85) = z.w := ⟨⟨W, Below.refl _ _⟩, hW⟩
 have ne := Sub.ne W.heap.size W
 have HZ := hide (Nat.le_refl W.heap.size)
 have HB := hide (fun y : Sub W.heap.size W => hbW.trans (y.h.mono hbW.size))
 have HO := hide (fun (y : Sub W.heap.size W) v ts (h : OwnT y.w W.heap.size v ts) => h.base hbW.size)
 have E0 : ∀ y : Sub W.heap.size W, y.w.cell? ⟨w.heap.size, 0, none⟩ = some (.iface tt xx) := fun y => xc 0 _ rfl y.w y.h
 have E1 : ∀ y : Sub W.heap.size W, y.w.cell? ⟨w.heap.size, 1, none⟩ = some (.int .i64 11) := fun y => xc 1 _ rfl y.w y.h
 have E2 : ∀ y : Sub W.heap.size W, y.w.cell? ⟨w.heap.size, 2, none⟩ = some (.int .i64 (rn : Int)) := fun y => xc 2 _ rfl y.w y.h
 have T0 : ∀ y : Sub W.heap.size W, y.w.cell? ⟨2, 11, none⟩ = some (.string ⟨#[64, 69]⟩) := fun y => (ht.f.next (uh HB y)).at11
 have MK := hide (fun x w1 => markI_any x w1)
 have RG := hide (fun y : Sub W.heap.size W => regI rn hrn y.w (ht.k.next (uh HB y)))
 have PU := hide (fun (y : Sub W.heap.size W) v ts (h : OwnT y.w W.heap.size v ts) (hl : ts.length ≤ 10) => (PA ts v W.heap.size y.w ok h y.h.size (by omega) (hg.later (uh HB y) hg.lt) (Nat.lt_trans hg.lt xl)).mono (R' := fun r w' => ∃ v', r = .returned v' ∧ OwnT w' W.heap.size v' (ts ++ toksF 6 e) ∧ ∃ z : Sub W.heap.size W, w' = z.w) fun r w' ⟨v', h1, h2, h3, _⟩ => ⟨v', h1, h2, ⟨w', y.h.trans h3⟩, rfl⟩)
 have tle := toks_le ok
 have X0 : (⟨#[64, 69]⟩ : ByteArray).extract 0 1 = ⟨#[64]⟩ := by kernel_rfl
 have AT : agT ⟨11, (rn : Int), e⟩ = mkT 64 :: toksF 6 e := rfl
 rw [AT]
 clear AT ok ht hg hW xc xl hbW hrn PA m6
 generalize toksF 6 e = te at *
 unfold Tk.v Tk.cs at MK RG
 simp only at MK RG
 generalize hrg : rgT rn = rt at *
 obtain ⟨T, hT⟩ : ∃ T, mkT 64 :: te = T := ⟨_, rfl⟩
 have HT := hide hT
 rw [hT]
 clear hT hrg
 have l0 : ([] : List Tk).length ≤ 0 := Nat.le_refl 0
 have O0 := hide (ownT_none y0.w W.heap.size)
 go_enter Tryz.func58, Tryz.ntmps58
 go_wp2_with fail
 refine wp_loop_rounds 3 ?_
 rw [rounds_succ]
 go_wp2_with fail
 refine (uh MK ⟨#[64]⟩ y0.w).mono ?_
 rintro r w1 ⟨rfl, hb⟩
 have O1 := hide ((uh O0).later hb)
 clear O0
 obtain ⟨y1, rfl⟩ := Sub.step (uh HZ) hb
 clear hb
 obtain ⟨y2, hy2⟩ := Sub.step (uh HZ) (below_new y1.w (.cells #[.int .i64 4, .int .i64 0, .string ⟨#[64]⟩] 71))
 have S2 := hide (show OwnT y2.w W.heap.size (.slice (some ⟨y1.w.heap.size, 0, none⟩) 1 1) [(Tk.mk 4 0 ⟨#[64]⟩)] by rw [← hy2]; exact ownT_new y1.w (Tk.mk 4 0 ⟨#[64]⟩) W.heap.size (Nat.le_trans (uh HZ) y1.h.size))
 have O2 := hide (show OwnT y2.w W.heap.size (.slice none 0 0) [] by rw [← hy2]; exact (uh O1).later (below_new _ _))
 clear O1
 go_wp2_with (at_builtin; go_must (refine appT rfl _ _ rfl (uh HZ) y2.h rfl (uh O2) rfl (uh S2) (one_ne _) (lsum l0 (one_le _) (by decide)) ?_; intro v3 y3 hO; obtain ⟨u3, hu⟩ : ∃ u, ([] ++ [(Tk.mk 4 0 ⟨#[64]⟩)]) = u := ⟨_, rfl⟩; rw [hu] at hO; have l3 := lapp hu l0 (one_le _); have O3 := hide hO; have H3 := hide hu; clear hO hu O2 S2))
 rw [rounds_succ]
 go_wp2_with fail
 refine (uh PU y3 _ _ (uh O3) (Nat.le_trans l3 (by decide))).mono ?_
 rintro r w4 ⟨v4, rfl, hO, y4, rfl⟩
 obtain ⟨u4, hu⟩ : ∃ u, (u3 ++ te) = u := ⟨_, rfl⟩
 rw [hu] at hO
 have l4 := lapp hu l3 tle
 have O4 := hide hO
 have H4 := hide hu
 clear hO hu O3
 go_wp2_with fail
 rw [rounds_succ]
 go_wp2_with fail
 have EQ : u4 = T := by
  rw [← uh HT]
  rw [← uh H4, ← uh H3]
  simp [mkT, mkS]
 rw [EQ] at O4
 go_ret
 exact ⟨_, rfl, uh HO y4 _ _ (uh O4), uh HB y4⟩
theorem agX_rg {a : Ag} (ok : agX a = true) : 0 ≤ a.r ∧ a.r ≤ 7 := by
 unfold agX at ok
 split at ok
 · rw [Bool.and_eq_true] at ok; exact (inB_iff _ _ _).1 ok.1
 split at ok
 · rw [Bool.and_eq_true] at ok; exact (inB_iff _ _ _).1 ok.1
 split at ok
 · rw [Bool.and_eq_true] at ok; have := beq_iff_eq.1 ok.1; omega
 · cases ok
theorem opt_any (a : Ag) (ok : agX a = true) (w : World) (ht : TabA w) (hg : TabG w) : Calls Tryz.prog 58 #[.agg #[opU a, .int .i64 a.f, .int .i64 a.r]] w fun r w' => ∃ v, r = .returned v ∧ OwnT w' w.heap.size v (agT a) ∧ Below w.heap.size w w' := by
 have hf := agX_f ok
 have hr := agX_rg ok
 obtain ⟨f, r, e⟩ := a
 obtain ⟨rn, rfl⟩ : ∃ rn : Nat, r = (rn : Int) := ⟨r.toNat, (Int.toNat_of_nonneg hr.1).symm⟩
 have hrn : rn < 8 := by have := hr.2; simp only at this; omega
 have : f = 0 ∨ f = 1 ∨ f = 2 ∨ f = 3 ∨ f = 4 ∨ f = 5 ∨ f = 6 ∨ f = 7 ∨ f = 8 ∨ f = 9 ∨ f = 10 ∨ f = 11 := by simp only at hf; omega
 rcases this with rfl | rfl | rfl | rfl | rfl | rfl | rfl | rfl | rfl | rfl | rfl | rfl
 · exact opt_0 rn hrn e trivial w ht hg
 · exact opt_1 rn hrn e trivial w ht hg
 · exact opt_2 rn hrn e trivial w ht hg
 · exact opt_3 rn hrn e trivial w ht hg
 · exact opt_4 rn hrn e trivial w ht hg
 · exact opt_5 rn hrn e trivial w ht hg
 · exact opt_6 rn hrn e (agX_e ok (by simp)) w ht hg
 · exact opt_7 rn hrn e (agX_e ok (by simp)) w ht hg
 · exact opt_8 rn hrn e (agX_e ok (by simp)) w ht hg
 · exact opt_9 rn hrn e (agX_e ok (by simp)) w ht hg
 · exact opt_10 rn hrn e (agX_e ok (by simp)) w ht hg
 · exact opt_11 rn hrn e (agX_e ok (by simp)) w ht hg
theorem ln_f {x : Ln} (ok : lnX x = true) : (x.k = 3 ∧ 1 ≤ x.op ∧ x.op ≤ 23) ∨ (x.k ≠ 3 ∧ x.op = 0 ∧ 0 ≤ x.k ∧ x.k ≤ 8) := by
 rw [← st_eq] at ok
 unfold stX at ok
 rw [Bool.and_eq_true] at ok
 have h := ok.1
 unfold shB at h
 by_cases h3 : x.k = 3
 ·
  rw [if_pos h3] at h
  exact .inl ⟨h3, (inB_iff _ _ _).1 h⟩
 ·
  rw [if_neg h3] at h
  by_cases h0 : x.op = 0
  ·
   rw [if_pos h0] at h
   exact .inr ⟨h3, h0, (inB_iff _ _ _).1 h⟩
  ·
   rw [if_neg h0] at h
   cases h
theorem ln_nm {x : Ln} (ok : lnX x = true) (h : x.k = 1 ∨ x.k = 2 ∨ x.k = 6) : nameB x.s = true := by
 have hf := ln_f ok
 rw [← st_eq] at ok
 unfold stX at ok
 simp only [Bool.and_eq_true] at ok
 have h1 := ok.2.1
 have ho : x.op = 0 := by omega
 rw [ho] at h1
 rcases h with h | h | h <;> (rw [h] at h1; exact h1)
theorem ln_rg {x : Ln} (ok : lnX x = true) (h : regB x.op = true) : 0 ≤ x.n ∧ x.n ≤ 7 := by
 have hf := ln_f ok
 rw [← st_eq] at ok
 unfold stX at ok
 simp only [Bool.and_eq_true] at ok
 have h1 := ok.2.2.1
 have h0 : x.op ≠ 0 := by intro h0; rw [h0] at h; cases h
 have h3 : x.k = 3 := by omega
 have hg : (shX x.k x.op).gn = 7 := by unfold shX; rw [if_pos h3, h]; rfl
 rw [hg] at h1
 exact (inB_iff _ _ _).1 h1
theorem name_word {s : ByteArray} (h : nameB s = true) : wordT s = ⟨1, 0, s⟩ := by
 unfold wordT
 rw [if_neg]
 intro hk
 unfold nameB at h
 rw [hk] at h
 simp at h
theorem ovr_word : wordT ovrS = ⟨1, 0, ovrS⟩ := by
 unfold wordT
 rw [if_neg (by decide +kernel)]
def dotC : Array Value := (dotL.map Value.string).toArray
def TabD (w : World) : Prop := ∃ t fr, w.heap[1]? = some (.cells dotC t fr)
theorem TabD.lt {w : World} (h : TabD w) : 1 < w.heap.size := by obtain ⟨t, fr, h⟩ := h; exact (Array.getElem?_eq_some_iff.1 h).1
theorem TabD.later {w w' : World} {B : Nat} (h : TabD w) (hb : Below B w w') (hB : 1 < B) : TabD w' := by
 obtain ⟨t, fr, h⟩ := h
 exact ⟨t, fr, (hb.block _ hB).trans h⟩
theorem TabD.next {w w' : World} (h : TabD w) (hb : Below w.heap.size w w') : TabD w' := h.later hb h.lt
theorem TabD.at4 {w : World} (h : TabD w) : w.cell? ⟨1, 4, none⟩ = some (.string ⟨#[46, 119, 111, 114, 100]⟩) := by obtain ⟨t, fr, h⟩ := h; exact Lib.cell_of_heap h 4
theorem TabD.at5 {w : World} (h : TabD w) : w.cell? ⟨1, 5, none⟩ = some (.string ⟨#[46, 98, 108, 107, 119]⟩) := by obtain ⟨t, fr, h⟩ := h; exact Lib.cell_of_heap h 5
theorem TabD.at6 {w : World} (h : TabD w) : w.cell? ⟨1, 6, none⟩ = some (.string ⟨#[46, 115, 101, 99, 116]⟩) := by obtain ⟨t, fr, h⟩ := h; exact Lib.cell_of_heap h 6
theorem TabD.at7 {w : World} (h : TabD w) : w.cell? ⟨1, 7, none⟩ = some (.string ⟨#[46, 103, 108, 111, 98, 108]⟩) := by obtain ⟨t, fr, h⟩ := h; exact Lib.cell_of_heap h 7
theorem TabD.at8 {w : World} (h : TabD w) : w.cell? ⟨1, 8, none⟩ = some (.string ⟨#[46, 101, 110, 100]⟩) := by obtain ⟨t, fr, h⟩ := h; exact Lib.cell_of_heap h 8
theorem opC_at (n : Nat) (h : n < 24) : opC[n]? = some (.string (opL.getD n E0)) := by
 have : n = 0 ∨ n = 1 ∨ n = 2 ∨ n = 3 ∨ n = 4 ∨ n = 5 ∨ n = 6 ∨ n = 7 ∨ n = 8 ∨ n = 9 ∨ n = 10 ∨ n = 11 ∨ n = 12 ∨ n = 13 ∨ n = 14 ∨ n = 15 ∨ n = 16 ∨ n = 17 ∨ n = 18 ∨ n = 19 ∨ n = 20 ∨ n = 21 ∨ n = 22 ∨ n = 23 := by omega
 rcases this with rfl | rfl | rfl | rfl | rfl | rfl | rfl | rfl | rfl | rfl | rfl | rfl | rfl | rfl | rfl | rfl | rfl | rfl | rfl | rfl | rfl | rfl | rfl | rfl <;> rfl
theorem TabK.opw {w : World} (h : TabK w) (n : Nat) (hn : n < 24) : w.cell? ⟨0, n, none⟩ = some (.string (opL.getD n E0)) := by
 obtain ⟨⟨t, fr, h⟩, _⟩ := h
 exact (Lib.cell_of_heap h n).trans (opC_at n hn)
theorem opw_word (n : Nat) (h1 : 1 ≤ n) (hn : n < 24) : wordT (opL.getD n E0) = kpT (n - 1) := by
 have : n = 1 ∨ n = 2 ∨ n = 3 ∨ n = 4 ∨ n = 5 ∨ n = 6 ∨ n = 7 ∨ n = 8 ∨ n = 9 ∨ n = 10 ∨ n = 11 ∨ n = 12 ∨ n = 13 ∨ n = 14 ∨ n = 15 ∨ n = 16 ∨ n = 17 ∨ n = 18 ∨ n = 19 ∨ n = 20 ∨ n = 21 ∨ n = 22 ∨ n = 23 := by omega
 rcases this with rfl | rfl | rfl | rfl | rfl | rfl | rfl | rfl | rfl | rfl | rfl | rfl | rfl | rfl | rfl | rfl | rfl | rfl | rfl | rfl | rfl | rfl | rfl <;> (unfold wordT; rw [if_pos (by decide +kernel)]; rfl)
theorem hd_0 (op : Int) (s : ByteArray) (n : Int) (e1 : Option Addr) (i1 j1 : Nat) (e2 : Option Addr) (i2 j2 : Nat) (w : World) : Calls Tryz.prog 42 #[.agg #[.int .i64 0, .string s, .int .i64 op, .int .i64 n, .slice e1 i1 j1, .slice e2 i2 j2]] w fun r w' => ∃ v, r = .returned v ∧ OwnT w' w.heap.size v [] ∧ Below w.heap.size w w' := by
 have hbW := below_new w (.cells #[.int .i64 0, .string s, .int .i64 op, .int .i64 n, .slice e1 i1 j1, .slice e2 i2 j2] 64)
 obtain ⟨W, hW⟩ : ∃ W, w.alloc (.cells #[.int .i64 0, .string s, .int .i64 op, .int .i64 n, .slice e1 i1 j1, .slice e2 i2 j2] 64) = W := ⟨_, rfl⟩
 have rM : W.heap[w.heap.size]? = some (.cells #[.int .i64 0, .string s, .int .i64 op, .int .i64 n, .slice e1 i1 j1, .slice e2 i2 j2] 64 (0, 0)) := by rw [← hW]; exact Array.getElem?_push_size
 rw [hW] at hbW
 have C0 := Lib.cell_of_heap rM 0
 have C1 := Lib.cell_of_heap rM 1
 have C2 := Lib.cell_of_heap rM 2
 have BW := hide hbW
 clear hbW rM
 go_enter Tryz.func42, Tryz.ntmps42
 go_wp2
 go_ret
 exact ⟨_, rfl, ownT_none _ _, uh BW⟩
theorem hd_1 (op : Int) (s : ByteArray) (n : Int) (e1 : Option Addr) (i1 j1 : Nat) (e2 : Option Addr) (i2 j2 : Nat) (w : World) (ht : TabK w) (hn : nameB s = true) : Calls Tryz.prog 42 #[.agg #[.int .i64 1, .string s, .int .i64 op, .int .i64 n, .slice e1 i1 j1, .slice e2 i2 j2]] w fun r w' => ∃ v, r = .returned v ∧ OwnT w' w.heap.size v [⟨1, 0, s⟩, mkT 58] ∧ Below w.heap.size w w' := by
 have hbW := below_new w (.cells #[.int .i64 1, .string s, .int .i64 op, .int .i64 n, .slice e1 i1 j1, .slice e2 i2 j2] 64)
 obtain ⟨W, hW⟩ : ∃ W, w.alloc (.cells #[.int .i64 1, .string s, .int .i64 op, .int .i64 n, .slice e1 i1 j1, .slice e2 i2 j2] 64) = W := ⟨_, rfl⟩
 have rM : W.heap[w.heap.size]? = some (.cells #[.int .i64 1, .string s, .int .i64 op, .int .i64 n, .slice e1 i1 j1, .slice e2 i2 j2] 64 (0, 0)) := by rw [← hW]; exact Array.getElem?_push_size
 rw [hW] at hbW
 have C0 := Lib.cell_of_heap rM 0
 have C1 := Lib.cell_of_heap rM 1
 have C2 := Lib.cell_of_heap rM 2
 have BW := hide hbW
 have M1 := hide (wordI_any s W (ht.next hbW))
 rw [name_word hn] at M1
 have M2 := hide (fun w1 => markI_any ⟨#[58]⟩ w1)
 have OW := hide (fun (w1 : World) (h : w.heap.size ≤ w1.heap.size) => ownT_two w1 ⟨1, 0, s⟩ (mkT 58) w.heap.size h)
 generalize hL : [(⟨1, 0, s⟩ : Tk), mkT 58] = L at *
 clear hL hbW rM ht hn
 unfold mkT mkS at OW
 unfold Tk.v Tk.cs at M1 M2
 simp only at M1 M2 OW
 go_enter Tryz.func42, Tryz.ntmps42
 go_wp2_with fail
 refine (uh M1).mono ?_
 rintro r w1 ⟨rfl, hb1⟩
 have B1 := hide ((uh BW).trans (hb1.mono (uh BW).size))
 clear hb1 BW M1 C0 C1 C2
 go_wp2_with fail
 refine (uh M2 _).mono ?_
 rintro r w2 ⟨rfl, hb2⟩
 have B2 := hide ((uh B1).trans (hb2.mono (uh B1).size))
 have OV := hide (uh OW w2 (uh B2).size)
 clear hb2 B1
 go_wp2
 go_ret
 exact ⟨_, rfl, uh OV, (uh B2).alloc (uh B2).size _⟩
theorem hd_2 (op : Int) (s : ByteArray) (n : Int) (e1 : Option Addr) (i1 j1 : Nat) (e2 : Option Addr) (i2 j2 : Nat) (w : World) (ht : TabK w) (hn : nameB s = true) : Calls Tryz.prog 42 #[.agg #[.int .i64 2, .string s, .int .i64 op, .int .i64 n, .slice e1 i1 j1, .slice e2 i2 j2]] w fun r w' => ∃ v, r = .returned v ∧ OwnT w' w.heap.size v [⟨1, 0, s⟩, mkT 61] ∧ Below w.heap.size w w' := by
 have hbW := below_new w (.cells #[.int .i64 2, .string s, .int .i64 op, .int .i64 n, .slice e1 i1 j1, .slice e2 i2 j2] 64)
 obtain ⟨W, hW⟩ : ∃ W, w.alloc (.cells #[.int .i64 2, .string s, .int .i64 op, .int .i64 n, .slice e1 i1 j1, .slice e2 i2 j2] 64) = W := ⟨_, rfl⟩
 have rM : W.heap[w.heap.size]? = some (.cells #[.int .i64 2, .string s, .int .i64 op, .int .i64 n, .slice e1 i1 j1, .slice e2 i2 j2] 64 (0, 0)) := by rw [← hW]; exact Array.getElem?_push_size
 rw [hW] at hbW
 have C0 := Lib.cell_of_heap rM 0
 have C1 := Lib.cell_of_heap rM 1
 have C2 := Lib.cell_of_heap rM 2
 have BW := hide hbW
 have M1 := hide (wordI_any s W (ht.next hbW))
 rw [name_word hn] at M1
 have M2 := hide (fun w1 => markI_any ⟨#[61]⟩ w1)
 have OW := hide (fun (w1 : World) (h : w.heap.size ≤ w1.heap.size) => ownT_two w1 ⟨1, 0, s⟩ (mkT 61) w.heap.size h)
 generalize hL : [(⟨1, 0, s⟩ : Tk), mkT 61] = L at *
 clear hL hbW rM ht hn
 unfold mkT mkS at OW
 unfold Tk.v Tk.cs at M1 M2
 simp only at M1 M2 OW
 go_enter Tryz.func42, Tryz.ntmps42
 go_wp2_with fail
 refine (uh M1).mono ?_
 rintro r w1 ⟨rfl, hb1⟩
 have B1 := hide ((uh BW).trans (hb1.mono (uh BW).size))
 clear hb1 BW M1 C0 C1 C2
 go_wp2_with fail
 refine (uh M2 _).mono ?_
 rintro r w2 ⟨rfl, hb2⟩
 have B2 := hide ((uh B1).trans (hb2.mono (uh B1).size))
 have OV := hide (uh OW w2 (uh B2).size)
 clear hb2 B1
 go_wp2
 go_ret
 exact ⟨_, rfl, uh OV, (uh B2).alloc (uh B2).size _⟩
theorem hd_3 (o : Nat) (h1 : 1 ≤ o) (h24 : o < 24) (s : ByteArray) (n : Int) (e1 : Option Addr) (i1 j1 : Nat) (e2 : Option Addr) (i2 j2 : Nat) (w : World) (ht : TabK w) : Calls Tryz.prog 42 #[.agg #[.int .i64 3, .string s, .int .i64 (o : Int), .int .i64 n, .slice e1 i1 j1, .slice e2 i2 j2]] w fun r w' => ∃ v, r = .returned v ∧ OwnT w' w.heap.size v [kpT (o - 1)] ∧ Below w.heap.size w w' := by
 have hbW := below_new w (.cells #[.int .i64 3, .string s, .int .i64 (o : Int), .int .i64 n, .slice e1 i1 j1, .slice e2 i2 j2] 64)
 obtain ⟨W, hW⟩ : ∃ W, w.alloc (.cells #[.int .i64 3, .string s, .int .i64 (o : Int), .int .i64 n, .slice e1 i1 j1, .slice e2 i2 j2] 64) = W := ⟨_, rfl⟩
 have rM : W.heap[w.heap.size]? = some (.cells #[.int .i64 3, .string s, .int .i64 (o : Int), .int .i64 n, .slice e1 i1 j1, .slice e2 i2 j2] 64 (0, 0)) := by rw [← hW]; exact Array.getElem?_push_size
 rw [hW] at hbW
 have C0 := Lib.cell_of_heap rM 0
 have C1 := Lib.cell_of_heap rM 1
 have C2 := Lib.cell_of_heap rM 2
 have BW := hide hbW
 have M1 := hide (wordI_any (opL.getD o E0) W (ht.next hbW))
 rw [opw_word o h1 h24] at M1
 have c := (ht.next hbW).opw o h24
 have g1 : (o : Int) < 24 := by omega
 have g0 : (0 : Int) ≤ (o : Int) := by omega
 have g2 : ¬ ((o : Int) < 0) := by omega
 have g3 : ¬ ((24 : Int) ≤ (o : Int)) := by omega
 generalize opL.getD o E0 = os at *
 have OW := hide (fun (w1 : World) (h : w.heap.size ≤ w1.heap.size) => ownT_new w1 (kpT (o - 1)) w.heap.size h)
 generalize kpT (o - 1) = kt at *
 clear hbW rM ht h1 h24
 unfold Tk.v at M1
 unfold Tk.cs at M1 OW
 go_enter Tryz.func42, Tryz.ntmps42
 go_wp2_with fail
 refine (uh M1).mono ?_
 rintro r w1 ⟨rfl, hb1⟩
 have B1 := hide ((uh BW).trans (hb1.mono (uh BW).size))
 have OV := hide (uh OW w1 (uh B1).size)
 clear hb1 BW M1
 go_wp2
 go_ret
 exact ⟨_, rfl, uh OV, (uh B1).alloc (uh B1).size _⟩
theorem hd_4 (op : Int) (s : ByteArray) (n : Int) (e1 : Option Addr) (i1 j1 : Nat) (e2 : Option Addr) (i2 j2 : Nat) (w : World) (hd : TabD w) : Calls Tryz.prog 42 #[.agg #[.int .i64 4, .string s, .int .i64 op, .int .i64 n, .slice e1 i1 j1, .slice e2 i2 j2]] w fun r w' => ∃ v, r = .returned v ∧ OwnT w' w.heap.size v [⟨3, 0, ⟨#[46, 119, 111, 114, 100]⟩⟩] ∧ Below w.heap.size w w' := by
 have hbW := below_new w (.cells #[.int .i64 4, .string s, .int .i64 op, .int .i64 n, .slice e1 i1 j1, .slice e2 i2 j2] 64)
 obtain ⟨W, hW⟩ : ∃ W, w.alloc (.cells #[.int .i64 4, .string s, .int .i64 op, .int .i64 n, .slice e1 i1 j1, .slice e2 i2 j2] 64) = W := ⟨_, rfl⟩
 have rM : W.heap[w.heap.size]? = some (.cells #[.int .i64 4, .string s, .int .i64 op, .int .i64 n, .slice e1 i1 j1, .slice e2 i2 j2] 64 (0, 0)) := by rw [← hW]; exact Array.getElem?_push_size
 rw [hW] at hbW
 have C0 := Lib.cell_of_heap rM 0
 have C1 := Lib.cell_of_heap rM 1
 have C2 := Lib.cell_of_heap rM 2
 have BW := hide hbW
 have c := (hd.next hbW).at4
 have OV := hide (ownT_new W ⟨3, 0, ⟨#[46, 119, 111, 114, 100]⟩⟩ w.heap.size hbW.size)
 unfold Tk.cs at OV
 simp only at OV
 clear hbW rM hd
 go_enter Tryz.func42, Tryz.ntmps42
 go_wp2
 go_ret
 exact ⟨_, rfl, uh OV, (uh BW).alloc (uh BW).size _⟩
theorem hd_5 (op : Int) (s : ByteArray) (n : Int) (e1 : Option Addr) (i1 j1 : Nat) (e2 : Option Addr) (i2 j2 : Nat) (w : World) (hd : TabD w) : Calls Tryz.prog 42 #[.agg #[.int .i64 5, .string s, .int .i64 op, .int .i64 n, .slice e1 i1 j1, .slice e2 i2 j2]] w fun r w' => ∃ v, r = .returned v ∧ OwnT w' w.heap.size v [⟨3, 0, ⟨#[46, 98, 108, 107, 119]⟩⟩] ∧ Below w.heap.size w w' := by
 have hbW := below_new w (.cells #[.int .i64 5, .string s, .int .i64 op, .int .i64 n, .slice e1 i1 j1, .slice e2 i2 j2] 64)
 obtain ⟨W, hW⟩ : ∃ W, w.alloc (.cells #[.int .i64 5, .string s, .int .i64 op, .int .i64 n, .slice e1 i1 j1, .slice e2 i2 j2] 64) = W := ⟨_, rfl⟩
 have rM : W.heap[w.heap.size]? = some (.cells #[.int .i64 5, .string s, .int .i64 op, .int .i64 n, .slice e1 i1 j1, .slice e2 i2 j2] 64 (0, 0)) := by rw [← hW]; exact Array.getElem?_push_size
 rw [hW] at hbW
 have C0 := Lib.cell_of_heap rM 0
 have C1 := Lib.cell_of_heap rM 1
 have C2 := Lib.cell_of_heap rM 2
 have BW := hide hbW
 have c := (hd.next hbW).at5
 have OV := hide (ownT_new W ⟨3, 0, ⟨#[46, 98, 108, 107, 119]⟩⟩ w.heap.size hbW.size)
 unfold Tk.cs at OV
 simp only at OV
 clear hbW rM hd
 go_enter Tryz.func42, Tryz.ntmps42
 go_wp2
 go_ret
 exact ⟨_, rfl, uh OV, (uh BW).alloc (uh BW).size _⟩
theorem hd_6 (op : Int) (s : ByteArray) (n : Int) (e1 : Option Addr) (i1 j1 : Nat) (e2 : Option Addr) (i2 j2 : Nat) (w : World) (hd : TabD w) : Calls Tryz.prog 42 #[.agg #[.int .i64 6, .string s, .int .i64 op, .int .i64 n, .slice e1 i1 j1, .slice e2 i2 j2]] w fun r w' => ∃ v, r = .returned v ∧ OwnT w' w.heap.size v [⟨3, 0, ⟨#[46, 115, 101, 99, 116]⟩⟩] ∧ Below w.heap.size w w' := by
 have hbW := below_new w (.cells #[.int .i64 6, .string s, .int .i64 op, .int .i64 n, .slice e1 i1 j1, .slice e2 i2 j2] 64)
 obtain ⟨W, hW⟩ : ∃ W, w.alloc (.cells #[.int .i64 6, .string s, .int .i64 op, .int .i64 n, .slice e1 i1 j1, .slice e2 i2 j2] 64) = W := ⟨_, rfl⟩
 have rM : W.heap[w.heap.size]? = some (.cells #[.int .i64 6, .string s, .int .i64 op, .int .i64 n, .slice e1 i1 j1, .slice e2 i2 j2] 64 (0, 0)) := by rw [← hW]; exact Array.getElem?_push_size
 rw [hW] at hbW
 have C0 := Lib.cell_of_heap rM 0
 have C1 := Lib.cell_of_heap rM 1
 have C2 := Lib.cell_of_heap rM 2
 have BW := hide hbW
 have c := (hd.next hbW).at6
 have OV := hide (ownT_new W ⟨3, 0, ⟨#[46, 115, 101, 99, 116]⟩⟩ w.heap.size hbW.size)
 unfold Tk.cs at OV
 simp only at OV
 clear hbW rM hd
 go_enter Tryz.func42, Tryz.ntmps42
 go_wp2
 go_ret
 exact ⟨_, rfl, uh OV, (uh BW).alloc (uh BW).size _⟩
theorem hd_7 (op : Int) (s : ByteArray) (n : Int) (e1 : Option Addr) (i1 j1 : Nat) (e2 : Option Addr) (i2 j2 : Nat) (w : World) (hd : TabD w) : Calls Tryz.prog 42 #[.agg #[.int .i64 7, .string s, .int .i64 op, .int .i64 n, .slice e1 i1 j1, .slice e2 i2 j2]] w fun r w' => ∃ v, r = .returned v ∧ OwnT w' w.heap.size v [⟨3, 0, ⟨#[46, 103, 108, 111, 98, 108]⟩⟩] ∧ Below w.heap.size w w' := by
 have hbW := below_new w (.cells #[.int .i64 7, .string s, .int .i64 op, .int .i64 n, .slice e1 i1 j1, .slice e2 i2 j2] 64)
 obtain ⟨W, hW⟩ : ∃ W, w.alloc (.cells #[.int .i64 7, .string s, .int .i64 op, .int .i64 n, .slice e1 i1 j1, .slice e2 i2 j2] 64) = W := ⟨_, rfl⟩
 have rM : W.heap[w.heap.size]? = some (.cells #[.int .i64 7, .string s, .int .i64 op, .int .i64 n, .slice e1 i1 j1, .slice e2 i2 j2] 64 (0, 0)) := by rw [← hW]; exact Array.getElem?_push_size
 rw [hW] at hbW
 have C0 := Lib.cell_of_heap rM 0
 have C1 := Lib.cell_of_heap rM 1
 have C2 := Lib.cell_of_heap rM 2
 have BW := hide hbW
 have c := (hd.next hbW).at7
 have OV := hide (ownT_new W ⟨3, 0, ⟨#[46, 103, 108, 111, 98, 108]⟩⟩ w.heap.size hbW.size)
 unfold Tk.cs at OV
 simp only at OV
 clear hbW rM hd
 go_enter Tryz.func42, Tryz.ntmps42
 go_wp2
 go_ret
 exact ⟨_, rfl, uh OV, (uh BW).alloc (uh BW).size _⟩
theorem hd_8 (op : Int) (s : ByteArray) (n : Int) (e1 : Option Addr) (i1 j1 : Nat) (e2 : Option Addr) (i2 j2 : Nat) (w : World) (hd : TabD w) : Calls Tryz.prog 42 #[.agg #[.int .i64 8, .string s, .int .i64 op, .int .i64 n, .slice e1 i1 j1, .slice e2 i2 j2]] w fun r w' => ∃ v, r = .returned v ∧ OwnT w' w.heap.size v [⟨3, 0, ⟨#[46, 101, 110, 100]⟩⟩] ∧ Below w.heap.size w w' := by
 have hbW := below_new w (.cells #[.int .i64 8, .string s, .int .i64 op, .int .i64 n, .slice e1 i1 j1, .slice e2 i2 j2] 64)
 obtain ⟨W, hW⟩ : ∃ W, w.alloc (.cells #[.int .i64 8, .string s, .int .i64 op, .int .i64 n, .slice e1 i1 j1, .slice e2 i2 j2] 64) = W := ⟨_, rfl⟩
 have rM : W.heap[w.heap.size]? = some (.cells #[.int .i64 8, .string s, .int .i64 op, .int .i64 n, .slice e1 i1 j1, .slice e2 i2 j2] 64 (0, 0)) := by rw [← hW]; exact Array.getElem?_push_size
 rw [hW] at hbW
 have C0 := Lib.cell_of_heap rM 0
 have C1 := Lib.cell_of_heap rM 1
 have C2 := Lib.cell_of_heap rM 2
 have BW := hide hbW
 have c := (hd.next hbW).at8
 have OV := hide (ownT_new W ⟨3, 0, ⟨#[46, 101, 110, 100]⟩⟩ w.heap.size hbW.size)
 unfold Tk.cs at OV
 simp only at OV
 clear hbW rM hd
 go_enter Tryz.func42, Tryz.ntmps42
 go_wp2
 go_ret
 exact ⟨_, rfl, uh OV, (uh BW).alloc (uh BW).size _⟩
theorem hdI_any (x : Ln) (ok : lnX x = true) (e1 : Option Addr) (i1 j1 : Nat) (e2 : Option Addr) (i2 j2 : Nat) (w : World) (ht : TabK w) (hd : TabD w) : Calls Tryz.prog 42 #[.agg #[.int .i64 x.k, .string x.s, .int .i64 x.op, .int .i64 x.n, .slice e1 i1 j1, .slice e2 i2 j2]] w fun r w' => ∃ v, r = .returned v ∧ OwnT w' w.heap.size v (hdT x) ∧ Below w.heap.size w w' := by
 have hf := ln_f ok
 have hn := ln_nm ok
 clear ok
 obtain ⟨k, s, op, src, dst, n, l⟩ := x
 simp only at hf hn ⊢
 have hk : k = 0 ∨ k = 1 ∨ k = 2 ∨ k = 3 ∨ k = 4 ∨ k = 5 ∨ k = 6 ∨ k = 7 ∨ k = 8 := by omega
 rcases hk with rfl | rfl | rfl | rfl | rfl | rfl | rfl | rfl | rfl
 · exact hd_0 op s n e1 i1 j1 e2 i2 j2 w
 · exact hd_1 op s n e1 i1 j1 e2 i2 j2 w ht (hn (by simp))
 · exact hd_2 op s n e1 i1 j1 e2 i2 j2 w ht (hn (by simp))
 ·
  obtain ⟨o, rfl⟩ : ∃ o : Nat, op = (o : Int) := ⟨op.toNat, by omega⟩
  have h := hd_3 o (by omega) (by omega) s n e1 i1 j1 e2 i2 j2 w ht
  have e : hdT ⟨3, s, (o : Int), src, dst, n, l⟩ = [kpT (o - 1)] := by
   unfold hdT
   simp only
   rw [if_neg (by decide), if_neg (by decide), if_neg (by decide), if_pos trivial, show ((o : Int) - 1).toNat = o - 1 by omega]
  rw [e]
  exact h
 · exact hd_4 op s n e1 i1 j1 e2 i2 j2 w hd
 · exact hd_5 op s n e1 i1 j1 e2 i2 j2 w hd
 · exact hd_6 op s n e1 i1 j1 e2 i2 j2 w hd
 · exact hd_7 op s n e1 i1 j1 e2 i2 j2 w hd
 · exact hd_8 op s n e1 i1 j1 e2 i2 j2 w hd
def wr (n : Int) : Int := n % 65536
def d10 (x : Nat) : UInt8 := UInt8.ofNat (48 + x)
section
theorem own : ownKnob Tryz.prog.godebug = none := by kernel_rfl
theorem laidOut : laidOutB Tryz.prog = true := by kernel_rfl
section
variable {H : Type} {enc : TypeId × Value → H} {W : World} {b0 base : Nat} {spare : TypeId → Bool} {held : Bool}
end
def strData {H : Type} (L : List ByteArray) : DataW H := .agg (L.map fun s => .lit (.string s.data.toList))
theorem cells_of_strs {H : Type} {enc : TypeId × Value → H} {P : Program} {w : World} {base : Nat} {sp : Nat → Bool} {held : Bool} {fuel : Nat} {t e : TypeId} {n : Nat} {cs : List Value} {L : List ByteArray} {p : List MemPlace}
  (ht : P.underlying t = some (.array n e)) (he : P.underlying e = some .string) (hce : P.cellsOf e = 1) (hct : P.cellsOf t = n)
  (h : DataW.trod enc P w base sp held fuel t cs = some (strData L, p)) : cs = L.map Value.string := by
 cases fuel with
 | zero => simp [DataW.trod] at h
 | succ fuel =>
  simp only [DataW.trod, ht, hce, hct, Nat.mul_one] at h
  split at h
  ·
   rename_i hl
   obtain ⟨xs, hm, hx⟩ := Option.map_eq_some_iff.1 h
   have hxs : xs.map (·.1) = L.map fun s => (DataW.lit (.string s.data.toList) : DataW H) := by
    have := congrArg Prod.fst hx
    simpa [strData] using this
   have hxl : xs.length = n := by simpa using Lib.mapM_length hm
   have hzl : L.length = n := by
    have := congrArg List.length hxs
    simp at this
    omega
   apply List.ext_getElem?
   intro i
   by_cases hi : i < n
   ·
    obtain ⟨b, hb, hf⟩ := Lib.mapM_at hm i i (by simp [hi])
    obtain ⟨z, hc, rfl, _⟩ := DataW.trod_string he hf
    have h1 : cs[i]? = some (.string z) := by
     have := congrArg (·[0]?) hc
     simpa [List.getElem?_take, List.getElem?_drop] using this
    have h2 : (xs.map (·.1))[i]? = some (DataW.lit (.string z.data.toList) : DataW H) := by simp [hb]
    rw [hxs] at h2
    simp only [List.getElem?_map, Option.map_eq_some_iff, DataW.lit.injEq, Lit.string.injEq] at h2
    obtain ⟨z', hz', e⟩ := h2
    obtain rfl := bytes_inj e
    simp [h1, hz']
   · rw [List.getElem?_eq_none (by omega), List.getElem?_eq_none (by simp; omega)]
  · cases h
theorem strs_of_head {P : Program} {W : World} {name : String} {L : List ByteArray} {rest : List (String × DataW Unit)} {g : Nat} {t e : TypeId} {n : Nat}
  (hg : P.globalNamed name = some g) (hty : (P.globals[g]?).map (·.type) = some t) (ht : P.underlying t = some (.array n e)) (he : P.underlying e = some .string) (hce : P.cellsOf e = 1) (hct : P.cellsOf t = n)
  (h : laidMet P ((name, strData L) :: rest) W) : ∃ u fr, W.heap[g]? = some (.cells (L.map Value.string).toArray u fr) := by
 obtain ⟨ps, ⟨g', t', cs, fuel, p, q, hg', ht', hvar, hd, _, _⟩, _⟩ := h
 obtain rfl := Option.some.inj (hg.symm.trans hg')
 obtain rfl := Option.some.inj (hty.symm.trans ht')
 have hcs := cells_of_strs ht he hce hct hd
 unfold World.var? at hvar
 rw [hg] at hvar
 simp only [Option.bind_some] at hvar
 split at hvar
 ·
  rename_i c u fr hh
  cases hvar
  exact ⟨u, fr, by rw [hh, ← hcs]⟩
 · cases hvar
theorem gOp : Tryz.prog.globalNamed "loop.example/g00329/impl.opWords" = some 0 := by kernel_rfl
theorem tOp : (Tryz.prog.globals[0]?).map (·.type) = some 137 := by kernel_rfl
theorem gRg : Tryz.prog.globalNamed "loop.example/g00329/impl.regWords" = some 3 := by kernel_rfl
theorem tRg : (Tryz.prog.globals[3]?).map (·.type) = some 178 := by kernel_rfl
theorem opD_eq : (Rows.laid_loop_example_g00329_impl_opWords : DataW Unit) = strData opL := by kernel_rfl
theorem rgD_eq : (Rows.laid_loop_example_g00329_impl_regWords : DataW Unit) = strData wRg := by kernel_rfl
end
section
section
variable {H : Type} {enc : TypeId × Value → H} {W : World} {b0 base : Nat} {spare : TypeId → Bool} {held : Bool}
end
theorem gDb : Tryz.prog.globalNamed "math/bits.deBruijn64tab" = some 11 := by kernel_rfl
theorem tDb : (Tryz.prog.globals[11]?).map (·.type) = some 276 := by kernel_rfl
def dbT : List Int := [0, 1, 56, 2, 57, 49, 28, 3, 61, 58, 42, 50, 38, 29, 17, 4, 62, 47, 59, 36, 45, 43, 51, 22, 53, 39, 33, 30, 24, 18, 12, 5, 63, 55, 48, 27, 60, 41, 37, 16, 46, 35, 44, 21, 52, 32, 23, 11, 54, 26, 40, 15, 34, 20, 31, 10, 25, 14, 19, 9, 13, 8, 7, 6]
theorem dbT_eq : (Rows.laid_math_bits_deBruijn64tab : DataW Unit) = Lib.tabData .u8 dbT := by kernel_rfl
theorem db_of {W : World} {rest : List (String × DataW Unit)} (h : laidMet Tryz.prog (("math/bits.deBruijn64tab", Rows.laid_math_bits_deBruijn64tab) :: rest) W) : W.cell? ⟨11, 7, none⟩ = some (.int .u8 3) := by
 rw [dbT_eq] at h
 have h2 := Lib.tabIs_of_head gDb tDb Tryz.underlying276 Tryz.underlying5 (by kernel_rfl) (by kernel_rfl) h
 exact h2.cell gDb 7 (by decide)
end
section
theorem own_ty {w : World} {B m n : Nat} {t : TypeId} {v : Value} {cs : List Value} (h : w.ownsRow B t m v n cs) {g : Nat} (hg : v.ownBlock = some g) : B ≤ g ∧ ∃ cur, w.heap[g]? = some (.cells cur t (0, 0)) := by
 obtain ⟨_, ⟨rfl, _⟩ | ⟨g', cap, cur, rfl, hB, hh, r⟩⟩ := h
 · cases hg
 ·
  cases hg
  exact ⟨hB, cur, hh⟩
theorem own_two {w : World} {B B' m m' n n' : Nat} {t t' : TypeId} {v v' : Value} {cs cs' : List Value} (h : w.ownsRow B t m v n cs) (h' : w.ownsRow B' t' m' v' n' cs') (hne : t ≠ t') {g : Nat} (hg : v.ownBlock = some g) (hg' : v'.ownBlock = some g) : False := by
 obtain ⟨_, c, e⟩ := own_ty h hg
 obtain ⟨_, c', e'⟩ := own_ty h' hg'
 rw [e] at e'
 injection e' with e'
 injection e' with _ e'
 exact hne e'
def OwnL (w : World) (B : Nat) (v : Value) (ps : List (List Tk)) : Prop := ∃ vs : List Value, vs.length = ps.length ∧ w.ownsRow B 39 1 v ps.length vs ∧ ∀ i, i < ps.length → OwnT w B (vs.getD i undef) (ps.getD i [])
theorem ownL_none (w : World) (B : Nat) : OwnL w B (.slice none 0 0) [] := ⟨[], rfl, ⟨rfl, .inl ⟨rfl, rfl⟩⟩, fun i h => by simp at h⟩
theorem OwnL.later {w w' : World} {B : Nat} {v : Value} {ps : List (List Tk)} (h : OwnL w B v ps) (hb : Below w.heap.size w w') : OwnL w' B v ps := by
 obtain ⟨vs, h1, h2, h3⟩ := h
 refine ⟨vs, h1, ?_, fun i hi => (h3 i hi).later hb⟩
 obtain ⟨k1, k2 | ⟨g, cap, cur, e, hg, hh, r⟩⟩ := h2
 · exact ⟨k1, .inl k2⟩
 · exact ⟨k1, .inr ⟨g, cap, cur, e, hg, (hb.block g (Array.getElem?_eq_some_iff.1 hh).1).trans hh, r⟩⟩
theorem OwnL.base {w : World} {B B' : Nat} {v : Value} {ps : List (List Tk)} (h : OwnL w B v ps) (hB : B' ≤ B) : OwnL w B' v ps := by
 obtain ⟨vs, h1, h2, h3⟩ := h
 refine ⟨vs, h1, ?_, fun i hi => (h3 i hi).base hB⟩
 obtain ⟨k1, k2 | ⟨g, cap, cur, e, hg, r⟩⟩ := h2
 · exact ⟨k1, .inl k2⟩
 · exact ⟨k1, .inr ⟨g, cap, cur, e, Nat.le_trans hB hg, r⟩⟩
theorem infoL : (Tryz.prog.info? 39).map (fun i => (i.zero, i.size, i.bytes)) = some (some (.slice none 0 0), 1, 24) := by kernel_rfl
theorem OwnT.sl {w : World} {B : Nat} {v : Value} {ts : List Tk} (h : OwnT w B v ts) : v.oneCell' = true := by
 rcases h.form with ⟨rfl, _⟩ | ⟨g, cap, rfl, _⟩ <;> rfl
section
variable {ops : Array Oper} {rest : List Oper} {o : Oper} {a : Act} {Q : Exit → Act → World → Prop} {w w0 : World} {B : Nat} {K : Act → World → Prop}
theorem wp_appL (s x : Operand) (ho : o.op = .call { callee := .builtin .append, args := #[s, x], argTypes := #[68, 68] }) (hB : B ≤ w0.heap.size) (hD : Below B w0 w) {v : Value} {ps : List (List Tk)} (hs : a.eval s = v) (hown : OwnL w B v ps) (g : Nat) (p : Value) (ts : List Tk) (hx : a.eval x = .slice (some ⟨g, 0, none⟩) 1 1) (hg : w.heap[g]? = some (.cells #[p] 39 (0, 0))) (hp : OwnT w B p ts) (hl : ps.length ≤ 1000)
  (h : ∀ (v' : Value) (y : Sub B w0), OwnL y.w B v' (ps ++ [ts]) → K (a.put o.dst v') y.w) : o.wp Tryz.prog a w K Q := by
 obtain ⟨i0, hi0, hz0, hz1, hz2⟩ := info_parts infoL
 obtain ⟨vs, hv1, hv2, hv3⟩ := hown
 have hsz := hD.size
 refine wp_append_own w s x 68 ho B 39 i0 (.slice none 0 0) 1 24 Tryz.underlying68 hi0 hz0 hz1 hz2 rfl (by decide) v ps.length vs hs hv2 ⟨g, 0, none⟩ 1 1 [p] hx rfl (fun j u hj => by
  have hc := Lib.cell_of_heap hg j
  have e : (#[p] : Array Value)[j]? = some u := by rw [← hj]; simp
  have ha : (⟨g, 0, none⟩ : Addr).add j = ⟨g, j, none⟩ := by simp [Addr.add]; exact fun h => h.symm
  rw [ha]
  exact hc.trans e) (fun u hu => by rw [List.mem_singleton.1 hu]; exact hp.sl) (by unfold maxLen; omega) (by omega) (by omega) ?_
 intro v' w' h1 h2 _
 have kp : ∀ {q : Value} {us : List Tk}, OwnT w B q us → OwnT w' B q us := fun {q us} hq => hq.keep fun k hk hlt => h2.block k hlt (fun e => own_two hq hv2 (by decide) hk e.symm)
 refine h v' ⟨w', hD.grown h2 (Nat.le_trans hB hD.size) (fun k hk => (own_ty hv2 hk).1)⟩ ⟨vs ++ [p], by simp [hv1], by rw [List.length_append]; exact h1, fun i hi => ?_⟩
 rw [List.length_append, List.length_singleton] at hi
 by_cases hlt : i < ps.length
 ·
  rw [show (vs ++ [p]).getD i undef = vs.getD i undef by simp [List.getD_eq_getElem?_getD, List.getElem?_append, show i < vs.length by omega], show (ps ++ [ts]).getD i [] = ps.getD i [] by simp [List.getD_eq_getElem?_getD, List.getElem?_append, hlt]]
  exact kp (hv3 i hlt)
 ·
  obtain rfl : i = ps.length := by omega
  rw [show (vs ++ [p]).getD ps.length undef = p by rw [← hv1]; simp [List.getD_eq_getElem?_getD], show (ps ++ [ts]).getD ps.length [] = ts by simp [List.getD_eq_getElem?_getD]]
  exact kp hp
theorem appL (hgd : o.guard = none) (s x : Operand) (ho : o.op = .call { callee := .builtin .append, args := #[s, x], argTypes := #[68, 68] }) (hB : B ≤ w0.heap.size) (hD : Below B w0 w) {v : Value} {ps : List (List Tk)} (hs : a.eval s = v) (hown : OwnL w B v ps) (g : Nat) (p : Value) (ts : List Tk) (hx : a.eval x = .slice (some ⟨g, 0, none⟩) 1 1) (hg : w.heap[g]? = some (.cells #[p] 39 (0, 0))) (hp : OwnT w B p ts) (hl : ps.length ≤ 1000)
  (h : ∀ (v' : Value) (y : Sub B w0), OwnL y.w B v' (ps ++ [ts]) → wpList Tryz.prog ops Q rest (a.put o.dst v') y.w) : wpList Tryz.prog ops Q (o :: rest) a w :=
 wpList_plain hgd fun _ hK => wp_appL s x ho hB hD hs hown g p ts hx hg hp hl fun v' y h1 => hK _ _ (h v' y h1)
end
theorem cellsO_at : ∀ (l : List Op3) (j o : Nat), j < l.length → (cellsO l)[j * 3]? = some (l.getD j ⟨undef, 0, 0⟩).u ∧ (cellsO l)[j * 3 + 1]? = some (.int .i64 (l.getD j ⟨undef, 0, 0⟩).f) ∧ (cellsO l)[j * 3 + 2]? = some (.int .i64 (l.getD j ⟨undef, 0, 0⟩).g)
 | [], j, _, h => by simp at h
 | p :: l, 0, _, _ => by simp [cellsO]
 | p :: l, j + 1, o, h => by
  have ih := cellsO_at l j o (by simpa using h)
  simp only [cellsO, List.getD_cons_succ]
  rw [show (j + 1) * 3 = j * 3 + 3 by omega]
  exact ih
theorem ownCells {w : World} {B m n : Nat} {t : TypeId} {v : Value} {cs : List Value} (h : w.ownsRow B t m v n cs) (g : Nat) (hg : v.ownBlock = some g) (j : Nat) (u : Value) (hj : cs[j]? = some u) : w.cell? ⟨g, j, none⟩ = some u := by
 obtain ⟨h0, ⟨rfl, _⟩ | ⟨g', cap, cur, rfl, hB, hh, hn, hm, hs, ht⟩⟩ := h
 · cases hg
 ·
  cases hg
  have hlt : j < cs.length := (List.getElem?_eq_some_iff.1 hj).1
  rw [Lib.cell_of_heap hh j]
  have e : (cur.toList.take (n * m))[j]? = some u := by rw [ht]; exact hj
  rw [List.getElem?_take_of_lt (by omega)] at e
  simpa using e
theorem OwnA.cells' {w : World} {B : Nat} {v : Value} {l : List Op3} (h : OwnA w B v l) (g : Nat) (hg : v.ownBlock = some g) (j : Nat) (u : Value) (hj : (cellsO l)[j]? = some u) : w.cell? ⟨g, j, none⟩ = some u := ownCells h g hg j u hj
theorem OwnV.cells' {w : World} {B : Nat} {v : Value} {l : List Value} (h : OwnV w B v l) (g : Nat) (hg : v.ownBlock = some g) (j : Nat) (u : Value) (hj : l[j]? = some u) : w.cell? ⟨g, j, none⟩ = some u := ownCells h g hg j u hj
theorem OwnA.at_ {w : World} {B : Nat} {e : Option Addr} {i c : Nat} {l : List Op3} (h : OwnA w B (.slice e i c) l) : i = l.length ∧ ∀ j, j < l.length → ∃ g, e = some ⟨g, 0, none⟩ ∧ g < w.heap.size ∧ w.cell? ⟨g, j * 3, none⟩ = some (l.getD j ⟨undef, 0, 0⟩).u ∧ w.cell? ⟨g, j * 3 + 1, none⟩ = some (.int .i64 (l.getD j ⟨undef, 0, 0⟩).f) ∧ w.cell? ⟨g, j * 3 + 2, none⟩ = some (.int .i64 (l.getD j ⟨undef, 0, 0⟩).g) := by
 have hc := h.cells'
 obtain ⟨h0, ⟨h1, h2⟩ | ⟨g, cap, cur, he, hg, hh, hn, hm, r⟩⟩ := h
 ·
  injection h1 with h1 h3 h4
  exact ⟨by omega, fun j hj => by omega⟩
 ·
  injection he with e1 e2 e3
  subst e1 e2 e3
  refine ⟨rfl, fun j hj => ⟨g, rfl, (Array.getElem?_eq_some_iff.1 hh).1, ?_, ?_, ?_⟩⟩
  · exact hc g rfl (j * 3) _ (cellsO_at l j 0 hj).1
  · exact hc g rfl (j * 3 + 1) _ (cellsO_at l j 1 hj).2.1
  · exact hc g rfl (j * 3 + 2) _ (cellsO_at l j 2 hj).2.2
theorem OwnV.at_ {w : World} {B : Nat} {e : Option Addr} {i c : Nat} {l : List Value} (h : OwnV w B (.slice e i c) l) : i = l.length ∧ ∀ j, j < l.length → ∃ g, e = some ⟨g, 0, none⟩ ∧ g < w.heap.size ∧ w.cell? ⟨g, j, none⟩ = some (l.getD j undef) := by
 have hc := h.cells'
 obtain ⟨h0, ⟨h1, h2⟩ | ⟨g, cap, cur, he, hg, hh, hn, hm, r⟩⟩ := h
 ·
  injection h1 with h1 h3 h4
  exact ⟨by omega, fun j hj => by omega⟩
 ·
  injection he with e1 e2 e3
  subst e1 e2 e3
  exact ⟨rfl, fun j hj => ⟨g, rfl, (Array.getElem?_eq_some_iff.1 hh).1, hc g rfl j _ (by simp [List.getD_eq_getElem?_getD, hj])⟩⟩
end
section
def la0 : La := ⟨none, 0, none, 0, none, 0⟩
section
variable {w w' : World} {B : Nat} {v : Value} {l : List Ln} {ps : List La} {Fs : List (List Nat)}
end
theorem infoP : (Tryz.prog.info? 30).map (fun i => (i.zero, i.size, i.bytes)) = some (some (.agg #[.int .i64 0, .string ⟨#[]⟩, .int .i64 0, .int .i64 0, .int .i64 0, .int .i64 0, .int .i64 0, .string ⟨#[]⟩, .slice none 0 0, .int .i64 0, .int .i64 0, .int .i64 0, .int .i64 0, .string ⟨#[]⟩, .slice none 0 0, .int .i64 0, .slice none 0 0]), 17, 208) := by kernel_rfl
section
variable {ops : Array Oper} {rest : List Oper} {o : Oper} {a : Act} {Q : Exit → Act → World → Prop} {w w0 : World} {B : Nat} {K : Act → World → Prop}
end
end
theorem cs_len (x : Ln) (p : La) : (x.cs p).toList.length = 17 := rfl
structure RdLs (w : World) (v : Value) (l : List Ln) (ps : List La) : Prop where
 at_ : ∃ a c, v = .slice a l.length c ∧ ∀ i, i < l.length → ∃ g, a = some ⟨g, 0, none⟩ ∧ w.rangeAt g (i * 17) ((l.getD i ln0).cs (ps.getD i la0)).toList
 rd : ∀ i, i < l.length → RdL w (l.getD i ln0) (ps.getD i la0)
theorem RdLs.later {w w' : World} {v : Value} {l : List Ln} {ps : List La} (h : RdLs w v l ps) (hb : Below w.heap.size w w') : RdLs w' v l ps := by
 obtain ⟨⟨a, c, e, h1⟩, h2⟩ := h
 refine ⟨⟨a, c, e, fun i hi => ?_⟩, fun i hi => (h2 i hi).later hb⟩
 obtain ⟨g, e2, h3⟩ := h1 i hi
 refine ⟨g, e2, fun j u hj => ?_⟩
 exact cell_later hb (h3 j u hj)
theorem eqP_same (l : List Ln) (ps qs : List La) (va vb : Value) (w : World) (ha : RdLs w va l ps) (hb : RdLs w vb l qs) (hz : ∀ i, i < l.length → SzL (l.getD i ln0) ∧ (Ex.mk 0 0 E0 (l.getD i ln0).l).sz ≤ 1048576) (hl : l.length ≤ 1048576) : Calls Tryz.prog 34 #[va, vb] w fun r w' => r = .returned (.bool true) ∧ Below w.heap.size w w' := by
 obtain ⟨⟨a, c, rfl, h1⟩, h2⟩ := id ha
 obtain ⟨⟨b, d, rfl, k1⟩, k2⟩ := id hb
 clear h1 h2 k1 k2
 have HA := hide ha
 have HB := hide hb
 have HZ := hide hz
 clear ha hb hz
 obtain ⟨n, hn⟩ : ∃ n, l.length = n := ⟨_, rfl⟩
 rw [hn] at hl ⊢
 go_enter Tryz.func34, Tryz.ntmps34
 go_wp2
 go_loopw [5] (fun iv wr => ∃ (i : Nat) (y : Sub w.heap.size w), i ≤ n ∧ iv = .int .i64 i ∧ wr = y.w) (fun iv _ => n - (intOf iv).toNat)
 case atStart => exact ⟨0, ⟨w, Below.refl _ _⟩, Nat.zero_le _, rfl, rfl⟩
 case round =>
  obtain ⟨i, x, hi, rfl, rfl⟩ := hrel
  by_cases hln : i < n
  ·
   have hlt : i < l.length := by omega
   have c1 : (i : Int) < (n : Int) := by omega
   obtain ⟨⟨a', c', e1, h1⟩, h2⟩ := id (uh HA)
   obtain ⟨⟨b', d', e2, k1⟩, k2⟩ := id (uh HB)
   injection e1 with e1 _ e1c
   injection e2 with e2 _ e2c
   clear e1c e2c
   subst e1 e2
   obtain ⟨ga, rfl, ra⟩ := h1 i hlt
   obtain ⟨gb, rfl, rb⟩ := k1 i hlt
   have RA : ∀ (y : Sub w.heap.size w) (j : Nat) (v : Value), ((l.getD i ln0).cs (ps.getD i la0)).toList[j]? = some v → y.w.cell? ⟨ga, i * 17 + j, none⟩ = some v := fun y j v hv => cell_later y.h (ra j v hv)
   have RB : ∀ (y : Sub w.heap.size w) (j : Nat) (v : Value), ((l.getD i ln0).cs (qs.getD i la0)).toList[j]? = some v → y.w.cell? ⟨gb, i * 17 + j, none⟩ = some v := fun y j v hv => cell_later y.h (rb j v hv)
   have d0 : ∀ y : Sub w.heap.size w, y.w.cell? ⟨ga, i * 17, none⟩ = _ := fun y => RA y 0 _ rfl
   have d1 : ∀ y : Sub w.heap.size w, y.w.cell? ⟨ga, i * 17 + 1, none⟩ = _ := fun y => RA y 1 _ rfl
   have d2 : ∀ y : Sub w.heap.size w, y.w.cell? ⟨ga, i * 17 + 2, none⟩ = _ := fun y => RA y 2 _ rfl
   have d3 : ∀ y : Sub w.heap.size w, y.w.cell? ⟨ga, i * 17 + 3, none⟩ = _ := fun y => RA y 3 _ rfl
   have d4 : ∀ y : Sub w.heap.size w, y.w.cell? ⟨ga, i * 17 + 4, none⟩ = _ := fun y => RA y 4 _ rfl
   have d5 : ∀ y : Sub w.heap.size w, y.w.cell? ⟨ga, i * 17 + 5, none⟩ = _ := fun y => RA y 5 _ rfl
   have d6 : ∀ y : Sub w.heap.size w, y.w.cell? ⟨ga, i * 17 + 6, none⟩ = _ := fun y => RA y 6 _ rfl
   have d7 : ∀ y : Sub w.heap.size w, y.w.cell? ⟨ga, i * 17 + 7, none⟩ = _ := fun y => RA y 7 _ rfl
   have d8 : ∀ y : Sub w.heap.size w, y.w.cell? ⟨ga, i * 17 + 8, none⟩ = _ := fun y => RA y 8 _ rfl
   have d9 : ∀ y : Sub w.heap.size w, y.w.cell? ⟨ga, i * 17 + 9, none⟩ = _ := fun y => RA y 9 _ rfl
   have d10 : ∀ y : Sub w.heap.size w, y.w.cell? ⟨ga, i * 17 + 10, none⟩ = _ := fun y => RA y 10 _ rfl
   have d11 : ∀ y : Sub w.heap.size w, y.w.cell? ⟨ga, i * 17 + 11, none⟩ = _ := fun y => RA y 11 _ rfl
   have d12 : ∀ y : Sub w.heap.size w, y.w.cell? ⟨ga, i * 17 + 12, none⟩ = _ := fun y => RA y 12 _ rfl
   have d13 : ∀ y : Sub w.heap.size w, y.w.cell? ⟨ga, i * 17 + 13, none⟩ = _ := fun y => RA y 13 _ rfl
   have d14 : ∀ y : Sub w.heap.size w, y.w.cell? ⟨ga, i * 17 + 14, none⟩ = _ := fun y => RA y 14 _ rfl
   have d15 : ∀ y : Sub w.heap.size w, y.w.cell? ⟨ga, i * 17 + 15, none⟩ = _ := fun y => RA y 15 _ rfl
   have d16 : ∀ y : Sub w.heap.size w, y.w.cell? ⟨ga, i * 17 + 16, none⟩ = _ := fun y => RA y 16 _ rfl
   have f0 : ∀ y : Sub w.heap.size w, y.w.cell? ⟨gb, i * 17, none⟩ = _ := fun y => RB y 0 _ rfl
   have f1 : ∀ y : Sub w.heap.size w, y.w.cell? ⟨gb, i * 17 + 1, none⟩ = _ := fun y => RB y 1 _ rfl
   have f2 : ∀ y : Sub w.heap.size w, y.w.cell? ⟨gb, i * 17 + 2, none⟩ = _ := fun y => RB y 2 _ rfl
   have f3 : ∀ y : Sub w.heap.size w, y.w.cell? ⟨gb, i * 17 + 3, none⟩ = _ := fun y => RB y 3 _ rfl
   have f4 : ∀ y : Sub w.heap.size w, y.w.cell? ⟨gb, i * 17 + 4, none⟩ = _ := fun y => RB y 4 _ rfl
   have f5 : ∀ y : Sub w.heap.size w, y.w.cell? ⟨gb, i * 17 + 5, none⟩ = _ := fun y => RB y 5 _ rfl
   have f6 : ∀ y : Sub w.heap.size w, y.w.cell? ⟨gb, i * 17 + 6, none⟩ = _ := fun y => RB y 6 _ rfl
   have f7 : ∀ y : Sub w.heap.size w, y.w.cell? ⟨gb, i * 17 + 7, none⟩ = _ := fun y => RB y 7 _ rfl
   have f8 : ∀ y : Sub w.heap.size w, y.w.cell? ⟨gb, i * 17 + 8, none⟩ = _ := fun y => RB y 8 _ rfl
   have f9 : ∀ y : Sub w.heap.size w, y.w.cell? ⟨gb, i * 17 + 9, none⟩ = _ := fun y => RB y 9 _ rfl
   have f10 : ∀ y : Sub w.heap.size w, y.w.cell? ⟨gb, i * 17 + 10, none⟩ = _ := fun y => RB y 10 _ rfl
   have f11 : ∀ y : Sub w.heap.size w, y.w.cell? ⟨gb, i * 17 + 11, none⟩ = _ := fun y => RB y 11 _ rfl
   have f12 : ∀ y : Sub w.heap.size w, y.w.cell? ⟨gb, i * 17 + 12, none⟩ = _ := fun y => RB y 12 _ rfl
   have f13 : ∀ y : Sub w.heap.size w, y.w.cell? ⟨gb, i * 17 + 13, none⟩ = _ := fun y => RB y 13 _ rfl
   have f14 : ∀ y : Sub w.heap.size w, y.w.cell? ⟨gb, i * 17 + 14, none⟩ = _ := fun y => RB y 14 _ rfl
   have f15 : ∀ y : Sub w.heap.size w, y.w.cell? ⟨gb, i * 17 + 15, none⟩ = _ := fun y => RB y 15 _ rfl
   have f16 : ∀ y : Sub w.heap.size w, y.w.cell? ⟨gb, i * 17 + 16, none⟩ = _ := fun y => RB y 16 _ rfl
   have HE := hide (fun y : Sub w.heap.size w => eqL_same _ _ _ y.w ((h2 i hlt).later y.h) ((k2 i hlt).later y.h) (uh HZ i hlt).1 (uh HZ i hlt).2)
   have ne := Sub.ne w.heap.size w
   have HQ := hide (Nat.le_refl w.heap.size)
   clear h1 h2 k1 k2 ra rb HA HB HZ RA RB hlt hn
   unfold Ln.cs at HE
   generalize l.getD i ln0 = X at *
   generalize ps.getD i la0 = p at *
   generalize qs.getD i la0 = q at *
   go_wp2_with fail
   refine wp_region_sub x (by kernel_rfl) (by kernel_rfl) ?_
   repeat (go_big_quiet_step (first | (go_at_call 31; exact Sub.call (uh HQ) (uh HE _))))
   refine wpQuiet_nil ?_
   intro y
   go_wp2
   go_roundw
   case rel => exact ⟨i + 1, y, by omega, by go_num, rfl⟩
   case measure => simp [intOf]; omega
  ·
   have c1 : ¬ (i : Int) < (n : Int) := by omega
   go_wp2
   go_ret
   exact ⟨rfl, x.h⟩
section
section
variable {H : Type} {enc : TypeId × Value → H} {W : World} {b0 base : Nat} {spare : TypeId → Bool} {held : Bool}
theorem trod_exs (fuel : Nat) (cs : List Value) (x : DataW H × List MemPlace) (hf : DataW.trod enc Tryz.prog W base spare held fuel 115 cs = some x) : ∃ (e : Ex) (b : Option Addr) (cap : Nat), cs = [.slice b e.l.length cap] ∧ RdX W 0 e b ∧ Fit e := by
 have hc : Tryz.prog.cellsOf 117 = 4 := by kernel_rfl
 rcases DataW.trod_slice Tryz.underlying115 hf with ⟨hcs, _⟩ | ⟨a, len, cap, elems, rest, q, hq, hcs, _, hb, hl, hm, hel, hx, _, _⟩
 ·
  subst hcs
  exact ⟨⟨0, 0, E0, []⟩, none, 0, rfl, (RdX_eq _ _ _ _).2 (.inl rfl), (Fit_eq _).2 ⟨by decide, by simp, fun i hi => by simp at hi⟩⟩
 ·
  subst hcs
  have each : ∀ i, i < len → ∃ t : Ex, (W.cell? (a.add (i * 4)) = some (.int .i64 t.k) ∧ W.cell? (a.add (i * 4 + 1)) = some (.int .i64 t.n) ∧ W.cell? (a.add (i * 4 + 2)) = some (.string t.s) ∧ ∃ c cap, W.cell? (a.add (i * 4 + 3)) = some (.slice c t.l.length cap) ∧ RdX W 0 t c) ∧ Fit t := fun i hi => by
   have h4 := hx i hi
   rw [List.getElem?_eq_getElem (by omega), Option.bind_eq_some_iff] at h4
   obtain ⟨cs', p1, p2⟩ := h4
   rw [hc] at p1
   obtain ⟨_, hlen', hcell⟩ := World.cells?_some p1
   obtain ⟨t, c, cap', hcs', hrd, hft⟩ := trod_ex _ cs' _ p2
   refine ⟨t, ⟨?_, ?_, ?_, c, cap', ?_, hrd⟩, hft⟩
   · have e := hcell 0 (by omega); rw [_root_.Go.Deep.add_add, hcs'] at e; simpa using e
   · have e := hcell 1 (by omega); rw [_root_.Go.Deep.add_add, hcs'] at e; simpa using e
   · have e := hcell 2 (by omega); rw [_root_.Go.Deep.add_add, hcs'] at e; simpa using e
   · have e := hcell 3 (by omega); rw [_root_.Go.Deep.add_add, hcs'] at e; simpa using e
  obtain ⟨T, hT⟩ := @_root_.Go.Deep.choose_lt Ex ⟨X0⟩ _ _ each
  have hL : ((List.range len).map T).length = len := by simp
  have hat : ∀ i, i < len → xAt ((List.range len).map T) i = T i := fun i hi => by
   unfold xAt
   rw [List.getD_eq_getElem?_getD, List.getElem?_map, List.getElem?_range hi]
   rfl
  refine ⟨⟨0, 0, E0, (List.range len).map T⟩, some a, cap, by simp [hL], (RdX_eq _ _ _ _).2 ?_, (Fit_eq _).2 ⟨show E0.size ≤ 9223372036854775807 by decide, ?_, fun i hi => ?_⟩⟩
  ·
   by_cases h0 : len = 0
   · subst h0; exact .inl rfl
   ·
    right
    obtain ⟨b, off, spot⟩ := a
    have h00 := (hT 0 (by omega)).1.1
    have hspot : spot = none := by simpa [Addr.add] using World.cell?_spot h00
    subst hspot
    have hadd : ∀ j, (⟨b, off, none⟩ : Addr).add j = ⟨b, off + j, none⟩ := fun j => by
     unfold Addr.add
     by_cases hj : j = 0
     · subst hj; simp
     · simp [hj]
    refine ⟨b, off, rfl, Nat.zero_le _, World.block_lt_of_cell? W _ h00, fun i hi => ?_⟩
    have hi : i < len := by simpa using hi
    show OneX W 0 b (off + i * 4) (xAt ((List.range len).map T) i)
    rw [hat i hi]
    have h3 := (hT i hi).1
    rw [hadd, hadd, hadd, hadd] at h3
    exact h3
  ·
   show ((List.range len).map T).length ≤ _
   rw [hL]; unfold maxLen at hm; omega
  ·
   have hi : i < len := by simpa using hi
   show Fit (xAt ((List.range len).map T) i)
   rw [hat i hi]
   exact (hT i hi).2
theorem trod_ag (fuel : Nat) (cs : List Value) (x : DataW H × List MemPlace) (h : DataW.trod enc Tryz.prog W base spare held fuel 119 cs = some x) : ∃ (a : Ag) (b : Option Addr) (cap : Nat), cs = [.int .i64 a.f, .int .i64 a.r, .int .i64 a.e.k, .int .i64 a.e.n, .string a.e.s, .slice b a.e.l.length cap] ∧ RdX W 0 a.e b ∧ Fit a.e := by
 obtain ⟨xs, n, hf, rfl, hl, hlen, hfs⟩ := DataW.trod_struct Tryz.underlying119 h
 have hc : Tryz.prog.cellsOf 119 = 6 := by kernel_rfl
 have hc4 : Tryz.prog.cellsOf 117 = 4 := by kernel_rfl
 have hc3 : Tryz.prog.cellsOf 3 = 1 := by kernel_rfl
 rw [hc] at hl
 match cs, hl with
 | [c0, c1, c2, c3, c4, c5], _ =>
  match xs, hlen with
  | [y0, y1, y2], _ =>
   obtain ⟨m, e0, _, w0⟩ := DataW.trod_int Tryz.underlying3 (hfs 0 _ rfl)
   obtain ⟨r, e1, _, w1⟩ := DataW.trod_int Tryz.underlying3 (hfs 1 _ rfl)
   obtain ⟨e, b, cap, e2, h1, h2⟩ := trod_ex _ _ _ (hfs 2 _ rfl)
   simp [hc3, hc4] at e0 e1 e2
   obtain ⟨q2, q3, q4, q5⟩ := e2
   subst e0 e1 q2 q3 q4 q5
   exact ⟨⟨m, r, e⟩, b, cap, rfl, h1, h2⟩
theorem trod_ln (fuel : Nat) (cs : List Value) (x : DataW H × List MemPlace) (h : DataW.trod enc Tryz.prog W base spare held fuel 121 cs = some x) : ∃ (l : Ln) (p : La), cs = (l.cs p).toList ∧ RdL W l p ∧ FtL l := by
 obtain ⟨xs, n, hf, rfl, hl, hlen, hfs⟩ := DataW.trod_struct Tryz.underlying121 h
 have hc : Tryz.prog.cellsOf 121 = 17 := by kernel_rfl
 have hc6 : Tryz.prog.cellsOf 119 = 6 := by kernel_rfl
 have hc3 : Tryz.prog.cellsOf 3 = 1 := by kernel_rfl
 have hc9 : Tryz.prog.cellsOf 9 = 1 := by kernel_rfl
 have hcl : Tryz.prog.cellsOf 115 = 1 := by kernel_rfl
 rw [hc] at hl
 match cs, hl with
 | [c0, c1, c2, c3, c4, c5, c6, c7, c8, c9, c10, c11, c12, c13, c14, c15, c16], _ =>
  match xs, hlen with
  | [y0, y1, y2, y3, y4, y5, y6], _ =>
   obtain ⟨k, e0, _, w0⟩ := DataW.trod_int Tryz.underlying3 (hfs 0 _ rfl)
   obtain ⟨s, e1, _, w1⟩ := DataW.trod_string Tryz.underlying9 (hfs 1 _ rfl)
   obtain ⟨o, e2, _, w2⟩ := DataW.trod_int Tryz.underlying3 (hfs 2 _ rfl)
   obtain ⟨a, b1, q1, e3, ra, fa⟩ := trod_ag _ _ _ (hfs 3 _ rfl)
   obtain ⟨b, b2, q2, e4, rb, fb⟩ := trod_ag _ _ _ (hfs 4 _ rfl)
   obtain ⟨m, e5, _, w5⟩ := DataW.trod_int Tryz.underlying3 (hfs 5 _ rfl)
   obtain ⟨t, b3, q3, e6, rt, ft⟩ := trod_exs _ _ _ (hfs 6 _ rfl)
   simp [hc3, hc6, hc9, hcl] at e0 e1 e2 e3 e4 e5 e6
   obtain ⟨u3, u4, u5, u6, u7, u8⟩ := e3
   obtain ⟨v3, v4, v5, v6, v7, v8⟩ := e4
   subst e0 e1 e2 e5 e6 u3 u4 u5 u6 u7 u8 v3 v4 v5 v6 v7 v8
   have hs9 : s.size ≤ 9223372036854775807 := by have := w1; unfold maxLen at this; omega
   exact ⟨⟨k, s, o, a, b, m, t.l⟩, ⟨b1, q1, b2, q2, b3, q3⟩, rfl, ⟨ra, rb, (RdX_eq W 0 ⟨0, 0, E0, t.l⟩ b3).2 ((RdX_eq W 0 t b3).1 rt)⟩, ⟨hs9, fa, fb, fit_l ft⟩⟩
end
end
section
structure RdLa (w : World) (a : Option Addr) (l : List Ln) (ps : List La) : Prop where
 at_ : l = [] ∨ ∃ g off, a = some ⟨g, off, none⟩ ∧ ∀ i, i < l.length → w.rangeAt g (off + i * 17) ((l.getD i ln0).cs (ps.getD i la0)).toList
 rd : ∀ i, i < l.length → RdL w (l.getD i ln0) (ps.getD i la0)
 ft : ∀ i, i < l.length → FtL (l.getD i ln0)
 max : l.length ≤ 9223372036854775807
theorem RdLa.later {w w' : World} {a : Option Addr} {l : List Ln} {ps : List La} (h : RdLa w a l ps) (hb : Below w.heap.size w w') : RdLa w' a l ps := by
 refine ⟨?_, fun i hi => (h.rd i hi).later hb, h.ft, h.max⟩
 rcases h.at_ with e | ⟨g, off, e, h1⟩
 · exact .inl e
 · exact .inr ⟨g, off, e, fun i hi j u hj => cell_later hb (h1 i hi j u hj)⟩
section
variable {H : Type} {enc : TypeId × Value → H} {W : World} {b0 base : Nat} {spare : TypeId → Bool} {held : Bool}
theorem open_lns {r : Reach} {v : Value} {d : DataW H} {p : List MemPlace} (hv : Value.okWide Tryz.prog W r b0 54 v) (h : DataW.Trod enc Tryz.prog W base spare held 54 v d p) : ∃ a cap l ps, v = .slice a l.length cap ∧ RdLa W a l ps := by
 obtain ⟨a, len, cap, rfl⟩ := okWide_slice Tryz.underlying54 hv
 obtain ⟨fuel, hf⟩ := h
 have hc : Tryz.prog.cellsOf 121 = 17 := by kernel_rfl
 rcases _root_.Go.Deep.open_slice Tryz.underlying54 hf with ⟨hcs, _⟩ | ⟨x, l, c, m, n, D, Pl, hcs, hb, hl, hm, hmm, hx, hel⟩
 ·
  simp [Value.cells] at hcs
  obtain ⟨rfl, rfl, rfl⟩ := hcs
  exact ⟨none, 0, [], [], rfl, .inl rfl, fun i hi => by simp at hi, fun i hi => by simp at hi, by simp⟩
 ·
  simp [Value.cells] at hcs
  obtain ⟨rfl, rfl, rfl⟩ := hcs
  have hlm : len ≤ m := by rw [hmm]; split <;> omega
  have each : ∀ i, i < len → ∃ t : Ln × La, (∀ j u, (t.1.cs t.2).toList[j]? = some u → W.cell? (x.add (i * 17 + j)) = some u) ∧ RdL W t.1 t.2 ∧ FtL t.1 := fun i hi => by
   obtain ⟨cs', h1, h2⟩ := hel i (by omega)
   rw [hc] at h1
   obtain ⟨_, hlen, hcell⟩ := World.cells?_some h1
   obtain ⟨t, q, hcs', hr, hf'⟩ := trod_ln _ _ _ h2
   refine ⟨(t, q), fun j u hj => ?_, hr, hf'⟩
   have hj17 : j < 17 := by
    have := (List.getElem?_eq_some_iff.1 hj).1
    rwa [cs_len] at this
   have e := hcell j (by omega)
   rw [_root_.Go.Deep.add_add] at e
   refine e.trans ?_
   rw [← hj, hcs']
   all_goals rfl
  obtain ⟨T, hT⟩ := @_root_.Go.Deep.choose_lt (Ln × La) ⟨(ln0, la0)⟩ _ _ each
  have hlen : ((List.range len).map fun i => (T i).1).length = len := by simp
  have hat : ∀ i, i < len → ((List.range len).map fun i => (T i).1).getD i ln0 = (T i).1 := fun i hi => by
   rw [List.getD_eq_getElem?_getD, List.getElem?_map, List.getElem?_range hi]
   rfl
  have hap : ∀ i, i < len → ((List.range len).map fun i => (T i).2).getD i la0 = (T i).2 := fun i hi => by
   rw [List.getD_eq_getElem?_getD, List.getElem?_map, List.getElem?_range hi]
   rfl
  refine ⟨some x, cap, (List.range len).map fun i => (T i).1, (List.range len).map fun i => (T i).2, by rw [hlen], ?_, fun i hi => ?_, fun i hi => ?_, ?_⟩
  ·
   by_cases h0 : len = 0
   · subst h0; exact .inl rfl
   ·
    right
    obtain ⟨b, off, spot⟩ := x
    have h00 := (hT 0 (by omega)).1 0 _ rfl
    have hspot : spot = none := by simpa [Addr.add] using World.cell?_spot h00
    subst hspot
    have hadd : ∀ j, (⟨b, off, none⟩ : Addr).add j = ⟨b, off + j, none⟩ := fun j => by
     unfold Addr.add
     by_cases hj : j = 0
     · subst hj; simp
     · simp [hj]
    refine ⟨b, off, rfl, fun i hi j u hj => ?_⟩
    rw [hlen] at hi
    rw [hat i hi, hap i hi] at hj
    have h3 := (hT i hi).1 j u hj
    rw [hadd, ← Nat.add_assoc] at h3
    exact h3
  ·
   rw [hlen] at hi
   rw [hat i hi, hap i hi]
   exact (hT i hi).2.1
  ·
   rw [hlen] at hi
   rw [hat i hi]
   exact (hT i hi).2.2
  · rw [hlen]; unfold maxLen at hm; omega
end
end
def zzP (l : List Ln) : Nat := (l.map Ln.zz).sum
theorem zzP_take (l : List Ln) (k : Nat) (h : k < l.length) : zzP (l.take (k + 1)) = zzP (l.take k) + (l.getD k ln0).zz := by
 unfold zzP
 rw [List.take_succ_eq_append_getElem h, List.map_append, List.sum_append, List.getD_eq_getElem?_getD, List.getElem?_eq_getElem h]
 simp
theorem zzP_le (l : List Ln) (k : Nat) : zzP (l.take k) ≤ zzP l := by
 induction l generalizing k with
 | nil => simp [zzP]
 | cons a r ih =>
  cases k with
  | zero => simp [zzP]
  | succ k =>
   have := ih k
   unfold zzP at this ⊢
   simp only [List.take_succ_cons, List.map_cons, List.sum_cons]
   omega
theorem zzP_at (l : List Ln) (k : Nat) (h : k < l.length) : (l.getD k ln0).zz ≤ zzP l := by
 have h1 := zzP_take l k h
 have h2 := zzP_le l (k + 1)
 omega
theorem szLl (x : Ln) (p : La) : (Tryz.prog.info? 121).map (·.size) = some (x.cs p).toList.length := by kernel_rfl
theorem szP_any (l : List Ln) (ps : List La) (a : Option Addr) (cap : Nat) (left : Int) (w : World) (hr : RdLa w a l ps) (h0 : 0 ≤ left) (h1 : left ≤ 1048576) : Calls Tryz.prog 37 #[.slice a l.length cap, .int .i64 left] w fun r w' => r = .returned (.int .i64 (lessX left (l.length + zzP l))) ∧ Below w.heap.size w w' := by
 have hm := hr.max
 have HR := hide hr
 clear hr
 obtain ⟨len, hl⟩ : ∃ len, l.length = len := ⟨_, rfl⟩
 rw [hl] at hm ⊢
 by_cases hbig : left - (len : Int) < 0
 ·
  have E := hide (show lessX left (len + zzP l) = -1 by unfold lessX; rw [if_pos (by omega)])
  rw [uh E]
  go_enter Tryz.func37, Tryz.ntmps37
  go_wp2
  go_ret
  exact ⟨rfl, Below.refl _ _⟩
 ·
  obtain ⟨T, hT⟩ : ∃ T, lessX left (len + zzP l) = T := ⟨_, rfl⟩
  have HT := hide hT
  rw [hT]
  clear hT
  go_enter Tryz.func37, Tryz.ntmps37
  go_wp2
  go_loopw [1, 5] (fun lv i wr => ∃ k : Nat, k ≤ len ∧ i = .int .i64 k ∧ 0 ≤ left - (len : Int) - (zzP (l.take k) : Int) ∧ lv = .int .i64 (left - len - zzP (l.take k)) ∧ Below w.heap.size w wr) (fun _ i _ => len - (intOf i).toNat)
  case atStart => exact ⟨0, Nat.zero_le _, rfl, by simp [zzP]; omega, by simp [zzP], Below.refl _ _⟩
  case round =>
   obtain ⟨k, hk, rfl, hs, rfl, hb⟩ := hrel
   by_cases hlt : k < len
   ·
    have hkl : k < l.length := by omega
    obtain ⟨g, off, rfl, ra⟩ := (uh HR).at_.resolve_left (fun e => by rw [e] at hl; simp at hl; omega)
    have RG := hide (show wr.rangeAt g (off + k * 17) ((l.getD k ln0).cs (ps.getD k la0)).toList from fun j u hj => cell_later hb (ra k hkl j u hj))
    have HS := hide (szL_any (l.getD k ln0) (ps.getD k la0) (left - len - zzP (l.take k)) wr (((uh HR).rd k hkl).later hb) ((uh HR).ft k hkl) hs (by omega))
    have SO := hide (szLl (l.getD k ln0) (ps.getD k la0))
    have TA := hide (show ((l.getD k ln0).cs (ps.getD k la0)).toList.toArray = (l.getD k ln0).cs (ps.getD k la0) from rfl)
    have ST := hide (zzP_take l k hkl)
    have SL := hide (zzP_le l (k + 1))
    clear ra HR
    generalize hzs : (l.getD k ln0).zz = z at HS ST
    generalize (l.getD k ln0).cs = f at *
    generalize ps.getD k la0 = p at *
    by_cases hneg : left - (len : Int) - (zzP (l.take k) : Int) - (z : Int) < 0
    ·
     have E := hide (show T = -1 by rw [← uh HT]; unfold lessX; rw [if_pos]; have := uh ST; have := uh SL; omega)
     have E2 : lessX (left - (len : Int) - (zzP (l.take k) : Int)) z = -1 := by unfold lessX; rw [if_pos hneg]
     rw [E2] at HS
     go_wp2_with (first | ((with_reducible show wpList _ _ _ (⟨_, .load _ _, _, _, _, _⟩ :: _) _ _); refine wpList_load_mid rfl 121 _ rfl g (off + k * 17) rfl (f p).toList _ (uh RG) Tryz.underlying121 rfl (uh SO) ?_; rw [uh TA]) | (go_at_call 93; refine (uh HS).mono ?_; rintro e w1 ⟨rfl, hb1⟩))
     go_ret
     exact ⟨by rw [uh E]; rfl, hb.trans (hb1.mono hb.size)⟩
    ·
     have E2 : lessX (left - (len : Int) - (zzP (l.take k) : Int)) z = left - (len : Int) - (zzP (l.take k) : Int) - (z : Int) := by unfold lessX; rw [if_neg hneg]
     rw [E2] at HS
     go_wp2_with (first | ((with_reducible show wpList _ _ _ (⟨_, .load _ _, _, _, _, _⟩ :: _) _ _); refine wpList_load_mid rfl 121 _ rfl g (off + k * 17) rfl (f p).toList _ (uh RG) Tryz.underlying121 rfl (uh SO) ?_; rw [uh TA]) | (go_at_call 93; refine (uh HS).mono ?_; rintro e w1 ⟨rfl, hb1⟩))
     go_roundw
     case rel =>
      refine ⟨k + 1, by omega, by go_num, ?_, ?_, hb.trans (hb1.mono hb.size)⟩
      · rw [uh ST]; omega
      · rw [uh ST]; congr 1; omega
     case measure => simp [intOf]; omega
   ·
    obtain rfl : k = len := by omega
    have E := hide (show l.take k = l by rw [← hl, List.take_length])
    rw [uh E] at hs
    have E2 := hide (show T = left - (k : Int) - (zzP (l.take k) : Int) by rw [← uh HT]; unfold lessX; rw [uh E, if_neg (by omega)]; omega)
    go_wp2
    go_ret
    exact ⟨by rw [uh E2]; rfl, hb⟩
theorem below_sets {B b : Nat} {a : World} (hb : B ≤ b) : ∀ (vs : List Value) (o : Nat) (w : World), Below B a w → Below B a (w.setCells b o vs)
 | [], _, _, h => h
 | v :: vs, o, w, h => below_sets hb vs (o + 1) _ (h.setCell (p := ⟨b, o, none⟩) hb v)
theorem size_sets (b : Nat) : ∀ (vs : List Value) (o : Nat) (w : World), (w.setCells b o vs).heap.size = w.heap.size
 | [], _, _ => rfl
 | v :: vs, o, w => by
  have := size_sets b vs (o + 1) (w.setCell ⟨b, o, none⟩ v)
  show ((w.setCell ⟨b, o, none⟩ v).setCells b (o + 1) vs).heap.size = _
  rw [this]
  simp
section
theorem NewX.sets {w : World} {B b : Nat} {e : Ex} {a : Option Addr} (h : NewX w B e a) (hb : b < B) (o : Nat) (vs : List Value) : NewX (w.setCells b o vs) B e a := by
 obtain ⟨F, h1, h2, h3⟩ := h
 exact ⟨F, OwX.keep _ _ _ (fun g hg => World.heap_setCells_other w b o vs (OwX.lt _ _ _ h1 g hg) (fun e => by have := h3 g hg; omega)) h1, h2, h3⟩
theorem NwL.sets {w : World} {B b : Nat} {x : Ln} {p : La} (h : NwL w B x p) (hb : b < B) (o : Nat) (vs : List Value) : NwL (w.setCells b o vs) B x p := ⟨h.a.sets hb o vs, h.b.sets hb o vs, h.l.sets hb o vs⟩
theorem NewX.lat {w w' : World} {B : Nat} {e : Ex} {a : Option Addr} (h : NewX w B e a) (hb : Below w.heap.size w w') : NewX w' B e a := by
 obtain ⟨F, h1, h2, h3⟩ := h
 exact ⟨F, h1.later hb, h2, h3⟩
theorem NewX.low {w : World} {B C : Nat} {e : Ex} {a : Option Addr} (h : NewX w B e a) (hc : C ≤ B) : NewX w C e a := by
 obtain ⟨F, h1, h2, h3⟩ := h
 exact ⟨F, h1, h2, fun b hb => Nat.le_trans hc (h3 b hb)⟩
structure DnL (w wr : World) (g n : Nat) (l : List Ln) (k : Nat) (qs : List La) : Prop where
 ql : qs.length = k
 at_ : ∀ i, i < k → wr.rangeAt g (i * 17) ((l.getD i ln0).cs (qs.getD i la0)).toList
 own : ∀ i, i < k → NwL wr (g + 1) (l.getD i ln0) (qs.getD i la0)
 th : wr.there g 0 (n * 17)
 gl : g < wr.heap.size
 bel : Below w.heap.size w wr
 ge : w.heap.size ≤ g
section
variable {w wr w' : World} {g n : Nat} {l : List Ln} {k : Nat} {qs : List La}
theorem DnL.later (h : DnL w wr g n l k qs) (hb : Below wr.heap.size wr w') : DnL w w' g n l k qs :=
 ⟨h.ql, fun i hi j u hj => cell_later hb (h.at_ i hi j u hj), fun i hi => ⟨(h.own i hi).a.lat hb, (h.own i hi).b.lat hb, (h.own i hi).l.lat hb⟩, fun j hj => by
  rw [hb.cell (p := ⟨g, 0 + j, none⟩) h.gl, hb.frozen (p := ⟨g, 0 + j, none⟩) h.gl]
  exact h.th j hj, Nat.lt_of_lt_of_le h.gl hb.size, h.bel.trans (hb.mono h.bel.size), h.ge⟩
theorem DnL.room (h : DnL w wr g n l k qs) (hk : k < n) (x : Ln) (q : La) : wr.there g (k * 17) (x.cs q).size := fun j hj => by
 have hj : j < 17 := hj
 have := h.th (k * 17 + j) (by omega)
 rwa [Nat.zero_add] at this
theorem DnL.put (h : DnL w wr g n l k qs) (hk : k < n) (q : La) (hq : NwL wr (g + 1) (l.getD k ln0) q) : DnL w (wr.setCells g (k * 17) ((l.getD k ln0).cs q).toList) g n l (k + 1) (qs ++ [q]) := by
 have hg1 : ∀ i, i < k → (qs ++ [q]).getD i la0 = qs.getD i la0 := fun i hi => by
  rw [List.getD_eq_getElem?_getD, List.getD_eq_getElem?_getD, List.getElem?_append_left (by rw [h.ql]; exact hi)]
 have hg2 : (qs ++ [q]).getD k la0 = q := by
  rw [List.getD_eq_getElem?_getD, List.getElem?_append_right (by rw [h.ql]; exact Nat.le_refl _), h.ql, Nat.sub_self]
  rfl
 refine ⟨by rw [List.length_append, h.ql]; rfl, fun i hi => ?_, fun i hi => ?_, World.there_setCells h.th _ _ _, by rw [size_sets]; exact h.gl, below_sets h.ge _ _ _ h.bel, h.ge⟩
 ·
  by_cases hlt : i < k
  ·
   rw [hg1 i hlt]
   exact World.rangeAt_setCells_apart (h.at_ i hlt) _ _ _ (.inr (.inl (by rw [cs_len]; omega)))
  ·
   obtain rfl : i = k := by omega
   rw [hg2]
   exact World.rangeAt_setCells_same _ _ _ _ (h.room hk _ _)
 ·
  by_cases hlt : i < k
  ·
   rw [hg1 i hlt]
   exact (h.own i hlt).sets (Nat.lt_succ_self g) _ _
  ·
   obtain rfl : i = k := by omega
   rw [hg2]
   exact hq.sets (Nat.lt_succ_self g) _ _
theorem DnL.rdp (h : DnL w wr g l.length l l.length qs) : RdLs wr (.slice (some ⟨g, 0, none⟩) l.length l.length) l qs :=
 ⟨⟨_, _, rfl, fun i hi => ⟨g, rfl, h.at_ i hi⟩⟩, fun i hi => (h.own i hi).rd⟩
end
theorem szLi (x : Ln) (p : La) : (Tryz.prog.info? 30).map (·.size) = some (x.cs p).size := by kernel_rfl
theorem cs_all (x : Ln) (p : La) : (x.cs p).all (·.oneCell') = true := by kernel_rfl
theorem toP_any (l : List Ln) (ps : List La) (a : Option Addr) (cap : Nat) (w : World) (hr : RdLa w a l ps) (hz : ∀ i, i < l.length → SzL (l.getD i ln0) ∧ (Ex.mk 0 0 E0 (l.getD i ln0).l).sz ≤ 1048576) (hl : l.length ≤ 1048576) : Calls Tryz.prog 38 #[.slice a l.length cap] w fun r w' => ∃ v qs, r = .returned v ∧ RdLs w' v l qs ∧ Below w.heap.size w w' := by
 have HR := hide hr
 have HZ := hide hz
 have FN := hide (fun (wr : World) (g : Nat) (qs : List La) (h : DnL w wr g l.length l l.length qs) => h.rdp)
 clear hr hz
 obtain ⟨len, hlen⟩ : ∃ len, l.length = len := ⟨_, rfl⟩
 rw [hlen] at hl ⊢
 rw [hlen] at FN
 obtain ⟨i0, hi, hz0, hz1, hz2⟩ := info_parts infoP
 obtain ⟨w1, hmk, hown, hgr⟩ := run_make_full (P := Tryz.prog) w w.heap.size 45 30 i0 _ 17 Tryz.underlying45 hi hz0 hz1 .i64 .i64 len (by rw [hz2]; omega) (by unfold maxLen; omega) (Nat.le_refl _)
 have O0 := hide (show DnL w w1 w.heap.size len l 0 [] from ⟨rfl, fun i hi => by omega, fun i hi => by omega, fun j hj => by
  rw [Nat.zero_add, World.ownsRow.cellAt hown j (by omega)]
  refine ⟨?_, World.ownsRow.frozenAt hown j⟩
  rw [List.getElem?_eq_getElem (by rw [hown.1]; exact hj)]
  rfl, (World.ownsRow.lt hown w.heap.size rfl).2, (Below.refl w.heap.size w).grown hgr (Nat.le_refl _) (fun k h => by cases h), Nat.le_refl _⟩)
 clear hown hgr
 go_enter Tryz.func38, Tryz.ntmps38
 go_wp2
 clear hmk
 go_loopw [4] (fun i wr => ∃ (k : Nat) (qs : List La), k ≤ len ∧ i = .int .i64 k ∧ DnL w wr w.heap.size len l k qs) (fun i _ => len - (intOf i).toNat)
 case atStart => exact ⟨0, [], Nat.zero_le _, rfl, uh O0⟩
 case round =>
  clear O0
  obtain ⟨k, qs, hk, rfl, hd⟩ := hrel
  by_cases hlt : k < len
  ·
   have hkl : k < l.length := by omega
   have hb := hd.bel
   obtain ⟨g, off, rfl, ra⟩ := (uh HR).at_.resolve_left (fun e => by rw [e] at hlen; simp at hlen; omega)
   have RG := hide (show wr.rangeAt g (off + k * 17) ((l.getD k ln0).cs (ps.getD k la0)).toList from fun j u hj => cell_later hb (ra k hkl j u hj))
   have HT := hide (toL_any (l.getD k ln0) (ps.getD k la0) wr (((uh HR).rd k hkl).later hb) (uh HZ k hkl).1 (uh HZ k hkl).2)
   have SO := hide (szLl (l.getD k ln0) (ps.getD k la0))
   have SI := hide (fun q => szLi (l.getD k ln0) q)
   have CA := hide (fun q => cs_all (l.getD k ln0) q)
   have TA := hide (show ((l.getD k ln0).cs (ps.getD k la0)).toList.toArray = (l.getD k ln0).cs (ps.getD k la0) from rfl)
   have PT := hide (fun (w2 : World) (q : La) (hb2 : Below wr.heap.size wr w2) (hq : NwL w2 wr.heap.size (l.getD k ln0) q) => ((hd.later hb2).put hlt q ⟨hq.a.low hd.gl, hq.b.low hd.gl, hq.l.low hd.gl⟩))
   have RM := hide (fun (w2 : World) (q : La) (hb2 : Below wr.heap.size wr w2) => (hd.later hb2).room hlt (l.getD k ln0) q)
   clear ra HR HZ hd hb FN
   generalize (l.getD k ln0).cs = f at *
   generalize ps.getD k la0 = p at *
   go_wp2_with ((with_reducible show wpList _ _ _ (⟨_, .load _ _, _, _, _, _⟩ :: _) _ _); refine wpList_load_mid rfl 121 _ rfl g (off + k * 17) rfl (f p).toList _ (uh RG) Tryz.underlying121 rfl (uh SO) ?_; rw [uh TA])
   refine (uh HT).mono ?_
   rintro r w2 ⟨q, rfl, hq, hb2⟩
   have P2 := hide (uh PT w2 q hb2 hq)
   have R2 := hide (uh RM w2 q hb2)
   clear hq hb2 PT RM HT RG
   go_wp2_with ((with_reducible show wpList _ _ _ (⟨_, .store _ _ _, _, _, _, _⟩ :: _) _ _); refine wpList_store_mid rfl 30 _ _ rfl w.heap.size (k * 17) (f q) rfl rfl (uh R2) (uh SI q) (uh CA q) ?_)
   go_roundw
   case rel => exact ⟨k + 1, _, by omega, by go_num, uh P2⟩
   case measure => simp [intOf]; omega
  ·
   obtain rfl : k = len := by omega
   have R1 := hide (uh FN wr _ qs hd)
   have B1 := hide hd.bel
   clear hd
   go_wp2
   go_ret
   exact ⟨_, qs, rfl, uh R1, uh B1⟩
end
set_option maxRecDepth 100000 in
theorem writeB2 (B b : Nat) (bs : List UInt8) (c : UInt8) (w : World) (h : Bd w B b bs) (hlen : bs.length ≤ 35184372088832) (hBw : B ≤ w.heap.size) :
  Calls Tryz.prog 82 #[.pointer (some ⟨b, 0, none⟩), .int .u8 (c.toNat : Int)] w fun e w' => e = .returned .nilIface ∧ Bd w' B b (bs ++ [c]) ∧ Below B w w' ∧ Kp w w' := by
 obtain ⟨i0, hi, hz0, hz1, hz2⟩ := info_parts info5b
 obtain ⟨y, hy⟩ : ∃ y : Int, (c.toNat : Int) = y := ⟨_, rfl⟩
 have HC := hide (show cellsB bs ++ [Value.int .u8 y] = cellsB (bs ++ [c]) by rw [← hy]; simp [cellsB])
 rw [hy]
 clear hy
 go_enter Tryz.func82, Tryz.ntmps82
 go_wp2_with fail
 refine (copyC B b bs w h).mono ?_
 rintro e w1 ⟨rfl, ⟨hB, v, hbk, hown, hne⟩, hb1, hkp1⟩
 have KP1 := hide hkp1
 rw [cellsB_length] at hown
 have c1 : w1.cell? ⟨b, 1, none⟩ = some v := by rw [Lib.cell_of_heap hbk]; rfl
 have s1 := hb1.size
 have HO := hide hown
 have HK := hide hbk
 have HB1 := hide hb1
 have HNE := hide hne
 have hbl : b < w1.heap.size := (Array.getElem?_eq_some_iff.1 hbk).1
 have K1 := hide (cell_one_new w1 (Value.int .u8 y) 5)
 clear h hown hbk hb1 hne hkp1
 go_wp2_with (at_builtin; go_must (refine wpList_append_own _ rfl (.tmp 11) (.tmp 13) 22 rfl B 5 i0 (.int .u8 0) 1 1 Tryz.underlying22 hi hz0 hz1 hz2 rfl (by decide) v bs.length (cellsB bs) rfl ((uh HO).alloc _) ⟨w1.heap.size, 0, none⟩ 1 1 [Value.int .u8 y] rfl rfl (uh K1) (by intro u hu; simp at hu; subst hu; rfl) (by unfold maxLen; omega) (by omega) (by simp; omega) ?_; intro v2 w2 hown2 hgrow2 _; obtain ⟨a2, cp2, hv2⟩ := ownsRow_slice hown2; subst hv2; have hbk2 : w2.heap[b]? = some (.cells #[.pointer (some ⟨b, 0, none⟩), v] 101 (0, 0)) := (hgrow2.block b (by simp; omega) (fun e => (uh HNE) e.symm)).trans ((((Below.refl w1.heap.size w1).alloc (Nat.le_refl _) (Obj.cells #[Value.int .u8 y] 5)).block b hbl).trans (uh HK)); have c2 : w2.cell? ⟨b, 1, none⟩ = some v := (by rw [Lib.cell_of_heap hbk2]; rfl); have f2 : w2.frozen? ⟨b, 1, none⟩ = false := (by simp [World.frozen?, hbk2])))
 rw [uh HC] at hown2
 have hB2 : Below B w w2 := (((uh HB1).alloc (by omega) _)).grown hgrow2 (by simp; omega) (fun k h => ((uh HO).lt k h).1)
 go_ret
 refine ⟨rfl, .inr ⟨hB, .slice a2 (bs.length + 1) cp2, ?_, ?_, ?_⟩, hB2.setCell (p := ⟨b, 1, none⟩) hB _, (uh KP1).trans ((Kp.grown ((Below.refl w1.heap.size w1).alloc (Nat.le_refl _) _) (uh HO) hgrow2).trans (Kp.set hbk2 _))⟩
 · simp [World.setCell, Array.getElem?_modify, hbk2]
 ·
  rw [cellsB_length, List.length_append]
  exact ownsRow_keep hown2 fun g hg => Below.heap_setCell _ _ _ _ (fun e => ownsRow_other hown2 hbk2 (by decide) (by rw [hg, e]))
 · exact ownsRow_other hown2 hbk2 (by decide)
set_option maxRecDepth 100000 in
theorem writeS2 (B b : Nat) (bs ts : List UInt8) (w : World) (h : Bd w B b bs) (hlen : bs.length ≤ 35184372088832) (htl : ts.length ≤ 16777216) (hBw : B ≤ w.heap.size) :
  Calls Tryz.prog 81 #[.pointer (some ⟨b, 0, none⟩), .string (strOf ts)] w fun e w' => (∃ v, e = .returned v) ∧ Bd w' B b (bs ++ ts) ∧ Below B w w' ∧ Kp w w' := by
 obtain ⟨i0, hi, hz0, hz1, hz2⟩ := info_parts info5b
 obtain ⟨s, hs⟩ : ∃ s, s = strOf ts := ⟨_, rfl⟩
 have hz : s.size = ts.length := by rw [hs, strOf_size]
 have HC := hide (show cellsB bs ++ Lib.strCells s = cellsB (bs ++ ts) by rw [cellsB_append, hs]; rfl)
 rw [← hs]
 clear hs
 go_enter Tryz.func81, Tryz.ntmps81
 go_wp2_with fail
 refine (copyC B b bs w h).mono ?_
 rintro e w1 ⟨rfl, ⟨hB, v, hbk, hown, hne⟩, hb1, hkp1⟩
 have KP1 := hide hkp1
 rw [cellsB_length] at hown
 have c1 : w1.cell? ⟨b, 1, none⟩ = some v := by rw [Lib.cell_of_heap hbk]; rfl
 have s1 := hb1.size
 have HO := hide hown
 have HK := hide hbk
 have HB1 := hide hb1
 have HNE := hide hne
 have hbl : b < w1.heap.size := (Array.getElem?_eq_some_iff.1 hbk).1
 clear h hown hbk hb1 hne hkp1
 go_wp2_with (at_builtin; go_must (refine Lib.wpList_append_own_string _ rfl _ _ 22 9 rfl B 5 i0 Tryz.underlying22 Tryz.underlying9 hi hz0 hz1 hz2 v bs.length (cellsB bs) rfl (uh HO) s rfl (by unfold maxLen; omega) (by omega) (by omega) ?_; intro v2 w2 hown2 hgrow2 _; obtain ⟨a2, cp2, hv2⟩ := ownsRow_slice hown2; subst hv2; have hbk2 : w2.heap[b]? = some (.cells #[.pointer (some ⟨b, 0, none⟩), v] 101 (0, 0)) := (hgrow2.block b hbl (fun e => (uh HNE) e.symm)).trans (uh HK); have c2 : w2.cell? ⟨b, 1, none⟩ = some v := (by rw [Lib.cell_of_heap hbk2]; rfl); have f2 : w2.frozen? ⟨b, 1, none⟩ = false := (by simp [World.frozen?, hbk2])))
 rw [uh HC] at hown2
 have hB2 : Below B w w2 := (uh HB1).grown hgrow2 (by omega) (fun k h => ((uh HO).lt k h).1)
 go_ret2
 refine ⟨⟨_, rfl⟩, .inr ⟨hB, .slice a2 (bs.length + s.size) cp2, ?_, ?_, ?_⟩, hB2.setCell (p := ⟨b, 1, none⟩) hB _, (uh KP1).trans ((Kp.grown (Below.refl _ _) (uh HO) hgrow2).trans (Kp.set hbk2 _))⟩
 ·
  simp [World.setCell, Array.getElem?_modify, hbk2]
  exact hz.symm
 ·
  rw [cellsB_length, List.length_append, ← hz]
  exact ownsRow_keep hown2 fun g hg => Below.heap_setCell _ _ _ _ (fun e => ownsRow_other hown2 hbk2 (by decide) (by rw [hg, e]))
 · exact ownsRow_other hown2 hbk2 (by decide)
def agAt (x : Ln) (j : Nat) : Ag := (lnA x).getD j ⟨0, 0, ⟨0, 0, E0, []⟩⟩
theorem agAt_mem {x : Ln} {j : Nat} (h : j < (lnA x).length) : agAt x j ∈ lnA x := by simp [agAt, List.getD_eq_getElem?_getD, h]
theorem opP_at {x : Ln} {j : Nat} (h : j < (lnA x).length) : ((lnA x).map opP).getD j ⟨undef, 0, 0⟩ = opP (agAt x j) := by simp [agAt, List.getD_eq_getElem?_getD, h]
theorem tv_at {l : List Ex} {j : Nat} (h : j < l.length) : (l.map tv).getD j undef = tv (xAt l j) := by simp [xAt, List.getD_eq_getElem?_getD, h]
theorem agT_take {x : Ln} {j : Nat} (h : j < (lnA x).length) : ((lnA x).take (j + 1)).map agT = ((lnA x).take j).map agT ++ [agT (agAt x j)] := by
 rw [List.take_succ_eq_append_getElem h, List.map_append]
 simp [agAt, List.getD_eq_getElem?_getD, h]
theorem tok_take {l : List Ex} {j : Nat} (h : j < l.length) : (l.take (j + 1)).map (toksF 6) = (l.take j).map (toksF 6) ++ [toksF 6 (xAt l j)] := by
 rw [List.take_succ_eq_append_getElem h, List.map_append]
 simp [xAt, List.getD_eq_getElem?_getD, h]
theorem opU_if (a : Ag) : IfV (opU a) := by
 unfold opU
 split
 · obtain ⟨t, x, e⟩ := tv_if a.e; exact .inr ⟨t, x, e⟩
 · exact .inl rfl
theorem ptm_new (e : Ex) (ok : okF 6 true e = true) (w : World) (hg : TabG w) : Calls Tryz.prog 104 #[.slice none 0 0, tv e] w fun r w' => ∃ v, r = .returned v ∧ OwnT w' w.heap.size v (toksF 6 e) ∧ Below w.heap.size w w' :=
 (put_all 6 (by omega) e [] (.slice none 0 0) w.heap.size w ok (ownT_none _ _) (Nat.le_refl _) (by have := mxT_le 6 (by omega); simp; omega) hg hg.lt).mono fun r w' ⟨v, h1, h2, h3, _⟩ => ⟨v, h1, by rw [List.nil_append] at h2; exact h2, h3⟩
theorem bhI_any (x : Ln) (ok : lnX x = true) (e1 : Option Addr) (i1 j1 : Nat) (e2 : Option Addr) (i2 j2 : Nat) (B : Nat) (w : World) (ha : OwnA w B (.slice e1 i1 j1) (lnO x)) (hv : OwnV w B (.slice e2 i2 j2) (x.l.map tv)) (ht : TabA w) (hg : TabG w) : Calls Tryz.prog 43 #[.agg #[.int .i64 x.k, .string x.s, .int .i64 x.op, .int .i64 x.n, .slice e1 i1 j1, .slice e2 i2 j2]] w fun r w' => ∃ v, r = .returned v ∧ OwnL w' w.heap.size v (bhT x) ∧ Below w.heap.size w w' := by
 obtain ⟨hi1, HA⟩ := ha.at_
 obtain ⟨hi2, HV⟩ := hv.at_
 rw [lnO_is, List.length_map] at hi1
 rw [List.length_map] at hi2
 rw [lnO_is] at HA
 have lo1 : i1 ≤ 2 := by rw [hi1]; exact lnA_len x
 have lo2 : i2 ≤ 6 := by rw [hi2]; exact (lnL_ok ok).2
 have AOK := hide (fun j (h : j < i1) => lnA_ok ok _ (agAt_mem (x := x) (j := j) (by omega)))
 have LOK := hide (fun j (h : j < i2) => List.all_eq_true.1 (lnL_ok ok).1 _ (xAt_mem (l := x.l) (i := j) (by omega)))
 have AC := hide (fun j (h : j < i1) => (show ∃ g, e1 = some ⟨g, 0, none⟩ ∧ g < w.heap.size ∧ w.cell? ⟨g, j * 3, none⟩ = some (opU (agAt x j)) ∧ w.cell? ⟨g, j * 3 + 1, none⟩ = some (.int .i64 (agAt x j).f) ∧ w.cell? ⟨g, j * 3 + 2, none⟩ = some (.int .i64 (agAt x j).r) by
  have h2 := HA j (by rw [List.length_map]; omega)
  rw [opP_at (x := x) (j := j) (by omega)] at h2
  exact h2))
 have VC := hide (fun j (h : j < i2) => (show ∃ g, e2 = some ⟨g, 0, none⟩ ∧ g < w.heap.size ∧ w.cell? ⟨g, j, none⟩ = some (tv (xAt x.l j)) by
  have h2 := HV j (by rw [List.length_map]; omega)
  rw [tv_at (l := x.l) (j := j) (by omega)] at h2
  exact h2))
 have TA := hide (fun j (h : j < i1) => agT_take (x := x) (j := j) (by omega))
 have TE := hide (fun j (h : j < i2) => tok_take (l := x.l) (j := j) (by omega))
 have EA := hide (show (lnA x).take i1 = lnA x by rw [hi1, List.take_length])
 have EV := hide (show x.l.take i2 = x.l by rw [hi2, List.take_length])
 have NMo := hide (ln_nm ok)
 have RGo := hide (ln_rg ok)
 have RK := hide (show x.k = 6 → regB x.op = false from fun h => by have := ln_f ok; rw [show x.op = 0 by omega]; rfl)
 obtain ⟨T, hT⟩ : ∃ T, bhT x = T := ⟨_, rfl⟩
 have HT := hide hT
 rw [hT]
 unfold bhT at HT
 clear hT HA HV hi1 hi2 ha hv ok
 have hbW := below_new w (.cells #[.int .i64 x.k, .string x.s, .int .i64 x.op, .int .i64 x.n, .slice e1 i1 j1, .slice e2 i2 j2] 64)
 obtain ⟨W, hW⟩ : ∃ W, w.alloc (.cells #[.int .i64 x.k, .string x.s, .int .i64 x.op, .int .i64 x.n, .slice e1 i1 j1, .slice e2 i2 j2] 64) = W := ⟨_, rfl⟩
 have rM : W.heap[w.heap.size]? = some (.cells #[.int .i64 x.k, .string x.s, .int .i64 x.op, .int .i64 x.n, .slice e1 i1 j1, .slice e2 i2 j2] 64 (0, 0)) := by rw [← hW]; exact Array.getElem?_push_size
 rw [hW] at hbW
 have lM := (Array.getElem?_eq_some_iff.1 rM).1
 have ne := Sub.ne W.heap.size W
 have HZ := hide (Nat.le_refl W.heap.size)
 have HB := hide (fun y : Sub W.heap.size W => hbW.trans (y.h.mono hbW.size))
 have HO := hide (fun (y : Sub W.heap.size W) v ps (h : OwnL y.w W.heap.size v ps) => h.base hbW.size)
 have C0 : ∀ y : Sub W.heap.size W, y.w.cell? ⟨w.heap.size, 0, none⟩ = some (.int .i64 x.k) := fun y => (y.h.cell (p := ⟨w.heap.size, 0, none⟩) lM).trans (Lib.cell_of_heap rM 0)
 have C1 : ∀ y : Sub W.heap.size W, y.w.cell? ⟨w.heap.size, 1, none⟩ = some (.string x.s) := fun y => (y.h.cell (p := ⟨w.heap.size, 1, none⟩) lM).trans (Lib.cell_of_heap rM 1)
 have C2 : ∀ y : Sub W.heap.size W, y.w.cell? ⟨w.heap.size, 2, none⟩ = some (.int .i64 x.op) := fun y => (y.h.cell (p := ⟨w.heap.size, 2, none⟩) lM).trans (Lib.cell_of_heap rM 2)
 have C3 : ∀ y : Sub W.heap.size W, y.w.cell? ⟨w.heap.size, 3, none⟩ = some (.int .i64 x.n) := fun y => (y.h.cell (p := ⟨w.heap.size, 3, none⟩) lM).trans (Lib.cell_of_heap rM 3)
 have C4 : ∀ y : Sub W.heap.size W, y.w.cell? ⟨w.heap.size, 4, none⟩ = some (.slice e1 i1 j1) := fun y => (y.h.cell (p := ⟨w.heap.size, 4, none⟩) lM).trans (Lib.cell_of_heap rM 4)
 have C5 : ∀ y : Sub W.heap.size W, y.w.cell? ⟨w.heap.size, 5, none⟩ = some (.slice e2 i2 j2) := fun y => (y.h.cell (p := ⟨w.heap.size, 5, none⟩) lM).trans (Lib.cell_of_heap rM 5)
 have RB := hide (fun w1 => regB_any x.op w1)
 have WD := hide (fun s (y : Sub W.heap.size W) => wordI_any s y.w (ht.k.next (uh HB y)))
 have RG := hide (fun r (hr : r < 8) (y : Sub W.heap.size W) => regI r hr y.w (ht.k.next (uh HB y)))
 have TKN := hide (fun j (h : j < i1) (y : Sub W.heap.size W) => opt_any (agAt x j) (uh AOK j h) y.w (ht.next (uh HB y)) (hg.later (uh HB y) hg.lt))
 have PTN := hide (fun j (h : j < i2) (y : Sub W.heap.size W) => ptm_new (xAt x.l j) (uh LOK j h) y.w (hg.later (uh HB y) hg.lt))
 have OUj := hide (fun j => opU_if (agAt x j))
 have AC := hide (fun j (h : j < i1) => (show ∃ g, e1 = some ⟨g, 0, none⟩ ∧ ∀ y : Sub W.heap.size W, y.w.cell? ⟨g, j * 3, none⟩ = some (opU (agAt x j)) ∧ y.w.cell? ⟨g, j * 3 + 1, none⟩ = some (.int .i64 (agAt x j).f) ∧ y.w.cell? ⟨g, j * 3 + 2, none⟩ = some (.int .i64 (agAt x j).r) by
  obtain ⟨g, h0, h1, h2, h3, h4⟩ := uh AC j h
  exact ⟨g, h0, fun y => ⟨((uh HB y).cell (p := ⟨g, j * 3, none⟩) h1).trans h2, ((uh HB y).cell (p := ⟨g, j * 3 + 1, none⟩) h1).trans h3, ((uh HB y).cell (p := ⟨g, j * 3 + 2, none⟩) h1).trans h4⟩⟩))
 have VC := hide (fun j (h : j < i2) => (show ∃ g, e2 = some ⟨g, 0, none⟩ ∧ ∀ y : Sub W.heap.size W, y.w.cell? ⟨g, j, none⟩ = some (tv (xAt x.l j)) by
  obtain ⟨g, h0, h1, h2⟩ := uh VC j h
  exact ⟨g, h0, fun y => ((uh HB y).cell (p := ⟨g, j, none⟩) h1).trans h2⟩))
 obtain ⟨y0, hy0⟩ : ∃ z : Sub W.heap.size W, W = z.w := ⟨⟨W, Below.refl _ _⟩, rfl⟩
 rw [hy0] at hW
 clear lM rM hbW ht hg hy0 AOK LOK
 generalize x.k = k at *
 generalize x.n = n at *
 generalize x.op = op at *
 generalize x.s = s at *
 have L0 := hide (ownL_none y0.w W.heap.size)
 by_cases hk6 : k = 6
 ·
  subst hk6
  have hq := uh RK rfl
  rw [hq] at RB
  have W1 := hide (fun y : Sub W.heap.size W => uh WD s y)
  rw [name_word (uh NMo (by simp))] at W1
  have W2 := hide (fun y : Sub W.heap.size W => uh WD ovrS y)
  rw [ovr_word] at W2
  unfold ovrS at W2
  unfold Tk.v Tk.cs at W1 W2
  simp only at W1 W2
  clear WD RG RGo NMo RK
  by_cases hn1 : n = 1
  ·
   subst hn1
   go_enter Tryz.func43, Tryz.ntmps43
   go_wp2_with fail
   refine (uh W1 y0).mono ?_
   rintro r w1 ⟨rfl, hb⟩
   have L1 := hide ((uh L0).later hb)
   obtain ⟨y1, rfl⟩ := Sub.step (uh HZ) hb
   clear hb L0
   have hb := below_new y1.w (.cells #[.int .i64 1, .int .i64 0, .string s] 71)
   obtain ⟨y2, hy2⟩ := Sub.step (uh HZ) hb
   have L2 := hide (show OwnL y2.w W.heap.size (.slice none 0 0) ([]) by rw [← hy2]; exact (uh L1).later hb)
   have P2 := hide (show OwnT y2.w W.heap.size (.slice (some ⟨y1.w.heap.size, 0, none⟩) 1 1) [(Tk.mk 1 0 s)] by rw [← hy2]; exact ownT_new y1.w (Tk.mk 1 0 s) W.heap.size (Nat.le_trans (uh HZ) y1.h.size))
   clear hb L1
   have hb := below_new y2.w (.cells #[.slice (some ⟨y1.w.heap.size, 0, none⟩) 1 1] 39)
   obtain ⟨y3, hy3⟩ := Sub.step (uh HZ) hb
   have L3 := hide (show OwnL y3.w W.heap.size (.slice none 0 0) ([]) by rw [← hy3]; exact (uh L2).later hb)
   have P3 := hide (show OwnT y3.w W.heap.size (.slice (some ⟨y1.w.heap.size, 0, none⟩) 1 1) [(Tk.mk 1 0 s)] by rw [← hy3]; exact (uh P2).later hb)
   have G3 := hide (show y3.w.heap[y2.w.heap.size]? = some (.cells #[.slice (some ⟨y1.w.heap.size, 0, none⟩) 1 1] 39 (0, 0)) by rw [← hy3]; exact Array.getElem?_push_size)
   clear hb L2 P2
   go_wp2_with (at_builtin; go_must (refine appL rfl _ _ rfl (uh HZ) y3.h rfl (uh L3) y2.w.heap.size (.slice (some ⟨y1.w.heap.size, 0, none⟩) 1 1) [(Tk.mk 1 0 s)] rfl (uh G3) (uh P3) (by simp) ?_; intro v4 y4 hO; have L4 := hide hO; clear hO))
   refine (uh W2 y4).mono ?_
   rintro r w5 ⟨rfl, hb⟩
   have L5 := hide ((uh L4).later hb)
   obtain ⟨y5, rfl⟩ := Sub.step (uh HZ) hb
   clear hb L4
   have hb := below_new y5.w (.cells #[.int .i64 1, .int .i64 0, .string ⟨#[111, 118, 101, 114]⟩] 71)
   obtain ⟨y6, hy6⟩ := Sub.step (uh HZ) hb
   have L6 := hide (show OwnL y6.w W.heap.size v4 ([] ++ [[(Tk.mk 1 0 s)]]) by rw [← hy6]; exact (uh L5).later hb)
   have P6 := hide (show OwnT y6.w W.heap.size (.slice (some ⟨y5.w.heap.size, 0, none⟩) 1 1) [(Tk.mk 1 0 ⟨#[111, 118, 101, 114]⟩)] by rw [← hy6]; exact ownT_new y5.w (Tk.mk 1 0 ⟨#[111, 118, 101, 114]⟩) W.heap.size (Nat.le_trans (uh HZ) y5.h.size))
   clear hb L5
   have hb := below_new y6.w (.cells #[.slice (some ⟨y5.w.heap.size, 0, none⟩) 1 1] 39)
   obtain ⟨y7, hy7⟩ := Sub.step (uh HZ) hb
   have L7 := hide (show OwnL y7.w W.heap.size v4 ([] ++ [[(Tk.mk 1 0 s)]]) by rw [← hy7]; exact (uh L6).later hb)
   have P7 := hide (show OwnT y7.w W.heap.size (.slice (some ⟨y5.w.heap.size, 0, none⟩) 1 1) [(Tk.mk 1 0 ⟨#[111, 118, 101, 114]⟩)] by rw [← hy7]; exact (uh P6).later hb)
   have G7 := hide (show y7.w.heap[y6.w.heap.size]? = some (.cells #[.slice (some ⟨y5.w.heap.size, 0, none⟩) 1 1] 39 (0, 0)) by rw [← hy7]; exact Array.getElem?_push_size)
   clear hb L6 P6
   go_wp2_with (first | (go_at_call 102; refine (uh RB _).mono ?_; rintro r w' ⟨rfl, hw'⟩; rw [hw']; clear hw' w') | (at_builtin; go_must (refine appL rfl _ _ rfl (uh HZ) y7.h rfl (uh L7) y6.w.heap.size (.slice (some ⟨y5.w.heap.size, 0, none⟩) 1 1) [(Tk.mk 1 0 ⟨#[111, 118, 101, 114]⟩)] rfl (uh G7) (uh P7) (by simp) ?_; intro v8 y8 hO; have L8 := hide hO; clear hO)))
   obtain ⟨P, hP⟩ : ∃ P, ([] ++ [[(Tk.mk 1 0 s)]] ++ [[(Tk.mk 1 0 ⟨#[111, 118, 101, 114]⟩)]] : List (List Tk)) = P := ⟨_, rfl⟩
   have lP : P.length ≤ 3 := by rw [← hP]; simp
   have HP := hide hP
   have HE := hide (show P ++ ((lnA x).map agT ++ x.l.map (toksF 6)) = T by rw [← uh HT, ← hP]; simp [hq, ovrS])
   clear hP
   go_loopw [3, 39] (fun v i wr => ∃ (j : Nat) (z : Sub W.heap.size W), j ≤ i1 ∧ i = .int .i64 j ∧ OwnL z.w W.heap.size v (P ++ ((lnA x).take j).map agT) ∧ wr = z.w) (fun _ i _ => i1 - (intOf i).toNat)
   case atStart => exact ⟨0, y8, Nat.zero_le _, rfl, by rw [← uh HP]; exact uh L8, rfl⟩
   case round =>
    obtain ⟨j, z, hj, rfl, hown, rfl⟩ := hrel
    by_cases hlt : j < i1
    ·
     obtain ⟨g, rfl, hc⟩ := uh AC j hlt
     obtain ⟨c0, c1, c2⟩ := hc z
     have T2 := hide (uh TA j hlt)
     have TK := hide (uh TKN j hlt)
     have OW := hide hown
     have hjn : ¬ ((i1 : Int) ≤ (j : Int)) := by omega
     have OU := uh OUj j
     clear hc hown
     generalize (agAt x j).f = af at *
     generalize (agAt x j).r = ar at *
     generalize agT (agAt x j) = at_ at *
     generalize opU (agAt x j) = ou at *
     rcases OU with rfl | ⟨tt, xx, rfl⟩
     ·
      have hb1 := below_new z.w (.cells #[.nilIface, .int .i64 af, .int .i64 ar] 85)
      obtain ⟨z1, hz1⟩ := Sub.step (uh HZ) hb1
      have G1 := hide (show z1.w.heap[z.w.heap.size]? = some (.cells #[.nilIface, .int .i64 af, .int .i64 ar] 85 (0, 0)) by rw [← hz1]; exact Array.getElem?_push_size)
      have L1 := hide (show OwnL z1.w W.heap.size u3 (P ++ ((lnA x).take j).map agT) by rw [← hz1]; exact (uh OW).later hb1)
      have C1 := hide (uh TK z1)
      clear hb1 OW TK
      go_wp2_with (refine wpList_load_row rfl 85 _ rfl z.w.heap.size rfl 85 #[.nilIface, .int .i64 af, .int .i64 ar] (0, 0) _ (uh G1) Tryz.underlying85 rfl (by kernel_rfl) ?_)
      refine (uh C1).mono ?_
      rintro r w2 ⟨pv, rfl, hO, hb⟩
      have L2 := hide ((uh L1).later hb)
      have PO := hide (hO.base (show W.heap.size ≤ z1.w.heap.size from z1.h.size))
      obtain ⟨z2, rfl⟩ := Sub.step (uh HZ) hb
      clear hO hb L1 C1 G1 c0 c1 c2 hz1
      obtain ⟨ca, cc, hpv, _⟩ := (uh PO).rd
      subst hpv
      generalize at_.length = tl at *
      have hb3 := below_new z2.w (.cells #[.slice ca tl cc] 39)
      obtain ⟨z3, hz3⟩ := Sub.step (uh HZ) hb3
      have L3 := hide (show OwnL z3.w W.heap.size u3 (P ++ ((lnA x).take j).map agT) by rw [← hz3]; exact (uh L2).later hb3)
      have P3 := hide (show OwnT z3.w W.heap.size (.slice ca tl cc) at_ by rw [← hz3]; exact (uh PO).later hb3)
      have G3 := hide (show z3.w.heap[z2.w.heap.size]? = some (.cells #[.slice ca tl cc] 39 (0, 0)) by rw [← hz3]; exact Array.getElem?_push_size)
      have LN := hide (show (P ++ ((lnA x).take j).map agT).length ≤ 1000 by simp; omega)
      clear hb3 L2 PO
      go_wp2_with (at_builtin; go_must (refine appL rfl _ _ rfl (uh HZ) z3.h rfl (uh L3) z2.w.heap.size (.slice ca tl cc) at_ rfl (uh G3) (uh P3) (uh LN) ?_; intro v4 z4 hO; have L4 := hide hO; clear hO))
      go_roundw
      case rel => exact ⟨j + 1, z4, by omega, by go_num, by rw [uh T2, ← List.append_assoc]; exact uh L4, rfl⟩
      case measure => simp [intOf]; omega
     ·
      have hb1 := below_new z.w (.cells #[.iface tt xx, .int .i64 af, .int .i64 ar] 85)
      obtain ⟨z1, hz1⟩ := Sub.step (uh HZ) hb1
      have G1 := hide (show z1.w.heap[z.w.heap.size]? = some (.cells #[.iface tt xx, .int .i64 af, .int .i64 ar] 85 (0, 0)) by rw [← hz1]; exact Array.getElem?_push_size)
      have L1 := hide (show OwnL z1.w W.heap.size u3 (P ++ ((lnA x).take j).map agT) by rw [← hz1]; exact (uh OW).later hb1)
      have C1 := hide (uh TK z1)
      clear hb1 OW TK
      go_wp2_with (refine wpList_load_row rfl 85 _ rfl z.w.heap.size rfl 85 #[.iface tt xx, .int .i64 af, .int .i64 ar] (0, 0) _ (uh G1) Tryz.underlying85 rfl (by kernel_rfl) ?_)
      refine (uh C1).mono ?_
      rintro r w2 ⟨pv, rfl, hO, hb⟩
      have L2 := hide ((uh L1).later hb)
      have PO := hide (hO.base (show W.heap.size ≤ z1.w.heap.size from z1.h.size))
      obtain ⟨z2, rfl⟩ := Sub.step (uh HZ) hb
      clear hO hb L1 C1 G1 c0 c1 c2 hz1
      obtain ⟨ca, cc, hpv, _⟩ := (uh PO).rd
      subst hpv
      generalize at_.length = tl at *
      have hb3 := below_new z2.w (.cells #[.slice ca tl cc] 39)
      obtain ⟨z3, hz3⟩ := Sub.step (uh HZ) hb3
      have L3 := hide (show OwnL z3.w W.heap.size u3 (P ++ ((lnA x).take j).map agT) by rw [← hz3]; exact (uh L2).later hb3)
      have P3 := hide (show OwnT z3.w W.heap.size (.slice ca tl cc) at_ by rw [← hz3]; exact (uh PO).later hb3)
      have G3 := hide (show z3.w.heap[z2.w.heap.size]? = some (.cells #[.slice ca tl cc] 39 (0, 0)) by rw [← hz3]; exact Array.getElem?_push_size)
      have LN := hide (show (P ++ ((lnA x).take j).map agT).length ≤ 1000 by simp; omega)
      clear hb3 L2 PO
      go_wp2_with (at_builtin; go_must (refine appL rfl _ _ rfl (uh HZ) z3.h rfl (uh L3) z2.w.heap.size (.slice ca tl cc) at_ rfl (uh G3) (uh P3) (uh LN) ?_; intro v4 z4 hO; have L4 := hide hO; clear hO))
      go_roundw
      case rel => exact ⟨j + 1, z4, by omega, by go_num, by rw [uh T2, ← List.append_assoc]; exact uh L4, rfl⟩
      case measure => simp [intOf]; omega
    ·
     obtain rfl : j = i1 := by omega
     rw [uh EA] at hown
     have OW := hide hown
     clear hown
     go_wp2
     obtain ⟨P2, hP2⟩ : ∃ P2, P ++ (lnA x).map agT = P2 := ⟨_, rfl⟩
     have lP2 : P2.length ≤ 5 := by rw [← hP2]; have := congrArg List.length (uh EA); simp at this; simp; omega
     have HE2 := hide (show P2 ++ x.l.map (toksF 6) = T by rw [← hP2, List.append_assoc]; exact uh HE)
     rw [hP2] at OW
     clear hP2 HE AC TKN OUj TA EA HP
     go_loopw [3, 52] (fun v i wr => ∃ (j : Nat) (z : Sub W.heap.size W), j ≤ i2 ∧ i = .int .i64 j ∧ OwnL z.w W.heap.size v (P2 ++ (x.l.take j).map (toksF 6)) ∧ wr = z.w) (fun _ i _ => i2 - (intOf i).toNat)
     case atStart => exact ⟨0, z, Nat.zero_le _, rfl, by simpa using uh OW, rfl⟩
     case round =>
      clear OW
      obtain ⟨j2_, z, hj2, rfl, hown, rfl⟩ := hrel
      by_cases hlt : j2_ < i2
      ·
       obtain ⟨g, rfl, hc⟩ := uh VC j2_ hlt
       have T2 := hide (uh TE j2_ hlt)
       have TK := hide (uh PTN j2_ hlt)
       have OW := hide hown
       have hjn : ¬ ((i2 : Int) ≤ (j2_ : Int)) := by omega
       have c0 := hc z
       clear hc hown
       obtain ⟨tt, xx, ett⟩ := tv_if (xAt x.l j2_)
       rw [ett] at TK c0
       clear ett
       generalize toksF 6 (xAt x.l j2_) = at_ at *
       go_wp2_with fail
       refine (uh TK z).mono ?_
       rintro r w2 ⟨pv, rfl, hO, hb⟩
       have L2 := hide ((uh OW).later hb)
       have PO := hide (hO.base (show W.heap.size ≤ z.w.heap.size from z.h.size))
       obtain ⟨z2, rfl⟩ := Sub.step (uh HZ) hb
       clear hO hb OW c0 TK
       obtain ⟨ca, cc, hpv, _⟩ := (uh PO).rd
       subst hpv
       generalize at_.length = tl at *
       have hb3 := below_new z2.w (.cells #[.slice ca tl cc] 39)
       obtain ⟨z3, hz3⟩ := Sub.step (uh HZ) hb3
       have L3 := hide (show OwnL z3.w W.heap.size _ (P2 ++ (x.l.take j2_).map (toksF 6)) by rw [← hz3]; exact (uh L2).later hb3)
       have P3 := hide (show OwnT z3.w W.heap.size (.slice ca tl cc) at_ by rw [← hz3]; exact (uh PO).later hb3)
       have G3 := hide (show z3.w.heap[z2.w.heap.size]? = some (.cells #[.slice ca tl cc] 39 (0, 0)) by rw [← hz3]; exact Array.getElem?_push_size)
       have LN := hide (show (P2 ++ (x.l.take j2_).map (toksF 6)).length ≤ 1000 by simp; omega)
       clear hb3 L2 PO
       go_wp2_with (at_builtin; go_must (refine appL rfl _ _ rfl (uh HZ) z3.h rfl (uh L3) z2.w.heap.size (.slice ca tl cc) at_ rfl (uh G3) (uh P3) (uh LN) ?_; intro v4 z4 hO; have L4 := hide hO; clear hO))
       go_roundw
       case rel => exact ⟨j2_ + 1, z4, by omega, by go_num, by rw [uh T2, ← List.append_assoc]; exact uh L4, rfl⟩
       case measure => simp [intOf]; omega
      ·
       obtain rfl : j2_ = i2 := by omega
       rw [uh EV, uh HE2] at hown
       have OW := hide hown
       clear hown
       go_wp2
       go_ret
       exact ⟨_, rfl, uh HO _ _ _ (uh OW), uh HB z⟩
  ·
   have gn1 : (n == 1) = false := beq_eq_false_iff_ne.2 hn1
   go_enter Tryz.func43, Tryz.ntmps43
   go_wp2_with fail
   refine (uh W1 y0).mono ?_
   rintro r w1 ⟨rfl, hb⟩
   have L1 := hide ((uh L0).later hb)
   obtain ⟨y1, rfl⟩ := Sub.step (uh HZ) hb
   clear hb L0
   have hb := below_new y1.w (.cells #[.int .i64 1, .int .i64 0, .string s] 71)
   obtain ⟨y2, hy2⟩ := Sub.step (uh HZ) hb
   have L2 := hide (show OwnL y2.w W.heap.size (.slice none 0 0) ([]) by rw [← hy2]; exact (uh L1).later hb)
   have P2 := hide (show OwnT y2.w W.heap.size (.slice (some ⟨y1.w.heap.size, 0, none⟩) 1 1) [(Tk.mk 1 0 s)] by rw [← hy2]; exact ownT_new y1.w (Tk.mk 1 0 s) W.heap.size (Nat.le_trans (uh HZ) y1.h.size))
   clear hb L1
   have hb := below_new y2.w (.cells #[.slice (some ⟨y1.w.heap.size, 0, none⟩) 1 1] 39)
   obtain ⟨y3, hy3⟩ := Sub.step (uh HZ) hb
   have L3 := hide (show OwnL y3.w W.heap.size (.slice none 0 0) ([]) by rw [← hy3]; exact (uh L2).later hb)
   have P3 := hide (show OwnT y3.w W.heap.size (.slice (some ⟨y1.w.heap.size, 0, none⟩) 1 1) [(Tk.mk 1 0 s)] by rw [← hy3]; exact (uh P2).later hb)
   have G3 := hide (show y3.w.heap[y2.w.heap.size]? = some (.cells #[.slice (some ⟨y1.w.heap.size, 0, none⟩) 1 1] 39 (0, 0)) by rw [← hy3]; exact Array.getElem?_push_size)
   clear hb L2 P2
   go_wp2_with (first | (go_at_call 102; refine (uh RB _).mono ?_; rintro r w' ⟨rfl, hw'⟩; rw [hw']; clear hw' w') | (at_builtin; go_must (refine appL rfl _ _ rfl (uh HZ) y3.h rfl (uh L3) y2.w.heap.size (.slice (some ⟨y1.w.heap.size, 0, none⟩) 1 1) [(Tk.mk 1 0 s)] rfl (uh G3) (uh P3) (by simp) ?_; intro v4 y4 hO; have L4 := hide hO; clear hO)))
   obtain ⟨P, hP⟩ : ∃ P, ([] ++ [[(Tk.mk 1 0 s)]] : List (List Tk)) = P := ⟨_, rfl⟩
   have lP : P.length ≤ 3 := by rw [← hP]; simp
   have HP := hide hP
   have HE := hide (show P ++ ((lnA x).map agT ++ x.l.map (toksF 6)) = T by rw [← uh HT, ← hP]; simp [hq, hn1])
   clear hP
   go_loopw [3, 39] (fun v i wr => ∃ (j : Nat) (z : Sub W.heap.size W), j ≤ i1 ∧ i = .int .i64 j ∧ OwnL z.w W.heap.size v (P ++ ((lnA x).take j).map agT) ∧ wr = z.w) (fun _ i _ => i1 - (intOf i).toNat)
   case atStart => exact ⟨0, y4, Nat.zero_le _, rfl, by rw [← uh HP]; exact uh L4, rfl⟩
   case round =>
    obtain ⟨j, z, hj, rfl, hown, rfl⟩ := hrel
    by_cases hlt : j < i1
    ·
     obtain ⟨g, rfl, hc⟩ := uh AC j hlt
     obtain ⟨c0, c1, c2⟩ := hc z
     have T2 := hide (uh TA j hlt)
     have TK := hide (uh TKN j hlt)
     have OW := hide hown
     have hjn : ¬ ((i1 : Int) ≤ (j : Int)) := by omega
     have OU := uh OUj j
     clear hc hown
     generalize (agAt x j).f = af at *
     generalize (agAt x j).r = ar at *
     generalize agT (agAt x j) = at_ at *
     generalize opU (agAt x j) = ou at *
     rcases OU with rfl | ⟨tt, xx, rfl⟩
     ·
      have hb1 := below_new z.w (.cells #[.nilIface, .int .i64 af, .int .i64 ar] 85)
      obtain ⟨z1, hz1⟩ := Sub.step (uh HZ) hb1
      have G1 := hide (show z1.w.heap[z.w.heap.size]? = some (.cells #[.nilIface, .int .i64 af, .int .i64 ar] 85 (0, 0)) by rw [← hz1]; exact Array.getElem?_push_size)
      have L1 := hide (show OwnL z1.w W.heap.size u3 (P ++ ((lnA x).take j).map agT) by rw [← hz1]; exact (uh OW).later hb1)
      have C1 := hide (uh TK z1)
      clear hb1 OW TK
      go_wp2_with (refine wpList_load_row rfl 85 _ rfl z.w.heap.size rfl 85 #[.nilIface, .int .i64 af, .int .i64 ar] (0, 0) _ (uh G1) Tryz.underlying85 rfl (by kernel_rfl) ?_)
      refine (uh C1).mono ?_
      rintro r w2 ⟨pv, rfl, hO, hb⟩
      have L2 := hide ((uh L1).later hb)
      have PO := hide (hO.base (show W.heap.size ≤ z1.w.heap.size from z1.h.size))
      obtain ⟨z2, rfl⟩ := Sub.step (uh HZ) hb
      clear hO hb L1 C1 G1 c0 c1 c2 hz1
      obtain ⟨ca, cc, hpv, _⟩ := (uh PO).rd
      subst hpv
      generalize at_.length = tl at *
      have hb3 := below_new z2.w (.cells #[.slice ca tl cc] 39)
      obtain ⟨z3, hz3⟩ := Sub.step (uh HZ) hb3
      have L3 := hide (show OwnL z3.w W.heap.size u3 (P ++ ((lnA x).take j).map agT) by rw [← hz3]; exact (uh L2).later hb3)
      have P3 := hide (show OwnT z3.w W.heap.size (.slice ca tl cc) at_ by rw [← hz3]; exact (uh PO).later hb3)
      have G3 := hide (show z3.w.heap[z2.w.heap.size]? = some (.cells #[.slice ca tl cc] 39 (0, 0)) by rw [← hz3]; exact Array.getElem?_push_size)
      have LN := hide (show (P ++ ((lnA x).take j).map agT).length ≤ 1000 by simp; omega)
      clear hb3 L2 PO
      go_wp2_with (at_builtin; go_must (refine appL rfl _ _ rfl (uh HZ) z3.h rfl (uh L3) z2.w.heap.size (.slice ca tl cc) at_ rfl (uh G3) (uh P3) (uh LN) ?_; intro v4 z4 hO; have L4 := hide hO; clear hO))
      go_roundw
      case rel => exact ⟨j + 1, z4, by omega, by go_num, by rw [uh T2, ← List.append_assoc]; exact uh L4, rfl⟩
      case measure => simp [intOf]; omega
     ·
      have hb1 := below_new z.w (.cells #[.iface tt xx, .int .i64 af, .int .i64 ar] 85)
      obtain ⟨z1, hz1⟩ := Sub.step (uh HZ) hb1
      have G1 := hide (show z1.w.heap[z.w.heap.size]? = some (.cells #[.iface tt xx, .int .i64 af, .int .i64 ar] 85 (0, 0)) by rw [← hz1]; exact Array.getElem?_push_size)
      have L1 := hide (show OwnL z1.w W.heap.size u3 (P ++ ((lnA x).take j).map agT) by rw [← hz1]; exact (uh OW).later hb1)
      have C1 := hide (uh TK z1)
      clear hb1 OW TK
      go_wp2_with (refine wpList_load_row rfl 85 _ rfl z.w.heap.size rfl 85 #[.iface tt xx, .int .i64 af, .int .i64 ar] (0, 0) _ (uh G1) Tryz.underlying85 rfl (by kernel_rfl) ?_)
      refine (uh C1).mono ?_
      rintro r w2 ⟨pv, rfl, hO, hb⟩
      have L2 := hide ((uh L1).later hb)
      have PO := hide (hO.base (show W.heap.size ≤ z1.w.heap.size from z1.h.size))
      obtain ⟨z2, rfl⟩ := Sub.step (uh HZ) hb
      clear hO hb L1 C1 G1 c0 c1 c2 hz1
      obtain ⟨ca, cc, hpv, _⟩ := (uh PO).rd
      subst hpv
      generalize at_.length = tl at *
      have hb3 := below_new z2.w (.cells #[.slice ca tl cc] 39)
      obtain ⟨z3, hz3⟩ := Sub.step (uh HZ) hb3
      have L3 := hide (show OwnL z3.w W.heap.size u3 (P ++ ((lnA x).take j).map agT) by rw [← hz3]; exact (uh L2).later hb3)
      have P3 := hide (show OwnT z3.w W.heap.size (.slice ca tl cc) at_ by rw [← hz3]; exact (uh PO).later hb3)
      have G3 := hide (show z3.w.heap[z2.w.heap.size]? = some (.cells #[.slice ca tl cc] 39 (0, 0)) by rw [← hz3]; exact Array.getElem?_push_size)
      have LN := hide (show (P ++ ((lnA x).take j).map agT).length ≤ 1000 by simp; omega)
      clear hb3 L2 PO
      go_wp2_with (at_builtin; go_must (refine appL rfl _ _ rfl (uh HZ) z3.h rfl (uh L3) z2.w.heap.size (.slice ca tl cc) at_ rfl (uh G3) (uh P3) (uh LN) ?_; intro v4 z4 hO; have L4 := hide hO; clear hO))
      go_roundw
      case rel => exact ⟨j + 1, z4, by omega, by go_num, by rw [uh T2, ← List.append_assoc]; exact uh L4, rfl⟩
      case measure => simp [intOf]; omega
    ·
     obtain rfl : j = i1 := by omega
     rw [uh EA] at hown
     have OW := hide hown
     clear hown
     go_wp2
     obtain ⟨P2, hP2⟩ : ∃ P2, P ++ (lnA x).map agT = P2 := ⟨_, rfl⟩
     have lP2 : P2.length ≤ 5 := by rw [← hP2]; have := congrArg List.length (uh EA); simp at this; simp; omega
     have HE2 := hide (show P2 ++ x.l.map (toksF 6) = T by rw [← hP2, List.append_assoc]; exact uh HE)
     rw [hP2] at OW
     clear hP2 HE AC TKN OUj TA EA HP
     go_loopw [3, 52] (fun v i wr => ∃ (j : Nat) (z : Sub W.heap.size W), j ≤ i2 ∧ i = .int .i64 j ∧ OwnL z.w W.heap.size v (P2 ++ (x.l.take j).map (toksF 6)) ∧ wr = z.w) (fun _ i _ => i2 - (intOf i).toNat)
     case atStart => exact ⟨0, z, Nat.zero_le _, rfl, by simpa using uh OW, rfl⟩
     case round =>
      clear OW
      obtain ⟨j2_, z, hj2, rfl, hown, rfl⟩ := hrel
      by_cases hlt : j2_ < i2
      ·
       obtain ⟨g, rfl, hc⟩ := uh VC j2_ hlt
       have T2 := hide (uh TE j2_ hlt)
       have TK := hide (uh PTN j2_ hlt)
       have OW := hide hown
       have hjn : ¬ ((i2 : Int) ≤ (j2_ : Int)) := by omega
       have c0 := hc z
       clear hc hown
       obtain ⟨tt, xx, ett⟩ := tv_if (xAt x.l j2_)
       rw [ett] at TK c0
       clear ett
       generalize toksF 6 (xAt x.l j2_) = at_ at *
       go_wp2_with fail
       refine (uh TK z).mono ?_
       rintro r w2 ⟨pv, rfl, hO, hb⟩
       have L2 := hide ((uh OW).later hb)
       have PO := hide (hO.base (show W.heap.size ≤ z.w.heap.size from z.h.size))
       obtain ⟨z2, rfl⟩ := Sub.step (uh HZ) hb
       clear hO hb OW c0 TK
       obtain ⟨ca, cc, hpv, _⟩ := (uh PO).rd
       subst hpv
       generalize at_.length = tl at *
       have hb3 := below_new z2.w (.cells #[.slice ca tl cc] 39)
       obtain ⟨z3, hz3⟩ := Sub.step (uh HZ) hb3
       have L3 := hide (show OwnL z3.w W.heap.size _ (P2 ++ (x.l.take j2_).map (toksF 6)) by rw [← hz3]; exact (uh L2).later hb3)
       have P3 := hide (show OwnT z3.w W.heap.size (.slice ca tl cc) at_ by rw [← hz3]; exact (uh PO).later hb3)
       have G3 := hide (show z3.w.heap[z2.w.heap.size]? = some (.cells #[.slice ca tl cc] 39 (0, 0)) by rw [← hz3]; exact Array.getElem?_push_size)
       have LN := hide (show (P2 ++ (x.l.take j2_).map (toksF 6)).length ≤ 1000 by simp; omega)
       clear hb3 L2 PO
       go_wp2_with (at_builtin; go_must (refine appL rfl _ _ rfl (uh HZ) z3.h rfl (uh L3) z2.w.heap.size (.slice ca tl cc) at_ rfl (uh G3) (uh P3) (uh LN) ?_; intro v4 z4 hO; have L4 := hide hO; clear hO))
       go_roundw
       case rel => exact ⟨j2_ + 1, z4, by omega, by go_num, by rw [uh T2, ← List.append_assoc]; exact uh L4, rfl⟩
       case measure => simp [intOf]; omega
      ·
       obtain rfl : j2_ = i2 := by omega
       rw [uh EV, uh HE2] at hown
       have OW := hide hown
       clear hown
       go_wp2
       go_ret
       exact ⟨_, rfl, uh HO _ _ _ (uh OW), uh HB z⟩
 have gk6 : (k == 6) = false := beq_eq_false_iff_ne.2 hk6
 cases hq : regB op with
 | true =>
  obtain ⟨hn0, hn7⟩ := uh RGo hq
  obtain ⟨rn, rfl⟩ : ∃ rn : Nat, n = (rn : Int) := ⟨n.toNat, by omega⟩
  have R1 := hide (fun y : Sub W.heap.size W => uh RG rn (by omega) y)
  rw [show ((rn : Int)).toNat = rn by omega] at HT
  rw [hq] at RB
  unfold Tk.v Tk.cs at R1
  clear WD RG RGo NMo RK hn0 hn7
  generalize rgT rn = rt at *
  go_enter Tryz.func43, Tryz.ntmps43
  go_wp2_with (go_at_call 102; refine (uh RB _).mono ?_; rintro r w' ⟨rfl, hw'⟩; rw [hw']; clear hw' w')
  refine (uh R1 y0).mono ?_
  rintro r w1 ⟨rfl, hb⟩
  have L1 := hide ((uh L0).later hb)
  obtain ⟨y1, rfl⟩ := Sub.step (uh HZ) hb
  clear hb L0
  have hb := below_new y1.w (.cells #[.int .i64 rt.k, .int .i64 rt.n, .string rt.s] 71)
  obtain ⟨y2, hy2⟩ := Sub.step (uh HZ) hb
  have L2 := hide (show OwnL y2.w W.heap.size (.slice none 0 0) ([]) by rw [← hy2]; exact (uh L1).later hb)
  have P2 := hide (show OwnT y2.w W.heap.size (.slice (some ⟨y1.w.heap.size, 0, none⟩) 1 1) [rt] by rw [← hy2]; exact ownT_new y1.w rt W.heap.size (Nat.le_trans (uh HZ) y1.h.size))
  clear hb L1
  have hb := below_new y2.w (.cells #[.slice (some ⟨y1.w.heap.size, 0, none⟩) 1 1] 39)
  obtain ⟨y3, hy3⟩ := Sub.step (uh HZ) hb
  have L3 := hide (show OwnL y3.w W.heap.size (.slice none 0 0) ([]) by rw [← hy3]; exact (uh L2).later hb)
  have P3 := hide (show OwnT y3.w W.heap.size (.slice (some ⟨y1.w.heap.size, 0, none⟩) 1 1) [rt] by rw [← hy3]; exact (uh P2).later hb)
  have G3 := hide (show y3.w.heap[y2.w.heap.size]? = some (.cells #[.slice (some ⟨y1.w.heap.size, 0, none⟩) 1 1] 39 (0, 0)) by rw [← hy3]; exact Array.getElem?_push_size)
  clear hb L2 P2
  go_wp2_with (first | (go_at_call 102; refine (uh RB _).mono ?_; rintro r w' ⟨rfl, hw'⟩; rw [hw']; clear hw' w') | (at_builtin; go_must (refine appL rfl _ _ rfl (uh HZ) y3.h rfl (uh L3) y2.w.heap.size (.slice (some ⟨y1.w.heap.size, 0, none⟩) 1 1) [rt] rfl (uh G3) (uh P3) (by simp) ?_; intro v4 y4 hO; have L4 := hide hO; clear hO)))
  obtain ⟨P, hP⟩ : ∃ P, ([] ++ [[rt]] : List (List Tk)) = P := ⟨_, rfl⟩
  have lP : P.length ≤ 3 := by rw [← hP]; simp
  have HP := hide hP
  have HE := hide (show P ++ ((lnA x).map agT ++ x.l.map (toksF 6)) = T by rw [← uh HT, ← hP]; simp [hq, hk6])
  clear hP
  go_loopw [3, 39] (fun v i wr => ∃ (j : Nat) (z : Sub W.heap.size W), j ≤ i1 ∧ i = .int .i64 j ∧ OwnL z.w W.heap.size v (P ++ ((lnA x).take j).map agT) ∧ wr = z.w) (fun _ i _ => i1 - (intOf i).toNat)
  case atStart => exact ⟨0, y4, Nat.zero_le _, rfl, by rw [← uh HP]; exact uh L4, rfl⟩
  case round =>
   obtain ⟨j, z, hj, rfl, hown, rfl⟩ := hrel
   by_cases hlt : j < i1
   ·
    obtain ⟨g, rfl, hc⟩ := uh AC j hlt
    obtain ⟨c0, c1, c2⟩ := hc z
    have T2 := hide (uh TA j hlt)
    have TK := hide (uh TKN j hlt)
    have OW := hide hown
    have hjn : ¬ ((i1 : Int) ≤ (j : Int)) := by omega
    have OU := uh OUj j
    clear hc hown
    generalize (agAt x j).f = af at *
    generalize (agAt x j).r = ar at *
    generalize agT (agAt x j) = at_ at *
    generalize opU (agAt x j) = ou at *
    rcases OU with rfl | ⟨tt, xx, rfl⟩
    ·
     have hb1 := below_new z.w (.cells #[.nilIface, .int .i64 af, .int .i64 ar] 85)
     obtain ⟨z1, hz1⟩ := Sub.step (uh HZ) hb1
     have G1 := hide (show z1.w.heap[z.w.heap.size]? = some (.cells #[.nilIface, .int .i64 af, .int .i64 ar] 85 (0, 0)) by rw [← hz1]; exact Array.getElem?_push_size)
     have L1 := hide (show OwnL z1.w W.heap.size u3 (P ++ ((lnA x).take j).map agT) by rw [← hz1]; exact (uh OW).later hb1)
     have C1 := hide (uh TK z1)
     clear hb1 OW TK
     go_wp2_with (refine wpList_load_row rfl 85 _ rfl z.w.heap.size rfl 85 #[.nilIface, .int .i64 af, .int .i64 ar] (0, 0) _ (uh G1) Tryz.underlying85 rfl (by kernel_rfl) ?_)
     refine (uh C1).mono ?_
     rintro r w2 ⟨pv, rfl, hO, hb⟩
     have L2 := hide ((uh L1).later hb)
     have PO := hide (hO.base (show W.heap.size ≤ z1.w.heap.size from z1.h.size))
     obtain ⟨z2, rfl⟩ := Sub.step (uh HZ) hb
     clear hO hb L1 C1 G1 c0 c1 c2 hz1
     obtain ⟨ca, cc, hpv, _⟩ := (uh PO).rd
     subst hpv
     generalize at_.length = tl at *
     have hb3 := below_new z2.w (.cells #[.slice ca tl cc] 39)
     obtain ⟨z3, hz3⟩ := Sub.step (uh HZ) hb3
     have L3 := hide (show OwnL z3.w W.heap.size u3 (P ++ ((lnA x).take j).map agT) by rw [← hz3]; exact (uh L2).later hb3)
     have P3 := hide (show OwnT z3.w W.heap.size (.slice ca tl cc) at_ by rw [← hz3]; exact (uh PO).later hb3)
     have G3 := hide (show z3.w.heap[z2.w.heap.size]? = some (.cells #[.slice ca tl cc] 39 (0, 0)) by rw [← hz3]; exact Array.getElem?_push_size)
     have LN := hide (show (P ++ ((lnA x).take j).map agT).length ≤ 1000 by simp; omega)
     clear hb3 L2 PO
     go_wp2_with (at_builtin; go_must (refine appL rfl _ _ rfl (uh HZ) z3.h rfl (uh L3) z2.w.heap.size (.slice ca tl cc) at_ rfl (uh G3) (uh P3) (uh LN) ?_; intro v4 z4 hO; have L4 := hide hO; clear hO))
     go_roundw
     case rel => exact ⟨j + 1, z4, by omega, by go_num, by rw [uh T2, ← List.append_assoc]; exact uh L4, rfl⟩
     case measure => simp [intOf]; omega
    ·
     have hb1 := below_new z.w (.cells #[.iface tt xx, .int .i64 af, .int .i64 ar] 85)
     obtain ⟨z1, hz1⟩ := Sub.step (uh HZ) hb1
     have G1 := hide (show z1.w.heap[z.w.heap.size]? = some (.cells #[.iface tt xx, .int .i64 af, .int .i64 ar] 85 (0, 0)) by rw [← hz1]; exact Array.getElem?_push_size)
     have L1 := hide (show OwnL z1.w W.heap.size u3 (P ++ ((lnA x).take j).map agT) by rw [← hz1]; exact (uh OW).later hb1)
     have C1 := hide (uh TK z1)
     clear hb1 OW TK
     go_wp2_with (refine wpList_load_row rfl 85 _ rfl z.w.heap.size rfl 85 #[.iface tt xx, .int .i64 af, .int .i64 ar] (0, 0) _ (uh G1) Tryz.underlying85 rfl (by kernel_rfl) ?_)
     refine (uh C1).mono ?_
     rintro r w2 ⟨pv, rfl, hO, hb⟩
     have L2 := hide ((uh L1).later hb)
     have PO := hide (hO.base (show W.heap.size ≤ z1.w.heap.size from z1.h.size))
     obtain ⟨z2, rfl⟩ := Sub.step (uh HZ) hb
     clear hO hb L1 C1 G1 c0 c1 c2 hz1
     obtain ⟨ca, cc, hpv, _⟩ := (uh PO).rd
     subst hpv
     generalize at_.length = tl at *
     have hb3 := below_new z2.w (.cells #[.slice ca tl cc] 39)
     obtain ⟨z3, hz3⟩ := Sub.step (uh HZ) hb3
     have L3 := hide (show OwnL z3.w W.heap.size u3 (P ++ ((lnA x).take j).map agT) by rw [← hz3]; exact (uh L2).later hb3)
     have P3 := hide (show OwnT z3.w W.heap.size (.slice ca tl cc) at_ by rw [← hz3]; exact (uh PO).later hb3)
     have G3 := hide (show z3.w.heap[z2.w.heap.size]? = some (.cells #[.slice ca tl cc] 39 (0, 0)) by rw [← hz3]; exact Array.getElem?_push_size)
     have LN := hide (show (P ++ ((lnA x).take j).map agT).length ≤ 1000 by simp; omega)
     clear hb3 L2 PO
     go_wp2_with (at_builtin; go_must (refine appL rfl _ _ rfl (uh HZ) z3.h rfl (uh L3) z2.w.heap.size (.slice ca tl cc) at_ rfl (uh G3) (uh P3) (uh LN) ?_; intro v4 z4 hO; have L4 := hide hO; clear hO))
     go_roundw
     case rel => exact ⟨j + 1, z4, by omega, by go_num, by rw [uh T2, ← List.append_assoc]; exact uh L4, rfl⟩
     case measure => simp [intOf]; omega
   ·
    obtain rfl : j = i1 := by omega
    rw [uh EA] at hown
    have OW := hide hown
    clear hown
    go_wp2
    obtain ⟨P2, hP2⟩ : ∃ P2, P ++ (lnA x).map agT = P2 := ⟨_, rfl⟩
    have lP2 : P2.length ≤ 5 := by rw [← hP2]; have := congrArg List.length (uh EA); simp at this; simp; omega
    have HE2 := hide (show P2 ++ x.l.map (toksF 6) = T by rw [← hP2, List.append_assoc]; exact uh HE)
    rw [hP2] at OW
    clear hP2 HE AC TKN OUj TA EA HP
    go_loopw [3, 52] (fun v i wr => ∃ (j : Nat) (z : Sub W.heap.size W), j ≤ i2 ∧ i = .int .i64 j ∧ OwnL z.w W.heap.size v (P2 ++ (x.l.take j).map (toksF 6)) ∧ wr = z.w) (fun _ i _ => i2 - (intOf i).toNat)
    case atStart => exact ⟨0, z, Nat.zero_le _, rfl, by simpa using uh OW, rfl⟩
    case round =>
     clear OW
     obtain ⟨j2_, z, hj2, rfl, hown, rfl⟩ := hrel
     by_cases hlt : j2_ < i2
     ·
      obtain ⟨g, rfl, hc⟩ := uh VC j2_ hlt
      have T2 := hide (uh TE j2_ hlt)
      have TK := hide (uh PTN j2_ hlt)
      have OW := hide hown
      have hjn : ¬ ((i2 : Int) ≤ (j2_ : Int)) := by omega
      have c0 := hc z
      clear hc hown
      obtain ⟨tt, xx, ett⟩ := tv_if (xAt x.l j2_)
      rw [ett] at TK c0
      clear ett
      generalize toksF 6 (xAt x.l j2_) = at_ at *
      go_wp2_with fail
      refine (uh TK z).mono ?_
      rintro r w2 ⟨pv, rfl, hO, hb⟩
      have L2 := hide ((uh OW).later hb)
      have PO := hide (hO.base (show W.heap.size ≤ z.w.heap.size from z.h.size))
      obtain ⟨z2, rfl⟩ := Sub.step (uh HZ) hb
      clear hO hb OW c0 TK
      obtain ⟨ca, cc, hpv, _⟩ := (uh PO).rd
      subst hpv
      generalize at_.length = tl at *
      have hb3 := below_new z2.w (.cells #[.slice ca tl cc] 39)
      obtain ⟨z3, hz3⟩ := Sub.step (uh HZ) hb3
      have L3 := hide (show OwnL z3.w W.heap.size _ (P2 ++ (x.l.take j2_).map (toksF 6)) by rw [← hz3]; exact (uh L2).later hb3)
      have P3 := hide (show OwnT z3.w W.heap.size (.slice ca tl cc) at_ by rw [← hz3]; exact (uh PO).later hb3)
      have G3 := hide (show z3.w.heap[z2.w.heap.size]? = some (.cells #[.slice ca tl cc] 39 (0, 0)) by rw [← hz3]; exact Array.getElem?_push_size)
      have LN := hide (show (P2 ++ (x.l.take j2_).map (toksF 6)).length ≤ 1000 by simp; omega)
      clear hb3 L2 PO
      go_wp2_with (at_builtin; go_must (refine appL rfl _ _ rfl (uh HZ) z3.h rfl (uh L3) z2.w.heap.size (.slice ca tl cc) at_ rfl (uh G3) (uh P3) (uh LN) ?_; intro v4 z4 hO; have L4 := hide hO; clear hO))
      go_roundw
      case rel => exact ⟨j2_ + 1, z4, by omega, by go_num, by rw [uh T2, ← List.append_assoc]; exact uh L4, rfl⟩
      case measure => simp [intOf]; omega
     ·
      obtain rfl : j2_ = i2 := by omega
      rw [uh EV, uh HE2] at hown
      have OW := hide hown
      clear hown
      go_wp2
      go_ret
      exact ⟨_, rfl, uh HO _ _ _ (uh OW), uh HB z⟩
 | false =>
  rw [hq] at RB
  clear WD RG RGo NMo RK
  go_enter Tryz.func43, Tryz.ntmps43
  go_wp2_with (go_at_call 102; refine (uh RB _).mono ?_; rintro r w' ⟨rfl, hw'⟩; rw [hw']; clear hw' w')
  obtain ⟨P, hP⟩ : ∃ P, ([] : List (List Tk)) = P := ⟨_, rfl⟩
  have lP : P.length ≤ 3 := by rw [← hP]; simp
  have HP := hide hP
  have HE := hide (show P ++ ((lnA x).map agT ++ x.l.map (toksF 6)) = T by rw [← uh HT, ← hP]; simp [hq, hk6])
  clear hP
  go_loopw [3, 39] (fun v i wr => ∃ (j : Nat) (z : Sub W.heap.size W), j ≤ i1 ∧ i = .int .i64 j ∧ OwnL z.w W.heap.size v (P ++ ((lnA x).take j).map agT) ∧ wr = z.w) (fun _ i _ => i1 - (intOf i).toNat)
  case atStart => exact ⟨0, y0, Nat.zero_le _, rfl, by rw [← uh HP]; exact uh L0, rfl⟩
  case round =>
   obtain ⟨j, z, hj, rfl, hown, rfl⟩ := hrel
   by_cases hlt : j < i1
   ·
    obtain ⟨g, rfl, hc⟩ := uh AC j hlt
    obtain ⟨c0, c1, c2⟩ := hc z
    have T2 := hide (uh TA j hlt)
    have TK := hide (uh TKN j hlt)
    have OW := hide hown
    have hjn : ¬ ((i1 : Int) ≤ (j : Int)) := by omega
    have OU := uh OUj j
    clear hc hown
    generalize (agAt x j).f = af at *
    generalize (agAt x j).r = ar at *
    generalize agT (agAt x j) = at_ at *
    generalize opU (agAt x j) = ou at *
    rcases OU with rfl | ⟨tt, xx, rfl⟩
    ·
     have hb1 := below_new z.w (.cells #[.nilIface, .int .i64 af, .int .i64 ar] 85)
     obtain ⟨z1, hz1⟩ := Sub.step (uh HZ) hb1
     have G1 := hide (show z1.w.heap[z.w.heap.size]? = some (.cells #[.nilIface, .int .i64 af, .int .i64 ar] 85 (0, 0)) by rw [← hz1]; exact Array.getElem?_push_size)
     have L1 := hide (show OwnL z1.w W.heap.size u3 (P ++ ((lnA x).take j).map agT) by rw [← hz1]; exact (uh OW).later hb1)
     have C1 := hide (uh TK z1)
     clear hb1 OW TK
     go_wp2_with (refine wpList_load_row rfl 85 _ rfl z.w.heap.size rfl 85 #[.nilIface, .int .i64 af, .int .i64 ar] (0, 0) _ (uh G1) Tryz.underlying85 rfl (by kernel_rfl) ?_)
     refine (uh C1).mono ?_
     rintro r w2 ⟨pv, rfl, hO, hb⟩
     have L2 := hide ((uh L1).later hb)
     have PO := hide (hO.base (show W.heap.size ≤ z1.w.heap.size from z1.h.size))
     obtain ⟨z2, rfl⟩ := Sub.step (uh HZ) hb
     clear hO hb L1 C1 G1 c0 c1 c2 hz1
     obtain ⟨ca, cc, hpv, _⟩ := (uh PO).rd
     subst hpv
     generalize at_.length = tl at *
     have hb3 := below_new z2.w (.cells #[.slice ca tl cc] 39)
     obtain ⟨z3, hz3⟩ := Sub.step (uh HZ) hb3
     have L3 := hide (show OwnL z3.w W.heap.size u3 (P ++ ((lnA x).take j).map agT) by rw [← hz3]; exact (uh L2).later hb3)
     have P3 := hide (show OwnT z3.w W.heap.size (.slice ca tl cc) at_ by rw [← hz3]; exact (uh PO).later hb3)
     have G3 := hide (show z3.w.heap[z2.w.heap.size]? = some (.cells #[.slice ca tl cc] 39 (0, 0)) by rw [← hz3]; exact Array.getElem?_push_size)
     have LN := hide (show (P ++ ((lnA x).take j).map agT).length ≤ 1000 by simp; omega)
     clear hb3 L2 PO
     go_wp2_with (at_builtin; go_must (refine appL rfl _ _ rfl (uh HZ) z3.h rfl (uh L3) z2.w.heap.size (.slice ca tl cc) at_ rfl (uh G3) (uh P3) (uh LN) ?_; intro v4 z4 hO; have L4 := hide hO; clear hO))
     go_roundw
     case rel => exact ⟨j + 1, z4, by omega, by go_num, by rw [uh T2, ← List.append_assoc]; exact uh L4, rfl⟩
     case measure => simp [intOf]; omega
    ·
     have hb1 := below_new z.w (.cells #[.iface tt xx, .int .i64 af, .int .i64 ar] 85)
     obtain ⟨z1, hz1⟩ := Sub.step (uh HZ) hb1
     have G1 := hide (show z1.w.heap[z.w.heap.size]? = some (.cells #[.iface tt xx, .int .i64 af, .int .i64 ar] 85 (0, 0)) by rw [← hz1]; exact Array.getElem?_push_size)
     have L1 := hide (show OwnL z1.w W.heap.size u3 (P ++ ((lnA x).take j).map agT) by rw [← hz1]; exact (uh OW).later hb1)
     have C1 := hide (uh TK z1)
     clear hb1 OW TK
     go_wp2_with (refine wpList_load_row rfl 85 _ rfl z.w.heap.size rfl 85 #[.iface tt xx, .int .i64 af, .int .i64 ar] (0, 0) _ (uh G1) Tryz.underlying85 rfl (by kernel_rfl) ?_)
     refine (uh C1).mono ?_
     rintro r w2 ⟨pv, rfl, hO, hb⟩
     have L2 := hide ((uh L1).later hb)
     have PO := hide (hO.base (show W.heap.size ≤ z1.w.heap.size from z1.h.size))
     obtain ⟨z2, rfl⟩ := Sub.step (uh HZ) hb
     clear hO hb L1 C1 G1 c0 c1 c2 hz1
     obtain ⟨ca, cc, hpv, _⟩ := (uh PO).rd
     subst hpv
     generalize at_.length = tl at *
     have hb3 := below_new z2.w (.cells #[.slice ca tl cc] 39)
     obtain ⟨z3, hz3⟩ := Sub.step (uh HZ) hb3
     have L3 := hide (show OwnL z3.w W.heap.size u3 (P ++ ((lnA x).take j).map agT) by rw [← hz3]; exact (uh L2).later hb3)
     have P3 := hide (show OwnT z3.w W.heap.size (.slice ca tl cc) at_ by rw [← hz3]; exact (uh PO).later hb3)
     have G3 := hide (show z3.w.heap[z2.w.heap.size]? = some (.cells #[.slice ca tl cc] 39 (0, 0)) by rw [← hz3]; exact Array.getElem?_push_size)
     have LN := hide (show (P ++ ((lnA x).take j).map agT).length ≤ 1000 by simp; omega)
     clear hb3 L2 PO
     go_wp2_with (at_builtin; go_must (refine appL rfl _ _ rfl (uh HZ) z3.h rfl (uh L3) z2.w.heap.size (.slice ca tl cc) at_ rfl (uh G3) (uh P3) (uh LN) ?_; intro v4 z4 hO; have L4 := hide hO; clear hO))
     go_roundw
     case rel => exact ⟨j + 1, z4, by omega, by go_num, by rw [uh T2, ← List.append_assoc]; exact uh L4, rfl⟩
     case measure => simp [intOf]; omega
   ·
    obtain rfl : j = i1 := by omega
    rw [uh EA] at hown
    have OW := hide hown
    clear hown
    go_wp2
    obtain ⟨P2, hP2⟩ : ∃ P2, P ++ (lnA x).map agT = P2 := ⟨_, rfl⟩
    have lP2 : P2.length ≤ 5 := by rw [← hP2]; have := congrArg List.length (uh EA); simp at this; simp; omega
    have HE2 := hide (show P2 ++ x.l.map (toksF 6) = T by rw [← hP2, List.append_assoc]; exact uh HE)
    rw [hP2] at OW
    clear hP2 HE AC TKN OUj TA EA HP
    go_loopw [3, 52] (fun v i wr => ∃ (j : Nat) (z : Sub W.heap.size W), j ≤ i2 ∧ i = .int .i64 j ∧ OwnL z.w W.heap.size v (P2 ++ (x.l.take j).map (toksF 6)) ∧ wr = z.w) (fun _ i _ => i2 - (intOf i).toNat)
    case atStart => exact ⟨0, z, Nat.zero_le _, rfl, by simpa using uh OW, rfl⟩
    case round =>
     clear OW
     obtain ⟨j2_, z, hj2, rfl, hown, rfl⟩ := hrel
     by_cases hlt : j2_ < i2
     ·
      obtain ⟨g, rfl, hc⟩ := uh VC j2_ hlt
      have T2 := hide (uh TE j2_ hlt)
      have TK := hide (uh PTN j2_ hlt)
      have OW := hide hown
      have hjn : ¬ ((i2 : Int) ≤ (j2_ : Int)) := by omega
      have c0 := hc z
      clear hc hown
      obtain ⟨tt, xx, ett⟩ := tv_if (xAt x.l j2_)
      rw [ett] at TK c0
      clear ett
      generalize toksF 6 (xAt x.l j2_) = at_ at *
      go_wp2_with fail
      refine (uh TK z).mono ?_
      rintro r w2 ⟨pv, rfl, hO, hb⟩
      have L2 := hide ((uh OW).later hb)
      have PO := hide (hO.base (show W.heap.size ≤ z.w.heap.size from z.h.size))
      obtain ⟨z2, rfl⟩ := Sub.step (uh HZ) hb
      clear hO hb OW c0 TK
      obtain ⟨ca, cc, hpv, _⟩ := (uh PO).rd
      subst hpv
      generalize at_.length = tl at *
      have hb3 := below_new z2.w (.cells #[.slice ca tl cc] 39)
      obtain ⟨z3, hz3⟩ := Sub.step (uh HZ) hb3
      have L3 := hide (show OwnL z3.w W.heap.size _ (P2 ++ (x.l.take j2_).map (toksF 6)) by rw [← hz3]; exact (uh L2).later hb3)
      have P3 := hide (show OwnT z3.w W.heap.size (.slice ca tl cc) at_ by rw [← hz3]; exact (uh PO).later hb3)
      have G3 := hide (show z3.w.heap[z2.w.heap.size]? = some (.cells #[.slice ca tl cc] 39 (0, 0)) by rw [← hz3]; exact Array.getElem?_push_size)
      have LN := hide (show (P2 ++ (x.l.take j2_).map (toksF 6)).length ≤ 1000 by simp; omega)
      clear hb3 L2 PO
      go_wp2_with (at_builtin; go_must (refine appL rfl _ _ rfl (uh HZ) z3.h rfl (uh L3) z2.w.heap.size (.slice ca tl cc) at_ rfl (uh G3) (uh P3) (uh LN) ?_; intro v4 z4 hO; have L4 := hide hO; clear hO))
      go_roundw
      case rel => exact ⟨j2_ + 1, z4, by omega, by go_num, by rw [uh T2, ← List.append_assoc]; exact uh L4, rfl⟩
      case measure => simp [intOf]; omega
     ·
      obtain rfl : j2_ = i2 := by omega
      rw [uh EV, uh HE2] at hown
      have OW := hide hown
      clear hown
      go_wp2
      go_ret
      exact ⟨_, rfl, uh HO _ _ _ (uh OW), uh HB z⟩
structure TabX (w : World) : Prop where
 k : TabK w
 g : TabG w
 b : w.cell? ⟨11, 7, none⟩ = some (.int .u8 3)
theorem TabX.next {w w' : World} (h : TabX w) (hb : Below w.heap.size w w') : TabX w' :=
 ⟨h.k.next hb, h.g.later hb h.g.lt, (hb.cell (p := ⟨11, 7, none⟩) (World.block_lt_of_cell? w _ h.b)).trans h.b⟩
section
structure TabL (w : World) : Prop where
 x : TabX w
 f : TabF w
 d : TabD w
theorem TabL.next {w w' : World} (h : TabL w) (hb : Below w.heap.size w w') : TabL w' := ⟨h.x.next hb, h.f.next hb, h.d.next hb⟩
theorem TabL.a {w : World} (h : TabL w) : TabA w := ⟨h.x.k, h.f⟩
structure Lz (w3 : World) (C D : Nat) (w0 : World) (z : World) : Prop where
 bel : Below w0.heap.size w0 z
 sz : D ≤ z.heap.size
 kp : ∀ g, C ≤ g → g < D → z.heap[g]? = w3.heap[g]?
theorem Lz.next {w3 w0 z z' : World} {C D : Nat} (h : Lz w3 C D w0 z) (hb : Below z.heap.size z z') : Lz w3 C D w0 z' := ⟨h.bel.trans (hb.mono h.bel.size), Nat.le_trans h.sz hb.size, fun g h1 h2 => (hb.block g (Nat.lt_of_lt_of_le h2 h.sz)).trans (h.kp g h1 h2)⟩
theorem Lz.cell {w3 w0 z : World} {C D : Nat} (h : Lz w3 C D w0 z) {p : Addr} (h1 : C ≤ p.block) (h2 : p.block < D) : z.cell? p = w3.cell? p := World.cell?_of_block (h.kp p.block h1 h2)
theorem Lz.own {w3 w0 z : World} {C D : Nat} (h : Lz w3 C D w0 z) {v : Value} {ts : List Tk} (ho : OwnT w3 C v ts) (hD : w3.heap.size ≤ D) : OwnT z C v ts := ho.keep fun g hg hl => h.kp g (ho.lt hg).1 (by omega)
section
variable {ops : Array Oper} {rest : List Oper} {o : Oper} {a : Act} {Q : Exit → Act → World → Prop} {w w0 w3 : World} {B2 C D : Nat}
theorem appTo (hgd : o.guard = none) (s x : Operand) (ho : o.op = .call { callee := .builtin .append, args := #[s, x], argTypes := #[39, 39] }) (hL : Lz w3 C D w0 w) {v v2 : Value} {ts us : List Tk} (hs : a.eval s = v) (hown : OwnT w w0.heap.size v ts) (hav : ∀ g, v.ownBlock = some g → g < C ∨ D ≤ g) (hx : a.eval x = v2) (ho2 : OwnT w B2 v2 us) (hne : us ≠ []) (hl : ts.length + us.length ≤ 1000000)
  (h : ∀ (v' : Value) (w' : World), OwnT w' w0.heap.size v' (ts ++ us) → Lz w3 C D w0 w' → (∀ g, v'.ownBlock = some g → g < C ∨ D ≤ g) → wpList Tryz.prog ops Q rest (a.put o.dst v') w') : wpList Tryz.prog ops Q (o :: rest) a w := by
 obtain ⟨i0, hi, hz0, hz1, hz2⟩ := info_parts infoT
 obtain ⟨g, c, e, sr⟩ := ho2.src hne
 have hsz := hL.bel.size
 have hp : 0 < us.length := List.length_pos_iff.2 hne
 refine wpList_append_to hgd s x 39 ho w0.heap.size 71 i0 (.agg #[.int .i64 0, .int .i64 0, .string ⟨#[]⟩]) 3 32 Tryz.underlying39 hi hz0 hz1 hz2 rfl (by decide) v ts.length (cellsT ts) hs hown ⟨g, 0, none⟩ us.length c (cellsT us) (hx.trans e) (cellsT_len us) sr (cellsT_one us) (by unfold maxLen; omega) (by omega) hsz hp ?_
 intro g' cap w' h1 h2 h3
 refine h _ w' ?_ ⟨hL.bel.grown h2 hsz (fun g hg => (hown.lt hg).1), Nat.le_trans hL.sz h2.size, fun k k1 k2 => (h2.block k (Nat.lt_of_lt_of_le k2 hL.sz) (fun e => by have := hav k e.symm; omega)).trans (hL.kp k k1 k2)⟩ (fun k hk => ?_)
 ·
  unfold OwnT
  rw [List.length_append, cellsT_app]
  exact h1
 ·
  cases hk
  rcases h3 with h3 | h3
  · exact hav _ h3
  ·
   have := hL.sz
   exact .inr (show D ≤ g' by omega)
end
theorem OwnL.at_ {w : World} {B : Nat} {v : Value} {ps : List (List Tk)} (h : OwnL w B v ps) : ∃ e c, v = .slice e ps.length c ∧ ∀ j, j < ps.length → ∃ g pv, e = some ⟨g, 0, none⟩ ∧ B ≤ g ∧ g < w.heap.size ∧ w.cell? ⟨g, j, none⟩ = some pv ∧ OwnT w B pv (ps.getD j []) := by
 obtain ⟨vs, h1, h2, h3⟩ := h
 have hc := fun g hg j u hj => ownCells h2 g hg j u hj
 obtain ⟨h0, ⟨k1, k2⟩ | ⟨g, cap, cur, he, hg, hh, hn, hm, r⟩⟩ := h2
 · exact ⟨none, 0, by rw [k1, k2], fun j hj => by omega⟩
 ·
  subst he
  exact ⟨_, _, rfl, fun j hj => ⟨g, vs.getD j undef, rfl, hg, (Array.getElem?_eq_some_iff.1 hh).1, hc g rfl j _ (by simp [List.getD_eq_getElem?_getD, show j < vs.length by omega]), h3 j hj⟩⟩
theorem bh_len {x : Ln} (ok : lnX x = true) : (bhT x).length ≤ 11 ∧ ∀ j, j < (bhT x).length → (bhT x).getD j [] ≠ [] ∧ ((bhT x).getD j []).length ≤ 205 := by
 have h1 := lnA_len x
 have h2 := lnL_ok ok
 have h3 := lnA_ok ok
 have hall : ∀ p ∈ bhT x, p ≠ [] ∧ p.length ≤ 205 := by
  intro p hp
  unfold bhT at hp
  rcases List.mem_append.1 hp with hp | hp
  ·
   split at hp
   ·
    rcases List.mem_cons.1 hp with rfl | hp
    · exact ⟨by simp, by simp⟩
    ·
     split at hp
     · rw [List.mem_singleton.1 hp]; exact ⟨by simp, by simp⟩
     · cases hp
   · cases hp
  rcases List.mem_append.1 hp with hp | hp
  ·
   split at hp
   · rw [List.mem_singleton.1 hp]; exact ⟨by simp, by simp⟩
   · cases hp
  rcases List.mem_append.1 hp with hp | hp
  ·
   obtain ⟨a, ha, rfl⟩ := List.mem_map.1 hp
   exact agT_ok (h3 a ha)
  ·
   obtain ⟨e, he, rfl⟩ := List.mem_map.1 hp
   have hk := List.all_eq_true.1 h2.1 e he
   exact ⟨toks_ne hk, Nat.le_trans (toks_le hk) (by omega)⟩
 refine ⟨?_, fun j hj => hall _ (by simp [List.getD_eq_getElem?_getD, hj])⟩
 unfold bhT
 simp only [List.length_append, List.length_map]
 have e1 : (if x.k = 6 then [Tk.mk 1 0 x.s] :: (if x.n = 1 then [[Tk.mk 1 0 ovrS]] else []) else []).length ≤ 2 := by
  split
  · split <;> simp
  · simp
 have e2 : (if regB x.op = true then [[rgT x.n.toNat]] else []).length ≤ 1 := by split <;> simp
 have := h2.2
 omega
theorem hd_len (x : Ln) : (hdT x).length ≤ 2 := by
 unfold hdT
 repeat' split
 all_goals simp
theorem jn_len (ps : List (List Tk)) (h : ∀ j, j < ps.length → (ps.getD j []).length ≤ 205) : ∀ j, j ≤ ps.length → (jnT (ps.take j)).length ≤ 206 * j := by
 intro j
 induction j with
 | zero => intro _; simp [jnT]
 | succ j ih =>
  intro hj
  have h1 := ih (by omega)
  have h2 := h j (by omega)
  by_cases h0 : j = 0
  ·
   subst h0
   rw [jn_one ps (by omega)]
   omega
  ·
   rw [jn_more ps j (by omega) (by omega)]
   simp only [List.length_append, List.length_singleton]
   omega
theorem ltxI_any (x : Ln) (p : La) (w : World) (hr : RdL w x p) (hz : SzL x) (ht : TabL w) : Calls Tryz.prog 10 #[.agg (x.cs p)] w fun r w' => r = .returned (.string (lnTx x)) ∧ Below w.heap.size w w' := by
 have B0 := below_new w (.cells (x.cs p) 30)
 have R0 := hide (show (w.alloc (.cells (x.cs p) 30)).heap[w.heap.size]? = some (.cells (x.cs p) 30 (0, 0)) from Array.getElem?_push_size)
 have HH := hide (stmI_any x p _ (hr.later B0) hz (ht.a.next B0))
 have HB := hide B0
 have TE := hide (show (lnX x = true → lnTx x = strOf (lineOf (lnT x))) ∧ (lnX x = false → lnTx x = ⟨#[]⟩) from ⟨fun h => by unfold lnTx; rw [if_pos h], fun h => by unfold lnTx; rw [if_neg (by rw [h]; decide)]⟩)
 have TN := hide (fun w1 (h : Below w.heap.size w w1) => ht.next h)
 clear hr hz B0 ht
 unfold StR at HH
 cases hq : lnX x with
 | false =>
  have E := (uh TE).2 hq
  rw [E]
  rw [hq] at HH
  clear TE TN E
  go_enter Tryz.func10, Tryz.ntmps10
  generalize hW : w.alloc (.cells (x.cs p) 30) = W at *
  go_wp2_with (first | (refine wpList_load_row rfl 30 _ rfl w.heap.size rfl 30 (x.cs p) (0, 0) _ (uh R0) Tryz.underlying30 rfl (by kernel_rfl) ?_))
  refine (uh HH).mono ?_
  rintro r w1 ⟨m, rfl, hv, hb1⟩
  have BB := hide ((uh HB).trans (hb1.mono (uh HB).size))
  clear hb1 HH HB hv R0
  obtain ⟨mk, ms, mop, mn, e1, i1, j1, e2, i2, j2⟩ := m
  unfold Mt.cs
  simp only
  go_wp2
  go_ret
  exact ⟨rfl, (uh BB).alloc (uh BB).size _⟩
 | true =>
  have E := (uh TE).1 hq
  rw [E, ln_join hq]
  have LI := hide (fun w1 (h : Below w.heap.size w w1) c cp (h2 : RdT w1 c (hdT x ++ jnT (bhT x))) => lineI_any c (hdT x ++ jnT (bhT x)).length cp (hdT x ++ jnT (bhT x)) w1 rfl (by rw [← ln_join hq]; exact lnT_sz hq) h2 (uh TN w1 h).x.b)
  have HD := hide (fun a1 a2 a3 a4 a5 a6 w1 (h : Below w.heap.size w w1) => hdI_any x hq a1 a2 a3 a4 a5 a6 w1 (uh TN w1 h).x.k (uh TN w1 h).d)
  have BH := hide (fun a1 a2 a3 a4 a5 a6 B w1 (h : Below w.heap.size w w1) (h1 : OwnA w1 B (.slice a1 a2 a3) (lnO x)) (h2 : OwnV w1 B (.slice a4 a5 a6) (x.l.map tv)) => bhI_any x hq a1 a2 a3 a4 a5 a6 B w1 h1 h2 (uh TN w1 h).a (uh TN w1 h).x.g)
  have hl1 := hd_len x
  have hl2 := (bh_len hq).1
  have PL := hide (bh_len hq).2
  rw [hq] at HH
  clear TE TN E
  have J1 := hide (fun j h => jn_more (bhT x) j h)
  have J0 := hide (jn_one (bhT x))
  have JL := hide (fun j hj => jn_len (bhT x) (fun i hi => (uh PL i hi).2) j hj)
  have JE := hide (show jnT ((bhT x).take (bhT x).length) = jnT (bhT x) by rw [List.take_length])
  generalize bhT x = ps at *
  generalize hdT x = hd at *
  generalize hlo : lnO x = LO at *
  generalize hlv : x.l.map tv = LV at *
  go_enter Tryz.func10, Tryz.ntmps10
  generalize hW : w.alloc (.cells (x.cs p) 30) = W at *
  go_wp2_with (first | (refine wpList_load_row rfl 30 _ rfl w.heap.size rfl 30 (x.cs p) (0, 0) _ (uh R0) Tryz.underlying30 rfl (by kernel_rfl) ?_))
  refine (uh HH).mono ?_
  rintro r w1 ⟨m, rfl, hv, hb1⟩
  have hv := hv (by trivial)
  obtain ⟨mk, ms, mop, mn, e1, i1, j1, e2, i2, j2⟩ := m
  obtain ⟨m1, m2, m3, m4, m5, m6⟩ := hv
  simp only at m1 m2 m3 m4 m5 m6
  rw [hlo] at m5
  rw [hlv] at m6
  rw [← m1, ← m2, ← m3, ← m4] at HD BH
  clear m1 m2 m3 m4 hlo hlv
  unfold Mt.cs
  simp only
  have B1 := hide ((uh HB).trans (hb1.mono (uh HB).size))
  have hb2 := below_new w1 (.cells #[.int .i64 mk, .string ms, .int .i64 mop, .int .i64 mn, .slice e1 i1 j1, .slice e2 i2 j2] 64)
  obtain ⟨U, hU⟩ : ∃ U, w1.alloc (.cells #[.int .i64 mk, .string ms, .int .i64 mop, .int .i64 mn, .slice e1 i1 j1, .slice e2 i2 j2] 64) = U := ⟨_, rfl⟩
  rw [hU] at hb2
  have RM := hide (show U.heap[w1.heap.size]? = some (.cells #[.int .i64 mk, .string ms, .int .i64 mop, .int .i64 mn, .slice e1 i1 j1, .slice e2 i2 j2] 64 (0, 0)) by rw [← hU]; exact Array.getElem?_push_size)
  have B2 := hide ((uh B1).trans (hb2.mono (uh B1).size))
  have A2 := hide (m5.later hb2)
  have V2 := hide (m6.later hb2)
  have H2 := hide (uh HD e1 i1 j1 e2 i2 j2 U (uh B2))
  clear hb1 hb2 HH HB R0 m5 m6 B1 HD
  go_wp2_with (first | (refine wpList_load_row rfl 64 _ rfl w1.heap.size rfl 64 #[.int .i64 mk, .string ms, .int .i64 mop, .int .i64 mn, .slice e1 i1 j1, .slice e2 i2 j2] (0, 0) _ (uh RM) Tryz.underlying64 rfl (by kernel_rfl) ?_))
  refine (uh H2).mono ?_
  rintro r w2 ⟨v, rfl, hO, hb⟩
  have O2 := hide (hO.base (uh B2).size)
  have LT2 := hide (fun g (hg : v.ownBlock = some g) => (hO.lt hg).2)
  have R2 := hide (row_keep (uh RM) hb)
  have A3 := hide ((uh A2).later hb)
  have V3 := hide ((uh V2).later hb)
  have B3 := hide ((uh B2).trans (hb.mono (uh B2).size))
  have H3 := hide (uh BH e1 i1 j1 e2 i2 j2 _ w2 (uh B3) (uh A3) (uh V3))
  clear hO hb RM A2 V2 A3 V3 BH H2 B2 hU
  go_wp2_with (first | (refine wpList_load_row rfl 64 _ rfl w1.heap.size rfl 64 #[.int .i64 mk, .string ms, .int .i64 mop, .int .i64 mn, .slice e1 i1 j1, .slice e2 i2 j2] (0, 0) _ (uh R2) Tryz.underlying64 rfl (by kernel_rfl) ?_))
  refine (uh H3).mono ?_
  rintro r w3 ⟨vb, rfl, hO, hb⟩
  have O3 := hide ((uh O2).later hb)
  have L3 := hide (show Lz w3 w2.heap.size w3.heap.size w w3 from ⟨(uh B3).trans (hb.mono (uh B3).size), Nat.le_refl _, fun _ _ _ => rfl⟩)
  obtain ⟨eb, cb, hvb, hpt⟩ := hO.at_
  subst hvb
  have PT := hide hpt
  have AV := hide (fun g (hg : v.ownBlock = some g) => (Or.inl (uh LT2 g hg) : g < w2.heap.size ∨ w3.heap.size ≤ g))
  clear hb H3 R2 B3 LT2 O2 hO hpt hv
  generalize hnp : ps.length = np at *
  clear hnp
  go_wp2
  go_loopw [5, 20] (fun v i z => ∃ j : Nat, j ≤ np ∧ i = .int .i64 j ∧ OwnT z w.heap.size v (hd ++ jnT (ps.take j)) ∧ Lz w3 w2.heap.size w3.heap.size w z ∧ (∀ g, v.ownBlock = some g → g < w2.heap.size ∨ w3.heap.size ≤ g)) (fun _ i _ => np - (intOf i).toNat)
  case atStart => exact ⟨0, Nat.zero_le _, rfl, by simpa [jnT] using uh O3, uh L3, uh AV⟩
  case round =>
   clear O3 L3 AV
   obtain ⟨j, hj, rfl, hown, hlz, hav⟩ := hrel
   by_cases hlt : j < np
   ·
    obtain ⟨g, pv, rfl, hg1, hg2, hcell, hpo⟩ := uh PT j hlt
    have c0 := (hlz.cell (p := ⟨g, j, none⟩) hg1 hg2).trans hcell
    have P0 := hide (hlz.own hpo (Nat.le_refl _))
    obtain ⟨ca, cc, hpv, _⟩ := hpo.rd
    subst hpv
    obtain ⟨pn, pl⟩ := uh PL j hlt
    have jl := uh JL j hj
    have PO := hide hpo
    have OW := hide hown
    have LZ := hide hlz
    have AZ := hide hav
    have hjn : ¬ ((np : Int) ≤ (j : Int)) := by omega
    have LB := hide (show (hd ++ jnT (ps.take j)).length ≤ 3000 by rw [List.length_append]; omega)
    clear hcell hg1 hg2 hpo hown hlz hav jl
    by_cases h0 : j = 0
    ·
     subst h0
     have JJ := hide (show hd ++ jnT (ps.take (0 + 1)) = (hd ++ jnT (ps.take 0)) ++ ps.getD 0 [] by rw [show 0 + 1 = 1 from rfl, uh J0 (by omega)]; simp [jnT])
     generalize ps.getD 0 [] = pt at *
     have l2 := hide (show (hd ++ jnT (ps.take 0)).length + pt.length ≤ 1000000 by have := uh LB; omega)
     have PL2 := hide pn
     clear pl pn LB
     go_wp2_with (at_builtin; go_must (refine appTo rfl _ _ rfl (uh LZ) rfl (uh OW) (uh AZ) rfl (uh P0) (uh PL2) (uh l2) ?_; intro v4 w4 hO hL hA; have O4 := hide hO; have L4 := hide hL; have A4 := hide hA; clear hO hL hA))
     go_roundw
     case rel => exact ⟨0 + 1, by omega, by go_num, by rw [uh JJ]; exact uh O4, uh L4, uh A4⟩
     case measure => simp [intOf]; omega
    ·
     have g0 : 0 < j := by omega
     have gi : (0 : Int) < (j : Int) := by omega
     have JJ := hide (show hd ++ jnT (ps.take (j + 1)) = ((hd ++ jnT (ps.take j)) ++ [mkT 44]) ++ ps.getD j [] by rw [uh J1 j g0 hlt]; simp [List.append_assoc])
     generalize ps.getD j [] = pt at *
     generalize hd ++ jnT (ps.take j) = ts at *
     have l1 := hide (show ts.length + [Tk.mk 4 0 ⟨#[44]⟩].length ≤ 1000000 by have := uh LB; simp; omega)
     have l2 := hide (show (ts ++ [Tk.mk 4 0 ⟨#[44]⟩]).length + pt.length ≤ 1000000 by have := uh LB; simp; omega)
     have PL2 := hide pn
     have M1 := hide (markI_any ⟨#[44]⟩ wr)
     unfold Tk.v Tk.cs at M1
     simp only at M1
     clear pl pn LB
     go_wp2_with fail
     refine (uh M1).mono ?_
     rintro r z1 ⟨rfl, hb⟩
     have O1 := hide ((uh OW).later hb)
     have L1 := hide ((uh LZ).next hb)
     clear hb OW LZ M1 P0 c0
     have hb := below_new z1 (.cells #[.int .i64 4, .int .i64 0, .string ⟨#[44]⟩] 71)
     obtain ⟨z2, hz2⟩ : ∃ z, z1.alloc (.cells #[.int .i64 4, .int .i64 0, .string ⟨#[44]⟩] 71) = z := ⟨_, rfl⟩
     rw [hz2] at hb
     have O2 := hide ((uh O1).later hb)
     have L2 := hide ((uh L1).next hb)
     have S2 := hide (show OwnT z2 z1.heap.size (.slice (some ⟨z1.heap.size, 0, none⟩) 1 1) [Tk.mk 4 0 ⟨#[44]⟩] by rw [← hz2]; exact ownT_new z1 (Tk.mk 4 0 ⟨#[44]⟩) z1.heap.size (Nat.le_refl _))
     clear hb O1 L1
     have STAGE1 : True := trivial
     go_wp2_with (first | (at_builtin; clear STAGE1; go_must (refine appTo rfl _ _ rfl (uh L2) rfl (uh O2) (uh AZ) rfl (uh S2) (one_ne _) (uh l1) ?_; intro v4 w4 hO hL hA; have O4 := hide hO; have P4 := hide (hL.own (uh PO) (Nat.le_refl _)); have L4 := hide hL; have A4 := hide hA; have STAGE2 : True := trivial; clear hO hL hA O2 L2 AZ S2)) | (at_builtin; clear STAGE2; go_must (refine appTo rfl _ _ rfl (uh L4) rfl (uh O4) (uh A4) rfl (uh P4) (uh PL2) (uh l2) ?_; intro v5 w5 hO hL hA; have O5 := hide hO; have L5 := hide hL; have A5 := hide hA; clear hO hL hA)))
     go_roundw
     case rel => exact ⟨j + 1, by omega, by go_num, by rw [uh JJ]; exact uh O5, uh L5, uh A5⟩
     case measure => simp [intOf]; omega
   ·
    obtain rfl : j = np := by omega
    rw [uh JE] at hown
    obtain ⟨c, cp, hv, hrd⟩ := hown.rd
    subst hv
    have L2 := hide (uh LI wr hlz.bel c cp hrd)
    have BB := hide hlz.bel
    clear hown hrd hlz hav LI
    generalize (hd ++ jnT ps).length = tl at *
    go_wp2_with fail
    refine (uh L2).mono ?_
    rintro r z1 ⟨rfl, hb⟩
    have B2 := hide ((uh BB).trans (hb.mono (uh BB).size))
    clear hb L2 BB
    go_wp2
    go_ret
    exact ⟨rfl, uh B2⟩
end
def tL (x : Ln) : List UInt8 := if lnX x = true then lineOf (lnT x) else []
theorem tL_tx (x : Ln) : lnTx x = strOf (tL x) := by
 unfold lnTx tL
 split
 · rfl
 · rfl
theorem lineOf_le (ts : List Tk) (h : ts.length + szL ts ≤ 1048576) : (lineOf ts).length ≤ 8388608 := by
 have h1 := lineT_len ts ts.length (Nat.le_refl _)
 have h2 := szL_le ts ts.length
 unfold lineOf
 omega
theorem tL_len (x : Ln) : (tL x).length ≤ 8388608 := by
 unfold tL
 split
 ·
  rename_i h
  exact lineOf_le _ (lnT_sz h)
 · exact Nat.zero_le _
def txB (l : List Ln) : List UInt8 := (l.map fun x => tL x ++ [10]).flatten
theorem txB_take (l : List Ln) (k : Nat) (h : k < l.length) : txB (l.take (k + 1)) = txB (l.take k) ++ tL (l.getD k ln0) ++ [10] := by
 unfold txB
 rw [List.take_succ_eq_append_getElem h, List.map_append, List.flatten_append, List.getD_eq_getElem?_getD, List.getElem?_eq_getElem h]
 simp
theorem txB_len (l : List Ln) : ∀ k, k ≤ l.length → (txB (l.take k)).length ≤ 8388609 * k
 | 0, _ => by simp [txB]
 | k + 1, h => by
  have h1 := txB_len l k (by omega)
  have h2 := tL_len (l.getD k ln0)
  rw [txB_take l k (by omega), List.length_append, List.length_append, List.length_singleton]
  omega
theorem szLz (x : Ln) (p : La) : (Tryz.prog.info? 30).map (·.size) = some (x.cs p).toList.length := by kernel_rfl
theorem rows_at {w : World} {a : Option Addr} {n c : Nat} {l : List Ln} {ps : List La} (h : RdLs w (.slice a n c) l ps) : ∀ i, i < l.length → ∃ g, a = some ⟨g, 0, none⟩ ∧ w.rangeAt g (i * 17) ((l.getD i ln0).cs (ps.getD i la0)).toList := by
 obtain ⟨⟨a', c', e, h1⟩, _⟩ := h
 injection e with e1 e2 e3
 subst e1
 exact h1
theorem toS (l : List Ln) (ps : List La) (v : Value) (w : World) (hr : RdLs w v l ps) (hz : ∀ i, i < l.length → SzL (l.getD i ln0)) (hl : l.length ≤ 1048576) : Calls Tryz.prog 30 #[v] w fun r w' => r = .returned (.string (strOf (txB l))) ∧ Below w.heap.size w w' := by
 obtain ⟨⟨a, cap, rfl, _⟩, hrd⟩ := id hr
 have HR := hide hr
 have HZ := hide hz
 clear hr hz hrd
 obtain ⟨len, hlen⟩ : ∃ len, l.length = len := ⟨_, rfl⟩
 have FN := hide (show l.take len = l by rw [← hlen, List.take_length])
 rw [hlen] at hl ⊢
 go_enter Tryz.func30, Tryz.ntmps30
 go_wp2
 go_loopw [3, 4] (fun sv i wr => ∃ k : Nat, k ≤ len ∧ i = .int .i64 k ∧ sv = .string (strOf (txB (l.take k))) ∧ Below w.heap.size w wr) (fun _ i _ => len - (intOf i).toNat)
 case atStart => exact ⟨0, Nat.zero_le _, rfl, rfl, Below.refl _ _⟩
 case round =>
  obtain ⟨k, hk, rfl, rfl, hb⟩ := hrel
  by_cases hlt : k < len
  ·
   have hkl : k < l.length := by omega
   obtain ⟨g, rfl, ra⟩ := rows_at (uh HR) k hkl
   have RG := hide (show wr.rangeAt g (k * 17) ((l.getD k ln0).cs (ps.getD k la0)).toList from fun j u hj => cell_later hb (ra j u hj))
   have HT := hide (ltxS_any (l.getD k ln0) (ps.getD k la0) wr (((uh HR).rd k hkl).later hb) (uh HZ k hkl))
   rw [tL_tx] at HT
   have SO := hide (szLz (l.getD k ln0) (ps.getD k la0))
   have TA := hide (show ((l.getD k ln0).cs (ps.getD k la0)).toList.toArray = (l.getD k ln0).cs (ps.getD k la0) from rfl)
   have TT := hide (show strOf (txB (l.take (k + 1))) = strOf (txB (l.take k)) ++ strOf (tL (l.getD k ln0)) ++ ⟨#[10]⟩ by rw [txB_take l k hkl, ← strOf_append, ← strOf_append]; rfl)
   have z1 : (strOf (txB (l.take k))).size ≤ 8796094070784 := by have := txB_len l k (by omega); rw [strOf_size]; omega
   have z2 : (strOf (tL (l.getD k ln0))).size ≤ 8388608 := by have := tL_len (l.getD k ln0); rw [strOf_size]; omega
   clear ra HR HZ FN
   generalize (l.getD k ln0).cs = f at *
   generalize ps.getD k la0 = p at *
   generalize strOf (txB (l.take k)) = t0 at *
   generalize strOf (tL (l.getD k ln0)) = t1 at *
   go_wp2_with ((with_reducible show wpList _ _ _ (⟨_, .load _ _, _, _, _, _⟩ :: _) _ _); refine wpList_load_mid rfl 30 _ rfl g (k * 17) rfl (f p).toList _ (uh RG) Tryz.underlying30 rfl (uh SO) ?_; rw [uh TA])
   refine (uh HT).mono ?_
   rintro r w1 ⟨rfl, hb1⟩
   have B1 := hide (hb.trans (hb1.mono hb.size))
   clear hb1 HT RG
   go_wp2
   go_roundw
   case rel => exact ⟨k + 1, by omega, by go_num, by rw [uh TT], uh B1⟩
   case measure => simp [intOf]; omega
  ·
   obtain rfl : k = len := by omega
   rw [uh FN]
   go_wp2
   go_ret
   exact ⟨rfl, hb⟩
theorem toI (l : List Ln) (ps : List La) (v : Value) (w : World) (hr : RdLs w v l ps) (hz : ∀ i, i < l.length → SzL (l.getD i ln0)) (hl : l.length ≤ 1048576) (ht : TabL w) : Calls Tryz.prog 25 #[v] w fun r w' => r = .returned (.string (strOf (txB l))) ∧ Below w.heap.size w w' := by
 obtain ⟨⟨a, cap, rfl, _⟩, hrd⟩ := id hr
 have HR := hide hr
 have HZ := hide hz
 have TB := hide (fun wr (h : Below w.heap.size w wr) => ht.next h)
 clear hr hz hrd ht
 obtain ⟨len, hlen⟩ : ∃ len, l.length = len := ⟨_, rfl⟩
 have FN := hide (show l.take len = l by rw [← hlen, List.take_length])
 have O0 := hide (lo_new w)
 rw [hlen] at hl ⊢
 go_enter Tryz.func25, Tryz.ntmps25
 go_wp2
 go_loopw [8] (fun i wr => ∃ k : Nat, k ≤ len ∧ i = .int .i64 k ∧ Lo w wr (txB (l.take k))) (fun i _ => len - (intOf i).toNat)
 case atStart => exact ⟨0, Nat.zero_le _, rfl, uh O0⟩
 case round =>
  clear O0
  obtain ⟨k, hk, rfl, ho⟩ := hrel
  by_cases hlt : k < len
  ·
   have hkl : k < l.length := by omega
   obtain ⟨g, rfl, ra⟩ := rows_at (uh HR) k hkl
   have hb := ho.bel
   have hbn := below_new wr (.cells ((l.getD k ln0).cs (ps.getD k la0)) 30)
   have O1 := hide (ho.later hbn)
   have RG := hide (show wr.rangeAt g (k * 17) ((l.getD k ln0).cs (ps.getD k la0)).toList from fun j u hj => cell_later hb (ra j u hj))
   have G1 := hide (show (wr.alloc (.cells ((l.getD k ln0).cs (ps.getD k la0)) 30)).heap[wr.heap.size]? = some (.cells ((l.getD k ln0).cs (ps.getD k la0)) 30 (0, 0)) from Array.getElem?_push_size)
   have HT := hide (ltxI_any (l.getD k ln0) (ps.getD k la0) (wr.alloc (.cells ((l.getD k ln0).cs (ps.getD k la0)) 30)) (((uh HR).rd k hkl).later (uh O1).bel) (uh HZ k hkl) (uh TB _ (uh O1).bel))
   rw [tL_tx] at HT
   have SO := hide (szLz (l.getD k ln0) (ps.getD k la0))
   have SI := hide (szLi (l.getD k ln0) (ps.getD k la0))
   have SH := hide (show (#[.int .i64 0, .string ⟨#[]⟩, .int .i64 0, .int .i64 0, .int .i64 0, .int .i64 0, .int .i64 0, .string ⟨#[]⟩, .slice none 0 0, .int .i64 0, .int .i64 0, .int .i64 0, .int .i64 0, .string ⟨#[]⟩, .slice none 0 0, .int .i64 0, .slice none 0 0] : Array Value).size = ((l.getD k ln0).cs (ps.getD k la0)).size from rfl)
   have CA := hide (cs_all (l.getD k ln0) (ps.getD k la0))
   have TA := hide (show ((l.getD k ln0).cs (ps.getD k la0)).toList.toArray = (l.getD k ln0).cs (ps.getD k la0) from rfl)
   have TT := hide (txB_take l k hkl)
   have Z1 := hide (show (txB (l.take k)).length ≤ 8796094070784 by have := txB_len l k (by omega); omega)
   have Z2 := hide (tL_len (l.getD k ln0))
   clear ra HR HZ FN TB ho hb hbn
   generalize (l.getD k ln0).cs = f at *
   generalize ps.getD k la0 = p at *
   generalize txB (l.take k) = t0 at *
   generalize tL (l.getD k ln0) = t1 at *
   go_wp2_with (first | ((with_reducible show wpList _ _ _ (⟨_, .load _ _, _, _, _, _⟩ :: _) _ _); refine wpList_load_mid rfl 30 _ rfl g (k * 17) rfl (f p).toList _ (uh RG) Tryz.underlying30 rfl (uh SO) ?_; rw [uh TA]) | ((with_reducible show wpList _ _ _ (⟨_, .load _ _, _, _, _, _⟩ :: _) _ _); refine wpList_load_row rfl 30 _ rfl wr.heap.size rfl 30 (f p) (0, 0) _ (uh G1) Tryz.underlying30 rfl (uh SI) ?_) | ((with_reducible show wpList _ _ _ (⟨_, .store _ _ _, _, _, _, _⟩ :: _) _ _); refine storeM rfl 30 _ _ rfl (f p) rfl rfl _ (uh SI) (uh SH) (uh CA) ?_))
   refine (uh HT).mono ?_
   rintro r w1 ⟨rfl, hb1⟩
   have O2 := hide ((uh O1).later hb1)
   have WS := hide (writeS2 w.heap.size w.heap.size t0 t1 w1 (uh O2).bd (by have := uh Z1; omega) (by have := uh Z2; omega) (uh O2).sz)
   clear hb1 HT RG G1 O1
   go_wp2_with fail
   refine (uh WS).mono ?_
   rintro e w2 ⟨⟨v2, rfl⟩, k2, hb2, _⟩
   have O3 := hide ((uh O2).next hb2 k2)
   have WB := hide (writeB2 w.heap.size w.heap.size (t0 ++ t1) 10 w2 (uh O3).bd (by have := uh Z1; have := uh Z2; rw [List.length_append]; omega) (uh O3).sz)
   clear hb2 k2 WS O2
   go_wp2_with fail
   refine (uh WB).mono ?_
   rintro e w3 ⟨rfl, k3, hb3, _⟩
   have O4 := hide ((uh O3).next hb3 k3)
   rw [← uh TT] at O4
   clear hb3 k3 WB O3
   go_wp2
   go_roundw
   case rel => exact ⟨k + 1, by omega, by go_num, uh O4⟩
   case measure => simp [intOf]; omega
  ·
   obtain rfl : k = len := by omega
   rw [uh FN] at ho
   have SB := hide (strAny w.heap.size w.heap.size (txB l) wr ho.bd ho.sz)
   have B1 := hide ho.bel
   clear ho
   go_wp2_with fail
   refine (uh SB).mono ?_
   rintro e w4 ⟨rfl, hb4⟩
   have HB := hide ((uh B1).trans hb4)
   clear hb4 SB
   go_wp2
   go_ret
   exact ⟨rfl, uh HB⟩
end Go.Proofs.YtjnblcgekpgkoaaGreatDoor
