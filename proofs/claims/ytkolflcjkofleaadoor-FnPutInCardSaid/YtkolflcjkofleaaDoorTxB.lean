/- Contracts over this seat's translation, laid together; conditions stand as hypotheses of each. -/
import Derived.Test.YtkolflcjkofleaaDoorTxA
import Derived.Laws.BitsAllLaws
import Derived.Deep.RegionWith
import Derived.Test.YtkolflcjkofleaaDoorProg
import Derived.Deep.Slices
import Derived.Lib.SmallJoins
import Derived.Laws.OwnMore
import Derived.Laws.Rows
import Derived.Lib.Builder

namespace Go.Proofs.YtkolflcjkofleaaDoor
open Go.ChangeShapes Go.WideShapes Go.ChangeAt Go.RowKit
set_option linter.unusedVariables false
set_option maxRecDepth 8000

theorem below_row {w w' : World} {cs : Array Value} (h : Below w.heap.size w w') : Below w.heap.size w (w'.setRow w.heap.size cs) :=
  h.trans ⟨rfl, rfl, rfl, by simp [World.setRow], fun k hk => setRow_other _ _ _ _ (by omega)⟩
theorem extract_size (s : ByteArray) (a b : Nat) : (s.extract a b).size ≤ s.size := by
  rw [ByteArray.size_extract]
  omega
theorem numT_some {bad : Tk} {x : ByteArray} {m : Nat} (hm : m < 65536) (hx : x = strOf (octD m)) : numT bad x = ⟨2, m, ⟨#[]⟩⟩ := by unfold numT; rw [numV_yes hm hx]
theorem numT_none {bad : Tk} {x : ByteArray} (h : ∀ m, m < 65536 → x ≠ strOf (octD m)) : numT bad x = bad := by unfold numT; rw [numV_no h]
theorem one_sm {s : ByteArray} {k : Nat} (bad : Tk) (h1 : smB (bAt s.data.toList k) = true) : oneE s k = runN ldB s.data.toList k ∧ oneT bad s k = wordT (s.extract k (oneE s k)) := by
  constructor
  · unfold oneE; rw [if_pos h1]
  · unfold oneT; rw [if_pos h1]
theorem one_dg {s : ByteArray} {k : Nat} (bad : Tk) (h1 : smB (bAt s.data.toList k) = false) (h2 : dgB (bAt s.data.toList k) = true) : oneE s k = runN dgB s.data.toList k ∧ oneT bad s k = numT bad (s.extract k (oneE s k)) := by
  have n1 : ¬ smB (bAt s.data.toList k) = true := by rw [h1]; decide
  constructor
  · unfold oneE; rw [if_neg n1, if_pos h2]
  · unfold oneT; rw [if_neg n1, if_pos h2]
theorem one_dot {s : ByteArray} {k : Nat} (bad : Tk) (h1 : smB (bAt s.data.toList k) = false) (h2 : dgB (bAt s.data.toList k) = false) (h3 : bAt s.data.toList k = 46) (h4 : k + 1 < s.size) (h5 : smB (bAt s.data.toList (k + 1)) = true) : oneE s k = runN ldB s.data.toList (k + 1) ∧ oneT bad s k = ⟨3, 0, s.extract k (oneE s k)⟩ := by
  have n1 : ¬ smB (bAt s.data.toList k) = true := by rw [h1]; decide
  have n2 : ¬ dgB (bAt s.data.toList k) = true := by rw [h2]; decide
  have n3 : (bAt s.data.toList k == 46 && (decide (k + 1 < s.size) && smB (bAt s.data.toList (k + 1)))) = true := by rw [h3, h5, decide_eq_true h4]; rfl
  constructor
  · unfold oneE; rw [if_neg n1, if_neg n2, if_pos n3]
  · unfold oneT; rw [if_neg n1, if_neg n2, if_pos n3]
theorem one_mk {s : ByteArray} {k : Nat} (bad : Tk) (h1 : smB (bAt s.data.toList k) = false) (h2 : dgB (bAt s.data.toList k) = false) (h3 : bAt s.data.toList k = 46 → k + 1 < s.size → smB (bAt s.data.toList (k + 1)) = false) : oneE s k = k + 1 ∧ oneT bad s k = ⟨4, 0, s.extract k (k + 1)⟩ := by
  have n1 : ¬ smB (bAt s.data.toList k) = true := by rw [h1]; decide
  have n2 : ¬ dgB (bAt s.data.toList k) = true := by rw [h2]; decide
  have n3 : ¬ (bAt s.data.toList k == 46 && (decide (k + 1 < s.size) && smB (bAt s.data.toList (k + 1)))) = true := by
    intro h
    rw [Bool.and_eq_true, Bool.and_eq_true, beq_iff_eq, decide_eq_true_eq] at h
    rw [h3 h.1 h.2.1] at h
    exact absurd h.2.2 (by decide)
  have e : oneE s k = k + 1 := by unfold oneE; rw [if_neg n1, if_neg n2, if_neg n3]
  refine ⟨e, ?_⟩
  unfold oneT
  rw [if_neg n1, if_neg n2, if_neg n3, e]
end Go.Proofs.YtkolflcjkofleaaDoor

namespace Go.Proofs.YtkolflcjkofleaaDoor
open Go.ChangeShapes Go.WideShapes Go.ChangeAt Go.RowKit
set_option linter.unusedVariables false
set_option maxRecDepth 8000

theorem head_bAt {l : List UInt8} {k : Nat} {c : UInt8} {r : List UInt8} (h : l.drop k = c :: r) : k < l.length ∧ bAt l k = (c.toNat : Int) ∧ l.drop (k + 1) = r := by
  have hk : k < l.length := by
    by_cases hk : k < l.length
    · exact hk
    · rw [List.drop_eq_nil_of_le (by omega)] at h; cases h
  refine ⟨hk, ?_, ?_⟩
  · rw [drop_bAt hk] at h
    have e := (List.cons.inj h).1
    unfold bAt
    rw [e]
  · rw [drop_bAt hk] at h
    exact (List.cons.inj h).2
/-- What follows a token: nothing, or a blank. -/
def Gap (r : List UInt8) : Prop := r = [] ∨ ∃ q, r = 32 :: q
theorem runN_all {p : Int → Bool} {l x r : List UInt8} {k : Nat} (h : l.drop k = x ++ r) (hx : ∀ c ∈ x, p (c.toNat : Int) = true) (hr : Gap r) (h32 : p 32 = false) : runN p l k = k + x.length := by
  unfold runN
  rw [h, List.takeWhile_append_of_pos hx]
  have : r.takeWhile (fun c => p (c.toNat : Int)) = [] := by
    rcases hr with rfl | ⟨q, rfl⟩
    · rfl
    · rw [List.takeWhile_cons]
      have e : p ((32 : UInt8).toNat : Int) = false := h32
      rw [e]
      rfl
  rw [this, List.append_nil]
theorem ext_of {s : ByteArray} {x r : List UInt8} {k : Nat} (h : s.data.toList.drop k = x ++ r) : s.extract k (k + x.length) = strOf x := by
  apply bytes_inj
  rw [ByteArray.data_extract, Array.toList_extract, List.extract_eq_take_drop, h, strOf_list, Nat.add_sub_cancel_left, List.take_left]
/-- A name's form, opened. -/
theorem form_open {l : List UInt8} (h : formB l = true) : ∃ c r, l = c :: r ∧ smB (c.toNat : Int) = true ∧ (∀ x ∈ l, ldB (x.toNat : Int) = true) ∧ l.length ≤ 6 := by
  unfold formB at h
  rw [Bool.and_eq_true, inB_iff, List.all_eq_true] at h
  obtain ⟨h1, h2, h3⟩ := h
  match l, h2 with
  | c :: r, _ =>
    refine ⟨c, r, rfl, ?_, ?_, by omega⟩
    · have := h1 0 (List.mem_range.2 (by simp))
      unfold okAt at this
      rw [show decide (0 < 0) = false from rfl, Bool.false_and, Bool.or_false] at this
      exact this
    · intro x hx
      obtain ⟨i, hi, rfl⟩ := List.getElem_of_mem hx
      have := h1 i (List.mem_range.2 hi)
      unfold okAt bAt at this
      rw [List.getD_eq_getElem?_getD, List.getElem?_eq_getElem hi] at this
      simp only [Option.getD_some] at this
      unfold ldB
      rw [Bool.or_eq_true] at this ⊢
      rcases this with h | h
      · exact .inl h
      · rw [Bool.and_eq_true] at h; exact .inr h.2
theorem kept_form : ∀ x ∈ keptL, formB x.data.toList = true := by decide +kernel
theorem ld_32 : ldB 32 = false := by decide
theorem dg_32 : dgB 32 = false := by decide
theorem sm_bd {c : Int} (h : smB c = true) : 97 ≤ c ∧ c ≤ 122 := (inB_iff _ _ _).1 h
theorem dg_bd {c : Int} (h : dgB c = true) : 48 ≤ c ∧ c ≤ 57 := (inB_iff _ _ _).1 h
theorem bl_no {c : Int} (h : c ≠ 32) (h2 : c ≠ 9) : blB c = false := by unfold blB; rw [beq_eq_false_iff_ne.2 h, beq_eq_false_iff_ne.2 h2]; rfl
/-- How a token is read again. -/
def Again (s : ByteArray) (k : Nat) (t : Tk) : Prop := k < s.size ∧ bAt s.data.toList k ≠ 59 ∧ blB (bAt s.data.toList k) = false ∧ oneE s k = k + (tokL t).length ∧ oneT badS s k = t
theorem again_word {s : ByteArray} {k : Nat} {x : ByteArray} {r : List UInt8} {t : Tk} (hf : formB x.data.toList = true) (h : s.data.toList.drop k = x.data.toList ++ r) (hr : Gap r) (ht : tokL t = x.data.toList) (hw : wordT x = t) : Again s k t := by
  obtain ⟨c, q, e, hc, hall, _⟩ := form_open hf
  have h0 : s.data.toList.drop k = c :: (q ++ r) := by rw [h, e]; rfl
  obtain ⟨hk, hb, _⟩ := head_bAt h0
  have hs1 : smB (bAt s.data.toList k) = true := by rw [hb]; exact hc
  have hbd := sm_bd hs1
  obtain ⟨e1, e2⟩ := one_sm badS hs1
  have hrun := runN_all (p := ldB) h hall hr ld_32
  refine ⟨by rw [← size_len]; exact hk, by omega, bl_no (by omega) (by omega), ?_, ?_⟩
  · rw [e1, hrun, ht]
  · rw [e2, e1, hrun, ext_of h, strOf_of, hw]
theorem again_any {s : ByteArray} {k : Nat} {t : Tk} {r : List UInt8} (hok : t.ok = true) (h : s.data.toList.drop k = tokL t ++ r) (hr : Gap r) : Again s k t := by
  obtain ⟨tk, tn, tx⟩ := t
  have hok' := hok
  unfold Tk.ok at hok
  simp only at hok
  by_cases h2 : tk = 2
  · subst h2
    rw [if_pos (by decide), Bool.and_eq_true, inB_iff, decide_eq_true_eq] at hok
    obtain ⟨⟨n0, n1⟩, hz⟩ := hok
    obtain rfl := empty_of tx hz
    obtain ⟨m, rfl⟩ := Int.eq_ofNat_of_zero_le n0
    have hm : ((m : Int) % 65536).toNat = m := by omega
    have hT : tokL ⟨2, (m : Int), ⟨#[]⟩⟩ = octD m := by unfold tokL; rw [if_pos rfl]; simp only [hm]
    rw [hT] at h
    have hne := octD_ne m
    have hd := octD_dig m
    have hall : ∀ c ∈ octD m, dgB (c.toNat : Int) = true := fun c hc => inB_t _ _ _ (by have := (hd c hc).1; omega) (by have := (hd c hc).2; omega)
    match hl : octD m, hne with
    | c :: q, _ =>
      have h0 : s.data.toList.drop k = c :: (q ++ r) := by rw [h, hl]; rfl
      obtain ⟨hk, hb, _⟩ := head_bAt h0
      have hc := hd c (by rw [hl]; exact List.mem_cons_self)
      have hs1 : smB (bAt s.data.toList k) = false := by rw [hb]; exact inB_f _ _ _ (by omega)
      have hs2 : dgB (bAt s.data.toList k) = true := by rw [hb]; exact inB_t _ _ _ (by omega) (by omega)
      obtain ⟨e1, e2⟩ := one_dg badS hs1 hs2
      have hrun := runN_all (p := dgB) h hall hr dg_32
      refine ⟨by rw [← size_len]; exact hk, by omega, bl_no (by omega) (by omega), ?_, ?_⟩
      · rw [e1, hrun, hT]
      · rw [e2, e1, hrun, ext_of h, numT_some (by omega) rfl]
  · have h2b : (tk == 2) = false := beq_eq_false_iff_ne.2 h2
    rw [h2b, if_neg (by decide)] at hok
    have hT : tokL ⟨tk, tn, tx⟩ = tx.data.toList := by unfold tokL; rw [if_neg h2]
    rw [hT] at h
    by_cases hn : tn = 0
    · subst hn
      rw [if_neg (by decide)] at hok
      by_cases h1 : tk = 1
      · subst h1
        rw [if_pos (by decide)] at hok
        unfold nameB at hok
        rw [Bool.and_eq_true, Bool.not_eq_true'] at hok
        exact again_word hok.1 h hr hT ((wordT_v tx).2 hok.2)
      · have h1b : (tk == 1) = false := beq_eq_false_iff_ne.2 h1
        rw [h1b, if_neg (by decide)] at hok
        by_cases h3 : tk = 3
        · subst h3
          rw [if_pos (by decide)] at hok
          match hl : tx.data.toList with
          | [] => rw [hl] at hok; cases hok
          | c0 :: q =>
            rw [hl, dotB_cons, Bool.and_eq_true, beq_iff_eq] at hok
            obtain ⟨rfl, hf⟩ := hok
            obtain ⟨c, q2, e, hc, hall, _⟩ := form_open hf
            have h0 : s.data.toList.drop k = 46 :: (q ++ r) := by rw [h, hl]; rfl
            obtain ⟨hk, hb, hd1⟩ := head_bAt h0
            have h1' : s.data.toList.drop (k + 1) = c :: (q2 ++ r) := by rw [hd1, e]; rfl
            obtain ⟨hk1, hb1, _⟩ := head_bAt h1'
            have hb46 : bAt s.data.toList k = 46 := hb
            have s1 : smB (bAt s.data.toList k) = false := by rw [hb46]; decide
            have s2 : dgB (bAt s.data.toList k) = false := by rw [hb46]; decide
            have s3 : smB (bAt s.data.toList (k + 1)) = true := by rw [hb1]; exact hc
            have hl2 := size_len s
            obtain ⟨e1, e2⟩ := one_dot badS s1 s2 hb46 (by omega) s3
            have hrun := runN_all (p := ldB) hd1 hall hr ld_32
            have hend : oneE s k = k + tx.data.toList.length := by rw [e1, hrun, hl, List.length_cons]; omega
            refine ⟨by omega, by omega, bl_no (by omega) (by omega), ?_, ?_⟩
            · rw [hend, hT]
            · rw [e2, hend, ext_of h, strOf_of]
        · have h3b : (tk == 3) = false := beq_eq_false_iff_ne.2 h3
          rw [h3b, if_neg (by decide)] at hok
          by_cases h4 : tk = 4
          · subst h4
            rw [if_pos (by decide)] at hok
            match hl : tx.data.toList, hok with
            | [c], hok =>
              have hm : mkL.contains c = true := hok
              have h0 : s.data.toList.drop k = c :: r := by rw [h, hl]; rfl
              obtain ⟨hk, hb, hd1⟩ := head_bAt h0
              have fin : ∀ i : Fin 256, mkL.contains (UInt8.ofNat i.val) = true → smB (i.val : Int) = false ∧ dgB (i.val : Int) = false ∧ (i.val : Int) ≠ 59 ∧ blB (i.val : Int) = false := by decide +kernel
              have hf := fin ⟨c.toNat, c.toNat_lt⟩ (by show mkL.contains (UInt8.ofNat c.toNat) = true; rw [UInt8.ofNat_toNat]; exact hm)
              simp only at hf
              rw [← hb] at hf
              have hl2 := size_len s
              obtain ⟨e1, e2⟩ := one_mk badS hf.1 hf.2.1 (fun _ hk1 => by
                rcases hr with rfl | ⟨q, rfl⟩
                · have : s.data.toList.length ≤ k + 1 := by
                    have := congrArg List.length hd1
                    rw [List.length_drop] at this
                    simp at this
                    omega
                  omega
                · obtain ⟨_, hb1, _⟩ := head_bAt hd1
                  rw [hb1]; decide)
              refine ⟨by omega, hf.2.2.1, hf.2.2.2, ?_, ?_⟩
              · rw [e1, hT, hl]; rfl
              · have hx := ext_of h
                rw [hl] at hx
                have hx' : s.extract k (k + 1) = strOf [c] := hx
                rw [e2, hx', ← hl, strOf_of]
          · have h4b : (tk == 4) = false := beq_eq_false_iff_ne.2 h4
            rw [h4b, if_neg (by decide)] at hok
            by_cases h5 : tk = 5
            · subst h5
              rw [if_pos (by decide)] at hok
              have hin : tx ∈ keptL := hasS_iff.1 hok
              exact again_word (kept_form tx hin) h hr hT ((wordT_v tx).1 hok)
            · have h5b : (tk == 5) = false := beq_eq_false_iff_ne.2 h5
              rw [h5b, if_neg (by decide)] at hok
              cases hok
    · have hnb : (tn != 0) = true := by simp [hn]
      rw [hnb, if_pos (by decide)] at hok
      cases hok
end Go.Proofs.YtkolflcjkofleaaDoor

namespace Go.Proofs.YtkolflcjkofleaaDoor
open Go.ChangeShapes Go.WideShapes Go.ChangeAt Go.RowKit
set_option linter.unusedVariables false
set_option maxRecDepth 8000

def AllOk (ts : List Tk) : Prop := ∀ t ∈ ts, t.ok = true
theorem AllOk.at {ts : List Tk} (h : AllOk ts) {i : Nat} (hi : i < ts.length) : (tAt ts i).ok = true := by
  unfold tAt
  rw [List.getD_eq_getElem?_getD, List.getElem?_eq_getElem hi]
  exact h _ (List.getElem_mem _)
theorem AllOk.snoc {ts : List Tk} {t : Tk} (h : AllOk ts) (ht : t.ok = true) : AllOk (ts ++ [t]) := fun x hx => by
  rcases List.mem_append.1 hx with h1 | h1
  · exact h x h1
  · rw [List.mem_singleton] at h1; rw [h1]; exact ht
theorem kept_small : ∀ x ∈ keptL, x.size ≤ 7 := by decide +kernel
theorem ok_size {t : Tk} (h : t.ok = true) : t.s.size ≤ 7 := by
  obtain ⟨tk, tn, tx⟩ := t
  unfold Tk.ok at h
  simp only at h ⊢
  have hl := size_len tx
  split at h
  · rw [Bool.and_eq_true, decide_eq_true_eq] at h; omega
  · split at h
    · cases h
    · split at h
      · unfold nameB at h
        rw [Bool.and_eq_true] at h
        obtain ⟨_, _, _, _, _, h6⟩ := form_open h.1
        omega
      · split at h
        · match hx : tx.data.toList with
          | [] => rw [hx] at h; cases h
          | c0 :: q =>
            rw [hx, dotB_cons, Bool.and_eq_true] at h
            obtain ⟨_, _, _, _, _, h6⟩ := form_open h.2
            rw [hx, List.length_cons] at hl
            omega
        · split at h
          · match hx : tx.data.toList, h with
            | [c], _ => rw [hx] at hl; simp at hl; omega
          · split at h
            · exact kept_small tx (hasS_iff.1 h)
            · cases h
theorem ok_szL {ts : List Tk} (h : AllOk ts) : szL ts ≤ 7 * ts.length := by
  induction ts with
  | nil => simp [szL]
  | cons t r ih =>
    have h1 := ok_size (h t List.mem_cons_self)
    have h2 := ih (fun x hx => h x (List.mem_cons_of_mem _ hx))
    simp only [szL, List.length_cons]
    omega
/-- What Lex answers is right. -/
theorem lexR_ok (s : ByteArray) : ∀ (n k : Nat) (acc : List Tk), s.size - k ≤ n → AllOk acc → AllOk (lexR s k acc).1 := by
  intro n
  induction n with
  | zero =>
    intro k acc hn h8
    rw [lexR_end (by omega)]
    exact h8
  | succ n ih =>
    intro k acc hn h8
    by_cases hlt : k < s.size
    · by_cases h59 : bAt s.data.toList k = 59
      · rw [lexR_semi hlt h59]; exact h8
      · cases hbl : blB (bAt s.data.toList k)
        · cases hok : (oneT badS s k).ok
          · rw [lexR_bad hlt h59 hbl (.inl hok)]; intro x hx; cases hx
          · by_cases h800 : acc.length = 800
            · rw [lexR_bad hlt h59 hbl (.inr h800)]; intro x hx; cases hx
            · rw [lexR_next hlt h59 hbl hok h800]
              have := oneE_bd s k hlt
              exact ih _ _ (by omega) (h8.snoc hok)
        · rw [lexR_blank hlt h59 hbl]
          exact ih _ _ (by omega) h8
    · rw [lexR_end hlt]; exact h8
theorem lex_ok (s : ByteArray) : AllOk (lexR s 0 []).1 := lexR_ok s s.size 0 [] (by omega) (fun x hx => by cases hx)
theorem line_pre (ts : List Tk) (i : Nat) : ∀ d, ∃ r, lineT ts (i + d) = lineT ts i ++ r
  | 0 => ⟨[], by simp⟩
  | d + 1 => by
    obtain ⟨r, hr⟩ := line_pre ts i d
    refine ⟨r ++ (if i + d = 0 then [] else [32]) ++ tokL (tAt ts (i + d)), ?_⟩
    show lineT ts (i + d) ++ (if i + d = 0 then [] else [32]) ++ tokL (tAt ts (i + d)) = _
    rw [hr]
    simp [List.append_assoc]
theorem line_drop (ts : List Tk) (n i : Nat) (h : i < n) : (lineT ts n).drop (lineT ts i).length = (if i = 0 then [] else [32]) ++ (tokL (tAt ts i) ++ (lineT ts n).drop (lineT ts (i + 1)).length) := by
  obtain ⟨r, hr⟩ := line_pre ts (i + 1) (n - (i + 1))
  have e : i + 1 + (n - (i + 1)) = n := by omega
  rw [e] at hr
  have h1 : (lineT ts n).drop (lineT ts (i + 1)).length = r := by rw [hr, List.drop_left]
  rw [h1, hr]
  show (lineT ts i ++ (if i = 0 then [] else [32]) ++ tokL (tAt ts i) ++ r).drop (lineT ts i).length = _
  rw [List.append_assoc, List.append_assoc, List.drop_left]
theorem gap_at (ts : List Tk) (n i : Nat) (h : i ≤ n) (h0 : 0 < i) : Gap ((lineT ts n).drop (lineT ts i).length) := by
  by_cases e : i = n
  · subst e
    left
    rw [List.drop_length]
  · right
    rw [line_drop ts n i (by omega), if_neg (by omega)]
    exact ⟨_, rfl⟩
/-- The line of right tokens is read as these tokens. -/
theorem lex_from (ts : List Tk) (hok : AllOk ts) (h8 : ts.length ≤ 800) : ∀ d i, i + d = ts.length → lexR (strOf (lineOf ts)) (lineT ts i).length (ts.take i) = (ts, true) := by
  intro d
  induction d with
  | zero =>
    intro i hi
    obtain rfl : i = ts.length := by omega
    rw [List.take_length, lexR_end (by rw [strOf_size]; unfold lineOf; omega)]
  | succ d ih =>
    intro i hi
    have hlt : i < ts.length := by omega
    have hd := line_drop ts ts.length i hlt
    have hg := gap_at ts ts.length (i + 1) (by omega) (by omega)
    have hst : (strOf (lineOf ts)).data.toList = lineT ts ts.length := strOf_list _
    have step : ∀ k, (strOf (lineOf ts)).data.toList.drop k = tokL (tAt ts i) ++ (lineT ts ts.length).drop (lineT ts (i + 1)).length → k + (tokL (tAt ts i)).length = (lineT ts (i + 1)).length → lexR (strOf (lineOf ts)) k (ts.take i) = (ts, true) := by
      intro k hk hlen
      obtain ⟨a1, a2, a3, a4, a5⟩ := again_any (hok.at hlt) hk hg
      have hlen2 : (ts.take i).length = i := by rw [List.length_take]; omega
      rw [lexR_next a1 a2 a3 (by rw [a5]; exact hok.at hlt) (by omega), a4, a5, hlen]
      have et : ts.take i ++ [tAt ts i] = ts.take (i + 1) := by
        rw [List.take_succ_eq_append_getElem hlt]
        unfold tAt
        rw [List.getD_eq_getElem?_getD, List.getElem?_eq_getElem hlt]
        rfl
      rw [et]
      exact ih (i + 1) (by omega)
    have hsz : (lineT ts (i + 1)).length = (lineT ts i).length + (if i = 0 then ([] : List UInt8) else [32]).length + (tokL (tAt ts i)).length := by
      show (lineT ts i ++ (if i = 0 then [] else [32]) ++ tokL (tAt ts i)).length = _
      rw [List.length_append, List.length_append]
    by_cases h0 : i = 0
    · rw [if_pos h0, List.nil_append] at hd
      rw [if_pos h0] at hsz
      exact step _ (by rw [hst]; exact hd) (by rw [hsz]; simp)
    · rw [if_neg h0] at hd hsz
      have hd' : (lineT ts ts.length).drop (lineT ts i).length = 32 :: (tokL (tAt ts i) ++ (lineT ts ts.length).drop (lineT ts (i + 1)).length) := hd
      obtain ⟨hk, hb, hd1⟩ := head_bAt hd'
      have hb32 : bAt (strOf (lineOf ts)).data.toList (lineT ts i).length = 32 := by rw [hst]; exact hb
      have hls : (lineT ts i).length < (strOf (lineOf ts)).size := by rw [← size_len, hst]; exact hk
      rw [lexR_blank hls (by rw [hb32]; decide) (by rw [hb32]; decide)]
      exact step _ (by rw [hst]; exact hd1) (by rw [hsz]; simp)
theorem lex_line (ts : List Tk) (hok : AllOk ts) (h8 : ts.length ≤ 800) : lexR (strOf (lineOf ts)) 0 [] = (ts, true) := lex_from ts hok h8 ts.length 0 (by omega)
theorem line_small {ts : List Tk} (hok : AllOk ts) (h8 : ts.length ≤ 800) : (strOf (lineOf ts)).size ≤ 1048576 ∧ ts.length + szL ts ≤ 1048576 := by
  have h1 := lineT_len ts ts.length (Nat.le_refl _)
  rw [List.take_length] at h1
  have h2 := ok_szL hok
  rw [strOf_size]
  unfold lineOf
  omega
end Go.Proofs.YtkolflcjkofleaaDoor

namespace Go.Proofs.YtkolflcjkofleaaDoor
open Go.ChangeShapes Go.WideShapes Go.ChangeAt Go.RowKit
set_option linter.unusedVariables false
set_option maxRecDepth 8000

/-- A term. -/
structure Ex where
  k : Int
  n : Int
  s : ByteArray
  l : List Ex
theorem Ex.ind {p : Ex → Prop} (h : ∀ k n s l, (∀ e ∈ l, p e) → p ⟨k, n, s, l⟩) (e : Ex) : p e := by
  obtain ⟨k, n, s, l⟩ := e
  exact h k n s l (fun e he => Ex.ind h e)
/-- How much a term holds. -/
def Ex.sz : Ex → Nat
  | ⟨_, _, s, l⟩ => s.size + l.length + (l.map Ex.sz).sum
theorem Ex.sz_eq (k n : Int) (s : ByteArray) (l : List Ex) : (Ex.mk k n s l).sz = s.size + l.length + (l.map Ex.sz).sum := by rw [Ex.sz]
/-- How deep a term is. -/
def Ex.dp : Ex → Nat
  | ⟨_, _, _, l⟩ => 1 + (l.map Ex.dp).foldr max 0
theorem Ex.dp_lt (k n : Int) (s : ByteArray) (l : List Ex) (e : Ex) (h : e ∈ l) : e.dp < (Ex.mk k n s l).dp := by
  rw [Ex.dp]
  have : ∀ l : List Ex, e ∈ l → e.dp ≤ (l.map Ex.dp).foldr max 0 := by
    intro l
    induction l with
    | nil => intro h; cases h
    | cons a l ih =>
      intro h
      rw [List.map_cons, List.foldr_cons]
      rcases List.mem_cons.1 h with rfl | h
      · exact Nat.le_max_left _ _
      · exact Nat.le_trans (ih h) (Nat.le_max_right _ _)
  have := this l h
  omega
def X0 : Ex := ⟨0, 0, ⟨#[]⟩, []⟩
def xAt (l : List Ex) (i : Nat) : Ex := l.getD i X0
/-- The parts of a term lie at a: every block of them from B on. -/
def RdX (w : World) (B : Nat) : Ex → Option Addr → Prop
  | ⟨_, _, _, l⟩, a => l = [] ∨ ∃ b off, a = some ⟨b, off, none⟩ ∧ B ≤ b ∧ b < w.heap.size ∧ ∀ x ∈ l, ∀ i, l[i]? = some x → w.cell? ⟨b, off + i * 4, none⟩ = some (.int .i64 x.k) ∧ w.cell? ⟨b, off + i * 4 + 1, none⟩ = some (.int .i64 x.n) ∧ w.cell? ⟨b, off + i * 4 + 2, none⟩ = some (.string x.s) ∧ ∃ c cap, w.cell? ⟨b, off + i * 4 + 3, none⟩ = some (.slice c x.l.length cap) ∧ RdX w B x c
/-- One part, as it lies. -/
def OneX (w : World) (B b at_ : Nat) (x : Ex) : Prop := w.cell? ⟨b, at_, none⟩ = some (.int .i64 x.k) ∧ w.cell? ⟨b, at_ + 1, none⟩ = some (.int .i64 x.n) ∧ w.cell? ⟨b, at_ + 2, none⟩ = some (.string x.s) ∧ ∃ c cap, w.cell? ⟨b, at_ + 3, none⟩ = some (.slice c x.l.length cap) ∧ RdX w B x c
theorem xAt_get {l : List Ex} {i : Nat} (h : i < l.length) : xAt l i = l[i] := by
  unfold xAt
  rw [List.getD_eq_getElem?_getD, List.getElem?_eq_getElem h]
  rfl
theorem xAt_mem {l : List Ex} {i : Nat} (h : i < l.length) : xAt l i ∈ l := by rw [xAt_get h]; exact List.getElem_mem _
theorem RdX_eq (w : World) (B : Nat) (e : Ex) (a : Option Addr) : RdX w B e a ↔ (e.l = [] ∨ ∃ b off, a = some ⟨b, off, none⟩ ∧ B ≤ b ∧ b < w.heap.size ∧ ∀ i, i < e.l.length → OneX w B b (off + i * 4) (xAt e.l i)) := by
  obtain ⟨k, n, s, l⟩ := e
  rw [RdX]
  refine or_congr Iff.rfl (exists_congr fun b => exists_congr fun off => and_congr Iff.rfl (and_congr Iff.rfl (and_congr Iff.rfl ⟨fun h i hi => ?_, fun h x hx i hi => ?_⟩)))
  · exact h _ (xAt_mem hi) i (by rw [xAt_get hi]; exact List.getElem?_eq_getElem hi)
  · obtain ⟨hl, e⟩ := List.getElem?_eq_some_iff.1 hi
    have := h i hl
    rw [xAt_get hl, e] at this
    exact this
/-- What is kept of the blocks from B on keeps what is read there. -/
theorem RdX.keep {w w' : World} {B : Nat} (hs : w.heap.size ≤ w'.heap.size) (hc : ∀ b o v, B ≤ b → b < w.heap.size → w.cell? ⟨b, o, none⟩ = some v → w'.cell? ⟨b, o, none⟩ = some v) (e : Ex) : ∀ a, RdX w B e a → RdX w' B e a := by
  induction e using Ex.ind with
  | h k n s l ih =>
    intro a h
    rw [RdX_eq] at h ⊢
    rcases h with h | ⟨b, off, ha, h1, h2, h3⟩
    · exact .inl h
    · refine .inr ⟨b, off, ha, h1, Nat.lt_of_lt_of_le h2 hs, fun i hi => ?_⟩
      obtain ⟨c1, c2, c3, c, cap, c4, c5⟩ := h3 i hi
      exact ⟨hc _ _ _ h1 h2 c1, hc _ _ _ h1 h2 c2, hc _ _ _ h1 h2 c3, c, cap, hc _ _ _ h1 h2 c4, ih _ (xAt_mem hi) _ c5⟩
theorem RdX.later {w w' : World} {B : Nat} {e : Ex} {a : Option Addr} (h : RdX w B e a) (hb : Below w.heap.size w w') : RdX w' B e a :=
  RdX.keep hb.size (fun b o v _ hlt hc => (hb.cell (p := ⟨b, o, none⟩) hlt).trans hc) e a h
theorem RdX.lower {w : World} {B C : Nat} (hC : C ≤ B) (e : Ex) : ∀ a, RdX w B e a → RdX w C e a := by
  induction e using Ex.ind with
  | h k n s l ih =>
    intro a h
    rw [RdX_eq] at h ⊢
    rcases h with h | ⟨b, off, ha, h1, h2, h3⟩
    · exact .inl h
    · refine .inr ⟨b, off, ha, Nat.le_trans hC h1, h2, fun i hi => ?_⟩
      obtain ⟨c1, c2, c3, c, cap, c4, c5⟩ := h3 i hi
      exact ⟨c1, c2, c3, c, cap, c4, ih _ (xAt_mem hi) _ c5⟩
/-- What all parts hold. -/
def szX (l : List Ex) : Nat := (l.map Ex.sz).sum
theorem szX_take (l : List Ex) (k : Nat) (h : k < l.length) : szX (l.take (k + 1)) = szX (l.take k) + (xAt l k).sz := by
  unfold szX
  rw [List.take_succ_eq_append_getElem h, List.map_append, List.sum_append, xAt_get h]
  simp
theorem szX_le (l : List Ex) (k : Nat) : szX (l.take k) ≤ szX l := by
  induction l generalizing k with
  | nil => simp [szX]
  | cons a r ih =>
    cases k with
    | zero => simp [szX]
    | succ k =>
      have := ih k
      unfold szX at this ⊢
      simp only [List.take_succ_cons, List.map_cons, List.sum_cons]
      omega
theorem sz_is (e : Ex) : e.sz = e.s.size + e.l.length + szX e.l := by obtain ⟨k, n, s, l⟩ := e; exact Ex.sz_eq k n s l
/-- Every text and list within can be counted. -/
def Fit : Ex → Prop
  | ⟨_, _, s, l⟩ => s.size ≤ 9223372036854775807 ∧ l.length ≤ 9223372036854775807 ∧ ∀ x ∈ l, Fit x
theorem Fit_eq (e : Ex) : Fit e ↔ (e.s.size ≤ 9223372036854775807 ∧ e.l.length ≤ 9223372036854775807 ∧ ∀ i, i < e.l.length → Fit (xAt e.l i)) := by
  obtain ⟨k, n, s, l⟩ := e
  rw [Fit]
  refine and_congr Iff.rfl (and_congr Iff.rfl ⟨fun h i hi => h _ (xAt_mem hi), fun h x hx => ?_⟩)
  obtain ⟨i, hi, rfl⟩ := List.getElem_of_mem hx
  have := h i hi
  rw [xAt_get hi] at this
  exact this
end Go.Proofs.YtkolflcjkofleaaDoor

namespace Go.Proofs.YtkolflcjkofleaaDoor
open Go.ChangeShapes Go.WideShapes Go.ChangeAt Go.RowKit
set_option linter.unusedVariables false
set_option maxRecDepth 8000

/-- Is a term right, but for its parts? -/
def Ex.here (e : Ex) : Bool :=
  if ((e.k != 1 && (e.k != 11 && e.n != 0)) || (e.k != 2 && (e.k != 12 && !eqS e.s E0))) = true then false
  else if e.k = 1 then inB e.n 0 65535 && e.l.length == 0
  else if e.k = 2 ∨ e.k = 12 then nameB e.s && e.l.length == 0
  else if e.k = 3 then e.l.length == 0
  else if e.k = 4 then e.l.length == 1
  else if 5 ≤ e.k ∧ e.k ≤ 10 then e.l.length == 2
  else if e.k = 11 then inB e.n 0 9 && e.l.length == 0
  else false
/-- Is a term right, so deep at most? -/
def okF : Nat → Bool → Ex → Bool
  | 0, _, _ => false
  | d + 1, p, e => e.here && (!(p && (e.k == 11 || e.k == 12)) && e.l.all (okF d p))
def mkS (c : UInt8) : ByteArray := ⟨#[c]⟩
def mkT (c : UInt8) : Tk := ⟨4, 0, mkS c⟩
def sgnC (k : Int) : UInt8 := if k = 5 then 43 else if k = 6 then 45 else if k = 7 then 42 else if k = 8 then 47 else if k = 9 then 38 else 124
def sgnK (s : ByteArray) : Option Int :=
  if eqS (mkS 43) s = true then some 5 else if eqS (mkS 45) s = true then some 6 else if eqS (mkS 42) s = true then some 7
  else if eqS (mkS 47) s = true then some 8 else if eqS (mkS 38) s = true then some 9 else if eqS (mkS 124) s = true then some 10 else none
/-- The tokens of a plain term. -/
def toksF : Nat → Ex → List Tk
  | 0, _ => []
  | d + 1, e => if e.k = 1 then [⟨2, e.n, E0⟩] else if e.k = 2 then [⟨1, 0, e.s⟩] else if e.k = 3 then [mkT 46]
    else if e.k = 4 then mkT 45 :: toksF d (xAt e.l 0)
    else mkT 60 :: (toksF d (xAt e.l 0) ++ (mkT (sgnC e.k) :: (toksF d (xAt e.l 1) ++ [mkT 62])))
/-- Tokens read: a term and what is left. -/
def readF : Nat → List Tk → Option (Ex × List Tk)
  | 0, _ => none
  | _ + 1, [] => none
  | d + 1, t :: r =>
    if t.k = 2 then some (⟨1, t.n, E0, []⟩, r) else if t.k = 1 then some (⟨2, 0, t.s, []⟩, r)
    else if eqS t.s (mkS 46) = true then some (⟨3, 0, E0, []⟩, r)
    else if eqS t.s (mkS 45) = true then
      match readF d r with
      | none => none
      | some (a, q) => some (⟨4, 0, E0, [a]⟩, q)
    else if eqS t.s (mkS 60) = true then
      match readF d r with
      | none => none
      | some (a, []) => none
      | some (a, t1 :: q1) =>
        match readF d q1 with
        | none => none
        | some (b, []) => none
        | some (b, t2 :: q2) => if eqS t2.s (mkS 62) = true then (match sgnK t1.s with | none => none | some k => some (⟨k, 0, E0, [a, b]⟩, q2)) else none
    else none
theorem sgn_back {k : Int} (h : 5 ≤ k ∧ k ≤ 10) : sgnK (mkS (sgnC k)) = some k := by
  have : k = 5 ∨ k = 6 ∨ k = 7 ∨ k = 8 ∨ k = 9 ∨ k = 10 := by omega
  rcases this with rfl | rfl | rfl | rfl | rfl | rfl <;> decide +kernel
theorem sgnK_some {s : ByteArray} {k : Int} (h : sgnK s = some k) : (5 ≤ k ∧ k ≤ 10) ∧ s = mkS (sgnC k) := by
  unfold sgnK at h
  repeat' (split at h)
  all_goals first
    | (cases h; done)
    | (rename_i he; rw [eqS_iff] at he; cases h; exact ⟨by omega, he.symm⟩)
/-- The forms of a plain term. -/
theorem plain_cases {d : Nat} {e : Ex} (h : okF (d + 1) true e = true) : (∃ n : Int, (0 ≤ n ∧ n ≤ 65535) ∧ e = ⟨1, n, E0, []⟩) ∨ (∃ s, nameB s = true ∧ e = ⟨2, 0, s, []⟩) ∨ e = ⟨3, 0, E0, []⟩ ∨ (∃ a, okF d true a = true ∧ e = ⟨4, 0, E0, [a]⟩) ∨ (∃ k a b, (5 ≤ k ∧ k ≤ 10) ∧ okF d true a = true ∧ okF d true b = true ∧ e = ⟨k, 0, E0, [a, b]⟩) := by
  obtain ⟨k, n, s, l⟩ := e
  simp only [okF, Bool.and_eq_true, Bool.true_and, Bool.not_eq_true', Bool.or_eq_false_iff, beq_eq_false_iff_ne] at h
  obtain ⟨h1, ⟨h11, h12⟩, hall⟩ := h
  unfold Ex.here at h1
  simp only at h1
  split at h1
  · cases h1
  · rename_i hg
    have hg : ((k != 1 && (k != 11 && n != 0)) || (k != 2 && (k != 12 && !eqS s E0))) = false := by simpa using hg
    rw [Bool.or_eq_false_iff] at hg
    have hn : k ≠ 1 → n = 0 := fun hk => by have := hg.1; simpa [hk, h11] using this
    have hs : k ≠ 2 → s = E0 := fun hk => by
      have := hg.2
      have h3 : eqS s E0 = true := by simpa [hk, h12] using this
      exact (eqS_iff _ _).1 h3
    split at h1
    · rename_i e; subst e
      rw [Bool.and_eq_true, beq_iff_eq, List.length_eq_zero_iff] at h1
      obtain ⟨hi, rfl⟩ := h1
      exact .inl ⟨n, (inB_iff _ _ _).1 hi, by rw [hs (by decide)]⟩
    · rename_i k1
      split at h1
      · rename_i e
        obtain rfl : k = 2 := by rcases e with e | e; exact e; exact absurd e h12
        rw [Bool.and_eq_true, beq_iff_eq, List.length_eq_zero_iff] at h1
        obtain ⟨hi, rfl⟩ := h1
        exact .inr (.inl ⟨s, hi, by rw [hn (by decide)]⟩)
      · rename_i k2
        have k2 : k ≠ 2 := fun e => k2 (.inl e)
        obtain rfl := hn k1
        obtain rfl := hs k2
        split at h1
        · rename_i e; subst e
          rw [beq_iff_eq, List.length_eq_zero_iff] at h1
          subst h1
          exact .inr (.inr (.inl rfl))
        · split at h1
          · rename_i e; subst e
            rw [beq_iff_eq] at h1
            match l, h1 with
            | [a], _ => exact .inr (.inr (.inr (.inl ⟨a, by simpa using hall, rfl⟩)))
          · split at h1
            · rename_i e
              rw [beq_iff_eq] at h1
              match l, h1 with
              | [a, b], _ =>
                have : okF d true a = true ∧ okF d true b = true := by simpa using hall
                exact .inr (.inr (.inr (.inr ⟨k, a, b, e, this.1, this.2, rfl⟩)))
            · cases h1
theorem plain_num {d : Nat} {n : Int} (h : 0 ≤ n ∧ n ≤ 65535) : okF (d + 1) true ⟨1, n, E0, []⟩ = true := by
  have : inB n 0 65535 = true := (inB_iff _ _ _).2 h
  simp [okF, Ex.here, this, show eqS E0 E0 = true from (eqS_iff _ _).2 rfl]
theorem plain_sym {d : Nat} {s : ByteArray} (h : nameB s = true) : okF (d + 1) true ⟨2, 0, s, []⟩ = true := by
  simp [okF, Ex.here, h]
theorem plain_here (d : Nat) : okF (d + 1) true ⟨3, 0, E0, []⟩ = true := by
  simp [okF, Ex.here, show eqS E0 E0 = true from (eqS_iff _ _).2 rfl]
theorem plain_neg {d : Nat} {a : Ex} (h : okF d true a = true) : okF (d + 1) true ⟨4, 0, E0, [a]⟩ = true := by
  simp [okF, Ex.here, h, show eqS E0 E0 = true from (eqS_iff _ _).2 rfl]
theorem plain_two {d : Nat} {k : Int} {a b : Ex} (hk : 5 ≤ k ∧ k ≤ 10) (ha : okF d true a = true) (hb : okF d true b = true) : okF (d + 1) true ⟨k, 0, E0, [a, b]⟩ = true := by
  have : k = 5 ∨ k = 6 ∨ k = 7 ∨ k = 8 ∨ k = 9 ∨ k = 10 := by omega
  rcases this with rfl | rfl | rfl | rfl | rfl | rfl <;> simp [okF, Ex.here, ha, hb, show eqS E0 E0 = true from (eqS_iff _ _).2 rfl]
theorem toks_num (d : Nat) (n : Int) : toksF (d + 1) ⟨1, n, E0, []⟩ = [⟨2, n, E0⟩] := rfl
theorem toks_sym (d : Nat) (s : ByteArray) : toksF (d + 1) ⟨2, 0, s, []⟩ = [⟨1, 0, s⟩] := rfl
theorem toks_here (d : Nat) : toksF (d + 1) ⟨3, 0, E0, []⟩ = [mkT 46] := rfl
theorem toks_neg (d : Nat) (a : Ex) : toksF (d + 1) ⟨4, 0, E0, [a]⟩ = mkT 45 :: toksF d a := rfl
theorem toks_two (d : Nat) {k : Int} (hk : 5 ≤ k ∧ k ≤ 10) (a b : Ex) : toksF (d + 1) ⟨k, 0, E0, [a, b]⟩ = mkT 60 :: (toksF d a ++ (mkT (sgnC k) :: (toksF d b ++ [mkT 62]))) := by
  have : k = 5 ∨ k = 6 ∨ k = 7 ∨ k = 8 ∨ k = 9 ∨ k = 10 := by omega
  rcases this with rfl | rfl | rfl | rfl | rfl | rfl <;> rfl
/-- A plain term comes back of its tokens. -/
theorem read_toks : ∀ (d : Nat) (e : Ex) (r : List Tk), okF d true e = true → readF d (toksF d e ++ r) = some (e, r) := by
  intro d
  induction d with
  | zero => intro e r h; cases h
  | succ d ih =>
    intro e r h
    rcases plain_cases h with ⟨n, hn, rfl⟩ | ⟨s, hs, rfl⟩ | rfl | ⟨a, ha, rfl⟩ | ⟨k, a, b, hk, ha, hb, rfl⟩
    · rw [toks_num]; rfl
    · rw [toks_sym]; rfl
    · rw [toks_here, List.cons_append]
      simp only [readF]
      rw [if_neg (by decide +kernel), if_neg (by decide +kernel), if_pos (by decide +kernel)]
      rfl
    · rw [toks_neg, List.cons_append]
      simp only [readF]
      rw [if_neg (by decide +kernel), if_neg (by decide +kernel), if_neg (by decide +kernel), if_pos (by decide +kernel), ih a r ha]
    · rw [toks_two d hk, List.cons_append, List.append_assoc, List.cons_append, List.append_assoc]
      simp only [readF]
      rw [if_neg (by decide +kernel), if_neg (by decide +kernel), if_neg (by decide +kernel), if_neg (by decide +kernel), if_pos (by decide +kernel), ih a _ ha]
      simp only
      rw [ih b _ hb]
      simp only [List.cons_append, List.nil_append]
      rw [if_pos (by decide +kernel), show (mkT (sgnC k)).s = mkS (sgnC k) from rfl, sgn_back hk]
theorem mark_of {t : Tk} (h : t.ok = true) (h2 : t.k ≠ 2) (h1 : t.k ≠ 1) {c : UInt8} (hs : t.s = mkS c) (hc : smB (c.toNat : Int) = false) (hm : formB [] = false) : t = mkT c := by
  obtain ⟨k, n, s⟩ := t
  simp only at h2 h1 hs
  subst hs
  unfold Tk.ok at h
  simp only at h
  rw [if_neg (by simpa using h2)] at h
  split at h
  · cases h
  · rename_i hn
    have hn : n = 0 := by simpa using hn
    subst hn
    rw [if_neg (by simpa using h1)] at h
    split at h
    · have e : dotB [c] = true := h
      rw [dotB_cons, hm, Bool.and_false] at e
      cases e
    · split at h
      · rename_i e
        have e : k = 4 := by simpa using e
        rw [e]; rfl
      · split at h
        · have hk := kept_form _ (hasS_iff.1 h)
          obtain ⟨c0, r, e, h3, _⟩ := form_open hk
          have e2 : [c] = c0 :: r := e
          cases e2
          rw [hc] at h3; cases h3
        · cases h
theorem num_of {t : Tk} (h : t.ok = true) (h2 : t.k = 2) : (0 ≤ t.n ∧ t.n ≤ 65535) ∧ t = ⟨2, t.n, E0⟩ := by
  obtain ⟨k, n, s⟩ := t
  simp only at h2
  subst h2
  unfold Tk.ok at h
  simp only [beq_self_eq_true, if_true, Bool.and_eq_true, decide_eq_true_eq] at h
  refine ⟨(inB_iff _ _ _).1 h.1, ?_⟩
  have e : s = E0 := by
    have hl := size_len s
    rw [h.2, List.length_eq_zero_iff] at hl
    exact bytes_inj (by rw [hl]; rfl)
  rw [e]
theorem sym_of {t : Tk} (h : t.ok = true) (h1 : t.k = 1) : nameB t.s = true ∧ t = ⟨1, 0, t.s⟩ := by
  obtain ⟨k, n, s⟩ := t
  simp only at h1
  subst h1
  unfold Tk.ok at h
  simp only at h
  rw [if_neg (by decide)] at h
  split at h
  · cases h
  · rename_i hn
    have hn : n = 0 := by simpa using hn
    rw [if_pos (by decide)] at h
    exact ⟨h, by rw [hn]⟩
theorem name_one {c : UInt8} (hc : smB (c.toNat : Int) = false) : formB [c] = false := by
  cases h : formB [c] with
  | false => rfl
  | true =>
    obtain ⟨c0, r, e, h3, _⟩ := form_open h
    cases e
    rw [hc] at h3; cases h3
/-- A right token whose text is one sign that is no letter is that mark. -/
theorem one_mark {t : Tk} (h : t.ok = true) {c : UInt8} (hs : t.s = mkS c) (hc : smB (c.toNat : Int) = false) : t = mkT c := by
  by_cases h2 : t.k = 2
  · obtain ⟨_, e⟩ := num_of h h2
    rw [e] at hs
    have : (0 : Nat) = 1 := congrArg ByteArray.size hs
    cases this
  · by_cases h1 : t.k = 1
    · obtain ⟨hn, _⟩ := sym_of h h1
      rw [hs] at hn
      have e : nameB (mkS c) = (formB [c] && !keptB (mkS c)) := rfl
      rw [e, name_one hc] at hn
      cases hn
    · exact mark_of h h2 h1 hs hc (by decide)
theorem sgn_small {k : Int} (h : 5 ≤ k ∧ k ≤ 10) : smB ((sgnC k).toNat : Int) = false := by
  have : k = 5 ∨ k = 6 ∨ k = 7 ∨ k = 8 ∨ k = 9 ∨ k = 10 := by omega
  rcases this with rfl | rfl | rfl | rfl | rfl | rfl <;> decide
end Go.Proofs.YtkolflcjkofleaaDoor

namespace Go.Proofs.YtkolflcjkofleaaDoor
open Go.ChangeShapes Go.WideShapes Go.ChangeAt Go.RowKit
set_option linter.unusedVariables false
set_option linter.unusedSimpArgs false

/-- The forms of a right term. -/
theorem ok_sev {d : Nat} {e : Ex} (h : okF (d + 1) false e = true) : (∃ n : Int, (0 ≤ n ∧ n ≤ 65535) ∧ e = ⟨1, n, E0, []⟩) ∨ (∃ s, nameB s = true ∧ e = ⟨2, 0, s, []⟩) ∨ e = ⟨3, 0, E0, []⟩ ∨ (∃ n : Int, (0 ≤ n ∧ n ≤ 9) ∧ e = ⟨11, n, E0, []⟩) ∨ (∃ s, nameB s = true ∧ e = ⟨12, 0, s, []⟩) ∨ (∃ a, okF d false a = true ∧ e = ⟨4, 0, E0, [a]⟩) ∨ (∃ k a b, (5 ≤ k ∧ k ≤ 10) ∧ okF d false a = true ∧ okF d false b = true ∧ e = ⟨k, 0, E0, [a, b]⟩) := by
  obtain ⟨k, n, s, l⟩ := e
  simp only [okF, Bool.and_eq_true, Bool.false_and, Bool.not_false, true_and] at h
  obtain ⟨h1, hall⟩ := h
  unfold Ex.here at h1
  simp only at h1
  split at h1
  · cases h1
  · rename_i hg
    have hg : ((k != 1 && (k != 11 && n != 0)) || (k != 2 && (k != 12 && !eqS s E0))) = false := by simpa using hg
    rw [Bool.or_eq_false_iff] at hg
    have hn : k ≠ 1 → k ≠ 11 → n = 0 := fun hk hk2 => by have := hg.1; simpa [hk, hk2] using this
    have hs : k ≠ 2 → k ≠ 12 → s = E0 := fun hk hk2 => by
      have := hg.2
      have h3 : eqS s E0 = true := by simpa [hk, hk2] using this
      exact (eqS_iff _ _).1 h3
    split at h1
    · rename_i e; subst e
      rw [Bool.and_eq_true, beq_iff_eq, List.length_eq_zero_iff] at h1
      obtain ⟨hi, rfl⟩ := h1
      exact .inl ⟨n, (inB_iff _ _ _).1 hi, by rw [hs (by decide) (by decide)]⟩
    · rename_i k1
      split at h1
      · rename_i e
        rw [Bool.and_eq_true, beq_iff_eq, List.length_eq_zero_iff] at h1
        obtain ⟨hi, rfl⟩ := h1
        rcases e with rfl | rfl
        · exact .inr (.inl ⟨s, hi, by rw [hn (by decide) (by decide)]⟩)
        · exact .inr (.inr (.inr (.inr (.inl ⟨s, hi, by rw [hn (by decide) (by decide)]⟩))))
      · rename_i k2
        have k3 : k ≠ 2 := fun e => k2 (.inl e)
        have k4 : k ≠ 12 := fun e => k2 (.inr e)
        obtain rfl := hs k3 k4
        split at h1
        · rename_i e; subst e
          rw [beq_iff_eq, List.length_eq_zero_iff] at h1
          subst h1
          exact .inr (.inr (.inl (by rw [hn (by decide) (by decide)])))
        · split at h1
          · rename_i e; subst e
            rw [beq_iff_eq] at h1
            obtain rfl := hn (by decide) (by decide)
            match l, h1 with
            | [a], _ => exact .inr (.inr (.inr (.inr (.inr (.inl ⟨a, by simpa using hall, rfl⟩)))))
          · split at h1
            · rename_i e
              rw [beq_iff_eq] at h1
              obtain rfl := hn k1 (by omega)
              match l, h1 with
              | [a, b], _ =>
                have : okF d false a = true ∧ okF d false b = true := by simpa using hall
                exact .inr (.inr (.inr (.inr (.inr (.inr ⟨k, a, b, e, this.1, this.2, rfl⟩)))))
            · split at h1
              · rename_i e; subst e
                rw [Bool.and_eq_true, beq_iff_eq, List.length_eq_zero_iff] at h1
                obtain ⟨hi, rfl⟩ := h1
                exact .inr (.inr (.inr (.inl ⟨n, (inB_iff _ _ _).1 hi, rfl⟩)))
              · cases h1
theorem ok_num {d : Nat} {n : Int} (h : 0 ≤ n ∧ n ≤ 65535) : okF (d + 1) false ⟨1, n, E0, []⟩ = true := by
  have : inB n 0 65535 = true := (inB_iff _ _ _).2 h
  simp [okF, Ex.here, this, show eqS E0 E0 = true from (eqS_iff _ _).2 rfl]
theorem ok_neg {d : Nat} {a : Ex} (h : okF d false a = true) : okF (d + 1) false ⟨4, 0, E0, [a]⟩ = true := by
  simp [okF, Ex.here, h, show eqS E0 E0 = true from (eqS_iff _ _).2 rfl]
theorem ok_two {d : Nat} {k : Int} {a b : Ex} (hk : 5 ≤ k ∧ k ≤ 10) (ha : okF d false a = true) (hb : okF d false b = true) : okF (d + 1) false ⟨k, 0, E0, [a, b]⟩ = true := by
  have : k = 5 ∨ k = 6 ∨ k = 7 ∨ k = 8 ∨ k = 9 ∨ k = 10 := by omega
  rcases this with rfl | rfl | rfl | rfl | rfl | rfl <;> simp [okF, Ex.here, ha, hb, show eqS E0 E0 = true from (eqS_iff _ _).2 rfl]
theorem ok_more : ∀ (d : Nat) (p : Bool) (e : Ex), okF d p e = true → okF (d + 1) p e = true := by
  intro d
  induction d with
  | zero => intro p e h; rw [okF] at h; cases h
  | succ d ih =>
    intro p e h
    rw [okF] at h ⊢
    rw [Bool.and_eq_true, Bool.and_eq_true, List.all_eq_true] at h ⊢
    exact ⟨h.1, h.2.1, fun x hx => ih p x (h.2.2 x hx)⟩
theorem ok_upto {d D : Nat} {p : Bool} {e : Ex} (h : okF d p e = true) (hd : d ≤ D) : okF D p e = true := by
  obtain ⟨k, rfl⟩ := Nat.le.dest hd
  clear hd
  induction k with
  | zero => exact h
  | succ k ih => exact ok_more _ _ _ ih
/-- A number's rest of 65536. -/
def wr (n : Int) : Int := n % 65536
theorem wr_in (n : Int) : 0 ≤ wr n ∧ wr n ≤ 65535 := by unfold wr; omega
theorem wr_of {n : Int} (h : 0 ≤ n ∧ n ≤ 65535) : wr n = n := by unfold wr; omega
def numX (n : Int) : Ex := ⟨1, wr n, E0, []⟩
/-- The number of two words, by the kind; none where it is divided by nothing. -/
def two11 (k a b : Int) : Option Int :=
  if k = 5 then some (wr (a + b)) else if k = 6 then some (wr (a - b)) else if k = 7 then some (wr (a * b))
  else if k = 9 then some (bits .and .i64 a b) else if k = 10 then some (bits .or .i64 a b)
  else if b = 0 then none else some (a / b)
/-- A term and a number together. -/
def addX (a : Ex) (n : Int) : Ex := if wr n = 0 then a else ⟨5, 0, E0, [a, numX n]⟩
/-- What a term is beside the number that is added to it. -/
def prtX (e : Ex) : Ex × Int := if e.k = 5 ∧ (xAt e.l 1).k = 1 then (xAt e.l 0, (xAt e.l 1).n) else (e, 0)
def sumX (a : Ex) (n : Int) : Ex := addX (prtX a).1 ((prtX a).2 + n)
def subX (a b : Ex) : Ex :=
  if b.k = 1 then sumX a (-b.n)
  else if (prtX a).1.k = 11 ∧ (prtX b).1.k = 11 ∧ (prtX a).1.n = (prtX b).1.n then numX ((prtX a).2 - (prtX b).2)
  else ⟨6, 0, E0, [a, b]⟩
def negX (a : Ex) : Ex := if a.k = 1 then numX (-a.n) else ⟨4, 0, E0, [a]⟩
/-- What two that are folded make, without two numbers. -/
def mixX (k : Int) (a b : Ex) : Ex := if k = 6 then subX a b else if k = 5 ∧ a.k = 1 then sumX b a.n else if k = 5 ∧ b.k = 1 then sumX a b.n else ⟨k, 0, E0, [a, b]⟩
def foldN (k : Int) (a b : Ex) : Ex := if a.k = 1 ∧ b.k = 1 then (match two11 k a.n b.n with | some n => numX n | none => mixX k a b) else mixX k a b
def foldC (k n : Int) (s : ByteArray) : List Ex → Ex
  | [] => ⟨k, n, s, []⟩
  | [a] => negX a
  | a :: b :: _ => foldN k a b
/-- A term, folded. -/
def foldX : Ex → Ex
  | ⟨k, n, s, l⟩ => foldC k n s (l.map foldX)
theorem fold_leaf (k n : Int) (s : ByteArray) : foldX ⟨k, n, s, []⟩ = ⟨k, n, s, []⟩ := by rw [foldX]; rfl
theorem fold_neg (k n : Int) (s : ByteArray) (a : Ex) : foldX ⟨k, n, s, [a]⟩ = negX (foldX a) := by rw [foldX]; rfl
theorem fold_two (k n : Int) (s : ByteArray) (a b : Ex) : foldX ⟨k, n, s, [a, b]⟩ = foldN k (foldX a) (foldX b) := by rw [foldX]; rfl
theorem num_ok (d : Nat) (n : Int) : okF (d + 1) false (numX n) = true := ok_num (wr_in n)
theorem ok_pos {d : Nat} {e : Ex} (h : okF d false e = true) : ∃ c, d = c + 1 := by
  cases d with
  | zero => rw [okF] at h; cases h
  | succ c => exact ⟨c, rfl⟩
theorem add_ok {d : Nat} {a : Ex} (h : okF d false a = true) (n : Int) : okF (d + 1) false (addX a n) = true := by
  unfold addX
  split
  · exact ok_more _ _ _ h
  · obtain ⟨c, rfl⟩ := ok_pos h
    exact ok_two (by omega) h (num_ok c n)
/-- What a right term is beside its number: the same, or the first of two, where the second is a number. -/
theorem prt_cases {d : Nat} {a : Ex} (h : okF (d + 1) false a = true) : (prtX a = (a, 0) ∧ ¬ (a.k = 5 ∧ (xAt a.l 1).k = 1)) ∨ ∃ b m, (0 ≤ m ∧ m ≤ 65535) ∧ a = ⟨5, 0, E0, [b, ⟨1, m, E0, []⟩]⟩ ∧ prtX a = (b, m) ∧ okF d false b = true := by
  by_cases hc : a.k = 5 ∧ (xAt a.l 1).k = 1
  · right
    rcases ok_sev h with ⟨n, hn, rfl⟩ | ⟨s, hs, rfl⟩ | rfl | ⟨n, hn, rfl⟩ | ⟨s, hs, rfl⟩ | ⟨a, ha, rfl⟩ | ⟨k, a, b, hk, ha, hb, rfl⟩
    · exact absurd (show (1 : Int) = 5 from hc.1) (by decide)
    · exact absurd (show (2 : Int) = 5 from hc.1) (by decide)
    · exact absurd (show (3 : Int) = 5 from hc.1) (by decide)
    · exact absurd (show (11 : Int) = 5 from hc.1) (by decide)
    · exact absurd (show (12 : Int) = 5 from hc.1) (by decide)
    · exact absurd (show (4 : Int) = 5 from hc.1) (by decide)
    obtain rfl : k = 5 := hc.1
    have hb1 : b.k = 1 := hc.2
    obtain ⟨c, rfl⟩ := ok_pos hb
    rcases ok_sev hb with ⟨n, hn, rfl⟩ | ⟨s, hs, rfl⟩ | rfl | ⟨n, hn, rfl⟩ | ⟨s, hs, rfl⟩ | ⟨a', ha', rfl⟩ | ⟨k, a', b', hk, ha', hb', rfl⟩
    · exact ⟨a, n, hn, rfl, rfl, ha⟩
    · exact absurd (show (2 : Int) = 1 from hb1) (by decide)
    · exact absurd (show (3 : Int) = 1 from hb1) (by decide)
    · exact absurd (show (11 : Int) = 1 from hb1) (by decide)
    · exact absurd (show (12 : Int) = 1 from hb1) (by decide)
    · exact absurd (show (4 : Int) = 1 from hb1) (by decide)
    · have : k = 1 := hb1
      omega
  · left
    unfold prtX
    rw [if_neg hc]
    exact ⟨rfl, hc⟩
theorem sum_ok {d : Nat} {a : Ex} (h : okF d false a = true) (n : Int) : okF (d + 1) false (sumX a n) = true := by
  obtain ⟨c, rfl⟩ := ok_pos h
  unfold sumX
  rcases prt_cases h with ⟨e, _⟩ | ⟨b, m, hm, rfl, e, hb⟩
  · rw [e]; exact add_ok h _
  · rw [e]; exact ok_more _ _ _ (add_ok hb _)
theorem sub_ok {d : Nat} {a b : Ex} (ha : okF d false a = true) (hb : okF d false b = true) : okF (d + 1) false (subX a b) = true := by
  unfold subX
  split
  · exact sum_ok ha _
  · split
    · exact num_ok d _
    · exact ok_two (by omega) ha hb
theorem mix_ok {d : Nat} {k : Int} {a b : Ex} (hk : 5 ≤ k ∧ k ≤ 10) (ha : okF d false a = true) (hb : okF d false b = true) : okF (d + 1) false (mixX k a b) = true := by
  unfold mixX
  split
  · exact sub_ok ha hb
  · split
    · exact sum_ok hb _
    · split
      · exact sum_ok ha _
      · exact ok_two hk ha hb
theorem foldN_ok {d : Nat} {k : Int} {a b : Ex} (hk : 5 ≤ k ∧ k ≤ 10) (ha : okF d false a = true) (hb : okF d false b = true) : okF (d + 1) false (foldN k a b) = true := by
  unfold foldN
  split
  · split
    · exact num_ok d _
    · exact mix_ok hk ha hb
  · exact mix_ok hk ha hb
theorem neg_ok {d : Nat} {a : Ex} (h : okF d false a = true) : okF (d + 1) false (negX a) = true := by
  unfold negX
  split
  · exact num_ok d _
  · exact ok_neg h
/-- What is folded is right, and no deeper. -/
theorem fold_ok : ∀ (d : Nat) (e : Ex), okF d false e = true → okF d false (foldX e) = true := by
  intro d
  induction d with
  | zero => intro e h; rw [okF] at h; cases h
  | succ d ih =>
    intro e h
    have h0 := h
    rcases ok_sev h with ⟨n, hn, rfl⟩ | ⟨s, hs, rfl⟩ | rfl | ⟨n, hn, rfl⟩ | ⟨s, hs, rfl⟩ | ⟨a, ha, rfl⟩ | ⟨k, a, b, hk, ha, hb, rfl⟩
    · rw [fold_leaf]; exact h0
    · rw [fold_leaf]; exact h0
    · rw [fold_leaf]; exact h0
    · rw [fold_leaf]; exact h0
    · rw [fold_leaf]; exact h0
    · rw [fold_neg]; exact neg_ok (ih a ha)
    · rw [fold_two]; exact foldN_ok hk (ih a ha) (ih b hb)
/-- Folded no further. -/
def Nf (e : Ex) : Prop := foldX e = e
theorem num_nf (n : Int) : Nf (numX n) := by unfold Nf numX; exact fold_leaf _ _ _
theorem nf_two {k : Int} {a b : Ex} (ha : Nf a) (hb : Nf b) (h : foldN k a b = ⟨k, 0, E0, [a, b]⟩) : Nf ⟨k, 0, E0, [a, b]⟩ := by
  unfold Nf at *
  rw [fold_two, ha, hb, h]
theorem ex_sz {a b : Ex} (h : a = b) : a.dp = b.dp := by rw [h]
theorem ne_two (k : Int) (a b : Ex) : a ≠ ⟨k, 0, E0, [a, b]⟩ := fun h => by
  have h1 := Ex.dp_lt k 0 E0 [a, b] a (by simp)
  rw [← h] at h1
  omega
/-- A term with a number, neither 0 nor two numbers nor a third together: folded no further. -/
theorem add_nf {d : Nat} {a : Ex} (ho : okF (d + 1) false a = true) (h1 : a.k ≠ 1) (hp : prtX a = (a, 0)) (ha : Nf a) (n : Int) : Nf (addX a n) := by
  unfold addX
  split
  · exact ha
  · rename_i hz
    refine nf_two ha (num_nf n) ?_
    unfold foldN
    rw [if_neg (fun h => h1 h.1)]
    unfold mixX
    rw [if_neg (by decide), if_neg (fun h => h1 h.2), if_pos ⟨rfl, rfl⟩]
    unfold sumX
    rw [hp]
    show addX a (0 + wr n) = _
    have e : wr (0 + wr n) = wr n := by unfold wr; omega
    unfold addX numX
    rw [e, if_neg hz]
/-- A folded one's first of two, where the second is a number: it has no number of its own. -/
theorem prt_nf {d : Nat} {b : Ex} {m : Int} (hb : okF (d + 1) false b = true) (hm : 0 ≤ m ∧ m ≤ 65535) (h : Nf ⟨5, 0, E0, [b, ⟨1, m, E0, []⟩]⟩) (hbn : Nf b) : b.k ≠ 1 ∧ prtX b = (b, 0) := by
  unfold Nf at h hbn
  rw [fold_two, fold_leaf, hbn] at h
  unfold foldN at h
  have h1 : b.k ≠ 1 := fun h1 => by
    rw [if_pos ⟨h1, rfl⟩] at h
    simp only [two11, if_true] at h
    unfold numX at h
    injection h with h2
    cases h2
  refine ⟨h1, ?_⟩
  rw [if_neg (fun c => h1 c.1)] at h
  unfold mixX at h
  rw [if_neg (by decide), if_neg (fun c => h1 c.2), if_pos ⟨rfl, rfl⟩] at h
  unfold sumX addX at h
  rcases prt_cases hb with ⟨e, _⟩ | ⟨c, q, hq, rfl, e, hc⟩
  · exact e
  · rw [e] at h
    simp only at h
    split at h
    · exfalso
      have h3 := Ex.dp_lt 5 0 E0 [c, ⟨1, q, E0, []⟩] c (by simp)
      have h4 := Ex.dp_lt 5 0 E0 [⟨5, 0, E0, [c, ⟨1, q, E0, []⟩]⟩, ⟨1, m, E0, []⟩] ⟨5, 0, E0, [c, ⟨1, q, E0, []⟩]⟩ (by simp)
      rw [← h] at h4
      omega
    · exfalso
      injection h with _ _ _ h5
      injection h5 with h6 _
      exact ne_two _ _ _ h6
theorem sum_nf {d : Nat} {a : Ex} (ho : okF (d + 1) false a = true) (h1 : a.k ≠ 1) (ha : Nf a) (hsub : ∀ b m, a = ⟨5, 0, E0, [b, ⟨1, m, E0, []⟩]⟩ → Nf b) (n : Int) : Nf (sumX a n) := by
  unfold sumX
  rcases prt_cases ho with ⟨e, _⟩ | ⟨b, m, hm, rfl, e, hb⟩
  · rw [e]; exact add_nf ho h1 e ha _
  · rw [e]
    obtain ⟨c, rfl⟩ := ok_pos hb
    have hbn := hsub b m rfl
    obtain ⟨q1, q2⟩ := prt_nf hb hm ha hbn
    exact add_nf hb q1 q2 hbn _
end Go.Proofs.YtkolflcjkofleaaDoor

namespace Go.Proofs.YtkolflcjkofleaaDoor
open Go.ChangeShapes Go.WideShapes Go.ChangeAt Go.RowKit
set_option linter.unusedVariables false
set_option linter.unusedSimpArgs false

/-- Folded no further, with all its parts. -/
def Nh : Ex → Prop
  | ⟨k, n, s, l⟩ => Nf ⟨k, n, s, l⟩ ∧ ∀ x ∈ l, Nh x
theorem Nh_eq (e : Ex) : Nh e ↔ (Nf e ∧ ∀ x ∈ e.l, Nh x) := by
  obtain ⟨k, n, s, l⟩ := e
  rw [Nh]
theorem Nh.nf {e : Ex} (h : Nh e) : Nf e := ((Nh_eq e).1 h).1
theorem nh_leaf (k n : Int) (s : ByteArray) : Nh ⟨k, n, s, []⟩ := (Nh_eq _).2 ⟨fold_leaf _ _ _, fun x hx => by cases hx⟩
theorem nh_num (n : Int) : Nh (numX n) := nh_leaf _ _ _
theorem nh_two {k : Int} {a b : Ex} (ha : Nh a) (hb : Nh b) (h : Nf ⟨k, 0, E0, [a, b]⟩) : Nh ⟨k, 0, E0, [a, b]⟩ := (Nh_eq _).2 ⟨h, fun x hx => by
  have hx : x = a ∨ x = b := by simpa using hx
  rcases hx with rfl | rfl
  · exact ha
  · exact hb⟩
theorem add_nh {d : Nat} {a : Ex} (ho : okF (d + 1) false a = true) (h1 : a.k ≠ 1) (hp : prtX a = (a, 0)) (ha : Nh a) (n : Int) : Nh (addX a n) := by
  have h := add_nf ho h1 hp ha.nf n
  unfold addX at h ⊢
  split
  · exact ha
  · rename_i hz
    rw [if_neg hz] at h
    exact nh_two ha (nh_num n) h
theorem sum_nh {d : Nat} {a : Ex} (ho : okF (d + 1) false a = true) (h1 : a.k ≠ 1) (ha : Nh a) (n : Int) : Nh (sumX a n) := by
  unfold sumX
  rcases prt_cases ho with ⟨e, _⟩ | ⟨b, m, hm, rfl, e, hb⟩
  · rw [e]; exact add_nh ho h1 e ha _
  · rw [e]
    obtain ⟨c, rfl⟩ := ok_pos hb
    have hbn : Nh b := ((Nh_eq _).1 ha).2 b (by simp)
    obtain ⟨q1, q2⟩ := prt_nf hb hm ha.nf hbn.nf
    exact add_nh hb q1 q2 hbn _
theorem ok_k1 {d : Nat} {e : Ex} (h : okF (d + 1) false e = true) (h1 : e.k = 1) : ∃ n : Int, (0 ≤ n ∧ n ≤ 65535) ∧ e = ⟨1, n, E0, []⟩ := by
  rcases ok_sev h with ⟨n, hn, rfl⟩ | ⟨s, hs, rfl⟩ | rfl | ⟨n, hn, rfl⟩ | ⟨s, hs, rfl⟩ | ⟨a, ha, rfl⟩ | ⟨k, a, b, hk, ha, hb, rfl⟩
  · exact ⟨n, hn, rfl⟩
  · exact absurd (show (2 : Int) = 1 from h1) (by decide)
  · exact absurd (show (3 : Int) = 1 from h1) (by decide)
  · exact absurd (show (11 : Int) = 1 from h1) (by decide)
  · exact absurd (show (12 : Int) = 1 from h1) (by decide)
  · exact absurd (show (4 : Int) = 1 from h1) (by decide)
  · have : k = 1 := h1
    omega
theorem ok_k11 {d : Nat} {e : Ex} (h : okF (d + 1) false e = true) (h1 : e.k = 11) : ∃ n : Int, (0 ≤ n ∧ n ≤ 9) ∧ e = ⟨11, n, E0, []⟩ := by
  rcases ok_sev h with ⟨n, hn, rfl⟩ | ⟨s, hs, rfl⟩ | rfl | ⟨n, hn, rfl⟩ | ⟨s, hs, rfl⟩ | ⟨a, ha, rfl⟩ | ⟨k, a, b, hk, ha, hb, rfl⟩
  · exact absurd (show (1 : Int) = 11 from h1) (by decide)
  · exact absurd (show (2 : Int) = 11 from h1) (by decide)
  · exact absurd (show (3 : Int) = 11 from h1) (by decide)
  · exact ⟨n, hn, rfl⟩
  · exact absurd (show (12 : Int) = 11 from h1) (by decide)
  · exact absurd (show (4 : Int) = 11 from h1) (by decide)
  · have : k = 11 := h1
    omega
theorem two11_some {k a b : Int} (hk : k = 5 ∨ k = 6) : ∃ n, two11 k a b = some n := by
  rcases hk with rfl | rfl
  · exact ⟨_, rfl⟩
  · exact ⟨_, rfl⟩
/-- What two that are folded make is folded no further. -/
theorem foldN_nh {d : Nat} {k : Int} {a b : Ex} (hk : 5 ≤ k ∧ k ≤ 10) (oa : okF (d + 1) false a = true) (ob : okF (d + 1) false b = true) (ha : Nh a) (hb : Nh b) : Nh (foldN k a b) := by
  by_cases hab : a.k = 1 ∧ b.k = 1
  · cases ht : two11 k a.n b.n with
    | some n =>
      have e : foldN k a b = numX n := by unfold foldN; rw [if_pos hab, ht]
      rw [e]
      exact nh_num n
    | none =>
      have k5 : k ≠ 5 := fun e => by obtain ⟨n, hn⟩ := two11_some (a := a.n) (b := b.n) (k := k) (.inl e); rw [hn] at ht; cases ht
      have k6 : k ≠ 6 := fun e => by obtain ⟨n, hn⟩ := two11_some (a := a.n) (b := b.n) (k := k) (.inr e); rw [hn] at ht; cases ht
      have e : foldN k a b = ⟨k, 0, E0, [a, b]⟩ := by
        unfold foldN
        rw [if_pos hab, ht]
        unfold mixX
        rw [if_neg k6, if_neg (fun h => k5 h.1), if_neg (fun h => k5 h.1)]
      rw [e]
      exact nh_two ha hb (nf_two ha.nf hb.nf e)
  · have e : foldN k a b = mixX k a b := by unfold foldN; rw [if_neg hab]
    rw [e]
    unfold mixX
    split
    · rename_i k6
      subst k6
      unfold subX
      split
      · rename_i hb1
        exact sum_nh oa (fun h => hab ⟨h, hb1⟩) ha _
      · split
        · exact nh_num _
        · rename_i hb1 hs
          refine nh_two ha hb (nf_two ha.nf hb.nf ?_)
          rw [e]
          unfold mixX subX
          rw [if_pos rfl, if_neg hb1, if_neg hs]
    · split
      · rename_i k6 h5
        exact sum_nh ob (fun h => hab ⟨h5.2, h⟩) hb _
      · split
        · rename_i k6 h5 h5b
          exact sum_nh oa (fun h => hab ⟨h, h5b.2⟩) ha _
        · rename_i k6 h5 h5b
          refine nh_two ha hb (nf_two ha.nf hb.nf ?_)
          rw [e]
          unfold mixX
          rw [if_neg k6, if_neg h5, if_neg h5b]
theorem neg_nh {a : Ex} (ha : Nh a) : Nh (negX a) := by
  unfold negX
  split
  · exact nh_num _
  · rename_i h1
    refine (Nh_eq _).2 ⟨?_, fun x hx => ?_⟩
    · unfold Nf
      rw [fold_neg, ha.nf]
      unfold negX
      rw [if_neg h1]
    · have hx : x = a := by simpa using hx
      subst hx
      exact ha
theorem fold_nh : ∀ (d : Nat) (e : Ex), okF d false e = true → Nh (foldX e) := by
  intro d
  induction d with
  | zero => intro e h; rw [okF] at h; cases h
  | succ d ih =>
    intro e h
    rcases ok_sev h with ⟨n, hn, rfl⟩ | ⟨s, hs, rfl⟩ | rfl | ⟨n, hn, rfl⟩ | ⟨s, hs, rfl⟩ | ⟨a, ha, rfl⟩ | ⟨k, a, b, hk, ha, hb, rfl⟩
    · rw [fold_leaf]; exact nh_leaf _ _ _
    · rw [fold_leaf]; exact nh_leaf _ _ _
    · rw [fold_leaf]; exact nh_leaf _ _ _
    · rw [fold_leaf]; exact nh_leaf _ _ _
    · rw [fold_leaf]; exact nh_leaf _ _ _
    · rw [fold_neg]; exact neg_nh (ih a ha)
    · rw [fold_two]
      have oa := fold_ok d a ha
      have ob := fold_ok d b hb
      obtain ⟨c, rfl⟩ := ok_pos ha
      exact foldN_nh hk oa ob (ih a ha) (ih b hb)
/-- Folded twice it is as folded once. -/
theorem fold_twice {d : Nat} {e : Ex} (h : okF d false e = true) : foldX (foldX e) = foldX e := (fold_nh d e h).nf
/-- What a term is worth, by what its parts are worth; S: sections, G: names elsewhere. -/
def worthC (S : Int → Option Int) (G : ByteArray → Option Int) (k n : Int) (s : ByteArray) : List (Option Int) → Option Int
  | [] => if k = 1 then some n else if k = 11 then S n else if k = 12 then G s else none
  | [a] => a.map (fun v => wr (-v))
  | a :: b :: _ => a.bind fun x => b.bind fun y => two11 k x y
def worthX (S : Int → Option Int) (G : ByteArray → Option Int) : Ex → Option Int
  | ⟨k, n, s, l⟩ => worthC S G k n s (l.map (worthX S G))
section
variable {S : Int → Option Int} {G : ByteArray → Option Int}
theorem worth_num (n : Int) (s : ByteArray) : worthX S G ⟨1, n, s, []⟩ = some n := by rw [worthX]; rfl
theorem worth_sect (n : Int) (s : ByteArray) : worthX S G ⟨11, n, s, []⟩ = S n := by rw [worthX]; rfl
theorem worth_glob (n : Int) (s : ByteArray) : worthX S G ⟨12, n, s, []⟩ = G s := by rw [worthX]; rfl
theorem worth_sym (n : Int) (s : ByteArray) : worthX S G ⟨2, n, s, []⟩ = none := by rw [worthX]; rfl
theorem worth_here (n : Int) (s : ByteArray) : worthX S G ⟨3, n, s, []⟩ = none := by rw [worthX]; rfl
theorem worth_neg (k n : Int) (s : ByteArray) (a : Ex) : worthX S G ⟨k, n, s, [a]⟩ = (worthX S G a).map (fun v => wr (-v)) := by rw [worthX]; rfl
theorem worth_two (k n : Int) (s : ByteArray) (a b : Ex) : worthX S G ⟨k, n, s, [a, b]⟩ = (worthX S G a).bind fun x => (worthX S G b).bind fun y => two11 k x y := by rw [worthX]; rfl
theorem bits_w {d s : Int} (hd : 0 ≤ d ∧ d ≤ 65535) (hs : 0 ≤ s ∧ s ≤ 65535) : (0 ≤ bits .and .i64 d s ∧ bits .and .i64 d s ≤ 65535) ∧ (0 ≤ bits .or .i64 d s ∧ bits .or .i64 d s ≤ 65535) := by
  obtain ⟨a, rfl⟩ := Int.eq_ofNat_of_zero_le hd.1
  obtain ⟨b, rfl⟩ := Int.eq_ofNat_of_zero_le hs.1
  have h := bits_nat .i64 16 (by decide) (fun n h0 h1 => by rw [IntKind.wrap_i64]; omega) a b (by omega) (by omega)
  rw [h.1, h.2]
  have h1 : a ||| b < 2 ^ 16 := Nat.or_lt_two_pow (by omega) (by omega)
  have h2 : a &&& b ≤ a := Nat.and_le_left
  omega
theorem two11_in {k a b n : Int} (hk : 5 ≤ k ∧ k ≤ 10) (ha : 0 ≤ a ∧ a ≤ 65535) (hb : 0 ≤ b ∧ b ≤ 65535) (h : two11 k a b = some n) : 0 ≤ n ∧ n ≤ 65535 := by
  unfold two11 at h
  split at h
  · cases h; exact wr_in _
  · split at h
    · cases h; exact wr_in _
    · split at h
      · cases h; exact wr_in _
      · split at h
        · cases h
          exact (bits_w ha hb).1
        · split at h
          · cases h
            exact (bits_w ha hb).2
          · split at h
            · cases h
            · cases h
              have h1 : a / b ≤ a := Int.ediv_le_self _ ha.1
              have h2 : 0 ≤ a / b := Int.ediv_nonneg ha.1 hb.1
              omega
theorem worth_in (hS : ∀ n v, S n = some v → 0 ≤ v ∧ v ≤ 65535) (hG : ∀ s v, G s = some v → 0 ≤ v ∧ v ≤ 65535) : ∀ (d : Nat) (e : Ex) (v : Int), okF d false e = true → worthX S G e = some v → 0 ≤ v ∧ v ≤ 65535 := by
  intro d
  induction d with
  | zero => intro e v h; rw [okF] at h; cases h
  | succ d ih =>
    intro e v h hv
    rcases ok_sev h with ⟨n, hn, rfl⟩ | ⟨s, hs, rfl⟩ | rfl | ⟨n, hn, rfl⟩ | ⟨s, hs, rfl⟩ | ⟨a, ha, rfl⟩ | ⟨k, a, b, hk, ha, hb, rfl⟩
    · rw [worth_num] at hv; cases hv; exact hn
    · rw [worth_sym] at hv; cases hv
    · rw [worth_here] at hv; cases hv
    · rw [worth_sect] at hv; exact hS _ _ hv
    · rw [worth_glob] at hv; exact hG _ _ hv
    · rw [worth_neg] at hv
      obtain ⟨u, _, rfl⟩ := Option.map_eq_some_iff.1 hv
      exact wr_in _
    · rw [worth_two] at hv
      obtain ⟨x, hx, hv⟩ := Option.bind_eq_some_iff.1 hv
      obtain ⟨y, hy, hv⟩ := Option.bind_eq_some_iff.1 hv
      exact two11_in hk (ih a x ha hx) (ih b y hb hy) hv
theorem worth_add {a : Ex} {v : Int} (hv : worthX S G a = some v) (hi : 0 ≤ v ∧ v ≤ 65535) (n : Int) : worthX S G (addX a n) = some (wr (v + n)) := by
  unfold addX
  split
  · rename_i hz
    rw [hv]
    congr 1
    unfold wr at *
    omega
  · rw [worth_two, hv]
    unfold numX
    rw [worth_num]
    show two11 5 v (wr n) = _
    show some (wr (v + wr n)) = _
    congr 1
    unfold wr
    omega
theorem prt_ok {d : Nat} {a : Ex} (h : okF (d + 1) false a = true) : ∃ c, okF (c + 1) false (prtX a).1 = true := by
  rcases prt_cases h with ⟨e, _⟩ | ⟨b, m, hm, rfl, e, hb⟩
  · rw [e]; exact ⟨d, h⟩
  · rw [e]
    obtain ⟨c, rfl⟩ := ok_pos hb
    exact ⟨c, hb⟩
theorem worth_prt (hS : ∀ n v, S n = some v → 0 ≤ v ∧ v ≤ 65535) (hG : ∀ s v, G s = some v → 0 ≤ v ∧ v ≤ 65535) {d : Nat} {a : Ex} {v : Int} (ho : okF (d + 1) false a = true) (hv : worthX S G a = some v) : ∃ u, worthX S G (prtX a).1 = some u ∧ (0 ≤ u ∧ u ≤ 65535) ∧ v = wr (u + (prtX a).2) := by
  have hi := worth_in hS hG (d + 1) a v ho hv
  rcases prt_cases ho with ⟨e, _⟩ | ⟨b, m, hm, rfl, e, hb⟩
  · rw [e]
    exact ⟨v, hv, hi, by unfold wr; simp only; omega⟩
  · rw [e]
    rw [worth_two, worth_num] at hv
    obtain ⟨x, hx, hv⟩ := Option.bind_eq_some_iff.1 hv
    refine ⟨x, hx, worth_in hS hG d b x hb hx, ?_⟩
    have hv : some (wr (x + m)) = some v := hv
    cases hv
    rfl
theorem worth_sum (hS : ∀ n v, S n = some v → 0 ≤ v ∧ v ≤ 65535) (hG : ∀ s v, G s = some v → 0 ≤ v ∧ v ≤ 65535) {d : Nat} {a : Ex} {v : Int} (ho : okF (d + 1) false a = true) (hv : worthX S G a = some v) (n : Int) : worthX S G (sumX a n) = some (wr (v + n)) := by
  obtain ⟨u, hu, hi, rfl⟩ := worth_prt hS hG ho hv
  unfold sumX
  rw [worth_add hu hi]
  congr 1
  unfold wr
  omega
theorem worth_sub (hS : ∀ n v, S n = some v → 0 ≤ v ∧ v ≤ 65535) (hG : ∀ s v, G s = some v → 0 ≤ v ∧ v ≤ 65535) {d : Nat} {a b : Ex} {x y : Int} (oa : okF (d + 1) false a = true) (ob : okF (d + 1) false b = true) (hx : worthX S G a = some x) (hy : worthX S G b = some y) : worthX S G (subX a b) = some (wr (x - y)) := by
  unfold subX
  split
  · rename_i hb1
    obtain ⟨m, hm, rfl⟩ := ok_k1 ob hb1
    rw [worth_num] at hy
    cases hy
    rw [worth_sum hS hG oa hx]
    rfl
  · split
    · rename_i hs
      obtain ⟨u, hu, _, rfl⟩ := worth_prt hS hG oa hx
      obtain ⟨q, hq, _, rfl⟩ := worth_prt hS hG ob hy
      obtain ⟨c, oc⟩ := prt_ok oa
      obtain ⟨c', oc'⟩ := prt_ok ob
      obtain ⟨n, _, en⟩ := ok_k11 oc hs.1
      obtain ⟨n', _, en'⟩ := ok_k11 oc' hs.2.1
      have hnn := hs.2.2
      rw [en, en'] at hnn
      have hnn : n = n' := hnn
      subst hnn
      rw [en, worth_sect] at hu
      rw [en', worth_sect, hu] at hq
      cases hq
      unfold numX
      rw [worth_num]
      congr 1
      unfold wr
      omega
    · rw [worth_two, hx, hy]
      rfl
theorem worth_foldN (hS : ∀ n v, S n = some v → 0 ≤ v ∧ v ≤ 65535) (hG : ∀ s v, G s = some v → 0 ≤ v ∧ v ≤ 65535) {d : Nat} {k v : Int} {a b : Ex} {x y : Int} (hk : 5 ≤ k ∧ k ≤ 10) (oa : okF (d + 1) false a = true) (ob : okF (d + 1) false b = true) (hx : worthX S G a = some x) (hy : worthX S G b = some y) (ht : two11 k x y = some v) : worthX S G (foldN k a b) = some v := by
  have ix := worth_in hS hG _ a x oa hx
  have iy := worth_in hS hG _ b y ob hy
  have mix : worthX S G (mixX k a b) = some v := by
    unfold mixX
    split
    · rename_i h6
      subst h6
      rw [worth_sub hS hG oa ob hx hy]
      exact ht
    · split
      · rename_i h5
        obtain ⟨rfl, ha1⟩ := h5
        obtain ⟨m, hm, rfl⟩ := ok_k1 oa ha1
        rw [worth_num] at hx
        cases hx
        rw [worth_sum hS hG ob hy]
        rw [← ht]
        show some (wr (y + x)) = some (wr (x + y))
        rw [Int.add_comm]
      · split
        · rename_i h5
          obtain ⟨rfl, hb1⟩ := h5
          obtain ⟨m, hm, rfl⟩ := ok_k1 ob hb1
          rw [worth_num] at hy
          cases hy
          rw [worth_sum hS hG oa hx]
          exact ht
        · rw [worth_two, hx, hy]
          exact ht
  unfold foldN
  split
  · rename_i hab
    obtain ⟨m, hm, rfl⟩ := ok_k1 oa hab.1
    obtain ⟨m', hm', rfl⟩ := ok_k1 ob hab.2
    rw [worth_num] at hx hy
    cases hx
    cases hy
    simp only [ht]
    unfold numX
    rw [worth_num, wr_of (two11_in hk hm hm' ht)]
  · exact mix
/-- What is folded is worth the same. -/
theorem fold_worth (hS : ∀ n v, S n = some v → 0 ≤ v ∧ v ≤ 65535) (hG : ∀ s v, G s = some v → 0 ≤ v ∧ v ≤ 65535) : ∀ (d : Nat) (e : Ex) (v : Int), okF d false e = true → worthX S G e = some v → worthX S G (foldX e) = some v := by
  intro d
  induction d with
  | zero => intro e v h; rw [okF] at h; cases h
  | succ d ih =>
    intro e v h hv
    rcases ok_sev h with ⟨n, hn, rfl⟩ | ⟨s, hs, rfl⟩ | rfl | ⟨n, hn, rfl⟩ | ⟨s, hs, rfl⟩ | ⟨a, ha, rfl⟩ | ⟨k, a, b, hk, ha, hb, rfl⟩
    · rw [fold_leaf]; exact hv
    · rw [fold_leaf]; exact hv
    · rw [fold_leaf]; exact hv
    · rw [fold_leaf]; exact hv
    · rw [fold_leaf]; exact hv
    · rw [worth_neg] at hv
      obtain ⟨u, hu, rfl⟩ := Option.map_eq_some_iff.1 hv
      have hu2 := ih a u ha hu
      have oa := fold_ok d a ha
      obtain ⟨c, rfl⟩ := ok_pos ha
      rw [fold_neg]
      unfold negX
      split
      · rename_i h1
        obtain ⟨m, hm, em⟩ := ok_k1 oa h1
        rw [em, worth_num] at hu2
        cases hu2
        rw [em]
        unfold numX
        rw [worth_num]
      · rw [worth_neg, hu2]
        rfl
    · rw [worth_two] at hv
      obtain ⟨x, hx, hv⟩ := Option.bind_eq_some_iff.1 hv
      obtain ⟨y, hy, hv⟩ := Option.bind_eq_some_iff.1 hv
      have oa := fold_ok d a ha
      have ob := fold_ok d b hb
      have ix := ih a x ha hx
      have iy := ih b y hb hy
      obtain ⟨c, rfl⟩ := ok_pos ha
      rw [fold_two]
      exact worth_foldN hS hG hk oa ob ix iy hv
end
end Go.Proofs.YtkolflcjkofleaaDoor

namespace Go.Proofs.YtkolflcjkofleaaDoor
open Go.ChangeShapes Go.WideShapes Go.ChangeAt Go.RowKit
set_option linter.unusedVariables false
set_option maxRecDepth 8000
set_option linter.unusedSimpArgs false

/-- The cursor, while draws go on that began at w. -/
structure Dz (w wr : World) (cb : Nat) (a : Option Addr) (len cap : Nat) (xs : List UInt8) : Prop where
  cur : Cur wr cb a len cap xs
  gr : w.grownBy wr (some cb)
  lt : cb < w.heap.size
  cd : xs = [] ∨ ∀ ad, a = some ad → ad.block < w.heap.size
section
variable {w wr w' : World} {cb : Nat} {a : Option Addr} {len cap : Nat} {xs : List UInt8}
theorem dz_new (hc : Cur w cb a len cap xs) : Dz w w cb a len cap xs := ⟨hc, grownBy_below (Below.refl _ _), hc.lt, hc.code⟩
theorem Dz.size (h : Dz w wr cb a len cap xs) : w.heap.size ≤ wr.heap.size := h.gr.size
theorem Dz.draw (h : Dz w wr cb a len cap xs) (hc : Cur w' cb a len cap xs) (hg : wr.grownBy w' (some cb)) : Dz w w' cb a len cap xs := ⟨hc, grownBy_trans h.gr hg, h.lt, h.cd⟩
theorem Dz.later (h : Dz w wr cb a len cap xs) (hb : Below wr.heap.size wr w') : Dz w w' cb a len cap xs := h.draw (h.cur.later hb) (grownBy_below hb)
theorem Dz.own {row : Option Nat} (h : Dz w wr cb a len cap xs) (hg : wr.grownBy w' row) (hr : ∀ g, row = some g → w.heap.size ≤ g) : Dz w w' cb a len cap xs := ⟨h.cur.past hg h.lt h.cd hr, grownBy_own h.gr hg hr, h.lt, h.cd⟩
theorem grownBy_row {W : World} {g : Nat} (cs : Array Value) : W.grownBy (W.setRow g cs) (some g) := ⟨rfl, rfl, rfl, by simp [World.setRow], fun k _ hk => setRow_other _ _ _ _ (fun e => hk (by rw [e]))⟩
theorem Dz.row (h : Dz w wr cb a len cap xs) (cs : Array Value) : Dz w (wr.setRow w.heap.size cs) cb a len cap xs := h.own (grownBy_row cs) (fun g e => by cases e; exact Nat.le_refl _)
/-- A block of the call's own stays while draws go on. -/
theorem Dz.blk {W : World} {g : Nat} {o : Obj} (h : Dz w wr cb a len cap xs) (hg : wr.grownBy W (some cb)) (hb : wr.heap[g]? = some o) (hge : w.heap.size ≤ g) : W.heap[g]? = some o :=
  (hg.block g (Array.getElem?_eq_some_iff.1 hb).1 (fun e => by have := h.lt; simp at e; omega)).trans hb
end
theorem lit_cell (L : List ByteArray) (W : World) (j : Nat) (h : j < L.length) : (W.alloc (.cells (L.map Value.string).toArray 9)).cell? ⟨W.heap.size, j, none⟩ = some (.string (L.getD j E0)) := by
  rw [World.cell?_alloc_at _ _ _ _ rfl, List.getElem?_toArray, List.getElem?_map, List.getElem?_eq_getElem h, List.getD_eq_getElem?_getD, List.getElem?_eq_getElem h]
  rfl
set_option maxHeartbeats 400000 in
theorem strD (L : List ByteArray) (n : Nat) (cb : Nat) (a : Option Addr) (len cap : Nat) (xs : List UInt8) (w0 : World) (hn : L.length = n) (h0 : 0 < n) (hm : n ≤ 1000) (hc : Cur w0 cb a len cap xs) :
    Calls Tryd.prog 66 #[.pointer (some ⟨cb, 0, none⟩), .slice (some ⟨w0.heap.size, 0, none⟩) n n] (w0.alloc (.cells (L.map Value.string).toArray 9)) fun e w' => ∃ j, j < n ∧ e = .returned (.string (L.getD j E0)) ∧ Cur w' cb a len cap xs ∧ w0.grownBy w' (some cb) := by
  have hlt := hc.lt
  have HC := hide (hc.later ((Below.refl _ _).alloc (Nat.le_refl _) (.cells (L.map Value.string).toArray 9)))
  have HT := hide (fun j (hj : j < n) => lit_cell L w0 j (by omega))
  have HZ : w0.heap.size < (w0.alloc (.cells (L.map Value.string).toArray 9)).heap.size := by simp
  have HG := hide (World.grownBy_alloc w0 (.cells (L.map Value.string).toArray 9) (some cb))
  clear hc
  generalize w0.alloc (.cells (L.map Value.string).toArray 9) = w at *
  go_enter Tryd.func66, Tryd.ntmps66
  go_wp2_with fail
  refine (below_any cb a len cap xs n w (by omega) (unhide HC)).mono ?_
  rintro e w1 ⟨x, hx0, hx1, rfl, hc1, hg1⟩
  obtain ⟨hx2, hx3⟩ := hx0 (by omega)
  obtain ⟨j, rfl⟩ := Int.eq_ofNat_of_zero_le hx2
  have hj : j < n := by omega
  have hcx : w1.cell? ⟨w0.heap.size, j, none⟩ = some (.string (L.getD j E0)) := (World.cell?_of_block (w := w) (hg1.block w0.heap.size HZ (by simp; omega))).trans (unhide HT j hj)
  obtain ⟨s, hs⟩ : ∃ s, L.getD j E0 = s := ⟨_, rfl⟩
  have HS := hide hs
  rw [hs] at hcx
  clear hx0 hx1 hs HT
  go_wp2
  go_ret
  exact ⟨j, hj, by rw [unhide HS]; rfl, hc1, grownBy_trans (unhide HG) hg1⟩
set_option maxHeartbeats 400000 in
theorem wordD (cb : Nat) (a : Option Addr) (len cap : Nat) (xs : List UInt8) (w : World) (hc : Cur w cb a len cap xs) :
    Calls Tryd.prog 60 #[.pointer (some ⟨cb, 0, none⟩)] w fun e w' => ∃ x : Int, 0 ≤ x ∧ x ≤ 65535 ∧ e = .returned (.int .i64 x) ∧ Cur w' cb a len cap xs ∧ w.grownBy w' (some cb) := by
  have D0 := hide (dz_new hc)
  go_enter Tryd.func60, Tryd.ntmps60
  go_wp2_with fail
  refine (below_any cb a len cap xs 65536 w (by omega) hc).mono ?_
  rintro e w1 ⟨x, hx0, hx1, rfl, hc1, hg1⟩
  obtain ⟨hx2, hx3⟩ := hx0 (by omega)
  have D1 := hide ((unhide D0).draw hc1 hg1)
  have hlt := hc1.lt
  have I1 := hide (int_any cb a len cap xs (some ⟨w1.heap.size, 0, none⟩) 11 11 [0, 1, 2, 3, 5, 8, 255, 32767, 32768, 65535, x] (w1.alloc (.cells ([0, 1, 2, 3, 5, 8, 255, 32767, 32768, 65535, x].map (Value.int .i64)).toArray 3)) (hc1.later ((Below.refl _ _).alloc (Nat.le_refl _) _)) (RdN_lit w1 _) (fun ad e => by cases e; show w1.heap.size ≠ cb; omega) rfl (by omega) (by omega))
  have G1 := hide (World.grownBy_alloc w1 (.cells ([0, 1, 2, 3, 5, 8, 255, 32767, 32768, 65535, x].map (Value.int .i64)).toArray 3) (some cb))
  have BD := hide (show ∀ j, j < 11 → 0 ≤ nAt [0, 1, 2, 3, 5, 8, 255, 32767, 32768, 65535, x] j ∧ nAt [0, 1, 2, 3, 5, 8, 255, 32767, 32768, 65535, x] j ≤ 65535 from fun j hj => by
    have hk : j = 0 ∨ j = 1 ∨ j = 2 ∨ j = 3 ∨ j = 4 ∨ j = 5 ∨ j = 6 ∨ j = 7 ∨ j = 8 ∨ j = 9 ∨ j = 10 := by omega
    rcases hk with rfl | rfl | rfl | rfl | rfl | rfl | rfl | rfl | rfl | rfl | rfl <;> simp [nAt] <;> omega)
  clear hc1 hg1 hx0 hx1 D0
  go_wp2_with fail
  refine (unhide I1).mono ?_
  rintro e w2 ⟨j, hj, rfl, hc2, hg2⟩
  have D2 := hide ((unhide D1).draw hc2 (grownBy_trans (unhide G1) hg2))
  obtain ⟨b0, b1⟩ := unhide BD j hj
  generalize nAt [0, 1, 2, 3, 5, 8, 255, 32767, 32768, 65535, x] j = y at *
  clear hc2 hg2 I1 G1 BD D1
  go_wp2
  go_ret
  exact ⟨y, b0, b1, rfl, (unhide D2).cur, (unhide D2).gr⟩
def L9a : List ByteArray := [⟨#[97]⟩, ⟨#[115, 116, 97, 114, 116]⟩, ⟨#[120, 49]⟩, ⟨#[114, 54]⟩]
def L9b : List ByteArray := [⟨#[46, 119, 111, 114, 100]⟩, ⟨#[46, 109, 97, 99, 114, 111]⟩, ⟨#[46, 120]⟩]
def L9c : List ByteArray := [⟨#[109, 111, 118]⟩, ⟨#[114, 48]⟩, ⟨#[104, 97, 108, 116]⟩]
def L9d : List ByteArray := [⟨#[58]⟩, ⟨#[44]⟩, ⟨#[40]⟩, ⟨#[41]⟩, ⟨#[46]⟩, ⟨#[60]⟩, ⟨#[64]⟩]
theorem ok9a : ∀ j : Fin 4, (Tk.mk 1 0 (L9a.getD j.val E0)).ok = true := by decide +kernel
theorem ok9b : ∀ j : Fin 3, (Tk.mk 3 0 (L9b.getD j.val E0)).ok = true := by decide +kernel
theorem ok9c : ∀ j : Fin 3, (Tk.mk 5 0 (L9c.getD j.val E0)).ok = true := by decide +kernel
theorem ok9d : ∀ j : Fin 7, (Tk.mk 4 0 (L9d.getD j.val E0)).ok = true := by decide +kernel
theorem ok9n (x : Int) (h0 : 0 ≤ x) (h1 : x ≤ 65535) : (Tk.mk 2 x ⟨#[]⟩).ok = true := by
  unfold Tk.ok
  simp only
  rw [if_pos (by decide), inB_t _ _ _ h0 h1]
  rfl
end Go.Proofs.YtkolflcjkofleaaDoor

namespace Go.Proofs.YtkolflcjkofleaaDoor
open Go.ChangeShapes Go.WideShapes Go.ChangeAt Go.RowKit
set_option linter.unusedVariables false
set_option maxRecDepth 8000

/-- A term's value, its parts lying at b. -/
def Ex.cs (e : Ex) (b : Option Addr) (cap : Nat) : Array Value := #[.int .i64 e.k, .int .i64 e.n, .string e.s, .slice b e.l.length cap]
section
variable {H : Type} {enc : TypeId × Value → H} {W : World} {b0 base : Nat} {spare : TypeId → Bool} {held : Bool}
theorem trod_four {P : Program} {t : TypeId} {f0 f1 f2 f3 : Field} {fuel : Nat} {cs : List Value} {x : DataW H × List MemPlace} (ht : P.underlying t = some (.struct #[f0, f1, f2, f3])) (h : DataW.trod enc P W base spare held fuel t cs = some x) :
    ∃ y0 y1 y2 y3 n, fuel = n + 1 ∧ cs.length = P.cellsOf t ∧ DataW.trod enc P W base spare held n f0.type ((cs.drop f0.offset).take (P.cellsOf f0.type)) = some y0 ∧ DataW.trod enc P W base spare held n f1.type ((cs.drop f1.offset).take (P.cellsOf f1.type)) = some y1 ∧ DataW.trod enc P W base spare held n f2.type ((cs.drop f2.offset).take (P.cellsOf f2.type)) = some y2 ∧ DataW.trod enc P W base spare held n f3.type ((cs.drop f3.offset).take (P.cellsOf f3.type)) = some y3 := by
  obtain ⟨xs, n, hf, rfl, hl, hlen, hfs⟩ := DataW.trod_struct ht h
  match xs, hlen with
  | [y0, y1, y2, y3], _ => exact ⟨y0, y1, y2, y3, n, hf, hl, by simpa using hfs 0 f0 rfl, by simpa using hfs 1 f1 rfl, by simpa using hfs 2 f2 rfl, by simpa using hfs 3 f3 rfl⟩
theorem trod_ex : ∀ (fuel : Nat) (cs : List Value) (x : DataW H × List MemPlace), DataW.trod enc Tryd.prog W base spare held fuel 44 cs = some x → ∃ (e : Ex) (b : Option Addr) (cap : Nat), cs = [.int .i64 e.k, .int .i64 e.n, .string e.s, .slice b e.l.length cap] ∧ RdX W 0 e b ∧ Fit e := by
  intro fuel
  induction fuel using Nat.strongRecOn with
  | ind fuel ih =>
    intro cs x h
    obtain ⟨y0, y1, y2, y3, n, hf, hl, h0, h1, h2, h3⟩ := trod_four Tryd.underlying44 h
    have hc : Tryd.prog.cellsOf 44 = 4 := by kernel_rfl
    have hc3 : Tryd.prog.cellsOf 3 = 1 := by kernel_rfl
    have hc9 : Tryd.prog.cellsOf 9 = 1 := by kernel_rfl
    have hcl : Tryd.prog.cellsOf 42 = 1 := by kernel_rfl
    rw [hc] at hl
    match cs, hl with
    | [c0, c1, c2, c3], _ =>
      obtain ⟨m, e0, _, w0⟩ := DataW.trod_int Tryd.underlying3 h0
      obtain ⟨r, e1, _, w1⟩ := DataW.trod_int Tryd.underlying3 h1
      obtain ⟨s, e2, _, w2⟩ := DataW.trod_string Tryd.underlying9 h2
      simp only [hc3, hc9] at e0 e1 e2
      simp at e0 e1 e2
      subst e0 e1 e2
      have hs9 : s.size ≤ 9223372036854775807 := by have := w2; unfold maxLen at this; omega
      rcases DataW.trod_slice Tryd.underlying42 h3 with ⟨hcs, _⟩ | ⟨a, len, cap, elems, rest, q, hq, hcs, _, hb, hl, hm, hel, hx, _, _⟩
      · simp only [hcl] at hcs
        simp at hcs
        subst hcs
        exact ⟨⟨m, r, s, []⟩, none, 0, rfl, (RdX_eq _ _ _ _).2 (.inl rfl), (Fit_eq _).2 ⟨hs9, by simp, fun i hi => by simp at hi⟩⟩
      · simp only [hcl] at hcs
        simp at hcs
        subst hcs
        have each : ∀ i, i < len → ∃ t : Ex, (W.cell? (a.add (i * 4)) = some (.int .i64 t.k) ∧ W.cell? (a.add (i * 4 + 1)) = some (.int .i64 t.n) ∧ W.cell? (a.add (i * 4 + 2)) = some (.string t.s) ∧ ∃ c cap, W.cell? (a.add (i * 4 + 3)) = some (.slice c t.l.length cap) ∧ RdX W 0 t c) ∧ Fit t := fun i hi => by
          have h4 := hx i hi
          rw [List.getElem?_eq_getElem (by omega), Option.bind_eq_some_iff] at h4
          obtain ⟨cs', p1, p2⟩ := h4
          rw [hc] at p1
          obtain ⟨_, hlen', hcell⟩ := World.cells?_some p1
          obtain ⟨t, c, cap', hcs', hrd, hft⟩ := ih q (by omega) cs' _ p2
          refine ⟨t, ⟨?_, ?_, ?_, c, cap', ?_, hrd⟩, hft⟩
          · have e := hcell 0 (by omega); rw [_root_.Go.Deep.add_add, hcs'] at e; simpa using e
          · have e := hcell 1 (by omega); rw [_root_.Go.Deep.add_add, hcs'] at e; simpa using e
          · have e := hcell 2 (by omega); rw [_root_.Go.Deep.add_add, hcs'] at e; simpa using e
          · have e := hcell 3 (by omega); rw [_root_.Go.Deep.add_add, hcs'] at e; simpa using e
        obtain ⟨T, hT⟩ := @_root_.Go.Deep.choose_lt Ex ⟨X0⟩ _ _ each
        have hL : ((List.range len).map T).length = len := by simp
        have hat : ∀ i, i < len → xAt ((List.range len).map T) i = T i := fun i hi => by
          unfold xAt
          rw [List.getD_eq_getElem?_getD, List.getElem?_map, List.getElem?_range hi]
          rfl
        refine ⟨⟨m, r, s, (List.range len).map T⟩, some a, cap, by simp [hL], (RdX_eq _ _ _ _).2 ?_, (Fit_eq _).2 ⟨hs9, ?_, fun i hi => ?_⟩⟩
        · by_cases h0 : len = 0
          · subst h0; exact .inl rfl
          · right
            obtain ⟨b, off, spot⟩ := a
            have h00 := (hT 0 (by omega)).1.1
            have hspot : spot = none := by simpa [Addr.add] using World.cell?_spot h00
            subst hspot
            have hadd : ∀ j, (⟨b, off, none⟩ : Addr).add j = ⟨b, off + j, none⟩ := fun j => by
              unfold Addr.add
              by_cases hj : j = 0
              · subst hj; simp
              · simp [hj]
            refine ⟨b, off, rfl, Nat.zero_le _, World.block_lt_of_cell? W _ h00, fun i hi => ?_⟩
            have hi : i < len := by simpa using hi
            show OneX W 0 b (off + i * 4) (xAt ((List.range len).map T) i)
            rw [hat i hi]
            have h3 := (hT i hi).1
            rw [hadd, hadd, hadd, hadd] at h3
            exact h3
        · show ((List.range len).map T).length ≤ _
          rw [hL]; unfold maxLen at hm; omega
        · have hi : i < len := by simpa using hi
          show Fit (xAt ((List.range len).map T) i)
          rw [hat i hi]
          exact (hT i hi).2
theorem open_ex {r : Reach} {v : Value} {d : DataW H} {p : List MemPlace} (hv : Value.okWide Tryd.prog W r b0 44 v) (h : DataW.Trod enc Tryd.prog W base spare held 44 v d p) : ∃ (e : Ex) (b : Option Addr) (cap : Nat), v = .agg (e.cs b cap) ∧ RdX W 0 e b ∧ Fit e := by
  obtain ⟨cs, rfl, hsz⟩ := okWide_struct Tryd.underlying44 hv
  obtain ⟨fuel, hf⟩ := h
  obtain ⟨e, b, cap, hcs, h1, h2⟩ := trod_ex _ _ _ hf
  refine ⟨e, b, cap, ?_, h1, h2⟩
  have : cs.toList = [.int .i64 e.k, .int .i64 e.n, .string e.s, .slice b e.l.length cap] := by simpa [Value.cells] using hcs
  unfold Ex.cs
  rw [← Array.toArray_toList (xs := cs), this]
end
end Go.Proofs.YtkolflcjkofleaaDoor

namespace Go.Proofs.YtkolflcjkofleaaDoor
open Go.ChangeShapes Go.WideShapes Go.ChangeAt Go.RowKit
set_option linter.unusedVariables false
set_option maxRecDepth 8000

/-- The parts of a term lie at a, each list in a whole block of cells that is not frozen; F: the blocks. -/
def OwX (w : World) : Ex → Option Addr → List Nat → Prop
  | ⟨_, _, _, l⟩, a, F => (l = [] ∧ F = []) ∨ ∃ (b : Nat) (cs : Array Value) (t : TypeId) (Fs : List (List Nat)), a = some ⟨b, 0, none⟩ ∧ w.heap[b]? = some (.cells cs t (0, 0)) ∧ l.length * 4 ≤ cs.size ∧ Fs.length = l.length ∧ F = b :: Fs.flatten ∧ ∀ x ∈ l, ∀ i, l[i]? = some x → cs[i * 4]? = some (.int .i64 x.k) ∧ cs[i * 4 + 1]? = some (.int .i64 x.n) ∧ cs[i * 4 + 2]? = some (.string x.s) ∧ ∃ c cap, cs[i * 4 + 3]? = some (.slice c x.l.length cap) ∧ OwX w x c (Fs.getD i [])
/-- One part in a row, owned. -/
def OwOne (w : World) (cs : Array Value) (i : Nat) (x : Ex) (F : List Nat) : Prop := cs[i * 4]? = some (.int .i64 x.k) ∧ cs[i * 4 + 1]? = some (.int .i64 x.n) ∧ cs[i * 4 + 2]? = some (.string x.s) ∧ ∃ c cap, cs[i * 4 + 3]? = some (.slice c x.l.length cap) ∧ OwX w x c F
theorem OwX_eq (w : World) (e : Ex) (a : Option Addr) (F : List Nat) : OwX w e a F ↔ ((e.l = [] ∧ F = []) ∨ ∃ (b : Nat) (cs : Array Value) (t : TypeId) (Fs : List (List Nat)), a = some ⟨b, 0, none⟩ ∧ w.heap[b]? = some (.cells cs t (0, 0)) ∧ e.l.length * 4 ≤ cs.size ∧ Fs.length = e.l.length ∧ F = b :: Fs.flatten ∧ ∀ i, i < e.l.length → OwOne w cs i (xAt e.l i) (Fs.getD i [])) := by
  obtain ⟨k, n, s, l⟩ := e
  rw [OwX]
  refine or_congr Iff.rfl (exists_congr fun b => exists_congr fun cs => exists_congr fun t => exists_congr fun Fs => and_congr Iff.rfl (and_congr Iff.rfl (and_congr Iff.rfl (and_congr Iff.rfl (and_congr Iff.rfl ⟨fun h i hi => ?_, fun h x hx i hi => ?_⟩)))))
  · exact h _ (xAt_mem hi) i (by rw [xAt_get hi]; exact List.getElem?_eq_getElem hi)
  · obtain ⟨hl, e⟩ := List.getElem?_eq_some_iff.1 hi
    have := h i hl
    rw [xAt_get hl, e] at this
    exact this
theorem getD_flat {Fs : List (List Nat)} {i : Nat} {b : Nat} (h : b ∈ Fs.getD i []) : b ∈ Fs.flatten := by
  rw [List.getD_eq_getElem?_getD] at h
  by_cases hi : i < Fs.length
  · rw [List.getElem?_eq_getElem hi] at h
    exact List.mem_flatten.2 ⟨_, List.getElem_mem hi, h⟩
  · rw [List.getElem?_eq_none (by omega)] at h
    cases h
theorem OwX.keep {w w' : World} (e : Ex) : ∀ a F, (∀ b ∈ F, w'.heap[b]? = w.heap[b]?) → OwX w e a F → OwX w' e a F := by
  induction e using Ex.ind with
  | h k n s l ih =>
    intro a F hk h
    rw [OwX_eq] at h ⊢
    rcases h with h | ⟨b, cs, t, Fs, ha, hh, hz, hF, rfl, h3⟩
    · exact .inl h
    · refine .inr ⟨b, cs, t, Fs, ha, (hk b List.mem_cons_self).trans hh, hz, hF, rfl, fun i hi => ?_⟩
      obtain ⟨c1, c2, c3, c, cap, c4, c5⟩ := h3 i hi
      exact ⟨c1, c2, c3, c, cap, c4, ih _ (xAt_mem hi) _ _ (fun b hb => hk b (List.mem_cons_of_mem _ (getD_flat hb))) c5⟩
theorem OwX.lt {w : World} (e : Ex) : ∀ a F, OwX w e a F → ∀ b ∈ F, b < w.heap.size := by
  induction e using Ex.ind with
  | h k n s l ih =>
    intro a F h
    rw [OwX_eq] at h
    rcases h with ⟨_, rfl⟩ | ⟨b, cs, t, Fs, ha, hh, hz, hF, rfl, h3⟩
    · intro b hb; cases hb
    · intro x hx
      rcases List.mem_cons.1 hx with rfl | hx
      · exact (Array.getElem?_eq_some_iff.1 hh).1
      · obtain ⟨G, hG, hx⟩ := List.mem_flatten.1 hx
        obtain ⟨i, hi, rfl⟩ := List.getElem_of_mem hG
        have hi2 : i < l.length := hF ▸ hi
        obtain ⟨c1, c2, c3, c, cap, c4, c5⟩ := h3 i hi2
        rw [List.getD_eq_getElem?_getD, List.getElem?_eq_getElem hi] at c5
        exact ih _ (xAt_mem hi2) _ _ c5 _ hx
theorem OwX.later {w w' : World} {e : Ex} {a : Option Addr} {F : List Nat} (h : OwX w e a F) (hb : Below w.heap.size w w') : OwX w' e a F :=
  OwX.keep e a F (fun b hF => hb.block b (OwX.lt e a F h b hF)) h
theorem OwX.rd {w : World} {B : Nat} (e : Ex) : ∀ a F, (∀ b ∈ F, B ≤ b) → OwX w e a F → RdX w B e a := by
  induction e using Ex.ind with
  | h k n s l ih =>
    intro a F hB h
    rw [OwX_eq] at h
    rw [RdX_eq]
    rcases h with h | ⟨b, cs, t, Fs, ha, hh, hz, hF, rfl, h3⟩
    · exact .inl h.1
    · refine .inr ⟨b, 0, ha, hB b List.mem_cons_self, (Array.getElem?_eq_some_iff.1 hh).1, fun i hi => ?_⟩
      obtain ⟨c1, c2, c3, c, cap, c4, c5⟩ := h3 i hi
      unfold OneX
      simp only [Nat.zero_add]
      exact ⟨(Lib.cell_of_heap hh _).trans c1, (Lib.cell_of_heap hh _).trans c2, (Lib.cell_of_heap hh _).trans c3, c, cap, (Lib.cell_of_heap hh _).trans c4, ih _ (xAt_mem hi) _ _ (fun b hb => hB b (List.mem_cons_of_mem _ (getD_flat hb))) c5⟩
/-- The parts of a term lie at a, in blocks of its own from B on, no two the same. -/
def NewX (w : World) (B : Nat) (e : Ex) (a : Option Addr) : Prop := ∃ F, OwX w e a F ∧ F.Nodup ∧ ∀ b ∈ F, B ≤ b
section
variable {w w' : World} {B C : Nat} {e : Ex} {a : Option Addr}
theorem NewX.rd (h : NewX w B e a) : RdX w B e a := by obtain ⟨F, h1, _, h3⟩ := h; exact OwX.rd e a F h3 h1
theorem NewX.later (h : NewX w B e a) (hb : Below w.heap.size w w') : NewX w' B e a := by obtain ⟨F, h1, h2, h3⟩ := h; exact ⟨F, h1.later hb, h2, h3⟩
theorem NewX.lower (h : NewX w B e a) (hC : C ≤ B) : NewX w C e a := by obtain ⟨F, h1, h2, h3⟩ := h; exact ⟨F, h1, h2, fun b hb => Nat.le_trans hC (h3 b hb)⟩
theorem NewX.far (h : NewX w B e a) (p : Addr) (v : Value) (hp : p.block < B) : NewX (w.setCell p v) B e a := by
  obtain ⟨F, h1, h2, h3⟩ := h
  exact ⟨F, OwX.keep e a F (fun b hb => heap_setCell_other w p b v (by have := h3 b hb; omega)) h1, h2, h3⟩
theorem NewX.nil (w : World) (B : Nat) (k n : Int) (s : ByteArray) (a : Option Addr) : NewX w B ⟨k, n, s, []⟩ a := ⟨[], (OwX_eq _ _ _ _).2 (.inl ⟨rfl, rfl⟩), List.nodup_nil, fun b hb => by cases hb⟩
end
end Go.Proofs.YtkolflcjkofleaaDoor

namespace Go.Proofs.YtkolflcjkofleaaDoor
open Go.ChangeShapes Go.WideShapes Go.ChangeAt Go.RowKit
set_option linter.unusedVariables false
set_option maxRecDepth 8000
set_option linter.unusedSimpArgs false

theorem szE : (Tryd.prog.info? 26).map (·.size) = some 4 := by kernel_rfl
theorem ex_one (k n : Int) (x : ByteArray) (b : Option Addr) (i j : Nat) : (#[Value.int .i64 k, .int .i64 n, .string x, .slice b i j] : Array Value).all (·.oneCell') = true := by simp [Value.oneCell']
def E0x : Array Value := #[.int .i64 0, .int .i64 0, .string ⟨#[]⟩, .slice none 0 0]
theorem NewX.drawn {wr w' : World} {cb B : Nat} {e : Ex} {c : Option Addr} (h : NewX wr B e c) (hg : wr.grownBy w' (some cb)) (hB : cb < B) : NewX w' B e c := by
  obtain ⟨F, h1, h2, h3⟩ := h
  exact ⟨F, OwX.keep e c F (fun b hF => hg.block b (OwX.lt e c F h1 b hF) (fun e => by have := h3 b hF; simp at e; omega)) h1, h2, h3⟩
theorem NewX.row {wr : World} {B g : Nat} {e : Ex} {c : Option Addr} (h : NewX wr B e c) (cs : Array Value) (hg : g < B) : NewX (wr.setRow g cs) B e c := by
  obtain ⟨F, h1, h2, h3⟩ := h
  exact ⟨F, OwX.keep e c F (fun b hF => setRow_other _ _ _ _ (by have := h3 b hF; omega)) h1, h2, h3⟩
set_option maxHeartbeats 1000000 in
theorem numY (n y : Int) (hy : n % 65536 = y) (w : World) : Calls Tryd.prog 56 #[.int .i64 n] w fun e w' => e = .returned (.agg #[.int .i64 1, .int .i64 y, .string ⟨#[]⟩, .slice none 0 0]) ∧ Below w.heap.size w w' := by
  have B0 := hide (below_new w (.cells E0x 26))
  have R0 := hide (heap_alloc_new w (.cells E0x 26))
  unfold E0x at B0 R0
  go_enter Tryd.func56, Tryd.ntmps56
  go_wp2_with fail
  generalize w.alloc (Obj.cells #[.int .i64 0, .int .i64 0, .string ⟨#[]⟩, .slice none 0 0] 26) = W at *
  refine (wrapS_any n W).mono ?_
  rintro e w1 ⟨rfl, rfl⟩
  rw [hy]
  clear hy
  go_wp2_with (refine wpList_store_row rfl 26 _ _ rfl w.heap.size #[.int .i64 1, .int .i64 y, .string ⟨#[]⟩, .slice none 0 0] rfl rfl 26 _ (unhide R0) szE rfl (ex_one _ _ _ _ _ _) ?_)
  refine bodyPost_ret (results_cell_row (P := Tryd.prog) rfl _ _ w.heap.size 26 #[.int .i64 1, .int .i64 y, .string ⟨#[]⟩, .slice none 0 0] (0, 0) _ rfl (setRow_heap _ _ _ _ _ _ (unhide R0)) Tryd.underlying26 rfl szE) rfl ?_
  exact ⟨rfl, (unhide B0).grown (grownBy_row _) (unhide B0).size (fun k e => by cases e; exact Nat.le_refl _)⟩

theorem numD (n : Int) (w : World) : Calls Tryd.prog 56 #[.int .i64 n] w fun e w' => e = .returned (.agg #[.int .i64 1, .int .i64 (n % 65536), .string ⟨#[]⟩, .slice none 0 0]) ∧ Below w.heap.size w w' := numY n _ rfl w
def L10a : List ByteArray := [⟨#[97]⟩, ⟨#[98]⟩, ⟨#[99]⟩]
def L10b : List ByteArray := [⟨#[103]⟩, ⟨#[104]⟩]
theorem sz10a : ∀ j : Fin 3, (L10a.getD j.val E0).size ≤ 1 := by decide +kernel
theorem sz10b : ∀ j : Fin 2, (L10b.getD j.val E0).size ≤ 1 := by decide +kernel
set_option maxHeartbeats 4000000 in
theorem leafD (p : Bool) (cb : Nat) (a : Option Addr) (len cap : Nat) (xs : List UInt8) (w : World) (hc : Cur w cb a len cap xs) :
    Calls Tryd.prog 82 #[.pointer (some ⟨cb, 0, none⟩), .bool p] w fun e w' => ∃ (k n : Int) (s : ByteArray), s.size ≤ 1 ∧ e = .returned (.agg #[.int .i64 k, .int .i64 n, .string s, .slice none 0 0]) ∧ Cur w' cb a len cap xs ∧ w.grownBy w' (some cb) := by
  have D0 := hide ((dz_new hc).later (below_new w (.cells E0x 26)))
  have R0 := hide (heap_alloc_new w (.cells E0x 26))
  have ZE : (⟨#[]⟩ : ByteArray).size ≤ 1 := by decide
  unfold E0x at D0 R0
  clear hc
  go_enter Tryd.func82, Tryd.ntmps82
  go_wp2_with fail
  generalize w.alloc (Obj.cells #[.int .i64 0, .int .i64 0, .string ⟨#[]⟩, .slice none 0 0] 26) = W at *
  refine (below_any cb a len cap xs 7 W (by omega) (unhide D0).cur).mono ?_
  rintro e w1 ⟨x, hx0, hx1, rfl, hc1, hg1⟩
  obtain ⟨hx2, hx3⟩ := hx0 (by omega)
  have D1 := hide ((unhide D0).draw hc1 hg1)
  have R1 := hide ((unhide D0).blk hg1 (unhide R0) (Nat.le_refl _))
  have hlt := (unhide D1).lt
  have hcl := hc1.lt
  clear hx0 hx1 hc1 hg1 D0 R0
  have h5 : x = 0 ∨ x = 1 ∨ x = 2 ∨ x = 3 ∨ x = 4 ∨ (x = 5 ∨ x = 6) := by omega
  clear hx2 hx3
  rcases h5 with rfl | rfl | rfl | rfl | rfl | h5
  · have I1 := hide (int_any cb a len cap xs (some ⟨w1.heap.size, 0, none⟩) 7 7 [0, 1, 2, 5, 8, 100, 65535] (w1.alloc (.cells ([0, 1, 2, 5, 8, 100, 65535].map (Value.int .i64)).toArray 3)) ((unhide D1).cur.later ((Below.refl _ _).alloc (Nat.le_refl _) _)) (RdN_lit w1 _) (fun ad e => by cases e; show w1.heap.size ≠ cb; omega) rfl (by omega) (by omega))
    have G1 := hide (World.grownBy_alloc w1 (.cells ([0, 1, 2, 5, 8, 100, 65535].map (Value.int .i64)).toArray 3) (some cb))
    go_wp2_with fail
    refine (unhide I1).mono ?_
    rintro e w2 ⟨j, hj, rfl, hc2, hg2⟩
    have D2 := hide ((unhide D1).draw hc2 (grownBy_trans (unhide G1) hg2))
    have R2 := hide ((unhide D1).blk (grownBy_trans (unhide G1) hg2) (unhide R1) (Nat.le_refl _))
    generalize nAt [0, 1, 2, 5, 8, 100, 65535] j = y at *
    have N2 := hide (numD y w2)
    clear hc2 hg2 I1 G1 D1 R1
    go_wp2_with fail
    refine (unhide N2).mono ?_
    rintro e w3 ⟨rfl, hb3⟩
    have D3 := hide ((unhide D2).later hb3)
    have R3 := hide ((hb3.block _ (Array.getElem?_eq_some_iff.1 (unhide R2)).1).trans (unhide R2))
    generalize y % 65536 = z at *
    clear hb3 D2 R2 N2
    go_wp2_with (refine wpList_store_row rfl 26 _ _ rfl w.heap.size #[.int .i64 1, .int .i64 z, .string ⟨#[]⟩, .slice none 0 0] rfl rfl 26 _ (unhide R3) szE rfl (ex_one _ _ _ _ _ _) ?_)
    refine bodyPost_ret (results_cell_row (P := Tryd.prog) rfl _ _ w.heap.size 26 #[.int .i64 1, .int .i64 z, .string ⟨#[]⟩, .slice none 0 0] (0, 0) _ rfl (setRow_heap _ _ _ _ _ _ (unhide R3)) Tryd.underlying26 rfl szE) rfl ?_
    exact ⟨1, z, ⟨#[]⟩, ZE, rfl, ((unhide D3).row _).cur, ((unhide D3).row _).gr⟩
  · have I1 := hide (int_any cb a len cap xs (some ⟨w1.heap.size, 0, none⟩) 7 7 [0, 1, 2, 5, 8, 100, 65535] (w1.alloc (.cells ([0, 1, 2, 5, 8, 100, 65535].map (Value.int .i64)).toArray 3)) ((unhide D1).cur.later ((Below.refl _ _).alloc (Nat.le_refl _) _)) (RdN_lit w1 _) (fun ad e => by cases e; show w1.heap.size ≠ cb; omega) rfl (by omega) (by omega))
    have G1 := hide (World.grownBy_alloc w1 (.cells ([0, 1, 2, 5, 8, 100, 65535].map (Value.int .i64)).toArray 3) (some cb))
    go_wp2_with fail
    refine (unhide I1).mono ?_
    rintro e w2 ⟨j, hj, rfl, hc2, hg2⟩
    have D2 := hide ((unhide D1).draw hc2 (grownBy_trans (unhide G1) hg2))
    have R2 := hide ((unhide D1).blk (grownBy_trans (unhide G1) hg2) (unhide R1) (Nat.le_refl _))
    generalize nAt [0, 1, 2, 5, 8, 100, 65535] j = y at *
    have N2 := hide (numD y w2)
    clear hc2 hg2 I1 G1 D1 R1
    go_wp2_with fail
    refine (unhide N2).mono ?_
    rintro e w3 ⟨rfl, hb3⟩
    have D3 := hide ((unhide D2).later hb3)
    have R3 := hide ((hb3.block _ (Array.getElem?_eq_some_iff.1 (unhide R2)).1).trans (unhide R2))
    generalize y % 65536 = z at *
    clear hb3 D2 R2 N2
    go_wp2_with (refine wpList_store_row rfl 26 _ _ rfl w.heap.size #[.int .i64 1, .int .i64 z, .string ⟨#[]⟩, .slice none 0 0] rfl rfl 26 _ (unhide R3) szE rfl (ex_one _ _ _ _ _ _) ?_)
    refine bodyPost_ret (results_cell_row (P := Tryd.prog) rfl _ _ w.heap.size 26 #[.int .i64 1, .int .i64 z, .string ⟨#[]⟩, .slice none 0 0] (0, 0) _ rfl (setRow_heap _ _ _ _ _ _ (unhide R3)) Tryd.underlying26 rfl szE) rfl ?_
    exact ⟨1, z, ⟨#[]⟩, ZE, rfl, ((unhide D3).row _).cur, ((unhide D3).row _).gr⟩
  · have S1 := hide (strD L10a 3 cb a len cap xs w1 rfl (by omega) (by omega) (unhide D1).cur)
    go_wp2_with (first | (go_at_call 66; refine (unhide S1).mono ?_; rintro e w7 ⟨j, hj, rfl, hc2, hg2⟩; have D7 := hide ((unhide D1).draw hc2 hg2); have R7 := hide ((unhide D1).blk hg2 (unhide R1) (Nat.le_refl _)); have OK := hide (sz10a ⟨j, hj⟩); clear hc2 hg2; simp only at OK; generalize L10a.getD j E0 = sx at *) | (refine wpList_store_row rfl 26 _ _ rfl w.heap.size #[.int .i64 2, .int .i64 0, .string sx, .slice none 0 0] rfl rfl 26 _ (unhide R7) szE rfl (ex_one _ _ _ _ _ _) ?_))
    refine bodyPost_ret (results_cell_row (P := Tryd.prog) rfl _ _ w.heap.size 26 #[.int .i64 2, .int .i64 0, .string sx, .slice none 0 0] (0, 0) _ rfl (setRow_heap _ _ _ _ _ _ (unhide R7)) Tryd.underlying26 rfl szE) rfl ?_
    exact ⟨2, 0, sx, unhide OK, rfl, ((unhide D7).row _).cur, ((unhide D7).row _).gr⟩
  · have S1 := hide (strD L10a 3 cb a len cap xs w1 rfl (by omega) (by omega) (unhide D1).cur)
    go_wp2_with (first | (go_at_call 66; refine (unhide S1).mono ?_; rintro e w7 ⟨j, hj, rfl, hc2, hg2⟩; have D7 := hide ((unhide D1).draw hc2 hg2); have R7 := hide ((unhide D1).blk hg2 (unhide R1) (Nat.le_refl _)); have OK := hide (sz10a ⟨j, hj⟩); clear hc2 hg2; simp only at OK; generalize L10a.getD j E0 = sx at *) | (refine wpList_store_row rfl 26 _ _ rfl w.heap.size #[.int .i64 2, .int .i64 0, .string sx, .slice none 0 0] rfl rfl 26 _ (unhide R7) szE rfl (ex_one _ _ _ _ _ _) ?_))
    refine bodyPost_ret (results_cell_row (P := Tryd.prog) rfl _ _ w.heap.size 26 #[.int .i64 2, .int .i64 0, .string sx, .slice none 0 0] (0, 0) _ rfl (setRow_heap _ _ _ _ _ _ (unhide R7)) Tryd.underlying26 rfl szE) rfl ?_
    exact ⟨2, 0, sx, unhide OK, rfl, ((unhide D7).row _).cur, ((unhide D7).row _).gr⟩
  · go_wp2_with (refine wpList_store_row rfl 26 _ _ rfl w.heap.size #[.int .i64 3, .int .i64 0, .string ⟨#[]⟩, .slice none 0 0] rfl rfl 26 _ (unhide R1) szE rfl (ex_one _ _ _ _ _ _) ?_)
    refine bodyPost_ret (results_cell_row (P := Tryd.prog) rfl _ _ w.heap.size 26 #[.int .i64 3, .int .i64 0, .string ⟨#[]⟩, .slice none 0 0] (0, 0) _ rfl (setRow_heap _ _ _ _ _ _ (unhide R1)) Tryd.underlying26 rfl szE) rfl ?_
    exact ⟨3, 0, ⟨#[]⟩, ZE, rfl, ((unhide D1).row _).cur, ((unhide D1).row _).gr⟩
  · have h0 : ¬ x = 0 := by omega
    have h1 : ¬ x = 1 := by omega
    have h2 : ¬ x = 2 := by omega
    have h3 : ¬ x = 3 := by omega
    have h4 : ¬ x = 4 := by omega
    clear h5
    have WD := hide (wordD cb a len cap xs w1 (unhide D1).cur)
    have ON := hide (once_any cb a len cap xs 2 w1 (by omega) (unhide D1).cur)
    cases p
    · clear WD
      go_wp2_with fail
      refine (unhide ON).mono ?_
      rintro e w2 ⟨q, rfl, hc2, hg2⟩
      have D2 := hide ((unhide D1).draw hc2 hg2)
      have R2 := hide ((unhide D1).blk hg2 (unhide R1) (Nat.le_refl _))
      clear hc2 hg2 ON D1 R1
      cases q
      · have S1 := hide (strD L10b 2 cb a len cap xs w2 rfl (by omega) (by omega) (unhide D2).cur)
        go_wp2_with (first | (go_at_call 66; refine (unhide S1).mono ?_; rintro e w7 ⟨j, hj, rfl, hc2, hg2⟩; have D7 := hide ((unhide D2).draw hc2 hg2); have R7 := hide ((unhide D2).blk hg2 (unhide R2) (Nat.le_refl _)); have OK := hide (sz10b ⟨j, hj⟩); clear hc2 hg2; simp only at OK; generalize L10b.getD j E0 = sx at *) | (refine wpList_store_row rfl 26 _ _ rfl w.heap.size #[.int .i64 12, .int .i64 0, .string sx, .slice none 0 0] rfl rfl 26 _ (unhide R7) szE rfl (ex_one _ _ _ _ _ _) ?_))
        refine bodyPost_ret (results_cell_row (P := Tryd.prog) rfl _ _ w.heap.size 26 #[.int .i64 12, .int .i64 0, .string sx, .slice none 0 0] (0, 0) _ rfl (setRow_heap _ _ _ _ _ _ (unhide R7)) Tryd.underlying26 rfl szE) rfl ?_
        exact ⟨12, 0, sx, unhide OK, rfl, ((unhide D7).row _).cur, ((unhide D7).row _).gr⟩
      · have BL := hide (below_any cb a len cap xs 3 w2 (by omega) (unhide D2).cur)
        go_wp2_with (first | (go_at_call 57; refine (unhide BL).mono ?_; rintro e w7 ⟨y, _, _, rfl, hc2, hg2⟩; have D7 := hide ((unhide D2).draw hc2 hg2); have R7 := hide ((unhide D2).blk hg2 (unhide R2) (Nat.le_refl _)); clear hc2 hg2) | (refine wpList_store_row rfl 26 _ _ rfl w.heap.size #[.int .i64 11, .int .i64 y, .string ⟨#[]⟩, .slice none 0 0] rfl rfl 26 _ (unhide R7) szE rfl (ex_one _ _ _ _ _ _) ?_))
        refine bodyPost_ret (results_cell_row (P := Tryd.prog) rfl _ _ w.heap.size 26 #[.int .i64 11, .int .i64 y, .string ⟨#[]⟩, .slice none 0 0] (0, 0) _ rfl (setRow_heap _ _ _ _ _ _ (unhide R7)) Tryd.underlying26 rfl szE) rfl ?_
        exact ⟨11, y, ⟨#[]⟩, ZE, rfl, ((unhide D7).row _).cur, ((unhide D7).row _).gr⟩
    · clear ON
      go_wp2_with fail
      refine (unhide WD).mono ?_
      rintro e w2 ⟨y, _, _, rfl, hc2, hg2⟩
      have D2 := hide ((unhide D1).draw hc2 hg2)
      have R2 := hide ((unhide D1).blk hg2 (unhide R1) (Nat.le_refl _))
      have N2 := hide (numD y w2)
      clear hc2 hg2 WD D1 R1
      go_wp2_with fail
      refine (unhide N2).mono ?_
      rintro e w3 ⟨rfl, hb3⟩
      have D3 := hide ((unhide D2).later hb3)
      have R3 := hide ((hb3.block _ (Array.getElem?_eq_some_iff.1 (unhide R2)).1).trans (unhide R2))
      generalize y % 65536 = z at *
      clear hb3 D2 R2 N2
      go_wp2_with (refine wpList_store_row rfl 26 _ _ rfl w.heap.size #[.int .i64 1, .int .i64 z, .string ⟨#[]⟩, .slice none 0 0] rfl rfl 26 _ (unhide R3) szE rfl (ex_one _ _ _ _ _ _) ?_)
      refine bodyPost_ret (results_cell_row (P := Tryd.prog) rfl _ _ w.heap.size 26 #[.int .i64 1, .int .i64 z, .string ⟨#[]⟩, .slice none 0 0] (0, 0) _ rfl (setRow_heap _ _ _ _ _ _ (unhide R3)) Tryd.underlying26 rfl szE) rfl ?_
      exact ⟨1, z, ⟨#[]⟩, ZE, rfl, ((unhide D3).row _).cur, ((unhide D3).row _).gr⟩
end Go.Proofs.YtkolflcjkofleaaDoor
