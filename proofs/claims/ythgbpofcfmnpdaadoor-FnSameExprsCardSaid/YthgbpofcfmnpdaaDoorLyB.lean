/- The line of right tokens is read as these tokens; what is read is right, and small: as data; no condition but what stands as hypotheses. -/
import Derived.Test.YthgbpofcfmnpdaaDoorLyA
namespace Go.Proofs.YthgbpofcfmnpdaaDoor
open Go.ChangeShapes Go.WideShapes Go.ChangeAt Go.RowKit
set_option linter.unusedVariables false
set_option maxRecDepth 8000

def AllOk (ts : List Tk) : Prop := ∀ t ∈ ts, t.ok = true
theorem AllOk.at {ts : List Tk} (h : AllOk ts) {i : Nat} (hi : i < ts.length) : (tAt ts i).ok = true := by
  unfold tAt
  rw [List.getD_eq_getElem?_getD, List.getElem?_eq_getElem hi]
  exact h _ (List.getElem_mem _)
theorem AllOk.snoc {ts : List Tk} {t : Tk} (h : AllOk ts) (ht : t.ok = true) : AllOk (ts ++ [t]) := fun x hx => by
  rcases List.mem_append.1 hx with h1 | h1
  · exact h x h1
  · rw [List.mem_singleton] at h1; rw [h1]; exact ht
theorem kept_small : ∀ x ∈ keptL, x.size ≤ 7 := by decide +kernel
theorem ok_size {t : Tk} (h : t.ok = true) : t.s.size ≤ 7 := by
  obtain ⟨tk, tn, tx⟩ := t
  unfold Tk.ok at h
  simp only at h ⊢
  have hl := size_len tx
  split at h
  · rw [Bool.and_eq_true, decide_eq_true_eq] at h; omega
  · split at h
    · cases h
    · split at h
      · unfold nameB at h
        rw [Bool.and_eq_true] at h
        obtain ⟨_, _, _, _, _, h6⟩ := form_open h.1
        omega
      · split at h
        · match hx : tx.data.toList with
          | [] => rw [hx] at h; cases h
          | c0 :: q =>
            rw [hx, dotB_cons, Bool.and_eq_true] at h
            obtain ⟨_, _, _, _, _, h6⟩ := form_open h.2
            rw [hx, List.length_cons] at hl
            omega
        · split at h
          · match hx : tx.data.toList, h with
            | [c], _ => rw [hx] at hl; simp at hl; omega
          · split at h
            · exact kept_small tx (hasS_iff.1 h)
            · cases h
theorem ok_szL {ts : List Tk} (h : AllOk ts) : szL ts ≤ 7 * ts.length := by
  induction ts with
  | nil => simp [szL]
  | cons t r ih =>
    have h1 := ok_size (h t List.mem_cons_self)
    have h2 := ih (fun x hx => h x (List.mem_cons_of_mem _ hx))
    simp only [szL, List.length_cons]
    omega
/-- What Lex answers is right. -/
theorem lexR_ok (s : ByteArray) : ∀ (n k : Nat) (acc : List Tk), s.size - k ≤ n → AllOk acc → AllOk (lexR s k acc).1 := by
  intro n
  induction n with
  | zero =>
    intro k acc hn h8
    rw [lexR_end (by omega)]
    exact h8
  | succ n ih =>
    intro k acc hn h8
    by_cases hlt : k < s.size
    · by_cases h59 : bAt s.data.toList k = 59
      · rw [lexR_semi hlt h59]; exact h8
      · cases hbl : blB (bAt s.data.toList k)
        · cases hok : (oneT badS s k).ok
          · rw [lexR_bad hlt h59 hbl (.inl hok)]; intro x hx; cases hx
          · by_cases h800 : acc.length = 800
            · rw [lexR_bad hlt h59 hbl (.inr h800)]; intro x hx; cases hx
            · rw [lexR_next hlt h59 hbl hok h800]
              have := oneE_bd s k hlt
              exact ih _ _ (by omega) (h8.snoc hok)
        · rw [lexR_blank hlt h59 hbl]
          exact ih _ _ (by omega) h8
    · rw [lexR_end hlt]; exact h8
theorem lex_ok (s : ByteArray) : AllOk (lexR s 0 []).1 := lexR_ok s s.size 0 [] (by omega) (fun x hx => by cases hx)
theorem line_pre (ts : List Tk) (i : Nat) : ∀ d, ∃ r, lineT ts (i + d) = lineT ts i ++ r
  | 0 => ⟨[], by simp⟩
  | d + 1 => by
    obtain ⟨r, hr⟩ := line_pre ts i d
    refine ⟨r ++ (if i + d = 0 then [] else [32]) ++ tokL (tAt ts (i + d)), ?_⟩
    show lineT ts (i + d) ++ (if i + d = 0 then [] else [32]) ++ tokL (tAt ts (i + d)) = _
    rw [hr]
    simp [List.append_assoc]
theorem line_drop (ts : List Tk) (n i : Nat) (h : i < n) : (lineT ts n).drop (lineT ts i).length = (if i = 0 then [] else [32]) ++ (tokL (tAt ts i) ++ (lineT ts n).drop (lineT ts (i + 1)).length) := by
  obtain ⟨r, hr⟩ := line_pre ts (i + 1) (n - (i + 1))
  have e : i + 1 + (n - (i + 1)) = n := by omega
  rw [e] at hr
  have h1 : (lineT ts n).drop (lineT ts (i + 1)).length = r := by rw [hr, List.drop_left]
  rw [h1, hr]
  show (lineT ts i ++ (if i = 0 then [] else [32]) ++ tokL (tAt ts i) ++ r).drop (lineT ts i).length = _
  rw [List.append_assoc, List.append_assoc, List.drop_left]
theorem gap_at (ts : List Tk) (n i : Nat) (h : i ≤ n) (h0 : 0 < i) : Gap ((lineT ts n).drop (lineT ts i).length) := by
  by_cases e : i = n
  · subst e
    left
    rw [List.drop_length]
  · right
    rw [line_drop ts n i (by omega), if_neg (by omega)]
    exact ⟨_, rfl⟩
/-- The line of right tokens is read as these tokens. -/
theorem lex_from (ts : List Tk) (hok : AllOk ts) (h8 : ts.length ≤ 800) : ∀ d i, i + d = ts.length → lexR (strOf (lineOf ts)) (lineT ts i).length (ts.take i) = (ts, true) := by
  intro d
  induction d with
  | zero =>
    intro i hi
    obtain rfl : i = ts.length := by omega
    rw [List.take_length, lexR_end (by rw [strOf_size]; unfold lineOf; omega)]
  | succ d ih =>
    intro i hi
    have hlt : i < ts.length := by omega
    have hd := line_drop ts ts.length i hlt
    have hg := gap_at ts ts.length (i + 1) (by omega) (by omega)
    have hst : (strOf (lineOf ts)).data.toList = lineT ts ts.length := strOf_list _
    have step : ∀ k, (strOf (lineOf ts)).data.toList.drop k = tokL (tAt ts i) ++ (lineT ts ts.length).drop (lineT ts (i + 1)).length → k + (tokL (tAt ts i)).length = (lineT ts (i + 1)).length → lexR (strOf (lineOf ts)) k (ts.take i) = (ts, true) := by
      intro k hk hlen
      obtain ⟨a1, a2, a3, a4, a5⟩ := again_any (hok.at hlt) hk hg
      have hlen2 : (ts.take i).length = i := by rw [List.length_take]; omega
      rw [lexR_next a1 a2 a3 (by rw [a5]; exact hok.at hlt) (by omega), a4, a5, hlen]
      have et : ts.take i ++ [tAt ts i] = ts.take (i + 1) := by
        rw [List.take_succ_eq_append_getElem hlt]
        unfold tAt
        rw [List.getD_eq_getElem?_getD, List.getElem?_eq_getElem hlt]
        rfl
      rw [et]
      exact ih (i + 1) (by omega)
    have hsz : (lineT ts (i + 1)).length = (lineT ts i).length + (if i = 0 then ([] : List UInt8) else [32]).length + (tokL (tAt ts i)).length := by
      show (lineT ts i ++ (if i = 0 then [] else [32]) ++ tokL (tAt ts i)).length = _
      rw [List.length_append, List.length_append]
    by_cases h0 : i = 0
    · rw [if_pos h0, List.nil_append] at hd
      rw [if_pos h0] at hsz
      exact step _ (by rw [hst]; exact hd) (by rw [hsz]; simp)
    · rw [if_neg h0] at hd hsz
      have hd' : (lineT ts ts.length).drop (lineT ts i).length = 32 :: (tokL (tAt ts i) ++ (lineT ts ts.length).drop (lineT ts (i + 1)).length) := hd
      obtain ⟨hk, hb, hd1⟩ := head_bAt hd'
      have hb32 : bAt (strOf (lineOf ts)).data.toList (lineT ts i).length = 32 := by rw [hst]; exact hb
      have hls : (lineT ts i).length < (strOf (lineOf ts)).size := by rw [← size_len, hst]; exact hk
      rw [lexR_blank hls (by rw [hb32]; decide) (by rw [hb32]; decide)]
      exact step _ (by rw [hst]; exact hd1) (by rw [hsz]; simp)
theorem lex_line (ts : List Tk) (hok : AllOk ts) (h8 : ts.length ≤ 800) : lexR (strOf (lineOf ts)) 0 [] = (ts, true) := lex_from ts hok h8 ts.length 0 (by omega)
theorem line_small {ts : List Tk} (hok : AllOk ts) (h8 : ts.length ≤ 800) : (strOf (lineOf ts)).size ≤ 1048576 ∧ ts.length + szL ts ≤ 1048576 := by
  have h1 := lineT_len ts ts.length (Nat.le_refl _)
  rw [List.take_length] at h1
  have h2 := ok_szL hok
  rw [strOf_size]
  unfold lineOf
  omega
end Go.Proofs.YthgbpofcfmnpdaaDoor
