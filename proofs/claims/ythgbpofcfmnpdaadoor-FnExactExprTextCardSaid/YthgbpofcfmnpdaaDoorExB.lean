/- Terms as data, on: what is read is plain and has those tokens; their text and back; conditions stand as hypotheses of each. -/
import Derived.Test.YthgbpofcfmnpdaaDoorExA
namespace Go.Proofs.YthgbpofcfmnpdaaDoor
open Go.ChangeShapes Go.WideShapes Go.ChangeAt Go.RowKit
set_option linter.unusedVariables false
set_option maxRecDepth 8000

theorem AllOk.head {t : Tk} {r : List Tk} (h : AllOk (t :: r)) : t.ok = true ∧ AllOk r := ⟨h t List.mem_cons_self, fun x hx => h x (List.mem_cons_of_mem _ hx)⟩
theorem AllOk.right {a b : List Tk} (h : AllOk (a ++ b)) : AllOk b := fun x hx => h x (List.mem_append.2 (.inr hx))
theorem form_nil : formB [] = false := by decide
/-- What is read of right tokens is plain, and its tokens are those that were read. -/
theorem toks_read : ∀ (d : Nat) (ts : List Tk) (e : Ex) (r : List Tk), AllOk ts → readF d ts = some (e, r) → okF d true e = true ∧ ts = toksF d e ++ r := by
  intro d
  induction d with
  | zero => intro ts e r _ h; cases h
  | succ d ih =>
    intro ts e r hok h
    match ts with
    | [] => cases h
    | t :: q =>
      obtain ⟨ht, hq⟩ := hok.head
      simp only [readF] at h
      split at h
      · rename_i h2
        obtain ⟨hb, et⟩ := num_of ht h2
        cases h
        exact ⟨plain_num hb, by rw [toks_num, ← et]; rfl⟩
      · rename_i h2
        split at h
        · rename_i h1
          obtain ⟨hb, et⟩ := sym_of ht h1
          cases h
          exact ⟨plain_sym hb, by rw [toks_sym, ← et]; rfl⟩
        · rename_i h1
          split at h
          · rename_i hs
            have et := mark_of ht h2 h1 ((eqS_iff _ _).1 hs) (by decide) form_nil
            cases h
            exact ⟨plain_here d, by rw [toks_here, ← et]; rfl⟩
          · split at h
            · rename_i hs
              have et := mark_of ht h2 h1 ((eqS_iff _ _).1 hs) (by decide) form_nil
              split at h
              · cases h
              · rename_i a q1 ha
                cases h
                obtain ⟨p1, p2⟩ := ih _ _ _ hq ha
                exact ⟨plain_neg p1, by rw [toks_neg, ← et, p2]; rfl⟩
            · split at h
              · rename_i hs
                have et := mark_of ht h2 h1 ((eqS_iff _ _).1 hs) (by decide) form_nil
                split at h
                · cases h
                · cases h
                · rename_i a t1 q1 ha
                  obtain ⟨p1, p2⟩ := ih _ _ _ hq ha
                  have hq1 : AllOk (t1 :: q1) := (p2 ▸ hq).right
                  obtain ⟨ht1, hq1⟩ := hq1.head
                  split at h
                  · cases h
                  · cases h
                  · rename_i b t2 q2 hb
                    obtain ⟨p3, p4⟩ := ih _ _ _ hq1 hb
                    have hq2 : AllOk (t2 :: q2) := (p4 ▸ hq1).right
                    obtain ⟨ht2, hq2⟩ := hq2.head
                    split at h
                    · rename_i hs2
                      split at h
                      · cases h
                      · rename_i k hk
                        obtain ⟨hkb, hks⟩ := sgnK_some hk
                        cases h
                        have e1 := one_mark ht1 hks (sgn_small hkb)
                        have e2 := one_mark ht2 ((eqS_iff _ _).1 hs2) (by decide)
                        refine ⟨plain_two hkb p1 p3, ?_⟩
                        rw [toks_two d hkb, ← e1, ← e2, ← et, p2, p4]
                        simp only [List.cons_append, List.append_assoc, List.nil_append]
                    · cases h
              · cases h
/-- The tokens of a plain term are right, and not too many. -/
theorem mkT_ok {c : UInt8} (h : mkL.contains c = true) : (mkT c).ok = true := h
theorem sgn_mark {k : Int} (h : 5 ≤ k ∧ k ≤ 10) : mkL.contains (sgnC k) = true := by
  have : k = 5 ∨ k = 6 ∨ k = 7 ∨ k = 8 ∨ k = 9 ∨ k = 10 := by omega
  rcases this with rfl | rfl | rfl | rfl | rfl | rfl <;> decide
theorem allOk_cons {t : Tk} {r : List Tk} (h : t.ok = true) (hr : AllOk r) : AllOk (t :: r) := fun x hx => by
  rcases List.mem_cons.1 hx with rfl | hx
  · exact h
  · exact hr x hx
theorem allOk_app {a b : List Tk} (h : AllOk a) (hr : AllOk b) : AllOk (a ++ b) := fun x hx => by
  rcases List.mem_append.1 hx with hx | hx
  · exact h x hx
  · exact hr x hx
theorem allOk_nil : AllOk [] := fun x hx => by cases hx
def mxT : Nat → Nat
  | 0 => 0
  | d + 1 => 2 * mxT d + 3
theorem toks_ok : ∀ (d : Nat) (e : Ex), okF d true e = true → AllOk (toksF d e) ∧ (toksF d e).length ≤ mxT d := by
  intro d
  induction d with
  | zero => intro e h; cases h
  | succ d ih =>
    intro e h
    rw [mxT]
    rcases plain_cases h with ⟨n, hn, rfl⟩ | ⟨s, hs, rfl⟩ | rfl | ⟨a, ha, rfl⟩ | ⟨k, a, b, hk, ha, hb, rfl⟩
    · rw [toks_num]
      refine ⟨allOk_cons ?_ allOk_nil, by simp⟩
      have : inB n 0 65535 = true := (inB_iff _ _ _).2 hn
      simp [Tk.ok, this, E0, ByteArray.size]
    · rw [toks_sym]
      exact ⟨allOk_cons hs allOk_nil, by simp⟩
    · rw [toks_here]
      exact ⟨allOk_cons (mkT_ok (by decide)) allOk_nil, by simp⟩
    · obtain ⟨q1, q2⟩ := ih a ha
      rw [toks_neg, List.length_cons]
      exact ⟨allOk_cons (mkT_ok (by decide)) q1, by omega⟩
    · obtain ⟨q1, q2⟩ := ih a ha
      obtain ⟨q3, q4⟩ := ih b hb
      rw [toks_two d hk]
      refine ⟨allOk_cons (mkT_ok (by decide)) (allOk_app q1 (allOk_cons (mkT_ok (sgn_mark hk)) (allOk_app q3 (allOk_cons (mkT_ok (by decide)) allOk_nil)))), ?_⟩
      simp only [List.length_cons, List.length_append, List.length_nil]
      omega
/-- A term's text. -/
def textE (e : Ex) : ByteArray := if okF 6 true e = true then strOf (lineOf (toksF 6 e)) else E0
/-- A text, read. -/
def parseL (ts : List Tk) : Option Ex := match readF 6 ts with
  | some (e, []) => if okF 6 true e = true then some e else none
  | _ => none
def parseE (s : ByteArray) : Option Ex := if (lexR s 0 []).2 = true then parseL (lexR s 0 []).1 else none
theorem lex_text {e : Ex} (h : okF 6 true e = true) : lexR (textE e) 0 [] = (toksF 6 e, true) := by
  unfold textE
  rw [if_pos h]
  obtain ⟨h1, h2⟩ := toks_ok 6 e h
  exact lex_line _ h1 (Nat.le_trans h2 (by decide))
theorem parseL_toks {e : Ex} (h : okF 6 true e = true) : parseL (toksF 6 e) = some e := by
  have := read_toks 6 e [] h
  rw [List.append_nil] at this
  unfold parseL
  rw [this]
  simp only
  rw [if_pos h]
theorem parseE_text {e : Ex} (h : okF 6 true e = true) : parseE (textE e) = some e := by
  unfold parseE
  rw [lex_text h]
  exact parseL_toks h
theorem parseL_some {ts : List Tk} (hok : AllOk ts) {e : Ex} (h : parseL ts = some e) : okF 6 true e = true ∧ ts = toksF 6 e := by
  unfold parseL at h
  split at h
  · rename_i e1 hr
    obtain ⟨h1, h2⟩ := toks_read 6 ts e1 [] hok hr
    rw [if_pos h1] at h
    cases h
    exact ⟨h1, by rw [h2, List.append_nil]⟩
  · cases h
/-- What is read is plain, and its text has the same tokens. -/
theorem parseE_some {s : ByteArray} {e : Ex} (h : parseE s = some e) : okF 6 true e = true ∧ lexR s 0 [] = (toksF 6 e, true) := by
  unfold parseE at h
  split at h
  · rename_i h2
    obtain ⟨p1, p2⟩ := parseL_some (lex_ok s) h
    exact ⟨p1, Prod.ext p2 h2⟩
  · cases h
/-- A plain term whose text's tokens are those of a text is what is read of it. -/
theorem parseE_of {s : ByteArray} {e : Ex} (h : okF 6 true e = true) (hl : lexR s 0 [] = (toksF 6 e, true)) : parseE s = some e := by
  unfold parseE
  rw [hl]
  exact parseL_toks h
end Go.Proofs.YthgbpofcfmnpdaaDoor
