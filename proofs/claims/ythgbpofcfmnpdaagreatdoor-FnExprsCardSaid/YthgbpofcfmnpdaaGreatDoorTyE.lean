/- Contracts over this seat's translation, laid together; conditions stand as hypotheses of each. -/
import Derived.Test.YthgbpofcfmnpdaaGreatDoorTyA
import Derived.Test.YthgbpofcfmnpdaaGreatDoorTyB
import Derived.Test.YthgbpofcfmnpdaaGreatDoorTyC
import Derived.Test.YthgbpofcfmnpdaaGreatDoorTyD
import Derived.ScopeJumps
import Derived.WalkMore

namespace Go.Proofs.YthgbpofcfmnpdaaGreatDoor
open Go.ChangeShapes Go.WideShapes Go.ChangeAt Go.RowKit
set_option linter.unusedVariables false
set_option maxRecDepth 8000

theorem AllOk.head {t : Tk} {r : List Tk} (h : AllOk (t :: r)) : t.ok = true ∧ AllOk r := ⟨h t List.mem_cons_self, fun x hx => h x (List.mem_cons_of_mem _ hx)⟩
theorem AllOk.right {a b : List Tk} (h : AllOk (a ++ b)) : AllOk b := fun x hx => h x (List.mem_append.2 (.inr hx))
theorem form_nil : formB [] = false := by decide
/-- What is read of right tokens is plain, and its tokens are those that were read. -/
theorem toks_read : ∀ (d : Nat) (ts : List Tk) (e : Ex) (r : List Tk), AllOk ts → readF d ts = some (e, r) → okF d true e = true ∧ ts = toksF d e ++ r := by
  intro d
  induction d with
  | zero => intro ts e r _ h; cases h
  | succ d ih =>
    intro ts e r hok h
    match ts with
    | [] => cases h
    | t :: q =>
      obtain ⟨ht, hq⟩ := hok.head
      simp only [readF] at h
      split at h
      · rename_i h2
        obtain ⟨hb, et⟩ := num_of ht h2
        cases h
        exact ⟨plain_num hb, by rw [toks_num, ← et]; rfl⟩
      · rename_i h2
        split at h
        · rename_i h1
          obtain ⟨hb, et⟩ := sym_of ht h1
          cases h
          exact ⟨plain_sym hb, by rw [toks_sym, ← et]; rfl⟩
        · rename_i h1
          split at h
          · rename_i hs
            have et := mark_of ht h2 h1 ((eqS_iff _ _).1 hs) (by decide) form_nil
            cases h
            exact ⟨plain_here d, by rw [toks_here, ← et]; rfl⟩
          · split at h
            · rename_i hs
              have et := mark_of ht h2 h1 ((eqS_iff _ _).1 hs) (by decide) form_nil
              split at h
              · cases h
              · rename_i a q1 ha
                cases h
                obtain ⟨p1, p2⟩ := ih _ _ _ hq ha
                exact ⟨plain_neg p1, by rw [toks_neg, ← et, p2]; rfl⟩
            · split at h
              · rename_i hs
                have et := mark_of ht h2 h1 ((eqS_iff _ _).1 hs) (by decide) form_nil
                split at h
                · cases h
                · cases h
                · rename_i a t1 q1 ha
                  obtain ⟨p1, p2⟩ := ih _ _ _ hq ha
                  have hq1 : AllOk (t1 :: q1) := (p2 ▸ hq).right
                  obtain ⟨ht1, hq1⟩ := hq1.head
                  split at h
                  · cases h
                  · cases h
                  · rename_i b t2 q2 hb
                    obtain ⟨p3, p4⟩ := ih _ _ _ hq1 hb
                    have hq2 : AllOk (t2 :: q2) := (p4 ▸ hq1).right
                    obtain ⟨ht2, hq2⟩ := hq2.head
                    split at h
                    · rename_i hs2
                      split at h
                      · cases h
                      · rename_i k hk
                        obtain ⟨hkb, hks⟩ := sgnK_some hk
                        cases h
                        have e1 := one_mark ht1 hks (sgn_small hkb)
                        have e2 := one_mark ht2 ((eqS_iff _ _).1 hs2) (by decide)
                        refine ⟨plain_two hkb p1 p3, ?_⟩
                        rw [toks_two d hkb, ← e1, ← e2, ← et, p2, p4]
                        simp only [List.cons_append, List.append_assoc, List.nil_append]
                    · cases h
              · cases h
/-- The tokens of a plain term are right, and not too many. -/
theorem mkT_ok {c : UInt8} (h : mkL.contains c = true) : (mkT c).ok = true := h
theorem sgn_mark {k : Int} (h : 5 ≤ k ∧ k ≤ 10) : mkL.contains (sgnC k) = true := by
  have : k = 5 ∨ k = 6 ∨ k = 7 ∨ k = 8 ∨ k = 9 ∨ k = 10 := by omega
  rcases this with rfl | rfl | rfl | rfl | rfl | rfl <;> decide
theorem allOk_cons {t : Tk} {r : List Tk} (h : t.ok = true) (hr : AllOk r) : AllOk (t :: r) := fun x hx => by
  rcases List.mem_cons.1 hx with rfl | hx
  · exact h
  · exact hr x hx
theorem allOk_app {a b : List Tk} (h : AllOk a) (hr : AllOk b) : AllOk (a ++ b) := fun x hx => by
  rcases List.mem_append.1 hx with hx | hx
  · exact h x hx
  · exact hr x hx
theorem allOk_nil : AllOk [] := fun x hx => by cases hx
def mxT : Nat → Nat
  | 0 => 0
  | d + 1 => 2 * mxT d + 3
theorem toks_ok : ∀ (d : Nat) (e : Ex), okF d true e = true → AllOk (toksF d e) ∧ (toksF d e).length ≤ mxT d := by
  intro d
  induction d with
  | zero => intro e h; cases h
  | succ d ih =>
    intro e h
    rw [mxT]
    rcases plain_cases h with ⟨n, hn, rfl⟩ | ⟨s, hs, rfl⟩ | rfl | ⟨a, ha, rfl⟩ | ⟨k, a, b, hk, ha, hb, rfl⟩
    · rw [toks_num]
      refine ⟨allOk_cons ?_ allOk_nil, by simp⟩
      have : inB n 0 65535 = true := (inB_iff _ _ _).2 hn
      simp [Tk.ok, this, E0, ByteArray.size]
    · rw [toks_sym]
      exact ⟨allOk_cons hs allOk_nil, by simp⟩
    · rw [toks_here]
      exact ⟨allOk_cons (mkT_ok (by decide)) allOk_nil, by simp⟩
    · obtain ⟨q1, q2⟩ := ih a ha
      rw [toks_neg, List.length_cons]
      exact ⟨allOk_cons (mkT_ok (by decide)) q1, by omega⟩
    · obtain ⟨q1, q2⟩ := ih a ha
      obtain ⟨q3, q4⟩ := ih b hb
      rw [toks_two d hk]
      refine ⟨allOk_cons (mkT_ok (by decide)) (allOk_app q1 (allOk_cons (mkT_ok (sgn_mark hk)) (allOk_app q3 (allOk_cons (mkT_ok (by decide)) allOk_nil)))), ?_⟩
      simp only [List.length_cons, List.length_append, List.length_nil]
      omega
/-- A term's text. -/
def textE (e : Ex) : ByteArray := if okF 6 true e = true then strOf (lineOf (toksF 6 e)) else E0
/-- A text, read. -/
def parseL (ts : List Tk) : Option Ex := match readF 6 ts with
  | some (e, []) => if okF 6 true e = true then some e else none
  | _ => none
def parseE (s : ByteArray) : Option Ex := if (lexR s 0 []).2 = true then parseL (lexR s 0 []).1 else none
theorem lex_text {e : Ex} (h : okF 6 true e = true) : lexR (textE e) 0 [] = (toksF 6 e, true) := by
  unfold textE
  rw [if_pos h]
  obtain ⟨h1, h2⟩ := toks_ok 6 e h
  exact lex_line _ h1 (Nat.le_trans h2 (by decide))
theorem parseL_toks {e : Ex} (h : okF 6 true e = true) : parseL (toksF 6 e) = some e := by
  have := read_toks 6 e [] h
  rw [List.append_nil] at this
  unfold parseL
  rw [this]
  simp only
  rw [if_pos h]
theorem parseE_text {e : Ex} (h : okF 6 true e = true) : parseE (textE e) = some e := by
  unfold parseE
  rw [lex_text h]
  exact parseL_toks h
theorem parseL_some {ts : List Tk} (hok : AllOk ts) {e : Ex} (h : parseL ts = some e) : okF 6 true e = true ∧ ts = toksF 6 e := by
  unfold parseL at h
  split at h
  · rename_i e1 hr
    obtain ⟨h1, h2⟩ := toks_read 6 ts e1 [] hok hr
    rw [if_pos h1] at h
    cases h
    exact ⟨h1, by rw [h2, List.append_nil]⟩
  · cases h
/-- What is read is plain, and its text has the same tokens. -/
theorem parseE_some {s : ByteArray} {e : Ex} (h : parseE s = some e) : okF 6 true e = true ∧ lexR s 0 [] = (toksF 6 e, true) := by
  unfold parseE at h
  split at h
  · rename_i h2
    obtain ⟨p1, p2⟩ := parseL_some (lex_ok s) h
    exact ⟨p1, Prod.ext p2 h2⟩
  · cases h
/-- A plain term whose text's tokens are those of a text is what is read of it. -/
theorem parseE_of {s : ByteArray} {e : Ex} (h : okF 6 true e = true) (hl : lexR s 0 [] = (toksF 6 e, true)) : parseE s = some e := by
  unfold parseE
  rw [hl]
  exact parseL_toks h
end Go.Proofs.YthgbpofcfmnpdaaGreatDoor

namespace Go.Proofs.YthgbpofcfmnpdaaGreatDoor
open Go.ChangeShapes Go.WideShapes Go.ChangeAt Go.RowKit
set_option linter.unusedVariables false
set_option maxRecDepth 8000
set_option linter.unusedSimpArgs false

/-- The tokens of a term of two. -/
def twoT (ts0 : List Tk) (s : ByteArray) (ts1 : List Tk) : List Tk := Tk.mk 4 0 ⟨#[60]⟩ :: (ts0 ++ (Tk.mk 4 0 s :: (ts1 ++ [Tk.mk 4 0 ⟨#[62]⟩])))
set_option maxHeartbeats 16000000 in
theorem toksS_two (k : Int) (hk : 5 ≤ k ∧ k ≤ 10) (c0 c1 : Option Addr) (cp0 cp1 p po cap : Nat) (a b : Ex) (ts0 ts1 : List Tk) (w : World) (hts0 : ts0 ≠ []) (hts1 : ts1 ≠ []) (h80 : ts0.length ≤ 200) (h81 : ts1.length ≤ 200) (hp : p < w.heap.size) (e00 : w.cell? ⟨p, po, none⟩ = some (.int .i64 a.k)) (e01 : w.cell? ⟨p, po + 1, none⟩ = some (.int .i64 a.n)) (e02 : w.cell? ⟨p, po + 2, none⟩ = some (.string a.s)) (e03 : w.cell? ⟨p, po + 3, none⟩ = some (.slice c0 a.l.length cp0)) (ih0 : ∀ w1, Below w.heap.size w w1 → Calls Tryz.prog 57 #[.agg (a.cs c0 cp0)] w1 fun r w' => ∃ v, r = .returned v ∧ OwnT w' w1.heap.size v ts0 ∧ Below w1.heap.size w1 w') (e10 : w.cell? ⟨p, po + 4, none⟩ = some (.int .i64 b.k)) (e11 : w.cell? ⟨p, po + 4 + 1, none⟩ = some (.int .i64 b.n)) (e12 : w.cell? ⟨p, po + 4 + 2, none⟩ = some (.string b.s)) (e13 : w.cell? ⟨p, po + 4 + 3, none⟩ = some (.slice c1 b.l.length cp1)) (ih1 : ∀ w1, Below w.heap.size w w1 → Calls Tryz.prog 57 #[.agg (b.cs c1 cp1)] w1 fun r w' => ∃ v, r = .returned v ∧ OwnT w' w1.heap.size v ts1 ∧ Below w1.heap.size w1 w') : Calls Tryz.prog 57 #[.agg #[.int .i64 k, .int .i64 0, .string ⟨#[]⟩, .slice (some ⟨p, po, none⟩) 2 cap]] w fun r w' => ∃ v, r = .returned v ∧ OwnT w' w.heap.size v (twoT ts0 (mkS (sgnC k)) ts1) ∧ Below w.heap.size w w' := by
  obtain ⟨W, hW⟩ : ∃ W, w.alloc (.cells #[.int .i64 k, .int .i64 0, .string ⟨#[]⟩, .slice (some ⟨p, po, none⟩) 2 cap] 26) = W := ⟨_, rfl⟩
  have B0 := hide (below_new w (.cells #[.int .i64 k, .int .i64 0, .string ⟨#[]⟩, .slice (some ⟨p, po, none⟩) 2 cap] 26))
  have hg : W.heap[w.heap.size]? = some (.cells #[.int .i64 k, .int .i64 0, .string ⟨#[]⟩, .slice (some ⟨p, po, none⟩) 2 cap] 26 (0, 0)) := by rw [← hW]; exact Array.getElem?_push_size
  rw [hW] at B0
  have x0 := Lib.cell_of_heap hg 0
  have xl : w.heap.size < W.heap.size := (Array.getElem?_eq_some_iff.1 hg).1
  have Y0 := hide (fun w1 (hb : Below W.heap.size W w1) => (hb.cell (p := ⟨w.heap.size, 0, none⟩) xl).trans (Lib.cell_of_heap hg 0))
  have Y3 := hide (fun w1 (hb : Below W.heap.size W w1) => (hb.cell (p := ⟨w.heap.size, 3, none⟩) xl).trans (Lib.cell_of_heap hg 3))
  have U00 := hide (fun w1 (hb : Below W.heap.size W w1) => (hb.cell (p := ⟨p, po, none⟩) (Nat.lt_trans hp xl)).trans (((unhide B0).cell (p := ⟨p, po, none⟩) hp).trans e00))
  have U01 := hide (fun w1 (hb : Below W.heap.size W w1) => (hb.cell (p := ⟨p, po + 1, none⟩) (Nat.lt_trans hp xl)).trans (((unhide B0).cell (p := ⟨p, po + 1, none⟩) hp).trans e01))
  have U02 := hide (fun w1 (hb : Below W.heap.size W w1) => (hb.cell (p := ⟨p, po + 2, none⟩) (Nat.lt_trans hp xl)).trans (((unhide B0).cell (p := ⟨p, po + 2, none⟩) hp).trans e02))
  have U03 := hide (fun w1 (hb : Below W.heap.size W w1) => (hb.cell (p := ⟨p, po + 3, none⟩) (Nat.lt_trans hp xl)).trans (((unhide B0).cell (p := ⟨p, po + 3, none⟩) hp).trans e03))
  have I0 := hide (fun w1 (hb : Below W.heap.size W w1) => ih0 w1 ((unhide B0).trans (hb.mono (unhide B0).size)))
  have U10 := hide (fun w1 (hb : Below W.heap.size W w1) => (hb.cell (p := ⟨p, po + 4, none⟩) (Nat.lt_trans hp xl)).trans (((unhide B0).cell (p := ⟨p, po + 4, none⟩) hp).trans e10))
  have U11 := hide (fun w1 (hb : Below W.heap.size W w1) => (hb.cell (p := ⟨p, po + 4 + 1, none⟩) (Nat.lt_trans hp xl)).trans (((unhide B0).cell (p := ⟨p, po + 4 + 1, none⟩) hp).trans e11))
  have U12 := hide (fun w1 (hb : Below W.heap.size W w1) => (hb.cell (p := ⟨p, po + 4 + 2, none⟩) (Nat.lt_trans hp xl)).trans (((unhide B0).cell (p := ⟨p, po + 4 + 2, none⟩) hp).trans e12))
  have U13 := hide (fun w1 (hb : Below W.heap.size W w1) => (hb.cell (p := ⟨p, po + 4 + 3, none⟩) (Nat.lt_trans hp xl)).trans (((unhide B0).cell (p := ⟨p, po + 4 + 3, none⟩) hp).trans e13))
  have I1 := hide (fun w1 (hb : Below W.heap.size W w1) => ih1 w1 ((unhide B0).trans (hb.mono (unhide B0).size)))
  have MK := hide (fun x w1 => markS_ex x w1)
  have SG := hide (fun w1 => signS_any k hk w1)
  obtain ⟨i0, hi, hz0, hz1, hz2⟩ := info_parts infoT
  have g1 : (k == 1) = false := beq_eq_false_iff_ne.2 (by omega)
  have g2 : (k == 2) = false := beq_eq_false_iff_ne.2 (by omega)
  have g3 : (k == 3) = false := beq_eq_false_iff_ne.2 (by omega)
  have g4 : (k == 4) = false := beq_eq_false_iff_ne.2 (by omega)
  clear hg xl ih0 ih1 e00 e01 e02 e03 e10 e11 e12 e13 hp hk
  unfold Ex.cs at I0 I1
  unfold Tk.v Tk.cs at MK
  simp only at MK
  generalize a.k = ak at *
  generalize a.n = an at *
  generalize a.s = asv at *
  generalize a.l.length = al at *
  generalize b.k = bk at *
  generalize b.n = bn at *
  generalize b.s = bsv at *
  generalize b.l.length = bl at *
  generalize mkS (sgnC k) = sg at *
  go_enter Tryz.func57, Tryz.ntmps57
  go_wp2_with fail
  have D0 := hide (show Below W.heap.size W W.drew from below_drew)
  refine wp_region_held_drew (S := fun w' => Below W.heap.size W w') (by kernel_rfl) (unhide D0) (fun hS => ?_)
  have HS := hide hS
  clear hS
  refine wpAnyH_take (i := 2) (v := .pointer (some ⟨w.heap.size, 3, none⟩)) rfl (by kernel_rfl) (by kernel_rfl) (by kernel_rfl) (fun _ _ _ h => h) (Or.inl ⟨by rfl, fun w hc => ?_⟩) (unhide HS) ?_
  · clear hc; go_simp
  go_simp
  refine wpAnyH_take (i := 3) (v := .slice (some ⟨p, po, none⟩) 2 cap) rfl (by kernel_rfl) (by kernel_rfl) (by kernel_rfl) (fun _ _ _ h => h) (Or.inl ⟨by rfl, fun w hc => ?_⟩) (unhide HS) ?_
  · have q := unhide Y3 _ hc; clear hc; go_simp
  go_simp
  refine wpAnyH_take (i := 4) (v := .pointer (some ⟨p, po, none⟩)) rfl (by kernel_rfl) (by kernel_rfl) (by kernel_rfl) (fun _ _ _ h => h) (Or.inl ⟨by rfl, fun w hc => ?_⟩) (unhide HS) ?_
  · clear hc; go_simp
  go_simp
  refine wpAnyH_take (i := 5) (v := .agg #[.int .i64 ak, .int .i64 an, .string asv, .slice c0 al cp0]) rfl (by kernel_rfl) (by kernel_rfl) (by kernel_rfl) (fun _ _ _ h => h) (Or.inl ⟨by rfl, fun w hc => ?_⟩) (unhide HS) ?_
  · have q0 := unhide U00 _ hc; have q1 := unhide U01 _ hc; have q2 := unhide U02 _ hc; have q3 := unhide U03 _ hc; clear hc; go_simp
  go_simp
  refine wpAnyH_ready (rs := [0]) (by kernel_rfl) (by simp) ?_
  refine AllReadyH.cons rfl (fun K2 hK => ?_) AllReadyH.nil
  go_simp
  refine (unhide MK _ _).mono ?_
  rintro r w1 ⟨rfl, hb1⟩
  have D1 := hide ((unhide D0).trans (hb1.mono (unhide D0).size))
  refine hK.out _ _ (unhide D1) (fun hS => ?_)
  clear HS
  have HS := hide hS
  clear hS hK K2
  clear hb1 D0
  refine wpAnyH_ready (rs := [1, 6]) (by kernel_rfl) (by simp) ?_
  refine AllReadyH.cons rfl (fun K2 hK => ?_) (AllReadyH.cons rfl (fun K2 hK => ?_) AllReadyH.nil)
  · go_simp
    have D2 := hide ((unhide D1).alloc (unhide D1).size (.cells #[.int .i64 4, .int .i64 0, .string ⟨#[60]⟩] 62))
    have N2 := hide (ownT_new w1 (Tk.mk 4 0 ⟨#[60]⟩) W.heap.size (unhide D1).size)
    unfold Tk.cs at N2
    simp only at N2
    generalize w1.heap.size = g1 at *
    generalize w1.alloc (.cells #[.int .i64 4, .int .i64 0, .string ⟨#[60]⟩] 62) = w2 at *
    refine hK.out _ _ (unhide D2) (fun hS => ?_)
    clear HS
    have HS := hide hS
    clear hS hK K2
    refine wpAnyH_ready (rs := [6]) (by kernel_rfl) (by simp) ?_
    refine AllReadyH.cons rfl (fun K2 hK => ?_) AllReadyH.nil
    go_simp
    refine (unhide I0 _ (unhide D2)).mono ?_
    rintro r w3 ⟨v3, rfl, o3, hb3⟩
    have D3 := hide ((unhide D2).trans (hb3.mono (unhide D2).size))
    have O1 := hide ((unhide N2).later hb3)
    obtain ⟨g2, c2, rfl, sr⟩ := (o3.base (unhide D2).size).src hts0
    have SR := hide sr
    refine hK.out _ _ (unhide D3) (fun hS => ?_)
    clear HS
    have HS := hide hS
    clear hS hK K2
    clear hb3 o3 sr N2 D2 D1
    refine wpAnyH_ready (rs := [7]) (by kernel_rfl) (by simp) ?_
    refine AllReadyH.cons rfl (fun K2 hK => ?_) AllReadyH.nil
    rw [if_pos (by rfl)]
    refine wp_append_own _ (.tmp 33) (.tmp 38) 32 rfl W.heap.size 62 i0 (.agg #[.int .i64 0, .int .i64 0, .string ⟨#[]⟩]) 3 32 Tryz.underlying32 hi hz0 hz1 hz2 rfl (by decide) (.slice (some ⟨g1, 0, none⟩) 1 1) 1 (cellsT [Tk.mk 4 0 ⟨#[60]⟩]) rfl (unhide O1) ⟨g2, 0, none⟩ ts0.length c2 (cellsT ts0) rfl (cellsT_len ts0) (unhide SR) (cellsT_one ts0) (by unfold maxLen; (try simp only [List.length_append, List.length_cons, List.length_nil]); omega) (by (try simp only [List.length_append, List.length_cons, List.length_nil]); omega) (unhide D3).size ?_
    intro v5 w5 hown5 hgrow5 _
    have O5 := hide (ownT_join (ts := [Tk.mk 4 0 ⟨#[60]⟩]) (us := ts0) hown5)
    have D5 := hide ((unhide D3).grown hgrow5 (unhide D3).size (fun g hg => ((unhide O1).lt hg).1))
    refine hK.out _ _ (unhide D5) (fun hS => ?_)
    clear HS
    have HS := hide hS
    clear hS hK K2
    refine wpAnyH_take (i := 8) (v := v5) rfl (by kernel_rfl) (by kernel_rfl) (by kernel_rfl) (fun _ _ _ h => h) (Or.inl ⟨by rfl, fun w hc => ?_⟩) (unhide HS) ?_
    · clear hc; go_simp
    go_simp
    refine wpAnyH_done (by kernel_rfl) ?_ _
    clear hown5 hgrow5 O1 D3 SR
    clear HS
    have l5 : (([Tk.mk 4 0 ⟨#[60]⟩] ++ ts0).length : Nat) = ts0.length + 1 := by simp only [List.length_append, List.length_cons, List.length_nil]; omega
    generalize hus : [Tk.mk 4 0 ⟨#[60]⟩] ++ ts0 = us at *
    have H1 := hide hus
    clear hus
    go_wp2_with fail
    have D6 := hide ((unhide D5).trans ((below_drew (w := w5)).mono (unhide D5).size))
    have O6 := hide ((unhide O5).later (below_drew (w := w5)))
    refine wp_region_held_drew (S := fun w' => Below W.heap.size W w') (by kernel_rfl) (unhide D6) (fun hS => ?_)
    have HS := hide hS
    clear hS O5 D5
    refine wpAnyH_take (i := 0) (v := v5) rfl (by kernel_rfl) (by kernel_rfl) (by kernel_rfl) (fun _ _ _ h => h) (Or.inl ⟨by rfl, fun w hc => ?_⟩) (unhide HS) ?_
    · clear hc; go_simp
    go_simp
    refine wpAnyH_take (i := 1) (v := .pointer (some ⟨w.heap.size, 0, none⟩)) rfl (by kernel_rfl) (by kernel_rfl) (by kernel_rfl) (fun _ _ _ h => h) (Or.inl ⟨by rfl, fun w hc => ?_⟩) (unhide HS) ?_
    · clear hc; go_simp
    go_simp
    refine wpAnyH_take (i := 2) (v := .int .i64 k) rfl (by kernel_rfl) (by kernel_rfl) (by kernel_rfl) (fun _ _ _ h => h) (Or.inl ⟨by rfl, fun w hc => ?_⟩) (unhide HS) ?_
    · have q := unhide Y0 _ hc; clear hc; go_simp
    go_simp
    refine wpAnyH_take (i := 7) (v := .pointer (some ⟨w.heap.size, 3, none⟩)) rfl (by kernel_rfl) (by kernel_rfl) (by kernel_rfl) (fun _ _ _ h => h) (Or.inl ⟨by rfl, fun w hc => ?_⟩) (unhide HS) ?_
    · clear hc; go_simp
    go_simp
    refine wpAnyH_take (i := 8) (v := .slice (some ⟨p, po, none⟩) 2 cap) rfl (by kernel_rfl) (by kernel_rfl) (by kernel_rfl) (fun _ _ _ h => h) (Or.inl ⟨by rfl, fun w hc => ?_⟩) (unhide HS) ?_
    · have q := unhide Y3 _ hc; clear hc; go_simp
    go_simp
    refine wpAnyH_take (i := 9) (v := .pointer (some ⟨p, po + 4, none⟩)) rfl (by kernel_rfl) (by kernel_rfl) (by kernel_rfl) (fun _ _ _ h => h) (Or.inl ⟨by rfl, fun w hc => ?_⟩) (unhide HS) ?_
    · clear hc; go_simp
    go_simp
    refine wpAnyH_take (i := 10) (v := .agg #[.int .i64 bk, .int .i64 bn, .string bsv, .slice c1 bl cp1]) rfl (by kernel_rfl) (by kernel_rfl) (by kernel_rfl) (fun _ _ _ h => h) (Or.inl ⟨by rfl, fun w hc => ?_⟩) (unhide HS) ?_
    · have q0 := unhide U10 _ hc; have q1 := unhide U11 _ hc; have q2 := unhide U12 _ hc; have q3 := unhide U13 _ hc; clear hc; go_simp
    go_simp
    refine wpAnyH_ready (rs := [3]) (by kernel_rfl) (by simp) ?_
    refine AllReadyH.cons rfl (fun K2 hK => ?_) AllReadyH.nil
    go_simp
    refine (unhide SG _).mono ?_
    rintro r w' ⟨rfl, hw'⟩
    rw [hw']
    clear hw' w'
    refine hK.out _ _ (unhide D6) (fun hS => ?_)
    clear HS
    have HS := hide hS
    clear hS hK K2
    refine wpAnyH_ready (rs := [4]) (by kernel_rfl) (by simp) ?_
    refine AllReadyH.cons rfl (fun K2 hK => ?_) AllReadyH.nil
    go_simp
    refine (unhide MK _ _).mono ?_
    rintro r w6 ⟨rfl, hb6⟩
    have D7 := hide ((unhide D6).trans (hb6.mono (unhide D6).size))
    have O7 := hide ((unhide O6).later hb6)
    refine hK.out _ _ (unhide D7) (fun hS => ?_)
    clear HS
    have HS := hide hS
    clear hS hK K2
    clear hb6 D6 O6
    refine wpAnyH_ready (rs := [5]) (by kernel_rfl) (by simp) ?_
    refine AllReadyH.cons rfl (fun K2 hK => ?_) AllReadyH.nil
    go_simp
    have D8 := hide ((unhide D7).alloc (unhide D7).size (.cells #[.int .i64 4, .int .i64 0, .string sg] 62))
    have O8 := hide ((unhide O7).later (below_new w6 (.cells #[.int .i64 4, .int .i64 0, .string sg] 62)))
    have C8 := hide (cell_new w6 #[.int .i64 4, .int .i64 0, .string sg] 62)
    generalize w6.heap.size = g8 at *
    generalize w6.alloc (.cells #[.int .i64 4, .int .i64 0, .string sg] 62) = w8 at *
    refine hK.out _ _ (unhide D8) (fun hS => ?_)
    clear HS
    have HS := hide hS
    clear hS hK K2
    clear D7 O7
    refine wpAnyH_ready (rs := [6]) (by kernel_rfl) (by simp) ?_
    refine AllReadyH.cons rfl (fun K2 hK => ?_) AllReadyH.nil
    rw [if_pos (by rfl)]
    refine wp_append_own _ (.tmp 40) (.tmp 45) 32 rfl W.heap.size 62 i0 (.agg #[.int .i64 0, .int .i64 0, .string ⟨#[]⟩]) 3 32 Tryz.underlying32 hi hz0 hz1 hz2 rfl (by decide) v5 us.length (cellsT us) rfl (unhide O8) ⟨g8, 0, none⟩ 1 1 [.int .i64 4, .int .i64 0, .string sg] rfl rfl (unhide C8) (newT_one _ _ _) (by unfold maxLen; (try simp only [List.length_append, List.length_cons, List.length_nil]); omega) (by (try simp only [List.length_append, List.length_cons, List.length_nil]); omega) (unhide D8).size ?_
    intro v9 w9 hown9 hgrow9 _
    have O9 := hide (ownT_app (t := ⟨4, 0, sg⟩) hown9)
    have D9 := hide ((unhide D8).grown hgrow9 (unhide D8).size (fun g hg => ((unhide O8).lt hg).1))
    refine hK.out _ _ (unhide D9) (fun hS => ?_)
    clear HS
    have HS := hide hS
    clear hS hK K2
    clear hown9 hgrow9 O8 C8 D8
    refine wpAnyH_ready (rs := [11]) (by kernel_rfl) (by simp) ?_
    refine AllReadyH.cons rfl (fun K2 hK => ?_) AllReadyH.nil
    go_simp
    refine (unhide I1 _ (unhide D9)).mono ?_
    rintro r wa ⟨va, rfl, oa, hba⟩
    have DA := hide ((unhide D9).trans (hba.mono (unhide D9).size))
    have OA := hide ((unhide O9).later hba)
    obtain ⟨ga, ca, rfl, sra⟩ := (oa.base (unhide D9).size).src hts1
    have SRA := hide sra
    refine hK.out _ _ (unhide DA) (fun hS => ?_)
    clear HS
    have HS := hide hS
    clear hS hK K2
    clear hba oa sra D9 O9
    have l9 : ((us ++ [Tk.mk 4 0 sg]).length : Nat) = us.length + 1 := by simp only [List.length_append, List.length_cons, List.length_nil]
    generalize hus : us ++ [Tk.mk 4 0 sg] = us1 at *
    have H2 := hide hus
    clear hus
    refine wpAnyH_ready (rs := [12]) (by kernel_rfl) (by simp) ?_
    refine AllReadyH.cons rfl (fun K2 hK => ?_) AllReadyH.nil
    rw [if_pos (by rfl)]
    refine wp_append_own _ (.tmp 46) (.tmp 51) 32 rfl W.heap.size 62 i0 (.agg #[.int .i64 0, .int .i64 0, .string ⟨#[]⟩]) 3 32 Tryz.underlying32 hi hz0 hz1 hz2 rfl (by decide) v9 us1.length (cellsT us1) rfl (unhide OA) ⟨ga, 0, none⟩ ts1.length ca (cellsT ts1) rfl (cellsT_len ts1) (unhide SRA) (cellsT_one ts1) (by unfold maxLen; (try simp only [List.length_append, List.length_cons, List.length_nil]); omega) (by (try simp only [List.length_append, List.length_cons, List.length_nil]); omega) (unhide DA).size ?_
    intro vb wb hownb hgrowb _
    have OB := hide (ownT_join hownb)
    have DB := hide ((unhide DA).grown hgrowb (unhide DA).size (fun g hg => ((unhide OA).lt hg).1))
    refine hK.out _ _ (unhide DB) (fun hS => ?_)
    clear HS
    have HS := hide hS
    clear hS hK K2
    clear hownb hgrowb OA SRA DA
    refine wpAnyH_take (i := 13) (v := vb) rfl (by kernel_rfl) (by kernel_rfl) (by kernel_rfl) (fun _ _ _ h => h) (Or.inl ⟨by rfl, fun w hc => ?_⟩) (unhide HS) ?_
    · clear hc; go_simp
    go_simp
    refine wpAnyH_done (by kernel_rfl) ?_ _
    clear HS
    have lb : ((us1 ++ ts1).length : Nat) = us1.length + ts1.length := List.length_append
    generalize hus : us1 ++ ts1 = us2 at *
    have H3 := hide hus
    clear hus
    have MB := hide (unhide MK ⟨#[62]⟩ wb)
    go_wp2_with fail
    refine (unhide MB).mono ?_
    rintro r wc ⟨rfl, hbc⟩
    have DC := hide ((unhide DB).trans (hbc.mono (unhide DB).size))
    have OC := hide ((unhide OB).later hbc)
    have CC := hide (cell_new wc #[.int .i64 4, .int .i64 0, .string ⟨#[62]⟩] 62)
    have hsz := (unhide DC).size
    clear hbc MB DB OB
    go_wp2_with (at_builtin; go_must (refine wpList_append_own _ rfl (.tmp 53) (.tmp 55) 32 rfl W.heap.size 62 i0 (.agg #[.int .i64 0, .int .i64 0, .string ⟨#[]⟩]) 3 32 Tryz.underlying32 hi hz0 hz1 hz2 rfl (by decide) vb us2.length (cellsT us2) rfl (World.ownsRow.alloc (unhide OC) _) ⟨wc.heap.size, 0, none⟩ 1 1 [.int .i64 4, .int .i64 0, .string ⟨#[62]⟩] rfl rfl (unhide CC) (newT_one _ _ _) (by unfold maxLen; omega) (by omega) (by simp; omega) ?_; intro vd wd hownd hgrowd _; have OD := hide (ownT_app (t := ⟨4, 0, ⟨#[62]⟩⟩) hownd); have DD := hide (((unhide DC).alloc (unhide DC).size (.cells #[.int .i64 4, .int .i64 0, .string ⟨#[62]⟩] 62)).grown hgrowd (by simp; omega) (fun g hg => ((unhide OC).lt hg).1)); clear hownd hgrowd OC CC))
    go_ret
    have E : us2 ++ [Tk.mk 4 0 ⟨#[62]⟩] = twoT ts0 sg ts1 := by rw [← unhide H3, ← unhide H2, ← unhide H1]; simp [twoT]
    rw [E] at OD
    exact ⟨_, rfl, (unhide OD).base (unhide B0).size, (unhide B0).trans ((unhide DD).mono (unhide B0).size)⟩
  · go_simp
    refine (unhide I0 _ (unhide D1)).mono ?_
    rintro r w2 ⟨v3, rfl, o3, hb3⟩
    have D2 := hide ((unhide D1).trans (hb3.mono (unhide D1).size))
    have O3 := hide (o3.base (unhide D1).size)
    refine hK.out _ _ (unhide D2) (fun hS => ?_)
    clear HS
    have HS := hide hS
    clear hS hK K2
    clear hb3 o3
    refine wpAnyH_ready (rs := [1]) (by kernel_rfl) (by simp) ?_
    refine AllReadyH.cons rfl (fun K2 hK => ?_) AllReadyH.nil
    go_simp
    have D3 := hide ((unhide D2).alloc (unhide D2).size (.cells #[.int .i64 4, .int .i64 0, .string ⟨#[60]⟩] 62))
    have O1 := hide (ownT_new w2 (Tk.mk 4 0 ⟨#[60]⟩) W.heap.size (unhide D2).size)
    obtain ⟨g2, c2, rfl, sr⟩ := ((unhide O3).later (below_new w2 (.cells #[.int .i64 4, .int .i64 0, .string ⟨#[60]⟩] 62))).src hts0
    have SR := hide sr
    unfold Tk.cs at O1
    simp only at O1
    clear sr O3
    generalize w2.heap.size = g1 at *
    generalize w2.alloc (.cells #[.int .i64 4, .int .i64 0, .string ⟨#[60]⟩] 62) = w3 at *
    refine hK.out _ _ (unhide D3) (fun hS => ?_)
    clear HS
    have HS := hide hS
    clear hS hK K2
    clear D2 D1
    refine wpAnyH_ready (rs := [7]) (by kernel_rfl) (by simp) ?_
    refine AllReadyH.cons rfl (fun K2 hK => ?_) AllReadyH.nil
    rw [if_pos (by rfl)]
    refine wp_append_own _ (.tmp 33) (.tmp 38) 32 rfl W.heap.size 62 i0 (.agg #[.int .i64 0, .int .i64 0, .string ⟨#[]⟩]) 3 32 Tryz.underlying32 hi hz0 hz1 hz2 rfl (by decide) (.slice (some ⟨g1, 0, none⟩) 1 1) 1 (cellsT [Tk.mk 4 0 ⟨#[60]⟩]) rfl (unhide O1) ⟨g2, 0, none⟩ ts0.length c2 (cellsT ts0) rfl (cellsT_len ts0) (unhide SR) (cellsT_one ts0) (by unfold maxLen; (try simp only [List.length_append, List.length_cons, List.length_nil]); omega) (by (try simp only [List.length_append, List.length_cons, List.length_nil]); omega) (unhide D3).size ?_
    intro v5 w5 hown5 hgrow5 _
    have O5 := hide (ownT_join (ts := [Tk.mk 4 0 ⟨#[60]⟩]) (us := ts0) hown5)
    have D5 := hide ((unhide D3).grown hgrow5 (unhide D3).size (fun g hg => ((unhide O1).lt hg).1))
    refine hK.out _ _ (unhide D5) (fun hS => ?_)
    clear HS
    have HS := hide hS
    clear hS hK K2
    refine wpAnyH_take (i := 8) (v := v5) rfl (by kernel_rfl) (by kernel_rfl) (by kernel_rfl) (fun _ _ _ h => h) (Or.inl ⟨by rfl, fun w hc => ?_⟩) (unhide HS) ?_
    · clear hc; go_simp
    go_simp
    refine wpAnyH_done (by kernel_rfl) ?_ _
    clear hown5 hgrow5 O1 D3 SR
    clear HS
    have l5 : (([Tk.mk 4 0 ⟨#[60]⟩] ++ ts0).length : Nat) = ts0.length + 1 := by simp only [List.length_append, List.length_cons, List.length_nil]; omega
    generalize hus : [Tk.mk 4 0 ⟨#[60]⟩] ++ ts0 = us at *
    have H1 := hide hus
    clear hus
    go_wp2_with fail
    have D6 := hide ((unhide D5).trans ((below_drew (w := w5)).mono (unhide D5).size))
    have O6 := hide ((unhide O5).later (below_drew (w := w5)))
    refine wp_region_held_drew (S := fun w' => Below W.heap.size W w') (by kernel_rfl) (unhide D6) (fun hS => ?_)
    have HS := hide hS
    clear hS O5 D5
    refine wpAnyH_take (i := 0) (v := v5) rfl (by kernel_rfl) (by kernel_rfl) (by kernel_rfl) (fun _ _ _ h => h) (Or.inl ⟨by rfl, fun w hc => ?_⟩) (unhide HS) ?_
    · clear hc; go_simp
    go_simp
    refine wpAnyH_take (i := 1) (v := .pointer (some ⟨w.heap.size, 0, none⟩)) rfl (by kernel_rfl) (by kernel_rfl) (by kernel_rfl) (fun _ _ _ h => h) (Or.inl ⟨by rfl, fun w hc => ?_⟩) (unhide HS) ?_
    · clear hc; go_simp
    go_simp
    refine wpAnyH_take (i := 2) (v := .int .i64 k) rfl (by kernel_rfl) (by kernel_rfl) (by kernel_rfl) (fun _ _ _ h => h) (Or.inl ⟨by rfl, fun w hc => ?_⟩) (unhide HS) ?_
    · have q := unhide Y0 _ hc; clear hc; go_simp
    go_simp
    refine wpAnyH_take (i := 7) (v := .pointer (some ⟨w.heap.size, 3, none⟩)) rfl (by kernel_rfl) (by kernel_rfl) (by kernel_rfl) (fun _ _ _ h => h) (Or.inl ⟨by rfl, fun w hc => ?_⟩) (unhide HS) ?_
    · clear hc; go_simp
    go_simp
    refine wpAnyH_take (i := 8) (v := .slice (some ⟨p, po, none⟩) 2 cap) rfl (by kernel_rfl) (by kernel_rfl) (by kernel_rfl) (fun _ _ _ h => h) (Or.inl ⟨by rfl, fun w hc => ?_⟩) (unhide HS) ?_
    · have q := unhide Y3 _ hc; clear hc; go_simp
    go_simp
    refine wpAnyH_take (i := 9) (v := .pointer (some ⟨p, po + 4, none⟩)) rfl (by kernel_rfl) (by kernel_rfl) (by kernel_rfl) (fun _ _ _ h => h) (Or.inl ⟨by rfl, fun w hc => ?_⟩) (unhide HS) ?_
    · clear hc; go_simp
    go_simp
    refine wpAnyH_take (i := 10) (v := .agg #[.int .i64 bk, .int .i64 bn, .string bsv, .slice c1 bl cp1]) rfl (by kernel_rfl) (by kernel_rfl) (by kernel_rfl) (fun _ _ _ h => h) (Or.inl ⟨by rfl, fun w hc => ?_⟩) (unhide HS) ?_
    · have q0 := unhide U10 _ hc; have q1 := unhide U11 _ hc; have q2 := unhide U12 _ hc; have q3 := unhide U13 _ hc; clear hc; go_simp
    go_simp
    refine wpAnyH_ready (rs := [3]) (by kernel_rfl) (by simp) ?_
    refine AllReadyH.cons rfl (fun K2 hK => ?_) AllReadyH.nil
    go_simp
    refine (unhide SG _).mono ?_
    rintro r w' ⟨rfl, hw'⟩
    rw [hw']
    clear hw' w'
    refine hK.out _ _ (unhide D6) (fun hS => ?_)
    clear HS
    have HS := hide hS
    clear hS hK K2
    refine wpAnyH_ready (rs := [4]) (by kernel_rfl) (by simp) ?_
    refine AllReadyH.cons rfl (fun K2 hK => ?_) AllReadyH.nil
    go_simp
    refine (unhide MK _ _).mono ?_
    rintro r w6 ⟨rfl, hb6⟩
    have D7 := hide ((unhide D6).trans (hb6.mono (unhide D6).size))
    have O7 := hide ((unhide O6).later hb6)
    refine hK.out _ _ (unhide D7) (fun hS => ?_)
    clear HS
    have HS := hide hS
    clear hS hK K2
    clear hb6 D6 O6
    refine wpAnyH_ready (rs := [5]) (by kernel_rfl) (by simp) ?_
    refine AllReadyH.cons rfl (fun K2 hK => ?_) AllReadyH.nil
    go_simp
    have D8 := hide ((unhide D7).alloc (unhide D7).size (.cells #[.int .i64 4, .int .i64 0, .string sg] 62))
    have O8 := hide ((unhide O7).later (below_new w6 (.cells #[.int .i64 4, .int .i64 0, .string sg] 62)))
    have C8 := hide (cell_new w6 #[.int .i64 4, .int .i64 0, .string sg] 62)
    generalize w6.heap.size = g8 at *
    generalize w6.alloc (.cells #[.int .i64 4, .int .i64 0, .string sg] 62) = w8 at *
    refine hK.out _ _ (unhide D8) (fun hS => ?_)
    clear HS
    have HS := hide hS
    clear hS hK K2
    clear D7 O7
    refine wpAnyH_ready (rs := [6]) (by kernel_rfl) (by simp) ?_
    refine AllReadyH.cons rfl (fun K2 hK => ?_) AllReadyH.nil
    rw [if_pos (by rfl)]
    refine wp_append_own _ (.tmp 40) (.tmp 45) 32 rfl W.heap.size 62 i0 (.agg #[.int .i64 0, .int .i64 0, .string ⟨#[]⟩]) 3 32 Tryz.underlying32 hi hz0 hz1 hz2 rfl (by decide) v5 us.length (cellsT us) rfl (unhide O8) ⟨g8, 0, none⟩ 1 1 [.int .i64 4, .int .i64 0, .string sg] rfl rfl (unhide C8) (newT_one _ _ _) (by unfold maxLen; (try simp only [List.length_append, List.length_cons, List.length_nil]); omega) (by (try simp only [List.length_append, List.length_cons, List.length_nil]); omega) (unhide D8).size ?_
    intro v9 w9 hown9 hgrow9 _
    have O9 := hide (ownT_app (t := ⟨4, 0, sg⟩) hown9)
    have D9 := hide ((unhide D8).grown hgrow9 (unhide D8).size (fun g hg => ((unhide O8).lt hg).1))
    refine hK.out _ _ (unhide D9) (fun hS => ?_)
    clear HS
    have HS := hide hS
    clear hS hK K2
    clear hown9 hgrow9 O8 C8 D8
    refine wpAnyH_ready (rs := [11]) (by kernel_rfl) (by simp) ?_
    refine AllReadyH.cons rfl (fun K2 hK => ?_) AllReadyH.nil
    go_simp
    refine (unhide I1 _ (unhide D9)).mono ?_
    rintro r wa ⟨va, rfl, oa, hba⟩
    have DA := hide ((unhide D9).trans (hba.mono (unhide D9).size))
    have OA := hide ((unhide O9).later hba)
    obtain ⟨ga, ca, rfl, sra⟩ := (oa.base (unhide D9).size).src hts1
    have SRA := hide sra
    refine hK.out _ _ (unhide DA) (fun hS => ?_)
    clear HS
    have HS := hide hS
    clear hS hK K2
    clear hba oa sra D9 O9
    have l9 : ((us ++ [Tk.mk 4 0 sg]).length : Nat) = us.length + 1 := by simp only [List.length_append, List.length_cons, List.length_nil]
    generalize hus : us ++ [Tk.mk 4 0 sg] = us1 at *
    have H2 := hide hus
    clear hus
    refine wpAnyH_ready (rs := [12]) (by kernel_rfl) (by simp) ?_
    refine AllReadyH.cons rfl (fun K2 hK => ?_) AllReadyH.nil
    rw [if_pos (by rfl)]
    refine wp_append_own _ (.tmp 46) (.tmp 51) 32 rfl W.heap.size 62 i0 (.agg #[.int .i64 0, .int .i64 0, .string ⟨#[]⟩]) 3 32 Tryz.underlying32 hi hz0 hz1 hz2 rfl (by decide) v9 us1.length (cellsT us1) rfl (unhide OA) ⟨ga, 0, none⟩ ts1.length ca (cellsT ts1) rfl (cellsT_len ts1) (unhide SRA) (cellsT_one ts1) (by unfold maxLen; (try simp only [List.length_append, List.length_cons, List.length_nil]); omega) (by (try simp only [List.length_append, List.length_cons, List.length_nil]); omega) (unhide DA).size ?_
    intro vb wb hownb hgrowb _
    have OB := hide (ownT_join hownb)
    have DB := hide ((unhide DA).grown hgrowb (unhide DA).size (fun g hg => ((unhide OA).lt hg).1))
    refine hK.out _ _ (unhide DB) (fun hS => ?_)
    clear HS
    have HS := hide hS
    clear hS hK K2
    clear hownb hgrowb OA SRA DA
    refine wpAnyH_take (i := 13) (v := vb) rfl (by kernel_rfl) (by kernel_rfl) (by kernel_rfl) (fun _ _ _ h => h) (Or.inl ⟨by rfl, fun w hc => ?_⟩) (unhide HS) ?_
    · clear hc; go_simp
    go_simp
    refine wpAnyH_done (by kernel_rfl) ?_ _
    clear HS
    have lb : ((us1 ++ ts1).length : Nat) = us1.length + ts1.length := List.length_append
    generalize hus : us1 ++ ts1 = us2 at *
    have H3 := hide hus
    clear hus
    have MB := hide (unhide MK ⟨#[62]⟩ wb)
    go_wp2_with fail
    refine (unhide MB).mono ?_
    rintro r wc ⟨rfl, hbc⟩
    have DC := hide ((unhide DB).trans (hbc.mono (unhide DB).size))
    have OC := hide ((unhide OB).later hbc)
    have CC := hide (cell_new wc #[.int .i64 4, .int .i64 0, .string ⟨#[62]⟩] 62)
    have hsz := (unhide DC).size
    clear hbc MB DB OB
    go_wp2_with (at_builtin; go_must (refine wpList_append_own _ rfl (.tmp 53) (.tmp 55) 32 rfl W.heap.size 62 i0 (.agg #[.int .i64 0, .int .i64 0, .string ⟨#[]⟩]) 3 32 Tryz.underlying32 hi hz0 hz1 hz2 rfl (by decide) vb us2.length (cellsT us2) rfl (World.ownsRow.alloc (unhide OC) _) ⟨wc.heap.size, 0, none⟩ 1 1 [.int .i64 4, .int .i64 0, .string ⟨#[62]⟩] rfl rfl (unhide CC) (newT_one _ _ _) (by unfold maxLen; omega) (by omega) (by simp; omega) ?_; intro vd wd hownd hgrowd _; have OD := hide (ownT_app (t := ⟨4, 0, ⟨#[62]⟩⟩) hownd); have DD := hide (((unhide DC).alloc (unhide DC).size (.cells #[.int .i64 4, .int .i64 0, .string ⟨#[62]⟩] 62)).grown hgrowd (by simp; omega) (fun g hg => ((unhide OC).lt hg).1)); clear hownd hgrowd OC CC))
    go_ret
    have E : us2 ++ [Tk.mk 4 0 ⟨#[62]⟩] = twoT ts0 sg ts1 := by rw [← unhide H3, ← unhide H2, ← unhide H1]; simp [twoT]
    rw [E] at OD
    exact ⟨_, rfl, (unhide OD).base (unhide B0).size, (unhide B0).trans ((unhide DD).mono (unhide B0).size)⟩
theorem mxT_le : ∀ d, d ≤ 6 → mxT d ≤ 200 := by
  intro d h
  have : d = 0 ∨ d = 1 ∨ d = 2 ∨ d = 3 ∨ d = 4 ∨ d = 5 ∨ d = 6 := by omega
  rcases this with rfl | rfl | rfl | rfl | rfl | rfl | rfl <;> decide
theorem toks_ne {d : Nat} {e : Ex} (h : okF d true e = true) : toksF d e ≠ [] := by
  cases d with
  | zero => cases h
  | succ d =>
    rcases plain_cases h with ⟨n, hn, rfl⟩ | ⟨s, hs, rfl⟩ | rfl | ⟨a, ha, rfl⟩ | ⟨k, a, b, hk, ha, hb, rfl⟩
    · rw [toks_num]; simp
    · rw [toks_sym]; simp
    · rw [toks_here]; simp
    · rw [toks_neg]; simp
    · rw [toks_two d hk]; simp
theorem toksS_all : ∀ d : Nat, d ≤ 6 → ToksP d := by
  intro d
  induction d with
  | zero => intro _ e b cap w h; cases h
  | succ d ih =>
    intro hd e b cap w h hr
    have ihd := ih (by omega)
    have hm := mxT_le d (by omega)
    rcases plain_cases h with ⟨n, hn, rfl⟩ | ⟨s, hs, rfl⟩ | rfl | ⟨x, ha, rfl⟩ | ⟨k, x, y, hk, ha, hb, rfl⟩
    · rw [toks_num]; exact toksS_num n ⟨#[]⟩ b cap w
    · rw [toks_sym]; exact toksS_sym 0 s b cap w
    · rw [toks_here]; exact toksS_here b cap w
    · rw [toks_neg]
      rw [RdX_eq] at hr
      rcases hr with h0 | ⟨p, po, rfl, _, hp, hc⟩
      · cases h0
      obtain ⟨e0, e1, e2, c0, cp0, e3, e4⟩ := hc 0 (by simp)
      simp only [Nat.zero_mul, Nat.add_zero] at e0 e1 e2 e3
      have hl := (toks_ok d x ha).2
      exact toksS_neg c0 cp0 p po cap x (toksF d x) w (toks_ne ha) (by omega) hp e0 e1 e2 e3 (fun w1 hb => ihd x c0 cp0 w1 ha (e4.later hb))
    · rw [toks_two d hk]
      rw [RdX_eq] at hr
      rcases hr with h0 | ⟨p, po, rfl, _, hp, hc⟩
      · cases h0
      obtain ⟨e0, e1, e2, c0, cp0, e3, e4⟩ := hc 0 (by simp)
      obtain ⟨f0, f1, f2, c1, cp1, f3, f4⟩ := hc 1 (by simp)
      simp only [Nat.zero_mul, Nat.add_zero] at e0 e1 e2 e3
      simp only [Nat.one_mul] at f0 f1 f2 f3
      have hl := (toks_ok d x ha).2
      have hl2 := (toks_ok d y hb).2
      have T := toksS_two k hk c0 c1 cp0 cp1 p po cap x y (toksF d x) (toksF d y) w (toks_ne ha) (toks_ne hb) (by omega) (by omega) hp e0 e1 e2 e3 (fun w1 hb => ihd x c0 cp0 w1 ha (e4.later hb)) f0 f1 f2 f3 (fun w1 hb1 => ihd y c1 cp1 w1 hb (f4.later hb1))
      exact T
end Go.Proofs.YthgbpofcfmnpdaaGreatDoor

namespace Go.Proofs.YthgbpofcfmnpdaaGreatDoor
open Go.ChangeShapes Go.WideShapes Go.ChangeAt Go.RowKit
set_option linter.unusedVariables false
set_option maxRecDepth 8000
set_option linter.unusedSimpArgs false

set_option maxHeartbeats 2000000 in
theorem kind_num (n : Int) (s : ByteArray) (t u : TypeId) (x y : Value) (w : World) : Calls Tryz.prog 55 #[.iface 106 (.agg #[.int .i64 n])] w fun r w' => r = .returned (.int .i64 1) ∧ w' = w := by
  have tt := taY_num (.agg #[.int .i64 n])
  go_enter Tryz.func55, Tryz.ntmps55
  go_wp2
  go_ret
  exact ⟨rfl, rfl⟩
set_option maxHeartbeats 2000000 in
theorem kind_sym (n : Int) (s : ByteArray) (t u : TypeId) (x y : Value) (w : World) : Calls Tryz.prog 55 #[.iface 107 (.agg #[.string s])] w fun r w' => r = .returned (.int .i64 2) ∧ w' = w := by
  have t0 := taN_num 107 (.agg #[.string s]) (by decide)
  have tt := taY_sym (.agg #[.string s])
  go_enter Tryz.func55, Tryz.ntmps55
  go_wp2
  go_ret
  exact ⟨rfl, rfl⟩
set_option maxHeartbeats 2000000 in
theorem kind_here (n : Int) (s : ByteArray) (t u : TypeId) (x y : Value) (w : World) : Calls Tryz.prog 55 #[.iface 109 (.agg #[])] w fun r w' => r = .returned (.int .i64 3) ∧ w' = w := by
  have t0 := taN_num 109 (.agg #[]) (by decide)
  have t1 := taN_sym 109 (.agg #[]) (by decide)
  have tt := taY_here (.agg #[])
  go_enter Tryz.func55, Tryz.ntmps55
  go_wp2
  go_ret
  exact ⟨rfl, rfl⟩
set_option maxHeartbeats 2000000 in
theorem kind_neg (n : Int) (s : ByteArray) (t u : TypeId) (x y : Value) (w : World) : Calls Tryz.prog 55 #[.iface 85 (.agg #[.iface t x])] w fun r w' => r = .returned (.int .i64 4) ∧ w' = w := by
  have t0 := taN_num 85 (.agg #[.iface t x]) (by decide)
  have t1 := taN_sym 85 (.agg #[.iface t x]) (by decide)
  have t2 := taN_here 85 (.agg #[.iface t x]) (by decide)
  have tt := taY_neg (.agg #[.iface t x])
  go_enter Tryz.func55, Tryz.ntmps55
  go_wp2
  go_ret
  exact ⟨rfl, rfl⟩
set_option maxHeartbeats 2000000 in
theorem kind_add (n : Int) (s : ByteArray) (t u : TypeId) (x y : Value) (w : World) : Calls Tryz.prog 55 #[.iface 124 (.agg #[.iface t x, .iface u y])] w fun r w' => r = .returned (.int .i64 5) ∧ w' = w := by
  have t0 := taN_num 124 (.agg #[.iface t x, .iface u y]) (by decide)
  have t1 := taN_sym 124 (.agg #[.iface t x, .iface u y]) (by decide)
  have t2 := taN_here 124 (.agg #[.iface t x, .iface u y]) (by decide)
  have t3 := taN_neg 124 (.agg #[.iface t x, .iface u y]) (by decide)
  have tt := taY_add (.agg #[.iface t x, .iface u y])
  go_enter Tryz.func55, Tryz.ntmps55
  go_wp2
  go_ret
  exact ⟨rfl, rfl⟩
set_option maxHeartbeats 2000000 in
theorem kind_sub (n : Int) (s : ByteArray) (t u : TypeId) (x y : Value) (w : World) : Calls Tryz.prog 55 #[.iface 125 (.agg #[.iface t x, .iface u y])] w fun r w' => r = .returned (.int .i64 6) ∧ w' = w := by
  have t0 := taN_num 125 (.agg #[.iface t x, .iface u y]) (by decide)
  have t1 := taN_sym 125 (.agg #[.iface t x, .iface u y]) (by decide)
  have t2 := taN_here 125 (.agg #[.iface t x, .iface u y]) (by decide)
  have t3 := taN_neg 125 (.agg #[.iface t x, .iface u y]) (by decide)
  have t4 := taN_add 125 (.agg #[.iface t x, .iface u y]) (by decide)
  have tt := taY_sub (.agg #[.iface t x, .iface u y])
  go_enter Tryz.func55, Tryz.ntmps55
  go_wp2
  go_ret
  exact ⟨rfl, rfl⟩
set_option maxHeartbeats 2000000 in
theorem kind_mul (n : Int) (s : ByteArray) (t u : TypeId) (x y : Value) (w : World) : Calls Tryz.prog 55 #[.iface 126 (.agg #[.iface t x, .iface u y])] w fun r w' => r = .returned (.int .i64 7) ∧ w' = w := by
  have t0 := taN_num 126 (.agg #[.iface t x, .iface u y]) (by decide)
  have t1 := taN_sym 126 (.agg #[.iface t x, .iface u y]) (by decide)
  have t2 := taN_here 126 (.agg #[.iface t x, .iface u y]) (by decide)
  have t3 := taN_neg 126 (.agg #[.iface t x, .iface u y]) (by decide)
  have t4 := taN_add 126 (.agg #[.iface t x, .iface u y]) (by decide)
  have t5 := taN_sub 126 (.agg #[.iface t x, .iface u y]) (by decide)
  have tt := taY_mul (.agg #[.iface t x, .iface u y])
  go_enter Tryz.func55, Tryz.ntmps55
  go_wp2
  go_ret
  exact ⟨rfl, rfl⟩
set_option maxHeartbeats 2000000 in
theorem kind_div (n : Int) (s : ByteArray) (t u : TypeId) (x y : Value) (w : World) : Calls Tryz.prog 55 #[.iface 127 (.agg #[.iface t x, .iface u y])] w fun r w' => r = .returned (.int .i64 8) ∧ w' = w := by
  have t0 := taN_num 127 (.agg #[.iface t x, .iface u y]) (by decide)
  have t1 := taN_sym 127 (.agg #[.iface t x, .iface u y]) (by decide)
  have t2 := taN_here 127 (.agg #[.iface t x, .iface u y]) (by decide)
  have t3 := taN_neg 127 (.agg #[.iface t x, .iface u y]) (by decide)
  have t4 := taN_add 127 (.agg #[.iface t x, .iface u y]) (by decide)
  have t5 := taN_sub 127 (.agg #[.iface t x, .iface u y]) (by decide)
  have t6 := taN_mul 127 (.agg #[.iface t x, .iface u y]) (by decide)
  have tt := taY_div (.agg #[.iface t x, .iface u y])
  go_enter Tryz.func55, Tryz.ntmps55
  go_wp2
  go_ret
  exact ⟨rfl, rfl⟩
set_option maxHeartbeats 2000000 in
theorem kind_and (n : Int) (s : ByteArray) (t u : TypeId) (x y : Value) (w : World) : Calls Tryz.prog 55 #[.iface 128 (.agg #[.iface t x, .iface u y])] w fun r w' => r = .returned (.int .i64 9) ∧ w' = w := by
  have t0 := taN_num 128 (.agg #[.iface t x, .iface u y]) (by decide)
  have t1 := taN_sym 128 (.agg #[.iface t x, .iface u y]) (by decide)
  have t2 := taN_here 128 (.agg #[.iface t x, .iface u y]) (by decide)
  have t3 := taN_neg 128 (.agg #[.iface t x, .iface u y]) (by decide)
  have t4 := taN_add 128 (.agg #[.iface t x, .iface u y]) (by decide)
  have t5 := taN_sub 128 (.agg #[.iface t x, .iface u y]) (by decide)
  have t6 := taN_mul 128 (.agg #[.iface t x, .iface u y]) (by decide)
  have t7 := taN_div 128 (.agg #[.iface t x, .iface u y]) (by decide)
  have tt := taY_and (.agg #[.iface t x, .iface u y])
  go_enter Tryz.func55, Tryz.ntmps55
  go_wp2
  go_ret
  exact ⟨rfl, rfl⟩
set_option maxHeartbeats 2000000 in
theorem kind_or (n : Int) (s : ByteArray) (t u : TypeId) (x y : Value) (w : World) : Calls Tryz.prog 55 #[.iface 129 (.agg #[.iface t x, .iface u y])] w fun r w' => r = .returned (.int .i64 10) ∧ w' = w := by
  have t0 := taN_num 129 (.agg #[.iface t x, .iface u y]) (by decide)
  have t1 := taN_sym 129 (.agg #[.iface t x, .iface u y]) (by decide)
  have t2 := taN_here 129 (.agg #[.iface t x, .iface u y]) (by decide)
  have t3 := taN_neg 129 (.agg #[.iface t x, .iface u y]) (by decide)
  have t4 := taN_add 129 (.agg #[.iface t x, .iface u y]) (by decide)
  have t5 := taN_sub 129 (.agg #[.iface t x, .iface u y]) (by decide)
  have t6 := taN_mul 129 (.agg #[.iface t x, .iface u y]) (by decide)
  have t7 := taN_div 129 (.agg #[.iface t x, .iface u y]) (by decide)
  have t8 := taN_and 129 (.agg #[.iface t x, .iface u y]) (by decide)
  have tt := taY_or (.agg #[.iface t x, .iface u y])
  go_enter Tryz.func55, Tryz.ntmps55
  go_wp2
  go_ret
  exact ⟨rfl, rfl⟩
set_option maxHeartbeats 2000000 in
theorem kind_sect (n : Int) (s : ByteArray) (t u : TypeId) (x y : Value) (w : World) : Calls Tryz.prog 55 #[.iface 91 (.agg #[.int .i64 n])] w fun r w' => r = .returned (.int .i64 11) ∧ w' = w := by
  have t0 := taN_num 91 (.agg #[.int .i64 n]) (by decide)
  have t1 := taN_sym 91 (.agg #[.int .i64 n]) (by decide)
  have t2 := taN_here 91 (.agg #[.int .i64 n]) (by decide)
  have t3 := taN_neg 91 (.agg #[.int .i64 n]) (by decide)
  have t4 := taN_add 91 (.agg #[.int .i64 n]) (by decide)
  have t5 := taN_sub 91 (.agg #[.int .i64 n]) (by decide)
  have t6 := taN_mul 91 (.agg #[.int .i64 n]) (by decide)
  have t7 := taN_div 91 (.agg #[.int .i64 n]) (by decide)
  have t8 := taN_and 91 (.agg #[.int .i64 n]) (by decide)
  have t9 := taN_or 91 (.agg #[.int .i64 n]) (by decide)
  have tt := taY_sect (.agg #[.int .i64 n])
  go_enter Tryz.func55, Tryz.ntmps55
  go_wp2
  go_ret
  exact ⟨rfl, rfl⟩
set_option maxHeartbeats 2000000 in
theorem kind_glob (n : Int) (s : ByteArray) (t u : TypeId) (x y : Value) (w : World) : Calls Tryz.prog 55 #[.iface 93 (.agg #[.string s])] w fun r w' => r = .returned (.int .i64 12) ∧ w' = w := by
  have t0 := taN_num 93 (.agg #[.string s]) (by decide)
  have t1 := taN_sym 93 (.agg #[.string s]) (by decide)
  have t2 := taN_here 93 (.agg #[.string s]) (by decide)
  have t3 := taN_neg 93 (.agg #[.string s]) (by decide)
  have t4 := taN_add 93 (.agg #[.string s]) (by decide)
  have t5 := taN_sub 93 (.agg #[.string s]) (by decide)
  have t6 := taN_mul 93 (.agg #[.string s]) (by decide)
  have t7 := taN_div 93 (.agg #[.string s]) (by decide)
  have t8 := taN_and 93 (.agg #[.string s]) (by decide)
  have t9 := taN_or 93 (.agg #[.string s]) (by decide)
  have t10 := taN_sect 93 (.agg #[.string s]) (by decide)
  have tt := taY_glob (.agg #[.string s])
  go_enter Tryz.func55, Tryz.ntmps55
  go_wp2
  go_ret
  exact ⟨rfl, rfl⟩
theorem kindI_any {d : Nat} {e : Ex} (h : okF d false e = true) (w : World) : Calls Tryz.prog 55 #[tv e] w fun r w' => r = .returned (.int .i64 e.k) ∧ w' = w := by
  cases d with
  | zero => cases h
  | succ d =>
    rcases ok_cases h with ⟨n, hn, rfl⟩ | ⟨s, hs, rfl⟩ | rfl | ⟨a, ha, rfl⟩ | ⟨k, a, b, hk, ha, hb, rfl⟩ | ⟨n, hn, rfl⟩ | ⟨s, hs, rfl⟩
    · rw [tv_num]; exact kind_num n E0 0 0 .nilIface .nilIface w
    · rw [tv_sym]; exact kind_sym 0 s 0 0 .nilIface .nilIface w
    · rw [tv_here]; exact kind_here 0 E0 0 0 .nilIface .nilIface w
    · obtain ⟨t, x, e1⟩ := tv_if a
      rw [tv_neg, e1]; exact kind_neg 0 E0 t 0 x .nilIface w
    · obtain ⟨t, x, e1⟩ := tv_if a
      obtain ⟨u, y, e2⟩ := tv_if b
      rw [tv_two hk, e1, e2]
      have : k = 5 ∨ k = 6 ∨ k = 7 ∨ k = 8 ∨ k = 9 ∨ k = 10 := by omega
      rcases this with rfl | rfl | rfl | rfl | rfl | rfl
      · exact kind_add 0 E0 t u x y w
      · exact kind_sub 0 E0 t u x y w
      · exact kind_mul 0 E0 t u x y w
      · exact kind_div 0 E0 t u x y w
      · exact kind_and 0 E0 t u x y w
      · exact kind_or 0 E0 t u x y w
    · rw [tv_sect]; exact kind_sect n E0 0 0 .nilIface .nilIface w
    · rw [tv_glob]; exact kind_glob 0 s 0 0 .nilIface .nilIface w
theorem szL_allOk : ∀ ts : List Tk, AllOk ts → szL ts ≤ 10 * ts.length := by
  intro ts
  induction ts with
  | nil => intro _; simp [szL]
  | cons t r ih =>
    intro h
    obtain ⟨h1, h2⟩ := h.head
    have := ok_size h1
    have := ih h2
    simp only [szL, List.length_cons]
    omega
theorem text_len {e : Ex} (h : okF 6 true e = true) : (toksF 6 e).length + szL (toksF 6 e) ≤ 1048576 := by
  obtain ⟨h1, h2⟩ := toks_ok 6 e h
  have := szL_allOk _ h1
  have := mxT_le 6 (by omega)
  omega
set_option maxHeartbeats 1000000 in
theorem textS_any (e : Ex) (b : Option Addr) (cap : Nat) (w : World) (hr : RdX w 0 e b) (hz : e.sz ≤ 1048576) : Calls Tryz.prog 26 #[.agg (e.cs b cap)] w fun r w' => r = .returned (.string (textE e)) ∧ Below w.heap.size w w' := by
  have B0 := below_new w (.cells (e.cs b cap) 26)
  obtain ⟨x0, x1, x2, x3⟩ := box4 w e b cap 26
  have xl : w.heap.size < (w.alloc (.cells (e.cs b cap) 26)).heap.size := by simp
  have PS := hide (plainS_any e b cap _ (hr.later B0) hz)
  have HB := hide B0
  have TS := hide (fun w1 (hb : Below (w.alloc (.cells (e.cs b cap) 26)).heap.size (w.alloc (.cells (e.cs b cap) 26)) w1) (h : okF 6 true e = true) => toksS_all 6 (by omega) e b cap w1 h ((hr.later B0).later hb))
  have LS := hide (fun w1 a c (h : okF 6 true e = true) (h2 : RdT w1 a (toksF 6 e)) => lineS_any a (toksF 6 e).length c (toksF 6 e) w1 rfl (text_len h) h2)
  have TE := hide (show (okF 6 true e = true → textE e = strOf (lineOf (toksF 6 e))) ∧ (okF 6 true e = false → textE e = E0) from ⟨fun h => by unfold textE; rw [if_pos h], fun h => by unfold textE; rw [if_neg (by rw [h]; decide)]⟩)
  clear hr B0
  unfold Ex.cs at PS HB TS x0 x1 x2 x3 xl ⊢
  generalize okF 6 true e = q at *
  generalize toksF 6 e = ts at *
  generalize textE e = tx at *
  generalize e.l.length = ll at *
  generalize e.k = k at *
  generalize e.n = n at *
  generalize e.s = s at *
  generalize hW : w.alloc (.cells #[.int .i64 k, .int .i64 n, .string s, .slice b ll cap] 26) = W at *
  have Y0 := hide (fun w1 (hb : Below W.heap.size W w1) => (hb.cell (p := ⟨w.heap.size, 0, none⟩) xl).trans x0)
  have Y1 := hide (fun w1 (hb : Below W.heap.size W w1) => (hb.cell (p := ⟨w.heap.size, 1, none⟩) xl).trans x1)
  have Y2 := hide (fun w1 (hb : Below W.heap.size W w1) => (hb.cell (p := ⟨w.heap.size, 2, none⟩) xl).trans x2)
  have Y3 := hide (fun w1 (hb : Below W.heap.size W w1) => (hb.cell (p := ⟨w.heap.size, 3, none⟩) xl).trans x3)
  clear xl
  go_enter Tryz.func26, Tryz.ntmps26
  go_wp2_with fail
  refine (unhide PS).mono ?_
  rintro r w1 ⟨rfl, hb1⟩
  have BB := hide ((unhide HB).trans (hb1.mono (unhide HB).size))
  cases q with
  | false =>
    have E := hide ((unhide TE).2 rfl)
    clear hb1 PS TS LS TE
    go_wp2
    go_ret
    exact ⟨by rw [unhide E]; rfl, unhide BB⟩
  | true =>
    have E := hide ((unhide TE).1 rfl)
    have T1 := hide (unhide TS w1 hb1 rfl)
    have L1 := hide (fun w1 a c => unhide LS w1 a c rfl)
    have y0 := unhide Y0 w1 hb1
    have y1 := unhide Y1 w1 hb1
    have y2 := unhide Y2 w1 hb1
    have y3 := unhide Y3 w1 hb1
    clear hb1 PS TS LS TE x0 x1 x2 x3
    go_wp2_with fail
    refine (unhide T1).mono ?_
    rintro r w2 ⟨v2, rfl, o2, hb2⟩
    have B2 := hide ((unhide BB).trans (hb2.mono (unhide BB).size))
    obtain ⟨a2, c2, rfl, r2⟩ := o2.rd
    have L2 := hide (unhide L1 w2 a2 c2 r2)
    clear o2 r2 hb2 T1 L1 y0 y1 y2 y3
    go_wp2_with (go_at_call 56; refine (unhide L2).mono ?_; rintro r w3 ⟨rfl, hb3⟩)
    go_ret
    exact ⟨by rw [unhide E]; rfl, (unhide B2).trans (hb3.mono (unhide B2).size)⟩
end Go.Proofs.YthgbpofcfmnpdaaGreatDoor

namespace Go.Proofs.YthgbpofcfmnpdaaGreatDoor
open Go.ChangeShapes Go.WideShapes Go.ChangeAt Go.RowKit
set_option linter.unusedVariables false
set_option maxRecDepth 8000

/-- As Q; by a goto to label l: J l. -/
def jumps (J : Nat → Act → World → Prop) (Q : Exit → Act → World → Prop) : Exit → Act → World → Prop
  | .goto l, a, w => J l a w
  | e, a, w => Q e a w
theorem jumps_mono {J J' : Nat → Act → World → Prop} {Q : Exit → Act → World → Prop} (h : ∀ l a w, J l a w → J' l a w) : ∀ e a w, jumps J Q e a w → jumps J' Q e a w := by
  intro e a w hq
  cases e with
  | goto l => exact h l a w hq
  | normal => exact hq
  | exit id => exact hq
  | ret => exact hq
  | panic ch => exact hq
  | outgrown => exact hq
section
variable {P : Program} {a : Act} {w : World} {Q : Exit → Act → World → Prop}
theorem wp_scope_many {c : Code} (z : Nat) (J : Nat → Act → World → Prop) (μ : Nat → Act → World → Nat)
    (passz : ∀ a w, J z a w → ∃ rest, findLabel c z = some (.seq .skip rest) ∧ rest.wp P (jumps (fun l' a' w' => J l' a' w' ∧ μ l' a' w' < μ z a w) Q) a w)
    (pass : (∀ M a w rest, findLabel c z = some (.seq .skip rest) → J z a w → μ z a w ≤ M → rest.wp P (jumps (fun l' a' w' => J l' a' w' ∧ μ l' a' w' < M) Q) a w) →
      ∀ l a w, l ≠ z → J l a w → ∃ rest, findLabel c l = some (.seq .skip rest) ∧ rest.wp P (jumps (fun l' a' w' => J l' a' w' ∧ μ l' a' w' < μ l a w) Q) a w)
    (first : (∀ l a w rest, findLabel c l = some (.seq .skip rest) → J l a w → rest.wp P (jumps J Q) a w) → c.wp P (jumps J Q) a w) : (Code.scope c).wp P Q a w := by
  have fallz : ∀ M a w rest, findLabel c z = some (.seq .skip rest) → J z a w → μ z a w ≤ M → rest.wp P (jumps (fun l' a' w' => J l' a' w' ∧ μ l' a' w' < M) Q) a w := by
    intro M a w rest hf hJ hM
    obtain ⟨rest', hf', h⟩ := passz a w hJ
    rw [hf] at hf'
    cases hf'
    exact wp_mono h (jumps_mono fun l a w ⟨h1, h2⟩ => ⟨h1, Nat.lt_of_lt_of_le h2 hM⟩)
  have all : ∀ l a w, J l a w → ∃ rest, findLabel c l = some (.seq .skip rest) ∧ rest.wp P (jumps (fun l' a' w' => J l' a' w' ∧ μ l' a' w' < μ l a w) Q) a w := by
    intro l a w hJ
    by_cases hl : l = z
    · subst hl; exact passz a w hJ
    · exact pass fallz l a w hl hJ
  have first' := first fun l a w rest hf hJ => by
    obtain ⟨rest', hf', h⟩ := all l a w hJ
    rw [hf] at hf'
    cases hf'
    exact wp_mono h (jumps_mono fun l a w h => h.1)
  intro b k cs
  have key : ∀ n l a w rest, μ l a w = n → J l a w → findLabel c l = some rest → ∃ e a' w', Q e a' w' ∧ Arrives P (lone (b.at a (.code rest :: .inScope c :: k)) cs w) b k cs e a' w' := by
    intro n
    induction n using Nat.strongRecOn with
    | _ n ih =>
      intro l a w rest hn hJ hf
      obtain ⟨rest', hf', hp⟩ := all l a w hJ
      rw [hf] at hf'
      cases hf'
      have hp2 : (Code.seq .skip rest').wp P (jumps (fun l' a' w' => J l' a' w' ∧ μ l' a' w' < μ l a w) Q) a w := wp_seq (wp_skip (by exact hp))
      obtain ⟨e, a₁, w₁, hq, harr⟩ := hp2 b (.inScope c :: k) cs
      cases e with
      | normal => exact ⟨.normal, a₁, w₁, hq, Steps.trans harr (.one step_inScope)⟩
      | exit id => exact ⟨.exit id, a₁, w₁, hq, fun k' hk => harr k' (by simp [exitTo, hk])⟩
      | goto l' =>
        obtain ⟨hJ', hlt⟩ := hq
        obtain ⟨rest2, hf2, _⟩ := all l' a₁ w₁ hJ'
        obtain ⟨e₂, a₂, w₂, hq₂, harr₂⟩ := ih _ (by omega) l' a₁ w₁ _ rfl hJ' hf2
        exact ⟨e₂, a₂, w₂, hq₂, .of_steps (harr _ (by simp [gotoIn, hf2])) harr₂⟩
      | ret => exact ⟨_, a₁, w₁, hq, harr⟩
      | panic ch => exact ⟨_, a₁, w₁, hq, harr⟩
      | outgrown => exact ⟨_, a₁, w₁, hq, harr⟩
  obtain ⟨e, a₁, w₁, hq, harr⟩ := first' b (.inScope c :: k) cs
  cases e with
  | normal => exact ⟨.normal, a₁, w₁, hq, .head step_scope (Steps.trans harr (.one step_inScope))⟩
  | exit id => exact ⟨.exit id, a₁, w₁, hq, fun k' hk => .head step_scope (harr k' (by simp [exitTo, hk]))⟩
  | goto l' =>
    obtain ⟨rest2, hf2, _⟩ := all l' a₁ w₁ hq
    obtain ⟨e₂, a₂, w₂, hq₂, harr₂⟩ := key _ l' a₁ w₁ _ rfl hq hf2
    exact ⟨e₂, a₂, w₂, hq₂, .of_steps (.head step_scope (harr _ (by simp [gotoIn, hf2]))) harr₂⟩
  | ret => exact ⟨_, a₁, w₁, hq, .of_steps (.one step_scope) harr⟩
  | panic ch => exact ⟨_, a₁, w₁, hq, .of_steps (.one step_scope) harr⟩
  | outgrown => exact ⟨_, a₁, w₁, hq, .of_steps (.one step_scope) harr⟩
end
end Go.Proofs.YthgbpofcfmnpdaaGreatDoor

namespace Go.Proofs.YthgbpofcfmnpdaaGreatDoor
open Go.ChangeShapes Go.WideShapes Go.ChangeAt Go.RowKit
set_option linter.unusedVariables false
set_option maxRecDepth 8000
set_option linter.unusedSimpArgs false

/-- The world while the program's Lex goes on: its box holds t, its list acc. -/
structure Lk (w wr : World) (t : Tk) (sa : Option Addr) (cap : Nat) (acc : List Tk) : Prop where
  bel : Below w.heap.size w wr
  box : wr.heap[w.heap.size]? = some (.cells t.cs 62 (0, 0))
  own : OwnT wr (w.heap.size + 1) (.slice sa acc.length cap) acc
  n8 : acc.length ≤ 800
section
variable {w wr w' : World} {t t' : Tk} {sa : Option Addr} {cap : Nat} {acc : List Tk}
theorem Lk.lt (h : Lk w wr t sa cap acc) : w.heap.size < wr.heap.size := (Array.getElem?_eq_some_iff.1 h.box).1
theorem Lk.later (h : Lk w wr t sa cap acc) (hb : Below wr.heap.size wr w') : Lk w w' t sa cap acc :=
  ⟨h.bel.trans (hb.mono (by have := h.lt; omega)), (hb.block _ h.lt).trans h.box, h.own.later hb, h.n8⟩
theorem Lk.put (h : Lk w wr t sa cap acc) (t' : Tk) : Lk w (wr.setRow w.heap.size t'.cs) t' sa cap acc :=
  ⟨below_row h.bel, setRow_heap _ _ _ _ _ _ h.box, h.own.keep fun g hg hl => setRow_other _ _ _ _ (fun e => by have := (h.own.lt hg).1; omega), h.n8⟩
theorem Lk.cells (h : Lk w wr t sa cap acc) : wr.cell? ⟨w.heap.size, 0, none⟩ = some (.int .i64 t.k) ∧ wr.cell? ⟨w.heap.size, 1, none⟩ = some (.int .i64 t.n) ∧ wr.cell? ⟨w.heap.size, 2, none⟩ = some (.string t.s) := tri_cells h.box
theorem Lk.frz (h : Lk w wr t sa cap acc) (j : Nat) : wr.frozen? ⟨w.heap.size, j, none⟩ = false := by simp [World.frozen?, h.box]
theorem Lk.set2 (h : Lk w wr t sa cap acc) : Lk w (wr.setCell ⟨w.heap.size, 2, none⟩ (.string t.s)) t sa cap acc := by
  refine ⟨h.bel.setCell (p := ⟨w.heap.size, 2, none⟩) (Nat.le_refl _) _, ?_, h.own.keep fun g hg hl => Below.heap_setCell _ _ _ _ (fun e => by have := (h.own.lt hg).1; have e' : g = w.heap.size := e; omega), h.n8⟩
  rw [heap_setCell_same wr w.heap.size 2 t.cs 62 (.string t.s) h.box]
  rfl
theorem Lk.app {w5 : World} {a5 : Option Addr} {c5 : Nat} {o : Obj} (h : Lk w wr t sa cap acc) (hg : (wr.alloc o).grownBy w5 (Value.slice sa acc.length cap).ownBlock) (ho : OwnT w5 (w.heap.size + 1) (.slice a5 (acc ++ [t]).length c5) (acc ++ [t])) (h8 : acc.length < 800) : Lk w w5 t a5 c5 (acc ++ [t]) := by
  have hl := h.lt
  refine ⟨(h.bel.alloc (by omega) o).grown hg (by simp; omega) (fun g e => by have := (h.own.lt e).1; omega), ?_, ho, by rw [List.length_append]; simp; omega⟩
  rw [hg.block _ (by simp; omega) (fun e => by have := (h.own.lt e.symm).1; omega), Below.heap_alloc wr o _ hl]
  exact h.box
end
set_option maxHeartbeats 1000000 in
theorem markI_any (x : ByteArray) (w : World) : Calls Tryz.prog 37 #[.string x] w fun e w' => e = .returned (Tk.v ⟨4, 0, x⟩) ∧ Below w.heap.size w w' := by
  have B0 := hide (below_new w (.cells T0c 62))
  have R0 := hide (heap_alloc_new w (.cells T0c 62))
  unfold T0c at B0 R0
  unfold Tk.v Tk.cs
  simp only
  go_enter Tryz.func37, Tryz.ntmps37
  go_wp2_with (first | (refine wpList_store_row rfl 62 _ _ rfl w.heap.size #[.int .i64 4, .int .i64 0, .string x] rfl rfl 62 _ (unhide R0) szK rfl (tk_one _ _ _) ?_))
  refine bodyPost_ret (results_cell_row (P := Tryz.prog) rfl _ _ w.heap.size 62 #[.int .i64 4, .int .i64 0, .string x] (0, 0) _ rfl (setRow_heap _ _ _ _ _ _ (unhide R0)) Tryz.underlying62 rfl szK) rfl ?_
  exact ⟨rfl, below_row (unhide B0)⟩
theorem lk_new (w : World) : Lk w (w.alloc (.cells (Tk.cs ⟨0, 0, ⟨#[]⟩⟩) 62)) ⟨0, 0, ⟨#[]⟩⟩ none 0 [] :=
  ⟨below_new w _, heap_alloc_new w _, ownT_none _ _, by simp⟩
/-- What is known at the token that begins at f. -/
structure Pend (s : ByteArray) (R : List Tk × Bool) (f : Nat) (acc : List Tk) : Prop where
  lt : f < s.size
  semi : bAt s.data.toList f ≠ 59
  bl : blB (bAt s.data.toList f) = false
  rest : lexR s f acc = R
/-- What holds at each label. -/
def St (s : ByteArray) (R : List Tk × Bool) (l k f : Nat) (acc : List Tk) (t : Tk) : Prop :=
  (l = 0 ∧ k ≤ s.size ∧ lexR s k acc = R) ∨
  (l = 1 ∧ Pend s R f acc ∧ f < k ∧ k ≤ s.size ∧ runN ldB s.data.toList k = oneE s f ∧ oneT badI s f = wordT (s.extract f (oneE s f))) ∨
  (l = 2 ∧ Pend s R f acc ∧ f < k ∧ k ≤ s.size ∧ runN dgB s.data.toList k = oneE s f ∧ oneT badI s f = numT badI (s.extract f (oneE s f))) ∨
  (l = 3 ∧ Pend s R f acc ∧ f < k ∧ k ≤ s.size ∧ runN ldB s.data.toList k = oneE s f ∧ oneT badI s f = ⟨3, 0, s.extract f (oneE s f)⟩) ∨
  (l = 4 ∧ Pend s R f acc ∧ f < k ∧ k ≤ s.size ∧ k = oneE s f ∧ t = oneT badI s f)
theorem St.at0 {s R k f acc t} (h : St s R 0 k f acc t) : k ≤ s.size ∧ lexR s k acc = R := by
  rcases h with ⟨_, h⟩ | ⟨h, _⟩ | ⟨h, _⟩ | ⟨h, _⟩ | ⟨h, _⟩
  · exact h
  all_goals omega
theorem St.at1 {s R k f acc t} (h : St s R 1 k f acc t) : Pend s R f acc ∧ f < k ∧ k ≤ s.size ∧ runN ldB s.data.toList k = oneE s f ∧ oneT badI s f = wordT (s.extract f (oneE s f)) := by
  rcases h with ⟨h, _⟩ | ⟨_, h⟩ | ⟨h, _⟩ | ⟨h, _⟩ | ⟨h, _⟩
  · omega
  · exact h
  all_goals omega
theorem St.at2 {s R k f acc t} (h : St s R 2 k f acc t) : Pend s R f acc ∧ f < k ∧ k ≤ s.size ∧ runN dgB s.data.toList k = oneE s f ∧ oneT badI s f = numT badI (s.extract f (oneE s f)) := by
  rcases h with ⟨h, _⟩ | ⟨h, _⟩ | ⟨_, h⟩ | ⟨h, _⟩ | ⟨h, _⟩
  · omega
  · omega
  · exact h
  all_goals omega
theorem St.at3 {s R k f acc t} (h : St s R 3 k f acc t) : Pend s R f acc ∧ f < k ∧ k ≤ s.size ∧ runN ldB s.data.toList k = oneE s f ∧ oneT badI s f = ⟨3, 0, s.extract f (oneE s f)⟩ := by
  rcases h with ⟨h, _⟩ | ⟨h, _⟩ | ⟨h, _⟩ | ⟨_, h⟩ | ⟨h, _⟩
  · omega
  · omega
  · omega
  · exact h
  · omega
theorem St.at4 {s R k f acc t} (h : St s R 4 k f acc t) : Pend s R f acc ∧ f < k ∧ k ≤ s.size ∧ k = oneE s f ∧ t = oneT badI s f := by
  rcases h with ⟨h, _⟩ | ⟨h, _⟩ | ⟨h, _⟩ | ⟨h, _⟩ | ⟨_, h⟩
  · omega
  · omega
  · omega
  · omega
  · exact h
theorem St.to0 {s R k f acc t} (h : k ≤ s.size) (h1 : lexR s k acc = R) : St s R 0 k f acc t := .inl ⟨rfl, h, h1⟩
theorem St.to1 {s R k f acc t} (h : Pend s R f acc ∧ f < k ∧ k ≤ s.size ∧ runN ldB s.data.toList k = oneE s f ∧ oneT badI s f = wordT (s.extract f (oneE s f))) : St s R 1 k f acc t := .inr (.inl ⟨rfl, h⟩)
theorem St.to2 {s R k f acc t} (h : Pend s R f acc ∧ f < k ∧ k ≤ s.size ∧ runN dgB s.data.toList k = oneE s f ∧ oneT badI s f = numT badI (s.extract f (oneE s f))) : St s R 2 k f acc t := .inr (.inr (.inl ⟨rfl, h⟩))
theorem St.to3 {s R k f acc t} (h : Pend s R f acc ∧ f < k ∧ k ≤ s.size ∧ runN ldB s.data.toList k = oneE s f ∧ oneT badI s f = ⟨3, 0, s.extract f (oneE s f)⟩) : St s R 3 k f acc t := .inr (.inr (.inr (.inl ⟨rfl, h⟩)))
theorem St.to4 {s R k f acc t} (h : Pend s R f acc ∧ f < k ∧ k ≤ s.size ∧ k = oneE s f ∧ t = oneT badI s f) : St s R 4 k f acc t := .inr (.inr (.inr (.inr ⟨rfl, h⟩)))
theorem St.low {s R l k f acc t} (h : St s R l k f acc t) (h4 : l ≠ 4) : l = 0 ∨ l = 1 ∨ l = 2 ∨ l = 3 := by
  rcases h with ⟨h, _⟩ | ⟨h, _⟩ | ⟨h, _⟩ | ⟨h, _⟩ | ⟨h, _⟩ <;> omega
/-- The frame at each label. -/
def fx (s : ByteArray) (w : World) (v4 v6 v7 : Value) (u : Nat → Value) : Act := { tmps := #[.string s, undef, .slice none 0 0, .bool false, v4, .pointer (some ⟨w.heap.size, 0, none⟩), v6, v7, u 8, u 9, u 10, u 11, u 12, u 13, u 14, u 15, u 16, u 17, u 18, u 19, u 20, u 21, u 22, u 23, u 24, u 25, u 26, u 27, u 28, u 29, u 30, u 31, u 32, u 33, u 34, u 35, u 36, u 37, u 38, u 39, u 40, u 41, u 42, u 43, u 44, u 45, u 46, u 47, u 48, u 49, u 50, u 51, u 52, u 53, u 54, u 55, u 56, u 57, u 58, u 59, u 60, u 61, u 62, u 63, u 64, u 65, u 66, u 67, u 68, u 69, u 70, u 71, u 72, u 73, u 74, u 75, u 76, u 77, u 78, u 79, u 80, u 81, u 82, u 83, u 84, u 85, u 86, u 87, u 88, u 89, u 90, u 91, u 92, u 93, u 94, u 95, u 96, u 97, u 98, u 99, u 100, u 101, u 102, u 103, u 104, u 105, u 106, u 107, u 108, u 109, u 110, u 111, u 112, u 113, u 114, u 115, u 116, u 117, u 118, u 119, u 120, u 121], defers := [] }
def Jx (s : ByteArray) (w : World) (R : List Tk × Bool) (l : Nat) (a' : Act) (w' : World) : Prop :=
  ∃ (u : Nat → Value) (k f : Nat) (t : Tk) (sa : Option Addr) (cap : Nat) (acc : List Tk), a' = fx s w (.slice sa acc.length cap) (.int .i64 f) (.int .i64 k) u ∧ Lk w w' t sa cap acc ∧ St s R l k f acc t
theorem jx_in {s : ByteArray} {w wr : World} {R : List Tk × Bool} {l : Nat} {v4 v6 v7 u8 u9 u10 u11 u12 u13 u14 u15 u16 u17 u18 u19 u20 u21 u22 u23 u24 u25 u26 u27 u28 u29 u30 u31 u32 u33 u34 u35 u36 u37 u38 u39 u40 u41 u42 u43 u44 u45 u46 u47 u48 u49 u50 u51 u52 u53 u54 u55 u56 u57 u58 u59 u60 u61 u62 u63 u64 u65 u66 u67 u68 u69 u70 u71 u72 u73 u74 u75 u76 u77 u78 u79 u80 u81 u82 u83 u84 u85 u86 u87 u88 u89 u90 u91 u92 u93 u94 u95 u96 u97 u98 u99 u100 u101 u102 u103 u104 u105 u106 u107 u108 u109 u110 u111 u112 u113 u114 u115 u116 u117 u118 u119 u120 u121 : Value} (k f : Nat) (t : Tk) (sa : Option Addr) (cap : Nat) (acc : List Tk) (h4 : v4 = .slice sa acc.length cap) (h6 : v6 = .int .i64 f) (h7 : v7 = .int .i64 k) (lk : Lk w wr t sa cap acc) (st : St s R l k f acc t) : Jx s w R l { tmps := #[.string s, undef, .slice none 0 0, .bool false, v4, .pointer (some ⟨w.heap.size, 0, none⟩), v6, v7, u8, u9, u10, u11, u12, u13, u14, u15, u16, u17, u18, u19, u20, u21, u22, u23, u24, u25, u26, u27, u28, u29, u30, u31, u32, u33, u34, u35, u36, u37, u38, u39, u40, u41, u42, u43, u44, u45, u46, u47, u48, u49, u50, u51, u52, u53, u54, u55, u56, u57, u58, u59, u60, u61, u62, u63, u64, u65, u66, u67, u68, u69, u70, u71, u72, u73, u74, u75, u76, u77, u78, u79, u80, u81, u82, u83, u84, u85, u86, u87, u88, u89, u90, u91, u92, u93, u94, u95, u96, u97, u98, u99, u100, u101, u102, u103, u104, u105, u106, u107, u108, u109, u110, u111, u112, u113, u114, u115, u116, u117, u118, u119, u120, u121], defers := [] } wr := by
  subst h4 h6 h7
  exact ⟨fun i => (#[u8, u9, u10, u11, u12, u13, u14, u15, u16, u17, u18, u19, u20, u21, u22, u23, u24, u25, u26, u27, u28, u29, u30, u31, u32, u33, u34, u35, u36, u37, u38, u39, u40, u41, u42, u43, u44, u45, u46, u47, u48, u49, u50, u51, u52, u53, u54, u55, u56, u57, u58, u59, u60, u61, u62, u63, u64, u65, u66, u67, u68, u69, u70, u71, u72, u73, u74, u75, u76, u77, u78, u79, u80, u81, u82, u83, u84, u85, u86, u87, u88, u89, u90, u91, u92, u93, u94, u95, u96, u97, u98, u99, u100, u101, u102, u103, u104, u105, u106, u107, u108, u109, u110, u111, u112, u113, u114, u115, u116, u117, u118, u119, u120, u121] : Array Value).getD (i - 8) undef, k, f, t, sa, cap, acc, rfl, lk, st⟩
theorem jx_out {s : ByteArray} {w : World} {R : List Tk × Bool} {l : Nat} {X : Act → World → Prop} (h : ∀ (u : Nat → Value) (k f : Nat) (t : Tk) (sa : Option Addr) (cap : Nat) (acc : List Tk) (wr : World), Lk w wr t sa cap acc → St s R l k f acc t → X (fx s w (.slice sa acc.length cap) (.int .i64 f) (.int .i64 k) u) wr) : ∀ a' wr, Jx s w R l a' wr → X a' wr := by
  rintro a' wr ⟨u, k, f, t, sa, cap, acc, rfl, lk, st⟩
  exact h u k f t sa cap acc wr lk st
def rk (l : Nat) : Nat := if l = 0 then 0 else if l = 4 then 1 else 2
def Mx (s : ByteArray) (l : Nat) (a : Act) (w : World) : Nat := 5 * (s.size - (intOf (a.tmps.getD 7 undef)).toNat) + rk l
set_option maxHeartbeats 8000000 in
theorem lexI_any (s : ByteArray) (w : World) (hz : s.size ≤ 1048576) (he : Env w) : Calls Tryz.prog 11 #[.string s] w fun e w' => ∃ v, e = .returned (.tuple #[v, .bool (lexR s 0 []).2]) ∧ OwnT w' w.heap.size v (lexR s 0 []).1 ∧ Below w.heap.size w w' := by
  obtain ⟨i0, hi, hz0, hz1, hz2⟩ := info_parts infoT
  obtain ⟨R, hR⟩ : ∃ R, lexR s 0 [] = R := ⟨_, rfl⟩
  have HR := hide hR
  rw [hR]
  clear hR
  have hl := size_len s
  have EV := hide (fun wr (h : Below w.heap.size w wr) => he.later h)
  clear he
  have L0 := hide (lk_new w)
  unfold Tk.cs at L0
  go_enter Tryz.func11, Tryz.ntmps11
  go_wp2
  refine wp_scope_many 4 (Jx s w R) (Mx s) ?z ?p ?f
  case f =>
    intro fall
    go_wp2
    go_step3
    rename_i K hK
    refine hK _ _ (fall 0 _ _ _ rfl ?_)
    exact jx_in 0 0 _ none 0 [] rfl rfl rfl (unhide L0) (St.to0 (Nat.zero_le _) (unhide HR))
  case z =>
    clear L0 HR
    refine jx_out ?_
    intro u k f t sa cap acc wr lk st
    unfold fx
    obtain ⟨pd, hfk, hks, rfl, rfl⟩ := st.at4
    refine ⟨_, rfl, ?_⟩
    have LK := hide lk
    have SAME := hide (oneT_same badI badS badI_ok badS_ok s f)
    have EB := hide (fun h => (lexR_bad pd.lt pd.semi pd.bl h).symm.trans pd.rest)
    have EN := hide (fun h3 h4 => (lexR_next pd.lt pd.semi pd.bl h3 h4).symm.trans pd.rest)
    have XS := hide (show (oneT badI s f).s.size ≤ 1099511627776 by
      unfold oneT
      have hx := extract_size s f (oneE s f)
      split
      · unfold wordT; split <;> (show (s.extract f (oneE s f)).size ≤ _; omega)
      · split
        · unfold numT
          split
          · show (0 : Nat) ≤ _; omega
          · show (0 : Nat) ≤ _; omega
        · split <;> (show (s.extract f (oneE s f)).size ≤ _; omega))
    have TV := hide (tokI_any (oneT badI s f) wr (unhide XS) (unhide EV wr lk.bel).tab)
    have CL := hide (fun W => cloneI_any (oneT badI s f).s W (unhide XS))
    have h8 := lk.n8
    rw [← (unhide SAME).1] at EB EN
    have TE := hide (unhide SAME).2
    rw [← (unhide SAME).1] at TE
    generalize oneE s f = k at *
    generalize oneT badS s f = TS at *
    generalize oneT badI s f = T at *
    generalize T.ok = q at *
    have CE := hide lk.cells
    obtain ⟨tk, tn, tx⟩ := T
    unfold Tk.v Tk.cs at TV
    simp only at TV CE CL
    obtain ⟨c0, c1, c2⟩ := unhide CE
    clear lk st pd XS SAME CE
    go_wp2_with fail
    refine (unhide TV).mono ?_
    rintro e w1 ⟨rfl, hb1⟩
    have LK1 := hide ((unhide LK).later hb1)
    have hs1 := (unhide LK1).lt
    clear hb1 LK TV c0 c1 c2
    cases q
    · have E1 := hide (unhide EB (.inl rfl))
      have B1 := hide (unhide LK1).bel
      clear EB EN TE CL
      go_wp2
      simp only [jumps]
      go_ret2
      exact ⟨_, by rw [← unhide E1]; rfl, by rw [← unhide E1]; exact ownT_none _ _, unhide B1⟩
    · by_cases h800 : acc.length = 800
      · have E1 := hide (unhide EB (.inr h800))
        have B1 := hide (unhide LK1).bel
        have h8e : ((acc.length : Int) == 800) = true := by simp [h800]
        clear EB EN TE CL h800
        go_wp2
        simp only [jumps]
        go_ret2
        exact ⟨_, by rw [← unhide E1]; rfl, by rw [← unhide E1]; exact ownT_none _ _, unhide B1⟩
      · have E1 := hide (unhide EN rfl h800)
        rw [← unhide TE rfl] at E1
        have h8e : ((acc.length : Int) == 800) = false := beq_eq_false_iff_ne.2 (by omega)
        have h8l : acc.length < 800 := by omega
        obtain ⟨c0, c1, c2⟩ := (unhide LK1).cells
        simp only at c0 c1 c2
        clear EB EN TE
        go_wp2_with fail
        refine (unhide CL _).mono ?_
        rintro e w2 ⟨rfl, hb2⟩
        have LK2 := hide ((unhide LK1).later hb2)
        clear c0 c1 c2
        obtain ⟨c0, c1, c2⟩ := (unhide LK2).cells
        simp only at c0 c1 c2
        have f2 := (unhide LK2).frz 2
        have LK3 := hide (unhide LK2).set2
        have hs3 := (unhide LK3).lt
        have OW3 := hide (unhide LK3).own
        have K1 := hide (cell_new (w2.setCell ⟨w.heap.size, 2, none⟩ (.string tx)) #[.int .i64 tk, .int .i64 tn, .string tx] 62)
        rw [show (w2.setCell ⟨w.heap.size, 2, none⟩ (.string tx)).heap.size = w2.heap.size by simp] at K1
        simp only at LK3 OW3 hs3
        clear hb2 LK1 LK2 CL
        go_wp2_with (at_builtin; go_must (refine wpList_append_own _ rfl (.tmp 118) (.tmp 120) 32 rfl (w.heap.size + 1) 62 i0 (.agg #[.int .i64 0, .int .i64 0, .string ⟨#[]⟩]) 3 32 Tryz.underlying32 hi hz0 hz1 hz2 rfl (by decide) (.slice sa acc.length cap) acc.length (cellsT acc) rfl (World.ownsRow.alloc (unhide OW3) _) ⟨w2.heap.size, 0, none⟩ 1 1 [.int .i64 tk, .int .i64 tn, .string tx] rfl rfl (unhide K1) (newT_one _ _ _) (by unfold maxLen; omega) (by omega) (by simp at hs3 ⊢; omega) ?_; intro v5 w5 hown5 hgrow5 _; have OW5 := hide (ownT_app (t := ⟨tk, tn, tx⟩) hown5); obtain ⟨a5, c5, hv5, _⟩ := (unhide OW5).rd; subst hv5; have LK5 := hide ((unhide LK3).app hgrow5 (unhide OW5) h8l); clear hown5 hgrow5))
        go_step3
        refine ⟨jx_in (k) (f) (⟨tk, tn, tx⟩) a5 c5 (acc ++ [Tk.mk tk tn tx]) (by first | rfl | (rw [List.length_append]; rfl)) (by first | rfl | go_num) (by first | rfl | go_num) (unhide LK5) (St.to0 hks (unhide E1)), ?_⟩
        (simp [Mx, rk, intOf, Act.put]) <;> omega
  case p =>
    clear L0 HR
    intro fall l a' wr hl4 hJ
    have FALL := hide fall
    clear fall
    have hl0 : l = 0 ∨ l = 1 ∨ l = 2 ∨ l = 3 := by
      obtain ⟨_, _, _, _, _, _, _, _, _, st⟩ := hJ
      exact st.low hl4
    clear hl4
    rcases hl0 with rfl | rfl | rfl | rfl <;> revert a' wr
    · refine jx_out ?_
      intro u k f t sa cap acc wr lk st
      unfold fx
      obtain ⟨hk, hr⟩ := st.at0
      refine ⟨_, rfl, ?_⟩
      have LK := hide lk
      have BX := hide lk.box
      clear lk st
      by_cases hlt : k < s.size
      · have he := sAt s k hlt
        have hbd := bAt_bd s.data.toList k
        have hkne : ((k : Int) == (s.size : Int)) = false := beq_eq_false_iff_ne.2 (by omega)
        by_cases h59 : bAt s.data.toList k = 59
        · have E := hide ((lexR_semi hlt h59).symm.trans hr)
          rw [h59] at he
          clear hr h59 hbd
          go_wp2
          simp only [jumps]
          go_ret2
          exact ⟨_, by rw [← unhide E]; rfl, by rw [← unhide E]; exact (unhide LK).own.base (by omega), (unhide LK).bel⟩
        · cases hbl : blB (bAt s.data.toList k)
          · have PD := hide (Pend.mk hlt h59 hbl hr)
            have h59b : (bAt s.data.toList k == 59) = false := beq_eq_false_iff_ne.2 h59
            clear hr
            cases h1 : smB (bAt s.data.toList k)
            · cases h2 : dgB (bAt s.data.toList k)
              · by_cases h46 : bAt s.data.toList k = 46
                · by_cases hk1 : k + 1 < s.size
                  · have he1 := sAt s (k + 1) hk1
                    have hbd1 := bAt_bd s.data.toList (k + 1)
                    cases h3 : smB (bAt s.data.toList (k + 1))
                    · obtain ⟨e1, e2⟩ := one_mk badI h1 h2 (fun _ _ => h3)
                      have S4 := hide (St.to4 (t := ⟨4, 0, s.extract k (k + 1)⟩) ⟨unhide PD, by omega, by omega, e1.symm, e2.symm⟩)
                      have MK := hide (fun W => markI_any (s.extract k (k + 1)) W)
                      unfold Tk.v Tk.cs at MK
                      simp only at MK
                      clear e1 e2
                      rw [h46] at he h1 h2 h59b hbl
                      generalize bAt s.data.toList (k + 1) = c1 at *
                      clear h46 hbd h59
                      go_wp2_with (first | (go_at_call 34; refine (blank_any _ _).mono ?_; rintro e w' ⟨rfl, hw'⟩; rw [hw']; clear hw' w') | (go_at_call 35; refine (smI_any _ _).mono ?_; rintro e w' ⟨rfl, hw'⟩; rw [hw']; clear hw' w') | (go_at_call 36; refine (dgI_any _ _).mono ?_; rintro e w' ⟨rfl, hw'⟩; rw [hw']; clear hw' w'))
                      refine (unhide MK _).mono ?_
                      rintro e w1 ⟨rfl, hb1⟩
                      have LK1 := hide ((unhide LK).later hb1)
                      have BX1 := hide (unhide LK1).box
                      have LK4 := hide ((unhide LK1).put ⟨4, 0, s.extract k (k + 1)⟩)
                      clear hb1 LK1 MK
                      go_wp2_with (first | (refine wpList_store_row rfl 62 _ _ rfl w.heap.size #[.int .i64 4, .int .i64 0, .string (s.extract k (k + 1))] rfl rfl 62 _ (unhide BX1) szK rfl (tk_one _ _ _) ?_))
                      go_step3
                      refine ⟨jx_in (k + 1) (k) (⟨4, 0, s.extract k (k + 1)⟩) sa cap (acc) (by first | rfl | (rw [List.length_append]; rfl)) (by first | rfl | go_num) (by first | rfl | go_num) (unhide LK4) (unhide S4), ?_⟩
                      (simp [Mx, rk, intOf, Act.put]) <;> omega
                    · obtain ⟨e1, e2⟩ := one_dot badI h1 h2 h46 hk1 h3
                      have S3 := hide (St.to3 (t := t) ⟨unhide PD, by omega, by omega, e1.symm, e2⟩)
                      rw [h46] at he h1 h2 h59b hbl
                      generalize bAt s.data.toList (k + 1) = c1 at *
                      clear h46 hbd h59 e1 e2
                      go_wp2_with (first | (go_at_call 34; refine (blank_any _ _).mono ?_; rintro e w' ⟨rfl, hw'⟩; rw [hw']; clear hw' w') | (go_at_call 35; refine (smI_any _ _).mono ?_; rintro e w' ⟨rfl, hw'⟩; rw [hw']; clear hw' w') | (go_at_call 36; refine (dgI_any _ _).mono ?_; rintro e w' ⟨rfl, hw'⟩; rw [hw']; clear hw' w'))
                      go_step3
                      refine ⟨jx_in (k + 1) (k) (t) sa cap (acc) (by first | rfl | (rw [List.length_append]; rfl)) (by first | rfl | go_num) (by first | rfl | go_num) (unhide LK) (unhide S3), ?_⟩
                      (simp [Mx, rk, intOf, Act.put]) <;> omega
                  · have hk1d : decide ((k : Int) + 1 < (s.size : Int)) = false := by simp; omega
                    obtain ⟨e1, e2⟩ := one_mk badI h1 h2 (fun _ h => absurd h hk1)
                    have S4 := hide (St.to4 (t := ⟨4, 0, s.extract k (k + 1)⟩) ⟨unhide PD, by omega, by omega, e1.symm, e2.symm⟩)
                    have MK := hide (fun W => markI_any (s.extract k (k + 1)) W)
                    unfold Tk.v Tk.cs at MK
                    simp only at MK
                    clear e1 e2
                    rw [h46] at he h1 h2 h59b hbl
                    clear h46 hbd h59
                    go_wp2_with (first | (go_at_call 34; refine (blank_any _ _).mono ?_; rintro e w' ⟨rfl, hw'⟩; rw [hw']; clear hw' w') | (go_at_call 35; refine (smI_any _ _).mono ?_; rintro e w' ⟨rfl, hw'⟩; rw [hw']; clear hw' w') | (go_at_call 36; refine (dgI_any _ _).mono ?_; rintro e w' ⟨rfl, hw'⟩; rw [hw']; clear hw' w'))
                    refine (unhide MK _).mono ?_
                    rintro e w1 ⟨rfl, hb1⟩
                    have LK1 := hide ((unhide LK).later hb1)
                    have BX1 := hide (unhide LK1).box
                    have LK4 := hide ((unhide LK1).put ⟨4, 0, s.extract k (k + 1)⟩)
                    clear hb1 LK1 MK
                    go_wp2_with (first | (refine wpList_store_row rfl 62 _ _ rfl w.heap.size #[.int .i64 4, .int .i64 0, .string (s.extract k (k + 1))] rfl rfl 62 _ (unhide BX1) szK rfl (tk_one _ _ _) ?_))
                    go_step3
                    refine ⟨jx_in (k + 1) (k) (⟨4, 0, s.extract k (k + 1)⟩) sa cap (acc) (by first | rfl | (rw [List.length_append]; rfl)) (by first | rfl | go_num) (by first | rfl | go_num) (unhide LK4) (unhide S4), ?_⟩
                    (simp [Mx, rk, intOf, Act.put]) <;> omega
                · have h46b : (bAt s.data.toList k == 46) = false := beq_eq_false_iff_ne.2 h46
                  obtain ⟨e1, e2⟩ := one_mk badI h1 h2 (fun h => absurd h h46)
                  have S4 := hide (St.to4 (t := ⟨4, 0, s.extract k (k + 1)⟩) ⟨unhide PD, by omega, by omega, e1.symm, e2.symm⟩)
                  have MK := hide (fun W => markI_any (s.extract k (k + 1)) W)
                  unfold Tk.v Tk.cs at MK
                  simp only at MK
                  clear e1 e2
                  generalize bAt s.data.toList k = c at *
                  clear h59 h46
                  go_wp2_with (first | (go_at_call 34; refine (blank_any _ _).mono ?_; rintro e w' ⟨rfl, hw'⟩; rw [hw']; clear hw' w') | (go_at_call 35; refine (smI_any _ _).mono ?_; rintro e w' ⟨rfl, hw'⟩; rw [hw']; clear hw' w') | (go_at_call 36; refine (dgI_any _ _).mono ?_; rintro e w' ⟨rfl, hw'⟩; rw [hw']; clear hw' w'))
                  refine (unhide MK _).mono ?_
                  rintro e w1 ⟨rfl, hb1⟩
                  have LK1 := hide ((unhide LK).later hb1)
                  have BX1 := hide (unhide LK1).box
                  have LK4 := hide ((unhide LK1).put ⟨4, 0, s.extract k (k + 1)⟩)
                  clear hb1 LK1 MK
                  go_wp2_with (first | (refine wpList_store_row rfl 62 _ _ rfl w.heap.size #[.int .i64 4, .int .i64 0, .string (s.extract k (k + 1))] rfl rfl 62 _ (unhide BX1) szK rfl (tk_one _ _ _) ?_))
                  go_step3
                  refine ⟨jx_in (k + 1) (k) (⟨4, 0, s.extract k (k + 1)⟩) sa cap (acc) (by first | rfl | (rw [List.length_append]; rfl)) (by first | rfl | go_num) (by first | rfl | go_num) (unhide LK4) (unhide S4), ?_⟩
                  (simp [Mx, rk, intOf, Act.put]) <;> omega
              · obtain ⟨e1, e2⟩ := one_dg badI h1 h2
                have S2 := hide (St.to2 (t := t) ⟨unhide PD, by omega, by omega, (runN_yes (by omega) h2).symm.trans e1.symm, e2⟩)
                generalize bAt s.data.toList k = c at *
                clear h59 e1 e2
                go_wp2_with (first | (go_at_call 34; refine (blank_any _ _).mono ?_; rintro e w' ⟨rfl, hw'⟩; rw [hw']; clear hw' w') | (go_at_call 35; refine (smI_any _ _).mono ?_; rintro e w' ⟨rfl, hw'⟩; rw [hw']; clear hw' w') | (go_at_call 36; refine (dgI_any _ _).mono ?_; rintro e w' ⟨rfl, hw'⟩; rw [hw']; clear hw' w'))
                go_step3
                refine ⟨jx_in (k + 1) (k) (t) sa cap (acc) (by first | rfl | (rw [List.length_append]; rfl)) (by first | rfl | go_num) (by first | rfl | go_num) (unhide LK) (unhide S2), ?_⟩
                (simp [Mx, rk, intOf, Act.put]) <;> omega
            · obtain ⟨e1, e2⟩ := one_sm badI h1
              have S1 := hide (St.to1 (t := t) ⟨unhide PD, by omega, by omega, (runN_yes (by omega) (ld_of_sm h1)).symm.trans e1.symm, e2⟩)
              generalize bAt s.data.toList k = c at *
              clear h59 e1 e2
              go_wp2_with (first | (go_at_call 34; refine (blank_any _ _).mono ?_; rintro e w' ⟨rfl, hw'⟩; rw [hw']; clear hw' w') | (go_at_call 35; refine (smI_any _ _).mono ?_; rintro e w' ⟨rfl, hw'⟩; rw [hw']; clear hw' w') | (go_at_call 36; refine (dgI_any _ _).mono ?_; rintro e w' ⟨rfl, hw'⟩; rw [hw']; clear hw' w'))
              go_step3
              refine ⟨jx_in (k + 1) (k) (t) sa cap (acc) (by first | rfl | (rw [List.length_append]; rfl)) (by first | rfl | go_num) (by first | rfl | go_num) (unhide LK) (unhide S1), ?_⟩
              (simp [Mx, rk, intOf, Act.put]) <;> omega
          · have S0 := hide (St.to0 (f := k) (t := t) (show k + 1 ≤ s.size by omega) ((lexR_blank hlt h59 hbl).symm.trans hr))
            have h59b : (bAt s.data.toList k == 59) = false := beq_eq_false_iff_ne.2 h59
            generalize bAt s.data.toList k = c at *
            clear hr h59
            go_wp2_with (first | (go_at_call 34; refine (blank_any _ _).mono ?_; rintro e w' ⟨rfl, hw'⟩; rw [hw']; clear hw' w') | (go_at_call 35; refine (smI_any _ _).mono ?_; rintro e w' ⟨rfl, hw'⟩; rw [hw']; clear hw' w') | (go_at_call 36; refine (dgI_any _ _).mono ?_; rintro e w' ⟨rfl, hw'⟩; rw [hw']; clear hw' w'))
            go_step3
            refine ⟨jx_in (k + 1) (k) (t) sa cap (acc) (by first | rfl | (rw [List.length_append]; rfl)) (by first | rfl | go_num) (by first | rfl | go_num) (unhide LK) (unhide S0), ?_⟩
            (simp [Mx, rk, intOf, Act.put]) <;> omega
      · have E := hide ((lexR_end hlt).symm.trans hr)
        obtain rfl : k = s.size := by omega
        clear hr hlt
        go_wp2
        simp only [jumps]
        go_ret2
        exact ⟨_, by rw [← unhide E]; rfl, by rw [← unhide E]; exact (unhide LK).own.base (by omega), (unhide LK).bel⟩
    · refine jx_out ?_
      intro u k f t sa cap acc wr lk st
      unfold fx
      obtain ⟨pd, hfk, hks, hrun, hT⟩ := st.at1
      refine ⟨_, rfl, ?_⟩
      have LK := hide lk
      clear lk st
      by_cases hlt : k < s.size
      · have he := sAt s k hlt
        have hbd := bAt_bd s.data.toList k
        cases hq : ldB (bAt s.data.toList k)
        · have hke : k = oneE s f := (runN_no (by omega) hq).symm.trans hrun
          generalize bAt s.data.toList k = c at *
          have S4 := hide (fun T (hT : T = oneT badI s f) => St.to4 (t := T) ⟨pd, hfk, hks, hke, hT⟩)
          rw [← hke] at hT
          have WO := hide (wordI_any (s.extract f k) wr (unhide EV wr (unhide LK).bel).tab)
          rw [← hT] at WO
          generalize oneT badI s f = T at *
          have S5 := hide (unhide S4 T rfl)
          obtain ⟨tk, tn, tx⟩ := T
          unfold Tk.v Tk.cs at WO
          simp only at WO
          clear S4 hT hke pd hrun
          go_wp2_with (first | (go_at_call 38; refine (ldI_any _ _).mono ?_; rintro e w' ⟨rfl, hw'⟩; rw [hw']; clear hw' w'))
          refine (unhide WO).mono ?_
          rintro e w1 ⟨rfl, hb1⟩
          have LK1 := hide ((unhide LK).later hb1)
          have BX1 := hide (unhide LK1).box
          have LK4 := hide ((unhide LK1).put ⟨tk, tn, tx⟩)
          clear hb1 LK1 WO
          go_wp2_with (first | (refine wpList_store_row rfl 62 _ _ rfl w.heap.size #[.int .i64 tk, .int .i64 tn, .string tx] rfl rfl 62 _ (unhide BX1) szK rfl (tk_one _ _ _) ?_))
          go_step3
          refine ⟨jx_in (k) (f) (⟨tk, tn, tx⟩) sa cap (acc) (by first | rfl | (rw [List.length_append]; rfl)) (by first | rfl | go_num) (by first | rfl | go_num) (unhide LK4) (unhide S5), ?_⟩
          (simp [Mx, rk, intOf, Act.put]) <;> omega
        · have SS := hide (St.to1 (t := t) ⟨pd, show f < k + 1 by omega, by omega, (runN_yes (by omega) hq).symm.trans hrun, hT⟩)
          generalize bAt s.data.toList k = c at *
          clear pd hrun hT
          go_wp2_with (first | (go_at_call 38; refine (ldI_any _ _).mono ?_; rintro e w' ⟨rfl, hw'⟩; rw [hw']; clear hw' w'))
          go_step3
          refine ⟨jx_in (k + 1) (f) (t) sa cap (acc) (by first | rfl | (rw [List.length_append]; rfl)) (by first | rfl | go_num) (by first | rfl | go_num) (unhide LK) (unhide SS), ?_⟩
          (simp [Mx, rk, intOf, Act.put]) <;> omega
      · have hke : k = oneE s f := (runN_end (by omega)).symm.trans hrun
        have S4 := hide (fun T (hT : T = oneT badI s f) => St.to4 (t := T) ⟨pd, hfk, hks, hke, hT⟩)
        rw [← hke] at hT
        have WO := hide (wordI_any (s.extract f k) wr (unhide EV wr (unhide LK).bel).tab)
        rw [← hT] at WO
        generalize oneT badI s f = T at *
        have S5 := hide (unhide S4 T rfl)
        obtain ⟨tk, tn, tx⟩ := T
        unfold Tk.v Tk.cs at WO
        simp only at WO
        clear S4 hT hke pd hrun
        go_wp2_with fail
        refine (unhide WO).mono ?_
        rintro e w1 ⟨rfl, hb1⟩
        have LK1 := hide ((unhide LK).later hb1)
        have BX1 := hide (unhide LK1).box
        have LK4 := hide ((unhide LK1).put ⟨tk, tn, tx⟩)
        clear hb1 LK1 WO
        go_wp2_with (first | (refine wpList_store_row rfl 62 _ _ rfl w.heap.size #[.int .i64 tk, .int .i64 tn, .string tx] rfl rfl 62 _ (unhide BX1) szK rfl (tk_one _ _ _) ?_))
        go_step3
        refine ⟨jx_in (k) (f) (⟨tk, tn, tx⟩) sa cap (acc) (by first | rfl | (rw [List.length_append]; rfl)) (by first | rfl | go_num) (by first | rfl | go_num) (unhide LK4) (unhide S5), ?_⟩
        (simp [Mx, rk, intOf, Act.put]) <;> omega
    · refine jx_out ?_
      intro u k f t sa cap acc wr lk st
      unfold fx
      obtain ⟨pd, hfk, hks, hrun, hT⟩ := st.at2
      refine ⟨_, rfl, ?_⟩
      have LK := hide lk
      clear lk st
      by_cases hlt : k < s.size
      · have he := sAt s k hlt
        have hbd := bAt_bd s.data.toList k
        cases hq : dgB (bAt s.data.toList k)
        · have hke : k = oneE s f := (runN_no (by omega) hq).symm.trans hrun
          generalize bAt s.data.toList k = c at *
          have S4 := hide (fun T (hT : T = oneT badI s f) => St.to4 (t := T) ⟨pd, hfk, hks, hke, hT⟩)
          rw [← hke] at hT
          have WO := hide (numI_any (s.extract f k) wr (by have := extract_size s f k; omega) (unhide EV wr (unhide LK).bel))
          rw [← hT] at WO
          generalize oneT badI s f = T at *
          have S5 := hide (unhide S4 T rfl)
          obtain ⟨tk, tn, tx⟩ := T
          unfold Tk.v Tk.cs at WO
          simp only at WO
          clear S4 hT hke pd hrun
          go_wp2_with (first | (go_at_call 36; refine (dgI_any _ _).mono ?_; rintro e w' ⟨rfl, hw'⟩; rw [hw']; clear hw' w'))
          refine (unhide WO).mono ?_
          rintro e w1 ⟨rfl, hb1⟩
          have LK1 := hide ((unhide LK).later hb1)
          have BX1 := hide (unhide LK1).box
          have LK4 := hide ((unhide LK1).put ⟨tk, tn, tx⟩)
          clear hb1 LK1 WO
          go_wp2_with (first | (refine wpList_store_row rfl 62 _ _ rfl w.heap.size #[.int .i64 tk, .int .i64 tn, .string tx] rfl rfl 62 _ (unhide BX1) szK rfl (tk_one _ _ _) ?_))
          go_step3
          refine ⟨jx_in (k) (f) (⟨tk, tn, tx⟩) sa cap (acc) (by first | rfl | (rw [List.length_append]; rfl)) (by first | rfl | go_num) (by first | rfl | go_num) (unhide LK4) (unhide S5), ?_⟩
          (simp [Mx, rk, intOf, Act.put]) <;> omega
        · have SS := hide (St.to2 (t := t) ⟨pd, show f < k + 1 by omega, by omega, (runN_yes (by omega) hq).symm.trans hrun, hT⟩)
          generalize bAt s.data.toList k = c at *
          clear pd hrun hT
          go_wp2_with (first | (go_at_call 36; refine (dgI_any _ _).mono ?_; rintro e w' ⟨rfl, hw'⟩; rw [hw']; clear hw' w'))
          go_step3
          refine ⟨jx_in (k + 1) (f) (t) sa cap (acc) (by first | rfl | (rw [List.length_append]; rfl)) (by first | rfl | go_num) (by first | rfl | go_num) (unhide LK) (unhide SS), ?_⟩
          (simp [Mx, rk, intOf, Act.put]) <;> omega
      · have hke : k = oneE s f := (runN_end (by omega)).symm.trans hrun
        have S4 := hide (fun T (hT : T = oneT badI s f) => St.to4 (t := T) ⟨pd, hfk, hks, hke, hT⟩)
        rw [← hke] at hT
        have WO := hide (numI_any (s.extract f k) wr (by have := extract_size s f k; omega) (unhide EV wr (unhide LK).bel))
        rw [← hT] at WO
        generalize oneT badI s f = T at *
        have S5 := hide (unhide S4 T rfl)
        obtain ⟨tk, tn, tx⟩ := T
        unfold Tk.v Tk.cs at WO
        simp only at WO
        clear S4 hT hke pd hrun
        go_wp2_with fail
        refine (unhide WO).mono ?_
        rintro e w1 ⟨rfl, hb1⟩
        have LK1 := hide ((unhide LK).later hb1)
        have BX1 := hide (unhide LK1).box
        have LK4 := hide ((unhide LK1).put ⟨tk, tn, tx⟩)
        clear hb1 LK1 WO
        go_wp2_with (first | (refine wpList_store_row rfl 62 _ _ rfl w.heap.size #[.int .i64 tk, .int .i64 tn, .string tx] rfl rfl 62 _ (unhide BX1) szK rfl (tk_one _ _ _) ?_))
        go_step3
        refine ⟨jx_in (k) (f) (⟨tk, tn, tx⟩) sa cap (acc) (by first | rfl | (rw [List.length_append]; rfl)) (by first | rfl | go_num) (by first | rfl | go_num) (unhide LK4) (unhide S5), ?_⟩
        (simp [Mx, rk, intOf, Act.put]) <;> omega
    · refine jx_out ?_
      intro u k f t sa cap acc wr lk st
      unfold fx
      obtain ⟨pd, hfk, hks, hrun, hT⟩ := st.at3
      refine ⟨_, rfl, ?_⟩
      have LK := hide lk
      have BX := hide lk.box
      clear lk st
      by_cases hlt : k < s.size
      · have he := sAt s k hlt
        have hbd := bAt_bd s.data.toList k
        cases hq : ldB (bAt s.data.toList k)
        · have hke : k = oneE s f := (runN_no (by omega) hq).symm.trans hrun
          generalize bAt s.data.toList k = c at *
          rw [← hke] at hT
          have S5 := hide (St.to4 (t := ⟨3, 0, s.extract f k⟩) ⟨pd, hfk, hks, hke, hT.symm⟩)
          have LK4 := hide ((unhide LK).put ⟨3, 0, s.extract f k⟩)
          clear hT hke pd hrun
          go_wp2_with (first | (go_at_call 38; refine (ldI_any _ _).mono ?_; rintro e w' ⟨rfl, hw'⟩; rw [hw']; clear hw' w') | (refine wpList_store_row rfl 62 _ _ rfl w.heap.size #[.int .i64 3, .int .i64 0, .string (s.extract f k)] rfl rfl 62 _ (unhide BX) szK rfl (tk_one _ _ _) ?_))
          go_step3
          rename_i K hK
          refine hK _ _ (unhide FALL _ _ _ _ rfl (jx_in k f ⟨3, 0, s.extract f k⟩ sa cap acc rfl rfl rfl (unhide LK4) (unhide S5)) ?_)
          (simp [Mx, rk, intOf, Act.put]) <;> omega
        · have SS := hide (St.to3 (t := t) ⟨pd, show f < k + 1 by omega, by omega, (runN_yes (by omega) hq).symm.trans hrun, hT⟩)
          generalize bAt s.data.toList k = c at *
          clear pd hrun hT
          go_wp2_with (first | (go_at_call 38; refine (ldI_any _ _).mono ?_; rintro e w' ⟨rfl, hw'⟩; rw [hw']; clear hw' w'))
          go_step3
          refine ⟨jx_in (k + 1) (f) (t) sa cap (acc) (by first | rfl | (rw [List.length_append]; rfl)) (by first | rfl | go_num) (by first | rfl | go_num) (unhide LK) (unhide SS), ?_⟩
          (simp [Mx, rk, intOf, Act.put]) <;> omega
      · have hke : k = oneE s f := (runN_end (by omega)).symm.trans hrun
        rw [← hke] at hT
        have S5 := hide (St.to4 (t := ⟨3, 0, s.extract f k⟩) ⟨pd, hfk, hks, hke, hT.symm⟩)
        have LK4 := hide ((unhide LK).put ⟨3, 0, s.extract f k⟩)
        clear hT hke pd hrun
        go_wp2_with (first | (refine wpList_store_row rfl 62 _ _ rfl w.heap.size #[.int .i64 3, .int .i64 0, .string (s.extract f k)] rfl rfl 62 _ (unhide BX) szK rfl (tk_one _ _ _) ?_))
        go_step3
        rename_i K hK
        refine hK _ _ (unhide FALL _ _ _ _ rfl (jx_in k f ⟨3, 0, s.extract f k⟩ sa cap acc rfl rfl rfl (unhide LK4) (unhide S5)) ?_)
        (simp [Mx, rk, intOf, Act.put]) <;> omega
end Go.Proofs.YthgbpofcfmnpdaaGreatDoor
