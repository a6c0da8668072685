/- Contracts over this seat's translation, laid together; conditions stand as hypotheses of each. -/
import Derived.Test.YtmhcbehplhfgfaaGreatDoorTxA
import Derived.Test.YtmhcbehplhfgfaaGreatDoorTxB
import Derived.Test.YtmhcbehplhfgfaaGreatDoorTxE

namespace Go.Proofs.YtmhcbehplhfgfaaGreatDoor
open Go.ChangeShapes Go.WideShapes Go.ChangeAt Go.RowKit
set_option linter.unusedVariables false
set_option maxRecDepth 8000
set_option linter.unusedSimpArgs false
set_option maxHeartbeats 1000000 in
theorem markS_ex (x : ByteArray) (w : World) : Calls Tryz.prog 31 #[.string x] w fun e w' => e = .returned (Tk.v ⟨4, 0, x⟩) ∧ Below w.heap.size w w' := by
  have B0 := hide (below_new w (.cells T0c 59))
  have R0 := hide (heap_alloc_new w (.cells T0c 59))
  unfold T0c at B0 R0
  unfold Tk.v Tk.cs
  simp only
  go_enter Tryz.func31, Tryz.ntmps31
  go_wp2_with (first | (refine wpList_store_row rfl 59 _ _ rfl w.heap.size #[.int .i64 4, .int .i64 0, .string x] rfl rfl 59 _ (unhide R0) szK rfl (tk_one _ _ _) ?_))
  refine bodyPost_ret (results_cell_row (P := Tryz.prog) rfl _ _ w.heap.size 59 #[.int .i64 4, .int .i64 0, .string x] (0, 0) _ rfl (setRow_heap _ _ _ _ _ _ (unhide R0)) Tryz.underlying59 rfl szK) rfl ?_
  exact ⟨rfl, below_row (unhide B0)⟩
set_option maxHeartbeats 1000000 in
theorem signS_any (k : Int) (hk : 5 ≤ k ∧ k ≤ 10) (w : World) : Calls Tryz.prog 58 #[.int .i64 k] w fun e w' => e = .returned (.string (mkS (sgnC k))) ∧ w' = w := by
  have : k = 5 ∨ k = 6 ∨ k = 7 ∨ k = 8 ∨ k = 9 ∨ k = 10 := by omega
  rcases this with rfl | rfl | rfl | rfl | rfl | rfl <;> (go_enter Tryz.func58, Tryz.ntmps58; go_wp2; go_ret; exact ⟨rfl, rfl⟩)
/-- Where tokens that are owned lie. -/
theorem OwnT.src {w : World} {B : Nat} {v : Value} {ts : List Tk} (h : OwnT w B v ts) (hts : ts ≠ []) : ∃ g c, v = .slice (some ⟨g, 0, none⟩) ts.length c ∧ ∀ j u, (cellsT ts)[j]? = some u → w.cell? ((⟨g, 0, none⟩ : Addr).add j) = some u := by
  rcases h.form with ⟨rfl, rfl⟩ | ⟨g, c, rfl, _⟩
  · exact absurd rfl hts
  · refine ⟨g, c, rfl, fun j u hu => ?_⟩
    have hj : j < ts.length * 3 := by rw [← cellsT_len]; exact (List.getElem?_eq_some_iff.1 hu).1
    have := (World.ownsRow.cellAt h j hj).trans hu
    unfold Addr.add
    by_cases h0 : j = 0
    · subst h0; simpa using this
    · simpa [h0] using this
theorem ownT_join {w' : World} {B : Nat} {v : Value} {ts us : List Tk} (h : w'.ownsRow B 59 3 v (ts.length + us.length) (cellsT ts ++ cellsT us)) : OwnT w' B v (ts ++ us) := by
  unfold OwnT
  rw [List.length_append, cellsT_app]
  exact h
def ToksP (d : Nat) : Prop := ∀ (e : Ex) (b : Option Addr) (cap : Nat) (w : World), okF d true e = true → RdX w 0 e b → Calls Tryz.prog 32 #[.agg (e.cs b cap)] w fun r w' => ∃ v, r = .returned v ∧ OwnT w' w.heap.size v (toksF d e) ∧ Below w.heap.size w w'
theorem ownT_new (w : World) (t : Tk) (B : Nat) (hB : B ≤ w.heap.size) : OwnT (w.alloc (.cells t.cs 59)) B (.slice (some ⟨w.heap.size, 0, none⟩) 1 1) [t] :=
  ⟨rfl, .inr ⟨w.heap.size, 1, t.cs, rfl, hB, Array.getElem?_push_size, Nat.le_refl _, by unfold maxLen; omega, rfl, rfl⟩⟩
set_option maxHeartbeats 2000000 in
theorem toksS_num (n : Int) (s : ByteArray) (b : Option Addr) (cap : Nat) (w : World) : Calls Tryz.prog 32 #[.agg #[.int .i64 1, .int .i64 n, .string ⟨#[]⟩, .slice b 0 cap]] w fun r w' => ∃ v, r = .returned v ∧ OwnT w' w.heap.size v [⟨2, n, E0⟩] ∧ Below w.heap.size w w' := by
  have B0 := hide (below_new w (.cells #[.int .i64 1, .int .i64 n, .string ⟨#[]⟩, .slice b 0 cap] 33))
  have O1 := hide (ownT_new (w.alloc (.cells #[.int .i64 1, .int .i64 n, .string ⟨#[]⟩, .slice b 0 cap] 33)) ⟨2, n, E0⟩ w.heap.size (unhide B0).size)
  have B1 := hide ((unhide B0).alloc (unhide B0).size (.cells (Tk.cs ⟨2, n, E0⟩) 59))
  rw [show (w.alloc (.cells #[.int .i64 1, .int .i64 n, .string ⟨#[]⟩, .slice b 0 cap] 33)).heap.size = w.heap.size + 1 by simp] at O1
  unfold Tk.cs at O1 B1
  try unfold E0 at O1 B1
  try unfold E0
  simp only at O1 B1
  go_enter Tryz.func32, Tryz.ntmps32
  go_wp2
  go_ret
  exact ⟨_, rfl, unhide O1, unhide B1⟩
set_option maxHeartbeats 2000000 in
theorem toksS_sym (n : Int) (s : ByteArray) (b : Option Addr) (cap : Nat) (w : World) : Calls Tryz.prog 32 #[.agg #[.int .i64 2, .int .i64 0, .string s, .slice b 0 cap]] w fun r w' => ∃ v, r = .returned v ∧ OwnT w' w.heap.size v [⟨1, 0, s⟩] ∧ Below w.heap.size w w' := by
  have B0 := hide (below_new w (.cells #[.int .i64 2, .int .i64 0, .string s, .slice b 0 cap] 33))
  have O1 := hide (ownT_new (w.alloc (.cells #[.int .i64 2, .int .i64 0, .string s, .slice b 0 cap] 33)) ⟨1, 0, s⟩ w.heap.size (unhide B0).size)
  have B1 := hide ((unhide B0).alloc (unhide B0).size (.cells (Tk.cs ⟨1, 0, s⟩) 59))
  rw [show (w.alloc (.cells #[.int .i64 2, .int .i64 0, .string s, .slice b 0 cap] 33)).heap.size = w.heap.size + 1 by simp] at O1
  unfold Tk.cs at O1 B1
  try unfold E0 at O1 B1
  try unfold E0
  simp only at O1 B1
  go_enter Tryz.func32, Tryz.ntmps32
  go_wp2
  go_ret
  exact ⟨_, rfl, unhide O1, unhide B1⟩
set_option maxHeartbeats 2000000 in
theorem toksS_here (b : Option Addr) (cap : Nat) (w : World) : Calls Tryz.prog 32 #[.agg #[.int .i64 3, .int .i64 0, .string ⟨#[]⟩, .slice b 0 cap]] w fun r w' => ∃ v, r = .returned v ∧ OwnT w' w.heap.size v [mkT 46] ∧ Below w.heap.size w w' := by
  have B0 := hide (below_new w (.cells #[.int .i64 3, .int .i64 0, .string ⟨#[]⟩, .slice b 0 cap] 33))
  have MK := hide (markS_ex (mkS 46) (w.alloc (.cells #[.int .i64 3, .int .i64 0, .string ⟨#[]⟩, .slice b 0 cap] 33)))
  have ON := hide (fun w1 (h : w.heap.size ≤ w1.heap.size) => ownT_new w1 (mkT 46) w.heap.size h)
  unfold mkT mkS Tk.cs at ON
  unfold mkT
  unfold mkS Tk.v Tk.cs at MK
  unfold mkS
  simp only at ON MK
  go_enter Tryz.func32, Tryz.ntmps32
  go_wp2_with fail
  refine (unhide MK).mono ?_
  rintro r w1 ⟨rfl, hb1⟩
  have B1 := hide ((unhide B0).trans (hb1.mono (unhide B0).size))
  have O1 := hide (unhide ON w1 (unhide B1).size)
  clear hb1 MK ON
  go_wp2
  go_ret
  exact ⟨_, rfl, unhide O1, (unhide B1).alloc (unhide B1).size _⟩
set_option maxHeartbeats 4000000 in
theorem toksS_neg (c0 : Option Addr) (cp0 p po cap : Nat) (a : Ex) (ts : List Tk) (w : World) (hts : ts ≠ []) (h8 : ts.length ≤ 400) (hp : p < w.heap.size) (e0 : w.cell? ⟨p, po, none⟩ = some (.int .i64 a.k)) (e1 : w.cell? ⟨p, po + 1, none⟩ = some (.int .i64 a.n)) (e2 : w.cell? ⟨p, po + 2, none⟩ = some (.string a.s)) (e3 : w.cell? ⟨p, po + 3, none⟩ = some (.slice c0 a.l.length cp0)) (ih : ∀ w1, Below w.heap.size w w1 → Calls Tryz.prog 32 #[.agg (a.cs c0 cp0)] w1 fun r w' => ∃ v, r = .returned v ∧ OwnT w' w1.heap.size v ts ∧ Below w1.heap.size w1 w') : Calls Tryz.prog 32 #[.agg #[.int .i64 4, .int .i64 0, .string ⟨#[]⟩, .slice (some ⟨p, po, none⟩) 1 cap]] w fun r w' => ∃ v, r = .returned v ∧ OwnT w' w.heap.size v ([Tk.mk 4 0 ⟨#[45]⟩] ++ ts) ∧ Below w.heap.size w w' := by
  obtain ⟨W, hW⟩ : ∃ W, w.alloc (.cells #[.int .i64 4, .int .i64 0, .string ⟨#[]⟩, .slice (some ⟨p, po, none⟩) 1 cap] 33) = W := ⟨_, rfl⟩
  have B0 := hide (below_new w (.cells #[.int .i64 4, .int .i64 0, .string ⟨#[]⟩, .slice (some ⟨p, po, none⟩) 1 cap] 33))
  have hg : W.heap[w.heap.size]? = some (.cells #[.int .i64 4, .int .i64 0, .string ⟨#[]⟩, .slice (some ⟨p, po, none⟩) 1 cap] 33 (0, 0)) := by rw [← hW]; exact Array.getElem?_push_size
  rw [hW] at B0
  have x0 := Lib.cell_of_heap hg 0
  have xl : w.heap.size < W.heap.size := (Array.getElem?_eq_some_iff.1 hg).1
  have Y0 := hide (fun w1 (hb : Below W.heap.size W w1) => (hb.cell (p := ⟨w.heap.size, 0, none⟩) xl).trans (Lib.cell_of_heap hg 0))
  have Y3 := hide (fun w1 (hb : Below W.heap.size W w1) => (hb.cell (p := ⟨w.heap.size, 3, none⟩) xl).trans (Lib.cell_of_heap hg 3))
  have U0 := hide (fun w1 (hb : Below W.heap.size W w1) => (hb.cell (p := ⟨p, po, none⟩) (Nat.lt_trans hp xl)).trans (((unhide B0).cell (p := ⟨p, po, none⟩) hp).trans e0))
  have U1 := hide (fun w1 (hb : Below W.heap.size W w1) => (hb.cell (p := ⟨p, po + 1, none⟩) (Nat.lt_trans hp xl)).trans (((unhide B0).cell (p := ⟨p, po + 1, none⟩) hp).trans e1))
  have U2 := hide (fun w1 (hb : Below W.heap.size W w1) => (hb.cell (p := ⟨p, po + 2, none⟩) (Nat.lt_trans hp xl)).trans (((unhide B0).cell (p := ⟨p, po + 2, none⟩) hp).trans e2))
  have U3 := hide (fun w1 (hb : Below W.heap.size W w1) => (hb.cell (p := ⟨p, po + 3, none⟩) (Nat.lt_trans hp xl)).trans (((unhide B0).cell (p := ⟨p, po + 3, none⟩) hp).trans e3))
  have I0 := hide (fun w1 (hb : Below W.heap.size W w1) => ih w1 ((unhide B0).trans (hb.mono (unhide B0).size)))
  have MK := hide (fun w1 => markS_ex (mkS 45) w1)
  obtain ⟨i0, hi, hz0, hz1, hz2⟩ := info_parts infoT
  clear hg xl ih e0 e1 e2 e3 hp
  unfold Ex.cs at I0
  unfold mkS Tk.v Tk.cs at MK
  simp only at MK
  generalize a.k = ak at *
  generalize a.n = an at *
  generalize a.s = asv at *
  generalize a.l.length = al at *
  go_enter Tryz.func32, Tryz.ntmps32
  go_wp2_with fail
  have D0 := hide (show Below W.heap.size W W.drew from below_drew)
  refine wp_region_held_drew (S := fun w' => Below W.heap.size W w') (by kernel_rfl) (unhide D0) (fun hS => ?_)
  have HS := hide hS
  clear hS
  refine wpAnyH_take (i := 2) (v := .pointer (some ⟨w.heap.size, 3, none⟩)) rfl (by kernel_rfl) (by kernel_rfl) (by kernel_rfl) (fun _ _ _ h => h) (Or.inl ⟨by rfl, fun w hc => ?_⟩) (unhide HS) ?_
  · clear hc; go_simp
  go_simp
  refine wpAnyH_take (i := 3) (v := .slice (some ⟨p, po, none⟩) 1 cap) rfl (by kernel_rfl) (by kernel_rfl) (by kernel_rfl) (fun _ _ _ h => h) (Or.inl ⟨by rfl, fun w hc => ?_⟩) (unhide HS) ?_
  · have q := unhide Y3 _ hc; clear hc; go_simp
  go_simp
  refine wpAnyH_take (i := 4) (v := .pointer (some ⟨p, po, none⟩)) rfl (by kernel_rfl) (by kernel_rfl) (by kernel_rfl) (fun _ _ _ h => h) (Or.inl ⟨by rfl, fun w hc => ?_⟩) (unhide HS) ?_
  · clear hc; go_simp
  go_simp
  refine wpAnyH_take (i := 5) (v := .agg #[.int .i64 ak, .int .i64 an, .string asv, .slice c0 al cp0]) rfl (by kernel_rfl) (by kernel_rfl) (by kernel_rfl) (fun _ _ _ h => h) (Or.inl ⟨by rfl, fun w hc => ?_⟩) (unhide HS) ?_
  · have q0 := unhide U0 _ hc; have q1 := unhide U1 _ hc; have q2 := unhide U2 _ hc; have q3 := unhide U3 _ hc; clear hc; go_simp
  go_simp
  refine wpAnyH_ready (rs := [0]) (by kernel_rfl) (by simp) ?_
  refine AllReadyH.cons rfl (fun K2 hK => ?_) AllReadyH.nil
  go_simp
  refine (unhide MK _).mono ?_
  rintro r w1 ⟨rfl, hb1⟩
  have D1 := hide ((unhide D0).trans (hb1.mono (unhide D0).size))
  refine hK.out _ _ (unhide D1) (fun hS => ?_)
  clear HS
  have HS := hide hS
  clear hS hK K2
  clear hb1 D0
  refine wpAnyH_ready (rs := [1, 6]) (by kernel_rfl) (by simp) ?_
  refine AllReadyH.cons rfl (fun K2 hK => ?_) (AllReadyH.cons rfl (fun K2 hK => ?_) AllReadyH.nil)
  · go_simp
    have D2 := hide ((unhide D1).alloc (unhide D1).size (.cells #[.int .i64 4, .int .i64 0, .string ⟨#[45]⟩] 59))
    have N2 := hide (ownT_new w1 (Tk.mk 4 0 ⟨#[45]⟩) W.heap.size (unhide D1).size)
    unfold Tk.cs at N2
    simp only at N2
    generalize w1.heap.size = g1 at *
    generalize w1.alloc (.cells #[.int .i64 4, .int .i64 0, .string ⟨#[45]⟩] 59) = w2 at *
    refine hK.out _ _ (unhide D2) (fun hS => ?_)
    clear HS
    have HS := hide hS
    clear hS hK K2
    refine wpAnyH_ready (rs := [6]) (by kernel_rfl) (by simp) ?_
    refine AllReadyH.cons rfl (fun K2 hK => ?_) AllReadyH.nil
    go_simp
    refine (unhide I0 _ (unhide D2)).mono ?_
    rintro r w3 ⟨v3, rfl, o3, hb3⟩
    have D3 := hide ((unhide D2).trans (hb3.mono (unhide D2).size))
    have O1 := hide ((unhide N2).later hb3)
    obtain ⟨g2, c2, rfl, sr⟩ := (o3.base (unhide D2).size).src hts
    have SR := hide sr
    refine hK.out _ _ (unhide D3) (fun hS => ?_)
    clear HS
    have HS := hide hS
    clear hS hK K2
    clear hb3 o3 sr N2 D2 D1
    refine wpAnyH_ready (rs := [7]) (by kernel_rfl) (by simp) ?_
    refine AllReadyH.cons rfl (fun K2 hK => ?_) AllReadyH.nil
    rw [if_pos (by rfl)]
    refine wp_append_own _ (.tmp 25) (.tmp 30) 45 rfl W.heap.size 59 i0 (.agg #[.int .i64 0, .int .i64 0, .string ⟨#[]⟩]) 3 32 Tryz.underlying45 hi hz0 hz1 hz2 rfl (by decide) (.slice (some ⟨g1, 0, none⟩) 1 1) 1 (cellsT [Tk.mk 4 0 ⟨#[45]⟩]) rfl (unhide O1) ⟨g2, 0, none⟩ ts.length c2 (cellsT ts) rfl (cellsT_len ts) (unhide SR) (cellsT_one ts) (by unfold maxLen; omega) (by omega) (unhide D3).size ?_
    intro v5 w5 hown5 hgrow5 _
    have O5 := hide (ownT_join (ts := [Tk.mk 4 0 ⟨#[45]⟩]) (us := ts) hown5)
    have D5 := hide ((unhide D3).grown hgrow5 (unhide D3).size (fun g hg => ((unhide O1).lt hg).1))
    refine hK.out _ _ (unhide D5) (fun hS => ?_)
    clear HS
    have HS := hide hS
    clear hS hK K2
    refine wpAnyH_take (i := 8) (v := v5) rfl (by kernel_rfl) (by kernel_rfl) (by kernel_rfl) (fun _ _ _ h => h) (Or.inl ⟨by rfl, fun w hc => ?_⟩) (unhide HS) ?_
    · clear hc; go_simp
    go_simp
    refine wpAnyH_done (by kernel_rfl) ?_ _
    clear hown5 hgrow5 O1 D3 SR HS
    go_wp2
    go_ret
    exact ⟨_, rfl, (unhide O5).base (unhide B0).size, (unhide B0).trans ((unhide D5).mono (unhide B0).size)⟩
  · go_simp
    refine (unhide I0 _ (unhide D1)).mono ?_
    rintro r w2 ⟨v3, rfl, o3, hb3⟩
    have D2 := hide ((unhide D1).trans (hb3.mono (unhide D1).size))
    have O3 := hide (o3.base (unhide D1).size)
    refine hK.out _ _ (unhide D2) (fun hS => ?_)
    clear HS
    have HS := hide hS
    clear hS hK K2
    clear hb3 o3
    refine wpAnyH_ready (rs := [1]) (by kernel_rfl) (by simp) ?_
    refine AllReadyH.cons rfl (fun K2 hK => ?_) AllReadyH.nil
    go_simp
    have D3 := hide ((unhide D2).alloc (unhide D2).size (.cells #[.int .i64 4, .int .i64 0, .string ⟨#[45]⟩] 59))
    have O1 := hide (ownT_new w2 (Tk.mk 4 0 ⟨#[45]⟩) W.heap.size (unhide D2).size)
    obtain ⟨g2, c2, rfl, sr⟩ := ((unhide O3).later (below_new w2 (.cells #[.int .i64 4, .int .i64 0, .string ⟨#[45]⟩] 59))).src hts
    have SR := hide sr
    unfold Tk.cs at O1
    simp only at O1
    clear sr O3
    generalize w2.heap.size = g1 at *
    generalize w2.alloc (.cells #[.int .i64 4, .int .i64 0, .string ⟨#[45]⟩] 59) = w3 at *
    refine hK.out _ _ (unhide D3) (fun hS => ?_)
    clear HS
    have HS := hide hS
    clear hS hK K2
    clear D2 D1
    refine wpAnyH_ready (rs := [7]) (by kernel_rfl) (by simp) ?_
    refine AllReadyH.cons rfl (fun K2 hK => ?_) AllReadyH.nil
    rw [if_pos (by rfl)]
    refine wp_append_own _ (.tmp 25) (.tmp 30) 45 rfl W.heap.size 59 i0 (.agg #[.int .i64 0, .int .i64 0, .string ⟨#[]⟩]) 3 32 Tryz.underlying45 hi hz0 hz1 hz2 rfl (by decide) (.slice (some ⟨g1, 0, none⟩) 1 1) 1 (cellsT [Tk.mk 4 0 ⟨#[45]⟩]) rfl (unhide O1) ⟨g2, 0, none⟩ ts.length c2 (cellsT ts) rfl (cellsT_len ts) (unhide SR) (cellsT_one ts) (by unfold maxLen; omega) (by omega) (unhide D3).size ?_
    intro v5 w5 hown5 hgrow5 _
    have O5 := hide (ownT_join (ts := [Tk.mk 4 0 ⟨#[45]⟩]) (us := ts) hown5)
    have D5 := hide ((unhide D3).grown hgrow5 (unhide D3).size (fun g hg => ((unhide O1).lt hg).1))
    refine hK.out _ _ (unhide D5) (fun hS => ?_)
    clear HS
    have HS := hide hS
    clear hS hK K2
    refine wpAnyH_take (i := 8) (v := v5) rfl (by kernel_rfl) (by kernel_rfl) (by kernel_rfl) (fun _ _ _ h => h) (Or.inl ⟨by rfl, fun w hc => ?_⟩) (unhide HS) ?_
    · clear hc; go_simp
    go_simp
    refine wpAnyH_done (by kernel_rfl) ?_ _
    clear hown5 hgrow5 O1 D3 SR HS
    go_wp2
    go_ret
    exact ⟨_, rfl, (unhide O5).base (unhide B0).size, (unhide B0).trans ((unhide D5).mono (unhide B0).size)⟩
end Go.Proofs.YtmhcbehplhfgfaaGreatDoor

namespace Go.Proofs.YtmhcbehplhfgfaaGreatDoor
open Go.ChangeShapes Go.WideShapes Go.ChangeAt Go.RowKit
set_option linter.unusedVariables false
set_option maxRecDepth 8000
theorem AllOk.head {t : Tk} {r : List Tk} (h : AllOk (t :: r)) : t.ok = true ∧ AllOk r := ⟨h t List.mem_cons_self, fun x hx => h x (List.mem_cons_of_mem _ hx)⟩
/-- The tokens of a plain term are right, and not too many. -/
theorem mkT_ok {c : UInt8} (h : mkL.contains c = true) : (mkT c).ok = true := h
theorem sgn_mark {k : Int} (h : 5 ≤ k ∧ k ≤ 10) : mkL.contains (sgnC k) = true := by
  have : k = 5 ∨ k = 6 ∨ k = 7 ∨ k = 8 ∨ k = 9 ∨ k = 10 := by omega
  rcases this with rfl | rfl | rfl | rfl | rfl | rfl <;> decide
theorem allOk_cons {t : Tk} {r : List Tk} (h : t.ok = true) (hr : AllOk r) : AllOk (t :: r) := fun x hx => by
  rcases List.mem_cons.1 hx with rfl | hx
  · exact h
  · exact hr x hx
theorem allOk_app {a b : List Tk} (h : AllOk a) (hr : AllOk b) : AllOk (a ++ b) := fun x hx => by
  rcases List.mem_append.1 hx with hx | hx
  · exact h x hx
  · exact hr x hx
theorem allOk_nil : AllOk [] := fun x hx => by cases hx
def mxT : Nat → Nat
  | 0 => 0
  | d + 1 => 2 * mxT d + 3
theorem toks_ok : ∀ (d : Nat) (e : Ex), okF d true e = true → AllOk (toksF d e) ∧ (toksF d e).length ≤ mxT d := by
  intro d
  induction d with
  | zero => intro e h; cases h
  | succ d ih =>
    intro e h
    rw [mxT]
    rcases plain_cases h with ⟨n, hn, rfl⟩ | ⟨s, hs, rfl⟩ | rfl | ⟨a, ha, rfl⟩ | ⟨k, a, b, hk, ha, hb, rfl⟩
    · rw [toks_num]
      refine ⟨allOk_cons ?_ allOk_nil, by simp⟩
      have : inB n 0 65535 = true := (inB_iff _ _ _).2 hn
      simp [Tk.ok, this, E0, ByteArray.size]
    · rw [toks_sym]
      exact ⟨allOk_cons hs allOk_nil, by simp⟩
    · rw [toks_here]
      exact ⟨allOk_cons (mkT_ok (by decide)) allOk_nil, by simp⟩
    · obtain ⟨q1, q2⟩ := ih a ha
      rw [toks_neg, List.length_cons]
      exact ⟨allOk_cons (mkT_ok (by decide)) q1, by omega⟩
    · obtain ⟨q1, q2⟩ := ih a ha
      obtain ⟨q3, q4⟩ := ih b hb
      rw [toks_two d hk]
      refine ⟨allOk_cons (mkT_ok (by decide)) (allOk_app q1 (allOk_cons (mkT_ok (sgn_mark hk)) (allOk_app q3 (allOk_cons (mkT_ok (by decide)) allOk_nil)))), ?_⟩
      simp only [List.length_cons, List.length_append, List.length_nil]
      omega
end Go.Proofs.YtmhcbehplhfgfaaGreatDoor

namespace Go.Proofs.YtmhcbehplhfgfaaGreatDoor
open Go.ChangeShapes Go.WideShapes Go.ChangeAt Go.RowKit
set_option linter.unusedVariables false
set_option maxRecDepth 8000
set_option linter.unusedSimpArgs false
/-- The tokens of a term of two. -/
def twoT (ts0 : List Tk) (s : ByteArray) (ts1 : List Tk) : List Tk := Tk.mk 4 0 ⟨#[60]⟩ :: (ts0 ++ (Tk.mk 4 0 s :: (ts1 ++ [Tk.mk 4 0 ⟨#[62]⟩])))
set_option maxHeartbeats 16000000 in
theorem toksS_two (k : Int) (hk : 5 ≤ k ∧ k ≤ 10) (c0 c1 : Option Addr) (cp0 cp1 p po cap : Nat) (a b : Ex) (ts0 ts1 : List Tk) (w : World) (hts0 : ts0 ≠ []) (hts1 : ts1 ≠ []) (h80 : ts0.length ≤ 200) (h81 : ts1.length ≤ 200) (hp : p < w.heap.size) (e00 : w.cell? ⟨p, po, none⟩ = some (.int .i64 a.k)) (e01 : w.cell? ⟨p, po + 1, none⟩ = some (.int .i64 a.n)) (e02 : w.cell? ⟨p, po + 2, none⟩ = some (.string a.s)) (e03 : w.cell? ⟨p, po + 3, none⟩ = some (.slice c0 a.l.length cp0)) (ih0 : ∀ w1, Below w.heap.size w w1 → Calls Tryz.prog 32 #[.agg (a.cs c0 cp0)] w1 fun r w' => ∃ v, r = .returned v ∧ OwnT w' w1.heap.size v ts0 ∧ Below w1.heap.size w1 w') (e10 : w.cell? ⟨p, po + 4, none⟩ = some (.int .i64 b.k)) (e11 : w.cell? ⟨p, po + 4 + 1, none⟩ = some (.int .i64 b.n)) (e12 : w.cell? ⟨p, po + 4 + 2, none⟩ = some (.string b.s)) (e13 : w.cell? ⟨p, po + 4 + 3, none⟩ = some (.slice c1 b.l.length cp1)) (ih1 : ∀ w1, Below w.heap.size w w1 → Calls Tryz.prog 32 #[.agg (b.cs c1 cp1)] w1 fun r w' => ∃ v, r = .returned v ∧ OwnT w' w1.heap.size v ts1 ∧ Below w1.heap.size w1 w') : Calls Tryz.prog 32 #[.agg #[.int .i64 k, .int .i64 0, .string ⟨#[]⟩, .slice (some ⟨p, po, none⟩) 2 cap]] w fun r w' => ∃ v, r = .returned v ∧ OwnT w' w.heap.size v (twoT ts0 (mkS (sgnC k)) ts1) ∧ Below w.heap.size w w' := by
  obtain ⟨W, hW⟩ : ∃ W, w.alloc (.cells #[.int .i64 k, .int .i64 0, .string ⟨#[]⟩, .slice (some ⟨p, po, none⟩) 2 cap] 33) = W := ⟨_, rfl⟩
  have B0 := hide (below_new w (.cells #[.int .i64 k, .int .i64 0, .string ⟨#[]⟩, .slice (some ⟨p, po, none⟩) 2 cap] 33))
  have hg : W.heap[w.heap.size]? = some (.cells #[.int .i64 k, .int .i64 0, .string ⟨#[]⟩, .slice (some ⟨p, po, none⟩) 2 cap] 33 (0, 0)) := by rw [← hW]; exact Array.getElem?_push_size
  rw [hW] at B0
  have x0 := Lib.cell_of_heap hg 0
  have xl : w.heap.size < W.heap.size := (Array.getElem?_eq_some_iff.1 hg).1
  have Y0 := hide (fun w1 (hb : Below W.heap.size W w1) => (hb.cell (p := ⟨w.heap.size, 0, none⟩) xl).trans (Lib.cell_of_heap hg 0))
  have Y3 := hide (fun w1 (hb : Below W.heap.size W w1) => (hb.cell (p := ⟨w.heap.size, 3, none⟩) xl).trans (Lib.cell_of_heap hg 3))
  have U00 := hide (fun w1 (hb : Below W.heap.size W w1) => (hb.cell (p := ⟨p, po, none⟩) (Nat.lt_trans hp xl)).trans (((unhide B0).cell (p := ⟨p, po, none⟩) hp).trans e00))
  have U01 := hide (fun w1 (hb : Below W.heap.size W w1) => (hb.cell (p := ⟨p, po + 1, none⟩) (Nat.lt_trans hp xl)).trans (((unhide B0).cell (p := ⟨p, po + 1, none⟩) hp).trans e01))
  have U02 := hide (fun w1 (hb : Below W.heap.size W w1) => (hb.cell (p := ⟨p, po + 2, none⟩) (Nat.lt_trans hp xl)).trans (((unhide B0).cell (p := ⟨p, po + 2, none⟩) hp).trans e02))
  have U03 := hide (fun w1 (hb : Below W.heap.size W w1) => (hb.cell (p := ⟨p, po + 3, none⟩) (Nat.lt_trans hp xl)).trans (((unhide B0).cell (p := ⟨p, po + 3, none⟩) hp).trans e03))
  have I0 := hide (fun w1 (hb : Below W.heap.size W w1) => ih0 w1 ((unhide B0).trans (hb.mono (unhide B0).size)))
  have U10 := hide (fun w1 (hb : Below W.heap.size W w1) => (hb.cell (p := ⟨p, po + 4, none⟩) (Nat.lt_trans hp xl)).trans (((unhide B0).cell (p := ⟨p, po + 4, none⟩) hp).trans e10))
  have U11 := hide (fun w1 (hb : Below W.heap.size W w1) => (hb.cell (p := ⟨p, po + 4 + 1, none⟩) (Nat.lt_trans hp xl)).trans (((unhide B0).cell (p := ⟨p, po + 4 + 1, none⟩) hp).trans e11))
  have U12 := hide (fun w1 (hb : Below W.heap.size W w1) => (hb.cell (p := ⟨p, po + 4 + 2, none⟩) (Nat.lt_trans hp xl)).trans (((unhide B0).cell (p := ⟨p, po + 4 + 2, none⟩) hp).trans e12))
  have U13 := hide (fun w1 (hb : Below W.heap.size W w1) => (hb.cell (p := ⟨p, po + 4 + 3, none⟩) (Nat.lt_trans hp xl)).trans (((unhide B0).cell (p := ⟨p, po + 4 + 3, none⟩) hp).trans e13))
  have I1 := hide (fun w1 (hb : Below W.heap.size W w1) => ih1 w1 ((unhide B0).trans (hb.mono (unhide B0).size)))
  have MK := hide (fun x w1 => markS_ex x w1)
  have SG := hide (fun w1 => signS_any k hk w1)
  obtain ⟨i0, hi, hz0, hz1, hz2⟩ := info_parts infoT
  have g1 : (k == 1) = false := beq_eq_false_iff_ne.2 (by omega)
  have g2 : (k == 2) = false := beq_eq_false_iff_ne.2 (by omega)
  have g3 : (k == 3) = false := beq_eq_false_iff_ne.2 (by omega)
  have g4 : (k == 4) = false := beq_eq_false_iff_ne.2 (by omega)
  clear hg xl ih0 ih1 e00 e01 e02 e03 e10 e11 e12 e13 hp hk
  unfold Ex.cs at I0 I1
  unfold Tk.v Tk.cs at MK
  simp only at MK
  generalize a.k = ak at *
  generalize a.n = an at *
  generalize a.s = asv at *
  generalize a.l.length = al at *
  generalize b.k = bk at *
  generalize b.n = bn at *
  generalize b.s = bsv at *
  generalize b.l.length = bl at *
  generalize mkS (sgnC k) = sg at *
  go_enter Tryz.func32, Tryz.ntmps32
  go_wp2_with fail
  have D0 := hide (show Below W.heap.size W W.drew from below_drew)
  refine wp_region_held_drew (S := fun w' => Below W.heap.size W w') (by kernel_rfl) (unhide D0) (fun hS => ?_)
  have HS := hide hS
  clear hS
  refine wpAnyH_take (i := 2) (v := .pointer (some ⟨w.heap.size, 3, none⟩)) rfl (by kernel_rfl) (by kernel_rfl) (by kernel_rfl) (fun _ _ _ h => h) (Or.inl ⟨by rfl, fun w hc => ?_⟩) (unhide HS) ?_
  · clear hc; go_simp
  go_simp
  refine wpAnyH_take (i := 3) (v := .slice (some ⟨p, po, none⟩) 2 cap) rfl (by kernel_rfl) (by kernel_rfl) (by kernel_rfl) (fun _ _ _ h => h) (Or.inl ⟨by rfl, fun w hc => ?_⟩) (unhide HS) ?_
  · have q := unhide Y3 _ hc; clear hc; go_simp
  go_simp
  refine wpAnyH_take (i := 4) (v := .pointer (some ⟨p, po, none⟩)) rfl (by kernel_rfl) (by kernel_rfl) (by kernel_rfl) (fun _ _ _ h => h) (Or.inl ⟨by rfl, fun w hc => ?_⟩) (unhide HS) ?_
  · clear hc; go_simp
  go_simp
  refine wpAnyH_take (i := 5) (v := .agg #[.int .i64 ak, .int .i64 an, .string asv, .slice c0 al cp0]) rfl (by kernel_rfl) (by kernel_rfl) (by kernel_rfl) (fun _ _ _ h => h) (Or.inl ⟨by rfl, fun w hc => ?_⟩) (unhide HS) ?_
  · have q0 := unhide U00 _ hc; have q1 := unhide U01 _ hc; have q2 := unhide U02 _ hc; have q3 := unhide U03 _ hc; clear hc; go_simp
  go_simp
  refine wpAnyH_ready (rs := [0]) (by kernel_rfl) (by simp) ?_
  refine AllReadyH.cons rfl (fun K2 hK => ?_) AllReadyH.nil
  go_simp
  refine (unhide MK _ _).mono ?_
  rintro r w1 ⟨rfl, hb1⟩
  have D1 := hide ((unhide D0).trans (hb1.mono (unhide D0).size))
  refine hK.out _ _ (unhide D1) (fun hS => ?_)
  clear HS
  have HS := hide hS
  clear hS hK K2
  clear hb1 D0
  refine wpAnyH_ready (rs := [1, 6]) (by kernel_rfl) (by simp) ?_
  refine AllReadyH.cons rfl (fun K2 hK => ?_) (AllReadyH.cons rfl (fun K2 hK => ?_) AllReadyH.nil)
  · go_simp
    have D2 := hide ((unhide D1).alloc (unhide D1).size (.cells #[.int .i64 4, .int .i64 0, .string ⟨#[60]⟩] 59))
    have N2 := hide (ownT_new w1 (Tk.mk 4 0 ⟨#[60]⟩) W.heap.size (unhide D1).size)
    unfold Tk.cs at N2
    simp only at N2
    generalize w1.heap.size = g1 at *
    generalize w1.alloc (.cells #[.int .i64 4, .int .i64 0, .string ⟨#[60]⟩] 59) = w2 at *
    refine hK.out _ _ (unhide D2) (fun hS => ?_)
    clear HS
    have HS := hide hS
    clear hS hK K2
    refine wpAnyH_ready (rs := [6]) (by kernel_rfl) (by simp) ?_
    refine AllReadyH.cons rfl (fun K2 hK => ?_) AllReadyH.nil
    go_simp
    refine (unhide I0 _ (unhide D2)).mono ?_
    rintro r w3 ⟨v3, rfl, o3, hb3⟩
    have D3 := hide ((unhide D2).trans (hb3.mono (unhide D2).size))
    have O1 := hide ((unhide N2).later hb3)
    obtain ⟨g2, c2, rfl, sr⟩ := (o3.base (unhide D2).size).src hts0
    have SR := hide sr
    refine hK.out _ _ (unhide D3) (fun hS => ?_)
    clear HS
    have HS := hide hS
    clear hS hK K2
    clear hb3 o3 sr N2 D2 D1
    refine wpAnyH_ready (rs := [7]) (by kernel_rfl) (by simp) ?_
    refine AllReadyH.cons rfl (fun K2 hK => ?_) AllReadyH.nil
    rw [if_pos (by rfl)]
    refine wp_append_own _ (.tmp 33) (.tmp 38) 45 rfl W.heap.size 59 i0 (.agg #[.int .i64 0, .int .i64 0, .string ⟨#[]⟩]) 3 32 Tryz.underlying45 hi hz0 hz1 hz2 rfl (by decide) (.slice (some ⟨g1, 0, none⟩) 1 1) 1 (cellsT [Tk.mk 4 0 ⟨#[60]⟩]) rfl (unhide O1) ⟨g2, 0, none⟩ ts0.length c2 (cellsT ts0) rfl (cellsT_len ts0) (unhide SR) (cellsT_one ts0) (by unfold maxLen; (try simp only [List.length_append, List.length_cons, List.length_nil]); omega) (by (try simp only [List.length_append, List.length_cons, List.length_nil]); omega) (unhide D3).size ?_
    intro v5 w5 hown5 hgrow5 _
    have O5 := hide (ownT_join (ts := [Tk.mk 4 0 ⟨#[60]⟩]) (us := ts0) hown5)
    have D5 := hide ((unhide D3).grown hgrow5 (unhide D3).size (fun g hg => ((unhide O1).lt hg).1))
    refine hK.out _ _ (unhide D5) (fun hS => ?_)
    clear HS
    have HS := hide hS
    clear hS hK K2
    refine wpAnyH_take (i := 8) (v := v5) rfl (by kernel_rfl) (by kernel_rfl) (by kernel_rfl) (fun _ _ _ h => h) (Or.inl ⟨by rfl, fun w hc => ?_⟩) (unhide HS) ?_
    · clear hc; go_simp
    go_simp
    refine wpAnyH_done (by kernel_rfl) ?_ _
    clear hown5 hgrow5 O1 D3 SR
    clear HS
    have l5 : (([Tk.mk 4 0 ⟨#[60]⟩] ++ ts0).length : Nat) = ts0.length + 1 := by simp only [List.length_append, List.length_cons, List.length_nil]; omega
    generalize hus : [Tk.mk 4 0 ⟨#[60]⟩] ++ ts0 = us at *
    have H1 := hide hus
    clear hus
    go_wp2_with fail
    have D6 := hide ((unhide D5).trans ((below_drew (w := w5)).mono (unhide D5).size))
    have O6 := hide ((unhide O5).later (below_drew (w := w5)))
    refine wp_region_held_drew (S := fun w' => Below W.heap.size W w') (by kernel_rfl) (unhide D6) (fun hS => ?_)
    have HS := hide hS
    clear hS O5 D5
    refine wpAnyH_take (i := 0) (v := v5) rfl (by kernel_rfl) (by kernel_rfl) (by kernel_rfl) (fun _ _ _ h => h) (Or.inl ⟨by rfl, fun w hc => ?_⟩) (unhide HS) ?_
    · clear hc; go_simp
    go_simp
    refine wpAnyH_take (i := 1) (v := .pointer (some ⟨w.heap.size, 0, none⟩)) rfl (by kernel_rfl) (by kernel_rfl) (by kernel_rfl) (fun _ _ _ h => h) (Or.inl ⟨by rfl, fun w hc => ?_⟩) (unhide HS) ?_
    · clear hc; go_simp
    go_simp
    refine wpAnyH_take (i := 2) (v := .int .i64 k) rfl (by kernel_rfl) (by kernel_rfl) (by kernel_rfl) (fun _ _ _ h => h) (Or.inl ⟨by rfl, fun w hc => ?_⟩) (unhide HS) ?_
    · have q := unhide Y0 _ hc; clear hc; go_simp
    go_simp
    refine wpAnyH_take (i := 7) (v := .pointer (some ⟨w.heap.size, 3, none⟩)) rfl (by kernel_rfl) (by kernel_rfl) (by kernel_rfl) (fun _ _ _ h => h) (Or.inl ⟨by rfl, fun w hc => ?_⟩) (unhide HS) ?_
    · clear hc; go_simp
    go_simp
    refine wpAnyH_take (i := 8) (v := .slice (some ⟨p, po, none⟩) 2 cap) rfl (by kernel_rfl) (by kernel_rfl) (by kernel_rfl) (fun _ _ _ h => h) (Or.inl ⟨by rfl, fun w hc => ?_⟩) (unhide HS) ?_
    · have q := unhide Y3 _ hc; clear hc; go_simp
    go_simp
    refine wpAnyH_take (i := 9) (v := .pointer (some ⟨p, po + 4, none⟩)) rfl (by kernel_rfl) (by kernel_rfl) (by kernel_rfl) (fun _ _ _ h => h) (Or.inl ⟨by rfl, fun w hc => ?_⟩) (unhide HS) ?_
    · clear hc; go_simp
    go_simp
    refine wpAnyH_take (i := 10) (v := .agg #[.int .i64 bk, .int .i64 bn, .string bsv, .slice c1 bl cp1]) rfl (by kernel_rfl) (by kernel_rfl) (by kernel_rfl) (fun _ _ _ h => h) (Or.inl ⟨by rfl, fun w hc => ?_⟩) (unhide HS) ?_
    · have q0 := unhide U10 _ hc; have q1 := unhide U11 _ hc; have q2 := unhide U12 _ hc; have q3 := unhide U13 _ hc; clear hc; go_simp
    go_simp
    refine wpAnyH_ready (rs := [3]) (by kernel_rfl) (by simp) ?_
    refine AllReadyH.cons rfl (fun K2 hK => ?_) AllReadyH.nil
    go_simp
    refine (unhide SG _).mono ?_
    rintro r w' ⟨rfl, hw'⟩
    rw [hw']
    clear hw' w'
    refine hK.out _ _ (unhide D6) (fun hS => ?_)
    clear HS
    have HS := hide hS
    clear hS hK K2
    refine wpAnyH_ready (rs := [4]) (by kernel_rfl) (by simp) ?_
    refine AllReadyH.cons rfl (fun K2 hK => ?_) AllReadyH.nil
    go_simp
    refine (unhide MK _ _).mono ?_
    rintro r w6 ⟨rfl, hb6⟩
    have D7 := hide ((unhide D6).trans (hb6.mono (unhide D6).size))
    have O7 := hide ((unhide O6).later hb6)
    refine hK.out _ _ (unhide D7) (fun hS => ?_)
    clear HS
    have HS := hide hS
    clear hS hK K2
    clear hb6 D6 O6
    refine wpAnyH_ready (rs := [5]) (by kernel_rfl) (by simp) ?_
    refine AllReadyH.cons rfl (fun K2 hK => ?_) AllReadyH.nil
    go_simp
    have D8 := hide ((unhide D7).alloc (unhide D7).size (.cells #[.int .i64 4, .int .i64 0, .string sg] 59))
    have O8 := hide ((unhide O7).later (below_new w6 (.cells #[.int .i64 4, .int .i64 0, .string sg] 59)))
    have C8 := hide (cell_new w6 #[.int .i64 4, .int .i64 0, .string sg] 59)
    generalize w6.heap.size = g8 at *
    generalize w6.alloc (.cells #[.int .i64 4, .int .i64 0, .string sg] 59) = w8 at *
    refine hK.out _ _ (unhide D8) (fun hS => ?_)
    clear HS
    have HS := hide hS
    clear hS hK K2
    clear D7 O7
    refine wpAnyH_ready (rs := [6]) (by kernel_rfl) (by simp) ?_
    refine AllReadyH.cons rfl (fun K2 hK => ?_) AllReadyH.nil
    rw [if_pos (by rfl)]
    refine wp_append_own _ (.tmp 40) (.tmp 45) 45 rfl W.heap.size 59 i0 (.agg #[.int .i64 0, .int .i64 0, .string ⟨#[]⟩]) 3 32 Tryz.underlying45 hi hz0 hz1 hz2 rfl (by decide) v5 us.length (cellsT us) rfl (unhide O8) ⟨g8, 0, none⟩ 1 1 [.int .i64 4, .int .i64 0, .string sg] rfl rfl (unhide C8) (newT_one _ _ _) (by unfold maxLen; (try simp only [List.length_append, List.length_cons, List.length_nil]); omega) (by (try simp only [List.length_append, List.length_cons, List.length_nil]); omega) (unhide D8).size ?_
    intro v9 w9 hown9 hgrow9 _
    have O9 := hide (ownT_app (t := ⟨4, 0, sg⟩) hown9)
    have D9 := hide ((unhide D8).grown hgrow9 (unhide D8).size (fun g hg => ((unhide O8).lt hg).1))
    refine hK.out _ _ (unhide D9) (fun hS => ?_)
    clear HS
    have HS := hide hS
    clear hS hK K2
    clear hown9 hgrow9 O8 C8 D8
    refine wpAnyH_ready (rs := [11]) (by kernel_rfl) (by simp) ?_
    refine AllReadyH.cons rfl (fun K2 hK => ?_) AllReadyH.nil
    go_simp
    refine (unhide I1 _ (unhide D9)).mono ?_
    rintro r wa ⟨va, rfl, oa, hba⟩
    have DA := hide ((unhide D9).trans (hba.mono (unhide D9).size))
    have OA := hide ((unhide O9).later hba)
    obtain ⟨ga, ca, rfl, sra⟩ := (oa.base (unhide D9).size).src hts1
    have SRA := hide sra
    refine hK.out _ _ (unhide DA) (fun hS => ?_)
    clear HS
    have HS := hide hS
    clear hS hK K2
    clear hba oa sra D9 O9
    have l9 : ((us ++ [Tk.mk 4 0 sg]).length : Nat) = us.length + 1 := by simp only [List.length_append, List.length_cons, List.length_nil]
    generalize hus : us ++ [Tk.mk 4 0 sg] = us1 at *
    have H2 := hide hus
    clear hus
    refine wpAnyH_ready (rs := [12]) (by kernel_rfl) (by simp) ?_
    refine AllReadyH.cons rfl (fun K2 hK => ?_) AllReadyH.nil
    rw [if_pos (by rfl)]
    refine wp_append_own _ (.tmp 46) (.tmp 51) 45 rfl W.heap.size 59 i0 (.agg #[.int .i64 0, .int .i64 0, .string ⟨#[]⟩]) 3 32 Tryz.underlying45 hi hz0 hz1 hz2 rfl (by decide) v9 us1.length (cellsT us1) rfl (unhide OA) ⟨ga, 0, none⟩ ts1.length ca (cellsT ts1) rfl (cellsT_len ts1) (unhide SRA) (cellsT_one ts1) (by unfold maxLen; (try simp only [List.length_append, List.length_cons, List.length_nil]); omega) (by (try simp only [List.length_append, List.length_cons, List.length_nil]); omega) (unhide DA).size ?_
    intro vb wb hownb hgrowb _
    have OB := hide (ownT_join hownb)
    have DB := hide ((unhide DA).grown hgrowb (unhide DA).size (fun g hg => ((unhide OA).lt hg).1))
    refine hK.out _ _ (unhide DB) (fun hS => ?_)
    clear HS
    have HS := hide hS
    clear hS hK K2
    clear hownb hgrowb OA SRA DA
    refine wpAnyH_take (i := 13) (v := vb) rfl (by kernel_rfl) (by kernel_rfl) (by kernel_rfl) (fun _ _ _ h => h) (Or.inl ⟨by rfl, fun w hc => ?_⟩) (unhide HS) ?_
    · clear hc; go_simp
    go_simp
    refine wpAnyH_done (by kernel_rfl) ?_ _
    clear HS
    have lb : ((us1 ++ ts1).length : Nat) = us1.length + ts1.length := List.length_append
    generalize hus : us1 ++ ts1 = us2 at *
    have H3 := hide hus
    clear hus
    have MB := hide (unhide MK ⟨#[62]⟩ wb)
    go_wp2_with fail
    refine (unhide MB).mono ?_
    rintro r wc ⟨rfl, hbc⟩
    have DC := hide ((unhide DB).trans (hbc.mono (unhide DB).size))
    have OC := hide ((unhide OB).later hbc)
    have CC := hide (cell_new wc #[.int .i64 4, .int .i64 0, .string ⟨#[62]⟩] 59)
    have hsz := (unhide DC).size
    clear hbc MB DB OB
    go_wp2_with (at_builtin; go_must (refine wpList_append_own _ rfl (.tmp 53) (.tmp 55) 45 rfl W.heap.size 59 i0 (.agg #[.int .i64 0, .int .i64 0, .string ⟨#[]⟩]) 3 32 Tryz.underlying45 hi hz0 hz1 hz2 rfl (by decide) vb us2.length (cellsT us2) rfl (World.ownsRow.alloc (unhide OC) _) ⟨wc.heap.size, 0, none⟩ 1 1 [.int .i64 4, .int .i64 0, .string ⟨#[62]⟩] rfl rfl (unhide CC) (newT_one _ _ _) (by unfold maxLen; omega) (by omega) (by simp; omega) ?_; intro vd wd hownd hgrowd _; have OD := hide (ownT_app (t := ⟨4, 0, ⟨#[62]⟩⟩) hownd); have DD := hide (((unhide DC).alloc (unhide DC).size (.cells #[.int .i64 4, .int .i64 0, .string ⟨#[62]⟩] 59)).grown hgrowd (by simp; omega) (fun g hg => ((unhide OC).lt hg).1)); clear hownd hgrowd OC CC))
    go_ret
    have E : us2 ++ [Tk.mk 4 0 ⟨#[62]⟩] = twoT ts0 sg ts1 := by rw [← unhide H3, ← unhide H2, ← unhide H1]; simp [twoT]
    rw [E] at OD
    exact ⟨_, rfl, (unhide OD).base (unhide B0).size, (unhide B0).trans ((unhide DD).mono (unhide B0).size)⟩
  · go_simp
    refine (unhide I0 _ (unhide D1)).mono ?_
    rintro r w2 ⟨v3, rfl, o3, hb3⟩
    have D2 := hide ((unhide D1).trans (hb3.mono (unhide D1).size))
    have O3 := hide (o3.base (unhide D1).size)
    refine hK.out _ _ (unhide D2) (fun hS => ?_)
    clear HS
    have HS := hide hS
    clear hS hK K2
    clear hb3 o3
    refine wpAnyH_ready (rs := [1]) (by kernel_rfl) (by simp) ?_
    refine AllReadyH.cons rfl (fun K2 hK => ?_) AllReadyH.nil
    go_simp
    have D3 := hide ((unhide D2).alloc (unhide D2).size (.cells #[.int .i64 4, .int .i64 0, .string ⟨#[60]⟩] 59))
    have O1 := hide (ownT_new w2 (Tk.mk 4 0 ⟨#[60]⟩) W.heap.size (unhide D2).size)
    obtain ⟨g2, c2, rfl, sr⟩ := ((unhide O3).later (below_new w2 (.cells #[.int .i64 4, .int .i64 0, .string ⟨#[60]⟩] 59))).src hts0
    have SR := hide sr
    unfold Tk.cs at O1
    simp only at O1
    clear sr O3
    generalize w2.heap.size = g1 at *
    generalize w2.alloc (.cells #[.int .i64 4, .int .i64 0, .string ⟨#[60]⟩] 59) = w3 at *
    refine hK.out _ _ (unhide D3) (fun hS => ?_)
    clear HS
    have HS := hide hS
    clear hS hK K2
    clear D2 D1
    refine wpAnyH_ready (rs := [7]) (by kernel_rfl) (by simp) ?_
    refine AllReadyH.cons rfl (fun K2 hK => ?_) AllReadyH.nil
    rw [if_pos (by rfl)]
    refine wp_append_own _ (.tmp 33) (.tmp 38) 45 rfl W.heap.size 59 i0 (.agg #[.int .i64 0, .int .i64 0, .string ⟨#[]⟩]) 3 32 Tryz.underlying45 hi hz0 hz1 hz2 rfl (by decide) (.slice (some ⟨g1, 0, none⟩) 1 1) 1 (cellsT [Tk.mk 4 0 ⟨#[60]⟩]) rfl (unhide O1) ⟨g2, 0, none⟩ ts0.length c2 (cellsT ts0) rfl (cellsT_len ts0) (unhide SR) (cellsT_one ts0) (by unfold maxLen; (try simp only [List.length_append, List.length_cons, List.length_nil]); omega) (by (try simp only [List.length_append, List.length_cons, List.length_nil]); omega) (unhide D3).size ?_
    intro v5 w5 hown5 hgrow5 _
    have O5 := hide (ownT_join (ts := [Tk.mk 4 0 ⟨#[60]⟩]) (us := ts0) hown5)
    have D5 := hide ((unhide D3).grown hgrow5 (unhide D3).size (fun g hg => ((unhide O1).lt hg).1))
    refine hK.out _ _ (unhide D5) (fun hS => ?_)
    clear HS
    have HS := hide hS
    clear hS hK K2
    refine wpAnyH_take (i := 8) (v := v5) rfl (by kernel_rfl) (by kernel_rfl) (by kernel_rfl) (fun _ _ _ h => h) (Or.inl ⟨by rfl, fun w hc => ?_⟩) (unhide HS) ?_
    · clear hc; go_simp
    go_simp
    refine wpAnyH_done (by kernel_rfl) ?_ _
    clear hown5 hgrow5 O1 D3 SR
    clear HS
    have l5 : (([Tk.mk 4 0 ⟨#[60]⟩] ++ ts0).length : Nat) = ts0.length + 1 := by simp only [List.length_append, List.length_cons, List.length_nil]; omega
    generalize hus : [Tk.mk 4 0 ⟨#[60]⟩] ++ ts0 = us at *
    have H1 := hide hus
    clear hus
    go_wp2_with fail
    have D6 := hide ((unhide D5).trans ((below_drew (w := w5)).mono (unhide D5).size))
    have O6 := hide ((unhide O5).later (below_drew (w := w5)))
    refine wp_region_held_drew (S := fun w' => Below W.heap.size W w') (by kernel_rfl) (unhide D6) (fun hS => ?_)
    have HS := hide hS
    clear hS O5 D5
    refine wpAnyH_take (i := 0) (v := v5) rfl (by kernel_rfl) (by kernel_rfl) (by kernel_rfl) (fun _ _ _ h => h) (Or.inl ⟨by rfl, fun w hc => ?_⟩) (unhide HS) ?_
    · clear hc; go_simp
    go_simp
    refine wpAnyH_take (i := 1) (v := .pointer (some ⟨w.heap.size, 0, none⟩)) rfl (by kernel_rfl) (by kernel_rfl) (by kernel_rfl) (fun _ _ _ h => h) (Or.inl ⟨by rfl, fun w hc => ?_⟩) (unhide HS) ?_
    · clear hc; go_simp
    go_simp
    refine wpAnyH_take (i := 2) (v := .int .i64 k) rfl (by kernel_rfl) (by kernel_rfl) (by kernel_rfl) (fun _ _ _ h => h) (Or.inl ⟨by rfl, fun w hc => ?_⟩) (unhide HS) ?_
    · have q := unhide Y0 _ hc; clear hc; go_simp
    go_simp
    refine wpAnyH_take (i := 7) (v := .pointer (some ⟨w.heap.size, 3, none⟩)) rfl (by kernel_rfl) (by kernel_rfl) (by kernel_rfl) (fun _ _ _ h => h) (Or.inl ⟨by rfl, fun w hc => ?_⟩) (unhide HS) ?_
    · clear hc; go_simp
    go_simp
    refine wpAnyH_take (i := 8) (v := .slice (some ⟨p, po, none⟩) 2 cap) rfl (by kernel_rfl) (by kernel_rfl) (by kernel_rfl) (fun _ _ _ h => h) (Or.inl ⟨by rfl, fun w hc => ?_⟩) (unhide HS) ?_
    · have q := unhide Y3 _ hc; clear hc; go_simp
    go_simp
    refine wpAnyH_take (i := 9) (v := .pointer (some ⟨p, po + 4, none⟩)) rfl (by kernel_rfl) (by kernel_rfl) (by kernel_rfl) (fun _ _ _ h => h) (Or.inl ⟨by rfl, fun w hc => ?_⟩) (unhide HS) ?_
    · clear hc; go_simp
    go_simp
    refine wpAnyH_take (i := 10) (v := .agg #[.int .i64 bk, .int .i64 bn, .string bsv, .slice c1 bl cp1]) rfl (by kernel_rfl) (by kernel_rfl) (by kernel_rfl) (fun _ _ _ h => h) (Or.inl ⟨by rfl, fun w hc => ?_⟩) (unhide HS) ?_
    · have q0 := unhide U10 _ hc; have q1 := unhide U11 _ hc; have q2 := unhide U12 _ hc; have q3 := unhide U13 _ hc; clear hc; go_simp
    go_simp
    refine wpAnyH_ready (rs := [3]) (by kernel_rfl) (by simp) ?_
    refine AllReadyH.cons rfl (fun K2 hK => ?_) AllReadyH.nil
    go_simp
    refine (unhide SG _).mono ?_
    rintro r w' ⟨rfl, hw'⟩
    rw [hw']
    clear hw' w'
    refine hK.out _ _ (unhide D6) (fun hS => ?_)
    clear HS
    have HS := hide hS
    clear hS hK K2
    refine wpAnyH_ready (rs := [4]) (by kernel_rfl) (by simp) ?_
    refine AllReadyH.cons rfl (fun K2 hK => ?_) AllReadyH.nil
    go_simp
    refine (unhide MK _ _).mono ?_
    rintro r w6 ⟨rfl, hb6⟩
    have D7 := hide ((unhide D6).trans (hb6.mono (unhide D6).size))
    have O7 := hide ((unhide O6).later hb6)
    refine hK.out _ _ (unhide D7) (fun hS => ?_)
    clear HS
    have HS := hide hS
    clear hS hK K2
    clear hb6 D6 O6
    refine wpAnyH_ready (rs := [5]) (by kernel_rfl) (by simp) ?_
    refine AllReadyH.cons rfl (fun K2 hK => ?_) AllReadyH.nil
    go_simp
    have D8 := hide ((unhide D7).alloc (unhide D7).size (.cells #[.int .i64 4, .int .i64 0, .string sg] 59))
    have O8 := hide ((unhide O7).later (below_new w6 (.cells #[.int .i64 4, .int .i64 0, .string sg] 59)))
    have C8 := hide (cell_new w6 #[.int .i64 4, .int .i64 0, .string sg] 59)
    generalize w6.heap.size = g8 at *
    generalize w6.alloc (.cells #[.int .i64 4, .int .i64 0, .string sg] 59) = w8 at *
    refine hK.out _ _ (unhide D8) (fun hS => ?_)
    clear HS
    have HS := hide hS
    clear hS hK K2
    clear D7 O7
    refine wpAnyH_ready (rs := [6]) (by kernel_rfl) (by simp) ?_
    refine AllReadyH.cons rfl (fun K2 hK => ?_) AllReadyH.nil
    rw [if_pos (by rfl)]
    refine wp_append_own _ (.tmp 40) (.tmp 45) 45 rfl W.heap.size 59 i0 (.agg #[.int .i64 0, .int .i64 0, .string ⟨#[]⟩]) 3 32 Tryz.underlying45 hi hz0 hz1 hz2 rfl (by decide) v5 us.length (cellsT us) rfl (unhide O8) ⟨g8, 0, none⟩ 1 1 [.int .i64 4, .int .i64 0, .string sg] rfl rfl (unhide C8) (newT_one _ _ _) (by unfold maxLen; (try simp only [List.length_append, List.length_cons, List.length_nil]); omega) (by (try simp only [List.length_append, List.length_cons, List.length_nil]); omega) (unhide D8).size ?_
    intro v9 w9 hown9 hgrow9 _
    have O9 := hide (ownT_app (t := ⟨4, 0, sg⟩) hown9)
    have D9 := hide ((unhide D8).grown hgrow9 (unhide D8).size (fun g hg => ((unhide O8).lt hg).1))
    refine hK.out _ _ (unhide D9) (fun hS => ?_)
    clear HS
    have HS := hide hS
    clear hS hK K2
    clear hown9 hgrow9 O8 C8 D8
    refine wpAnyH_ready (rs := [11]) (by kernel_rfl) (by simp) ?_
    refine AllReadyH.cons rfl (fun K2 hK => ?_) AllReadyH.nil
    go_simp
    refine (unhide I1 _ (unhide D9)).mono ?_
    rintro r wa ⟨va, rfl, oa, hba⟩
    have DA := hide ((unhide D9).trans (hba.mono (unhide D9).size))
    have OA := hide ((unhide O9).later hba)
    obtain ⟨ga, ca, rfl, sra⟩ := (oa.base (unhide D9).size).src hts1
    have SRA := hide sra
    refine hK.out _ _ (unhide DA) (fun hS => ?_)
    clear HS
    have HS := hide hS
    clear hS hK K2
    clear hba oa sra D9 O9
    have l9 : ((us ++ [Tk.mk 4 0 sg]).length : Nat) = us.length + 1 := by simp only [List.length_append, List.length_cons, List.length_nil]
    generalize hus : us ++ [Tk.mk 4 0 sg] = us1 at *
    have H2 := hide hus
    clear hus
    refine wpAnyH_ready (rs := [12]) (by kernel_rfl) (by simp) ?_
    refine AllReadyH.cons rfl (fun K2 hK => ?_) AllReadyH.nil
    rw [if_pos (by rfl)]
    refine wp_append_own _ (.tmp 46) (.tmp 51) 45 rfl W.heap.size 59 i0 (.agg #[.int .i64 0, .int .i64 0, .string ⟨#[]⟩]) 3 32 Tryz.underlying45 hi hz0 hz1 hz2 rfl (by decide) v9 us1.length (cellsT us1) rfl (unhide OA) ⟨ga, 0, none⟩ ts1.length ca (cellsT ts1) rfl (cellsT_len ts1) (unhide SRA) (cellsT_one ts1) (by unfold maxLen; (try simp only [List.length_append, List.length_cons, List.length_nil]); omega) (by (try simp only [List.length_append, List.length_cons, List.length_nil]); omega) (unhide DA).size ?_
    intro vb wb hownb hgrowb _
    have OB := hide (ownT_join hownb)
    have DB := hide ((unhide DA).grown hgrowb (unhide DA).size (fun g hg => ((unhide OA).lt hg).1))
    refine hK.out _ _ (unhide DB) (fun hS => ?_)
    clear HS
    have HS := hide hS
    clear hS hK K2
    clear hownb hgrowb OA SRA DA
    refine wpAnyH_take (i := 13) (v := vb) rfl (by kernel_rfl) (by kernel_rfl) (by kernel_rfl) (fun _ _ _ h => h) (Or.inl ⟨by rfl, fun w hc => ?_⟩) (unhide HS) ?_
    · clear hc; go_simp
    go_simp
    refine wpAnyH_done (by kernel_rfl) ?_ _
    clear HS
    have lb : ((us1 ++ ts1).length : Nat) = us1.length + ts1.length := List.length_append
    generalize hus : us1 ++ ts1 = us2 at *
    have H3 := hide hus
    clear hus
    have MB := hide (unhide MK ⟨#[62]⟩ wb)
    go_wp2_with fail
    refine (unhide MB).mono ?_
    rintro r wc ⟨rfl, hbc⟩
    have DC := hide ((unhide DB).trans (hbc.mono (unhide DB).size))
    have OC := hide ((unhide OB).later hbc)
    have CC := hide (cell_new wc #[.int .i64 4, .int .i64 0, .string ⟨#[62]⟩] 59)
    have hsz := (unhide DC).size
    clear hbc MB DB OB
    go_wp2_with (at_builtin; go_must (refine wpList_append_own _ rfl (.tmp 53) (.tmp 55) 45 rfl W.heap.size 59 i0 (.agg #[.int .i64 0, .int .i64 0, .string ⟨#[]⟩]) 3 32 Tryz.underlying45 hi hz0 hz1 hz2 rfl (by decide) vb us2.length (cellsT us2) rfl (World.ownsRow.alloc (unhide OC) _) ⟨wc.heap.size, 0, none⟩ 1 1 [.int .i64 4, .int .i64 0, .string ⟨#[62]⟩] rfl rfl (unhide CC) (newT_one _ _ _) (by unfold maxLen; omega) (by omega) (by simp; omega) ?_; intro vd wd hownd hgrowd _; have OD := hide (ownT_app (t := ⟨4, 0, ⟨#[62]⟩⟩) hownd); have DD := hide (((unhide DC).alloc (unhide DC).size (.cells #[.int .i64 4, .int .i64 0, .string ⟨#[62]⟩] 59)).grown hgrowd (by simp; omega) (fun g hg => ((unhide OC).lt hg).1)); clear hownd hgrowd OC CC))
    go_ret
    have E : us2 ++ [Tk.mk 4 0 ⟨#[62]⟩] = twoT ts0 sg ts1 := by rw [← unhide H3, ← unhide H2, ← unhide H1]; simp [twoT]
    rw [E] at OD
    exact ⟨_, rfl, (unhide OD).base (unhide B0).size, (unhide B0).trans ((unhide DD).mono (unhide B0).size)⟩
theorem mxT_le : ∀ d, d ≤ 6 → mxT d ≤ 200 := by
  intro d h
  have : d = 0 ∨ d = 1 ∨ d = 2 ∨ d = 3 ∨ d = 4 ∨ d = 5 ∨ d = 6 := by omega
  rcases this with rfl | rfl | rfl | rfl | rfl | rfl | rfl <;> decide
theorem toks_ne {d : Nat} {e : Ex} (h : okF d true e = true) : toksF d e ≠ [] := by
  cases d with
  | zero => cases h
  | succ d =>
    rcases plain_cases h with ⟨n, hn, rfl⟩ | ⟨s, hs, rfl⟩ | rfl | ⟨a, ha, rfl⟩ | ⟨k, a, b, hk, ha, hb, rfl⟩
    · rw [toks_num]; simp
    · rw [toks_sym]; simp
    · rw [toks_here]; simp
    · rw [toks_neg]; simp
    · rw [toks_two d hk]; simp
theorem toksS_all : ∀ d : Nat, d ≤ 6 → ToksP d := by
  intro d
  induction d with
  | zero => intro _ e b cap w h; cases h
  | succ d ih =>
    intro hd e b cap w h hr
    have ihd := ih (by omega)
    have hm := mxT_le d (by omega)
    rcases plain_cases h with ⟨n, hn, rfl⟩ | ⟨s, hs, rfl⟩ | rfl | ⟨x, ha, rfl⟩ | ⟨k, x, y, hk, ha, hb, rfl⟩
    · rw [toks_num]; exact toksS_num n ⟨#[]⟩ b cap w
    · rw [toks_sym]; exact toksS_sym 0 s b cap w
    · rw [toks_here]; exact toksS_here b cap w
    · rw [toks_neg]
      rw [RdX_eq] at hr
      rcases hr with h0 | ⟨p, po, rfl, _, hp, hc⟩
      · cases h0
      obtain ⟨e0, e1, e2, c0, cp0, e3, e4⟩ := hc 0 (by simp)
      simp only [Nat.zero_mul, Nat.add_zero] at e0 e1 e2 e3
      have hl := (toks_ok d x ha).2
      exact toksS_neg c0 cp0 p po cap x (toksF d x) w (toks_ne ha) (by omega) hp e0 e1 e2 e3 (fun w1 hb => ihd x c0 cp0 w1 ha (e4.later hb))
    · rw [toks_two d hk]
      rw [RdX_eq] at hr
      rcases hr with h0 | ⟨p, po, rfl, _, hp, hc⟩
      · cases h0
      obtain ⟨e0, e1, e2, c0, cp0, e3, e4⟩ := hc 0 (by simp)
      obtain ⟨f0, f1, f2, c1, cp1, f3, f4⟩ := hc 1 (by simp)
      simp only [Nat.zero_mul, Nat.add_zero] at e0 e1 e2 e3
      simp only [Nat.one_mul] at f0 f1 f2 f3
      have hl := (toks_ok d x ha).2
      have hl2 := (toks_ok d y hb).2
      have T := toksS_two k hk c0 c1 cp0 cp1 p po cap x y (toksF d x) (toksF d y) w (toks_ne ha) (toks_ne hb) (by omega) (by omega) hp e0 e1 e2 e3 (fun w1 hb => ihd x c0 cp0 w1 ha (e4.later hb)) f0 f1 f2 f3 (fun w1 hb1 => ihd y c1 cp1 w1 hb (f4.later hb1))
      exact T
end Go.Proofs.YtmhcbehplhfgfaaGreatDoor

namespace Go.Proofs.YtmhcbehplhfgfaaGreatDoor
open Go.ChangeShapes Go.WideShapes Go.ChangeAt Go.RowKit
set_option linter.unusedVariables false
set_option maxRecDepth 8000
set_option linter.unusedSimpArgs false
theorem Sub.step {B : Nat} {w0 : World} {x : Sub B w0} (hB : B ≤ w0.heap.size) {w' : World} (hb : Below x.w.heap.size x.w w') : ∃ y : Sub B w0, w' = y.w := ⟨⟨w', x.h.trans (hb.mono (Nat.le_trans hB x.h.size))⟩, rfl⟩
section
variable {ops : Array Oper} {rest : List Oper} {o : Oper} {a : Act} {Q : Exit → Act → World → Prop} {w w0 : World} {B B2 : Nat} {K : Act → World → Prop}
/-- Tokens that are appended to tokens. -/
theorem wp_appT (s x : Operand) (ho : o.op = .call { callee := .builtin .append, args := #[s, x], argTypes := #[45, 45] }) (hB : B ≤ w0.heap.size) (hD : Below B w0 w) {v v2 : Value} {ts us : List Tk} (hs : a.eval s = v) (hown : OwnT w B v ts) (hx : a.eval x = v2) (ho2 : OwnT w B2 v2 us) (hne : us ≠ []) (hl : ts.length + us.length ≤ 1000000)
    (h : ∀ (v' : Value) (y : Sub B w0), OwnT y.w B v' (ts ++ us) → K (a.put o.dst v') y.w) : o.wp Tryz.prog a w K Q := by
  obtain ⟨i0, hi, hz0, hz1, hz2⟩ := info_parts infoT
  obtain ⟨g, c, e, sr⟩ := ho2.src hne
  have hsz := hD.size
  refine wp_append_own w s x 45 ho B 59 i0 (.agg #[.int .i64 0, .int .i64 0, .string ⟨#[]⟩]) 3 32 Tryz.underlying45 hi hz0 hz1 hz2 rfl (by decide) v ts.length (cellsT ts) hs hown ⟨g, 0, none⟩ us.length c (cellsT us) (hx.trans e) (cellsT_len us) sr (cellsT_one us) (by unfold maxLen; omega) (by omega) (by omega) ?_
  intro v' w' h1 h2 _
  exact h v' ⟨w', hD.grown h2 (Nat.le_trans hB hD.size) (fun g hg => (hown.lt hg).1)⟩ (ownT_join h1)
theorem appT (hgd : o.guard = none) (s x : Operand) (ho : o.op = .call { callee := .builtin .append, args := #[s, x], argTypes := #[45, 45] }) (hB : B ≤ w0.heap.size) (hD : Below B w0 w) {v v2 : Value} {ts us : List Tk} (hs : a.eval s = v) (hown : OwnT w B v ts) (hx : a.eval x = v2) (ho2 : OwnT w B2 v2 us) (hne : us ≠ []) (hl : ts.length + us.length ≤ 1000000)
    (h : ∀ (v' : Value) (y : Sub B w0), OwnT y.w B v' (ts ++ us) → wpList Tryz.prog ops Q rest (a.put o.dst v') y.w) : wpList Tryz.prog ops Q (o :: rest) a w :=
  wpList_plain hgd fun _ hK => wp_appT s x ho hB hD hs hown hx ho2 hne hl fun v' y h1 => hK _ _ (h v' y h1)
end
theorem ownT_two (w : World) (t u : Tk) (B : Nat) (hB : B ≤ w.heap.size) : OwnT (w.alloc (.cells #[.int .i64 t.k, .int .i64 t.n, .string t.s, .int .i64 u.k, .int .i64 u.n, .string u.s] 59)) B (.slice (some ⟨w.heap.size, 0, none⟩) 2 2) [t, u] :=
  World.ownsRow_lit w #[.int .i64 t.k, .int .i64 t.n, .string t.s, .int .i64 u.k, .int .i64 u.n, .string u.s] 2 hB (by decide) rfl
theorem ownT_three (w : World) (t u x : Tk) (B : Nat) (hB : B ≤ w.heap.size) : OwnT (w.alloc (.cells #[.int .i64 t.k, .int .i64 t.n, .string t.s, .int .i64 u.k, .int .i64 u.n, .string u.s, .int .i64 x.k, .int .i64 x.n, .string x.s] 59)) B (.slice (some ⟨w.heap.size, 0, none⟩) 3 3) [t, u, x] :=
  World.ownsRow_lit w #[.int .i64 t.k, .int .i64 t.n, .string t.s, .int .i64 u.k, .int .i64 u.n, .string u.s, .int .i64 x.k, .int .i64 x.n, .string x.s] 3 hB (by decide) rfl
/-- A kept word as a token. -/
def kpT (k : Nat) : Tk := ⟨5, 0, keptL.getD k E0⟩
/-- A register as a token. -/
def rgT (n : Nat) : Tk := kpT (23 + n)
/-- A register within brackets. -/
def rnT (n : Nat) : List Tk := [mkT 40, rgT n, mkT 41]
theorem keptL_len : keptL.length = 31 := by decide
set_option maxHeartbeats 2000000 in
theorem keptS (k : Nat) (hk : k < 31) (w : World) : Calls Tryz.prog 59 #[.int .i64 (k : Int)] w fun e w' => e = .returned (Tk.v (kpT k)) ∧ Below w.heap.size w w' := by
  have B0 := hide (below_new w (.cells T0c 59))
  have R0 := hide (heap_alloc_new w (.cells T0c 59))
  have KA := hide (kept_any (w.alloc (.cells T0c 59)))
  unfold T0c at B0 R0 KA
  unfold Tk.v Tk.cs kpT
  simp only
  have h1 : (k : Int) < 31 := by omega
  have h0 : (0 : Int) ≤ (k : Int) := by omega
  have h2 : ¬ ((k : Int) < 0) := by omega
  have h3 : ¬ ((31 : Int) ≤ (k : Int)) := by omega
  obtain ⟨s, hs⟩ : ∃ s, keptL.getD k E0 = s := ⟨_, rfl⟩
  have HS := hide hs
  rw [hs]
  clear hs
  go_enter Tryz.func59, Tryz.ntmps59
  go_wp2_with fail
  generalize w.alloc (.cells #[.int .i64 0, .int .i64 0, .string ⟨#[]⟩] 59) = W at *
  refine (unhide KA).mono ?_
  rintro e w1 ⟨rfl, hr1, hb1⟩
  have c1 := (hr1 k (by rw [keptL_len]; omega)).trans (by rw [unhide HS])
  have R1 := hide (row_keep (unhide R0) hb1)
  have B1 := hide ((unhide B0).trans (hb1.mono (unhide B0).size))
  clear hr1 hb1 KA R0 B0
  generalize W.heap.size = g at *
  go_wp2_with (first | (refine wpList_store_row rfl 59 _ _ rfl w.heap.size #[.int .i64 5, .int .i64 0, .string s] rfl rfl 59 _ (unhide R1) szK rfl (tk_one _ _ _) ?_))
  refine bodyPost_ret (results_cell_row (P := Tryz.prog) rfl _ _ w.heap.size 59 #[.int .i64 5, .int .i64 0, .string s] (0, 0) _ rfl (setRow_heap _ _ _ _ _ _ (unhide R1)) Tryz.underlying59 rfl szK) rfl ?_
  exact ⟨rfl, below_row (unhide B1)⟩
set_option maxHeartbeats 2000000 in
theorem regS (n : Nat) (hn : n < 8) (w : World) : Calls Tryz.prog 61 #[.int .i64 (n : Int)] w fun e w' => e = .returned (Tk.v (rgT n)) ∧ Below w.heap.size w w' := by
  have B0 := hide (below_new w (.cells T0c 59))
  have R0 := hide (heap_alloc_new w (.cells T0c 59))
  have KA' := keptS (23 + n) (by omega) (w.alloc (.cells T0c 59))
  rw [show ((23 + n : Nat) : Int) = 23 + (n : Int) by omega] at KA'
  unfold Tk.v Tk.cs kpT at KA'
  simp only at KA'
  have KA := hide KA'
  clear KA'
  unfold T0c at B0 R0 KA
  unfold rgT Tk.v Tk.cs kpT
  simp only
  generalize keptL.getD (23 + n) E0 = s at *
  have h1 : IntKind.i64.wrap (23 + (n : Int)) = 23 + (n : Int) := by rw [IntKind.wrap_i64]; omega
  go_enter Tryz.func61, Tryz.ntmps61
  go_wp2_with fail
  generalize w.alloc (.cells #[.int .i64 0, .int .i64 0, .string ⟨#[]⟩] 59) = W at *
  refine (unhide KA).mono ?_
  rintro e w1 ⟨rfl, hb1⟩
  have R1 := hide (row_keep (unhide R0) hb1)
  have B1 := hide ((unhide B0).trans (hb1.mono (unhide B0).size))
  clear hb1 KA R0 B0
  go_wp2_with (first | (refine wpList_store_row rfl 59 _ _ rfl w.heap.size #[.int .i64 5, .int .i64 0, .string s] rfl rfl 59 _ (unhide R1) szK rfl (tk_one _ _ _) ?_))
  refine bodyPost_ret (results_cell_row (P := Tryz.prog) rfl _ _ w.heap.size 59 #[.int .i64 5, .int .i64 0, .string s] (0, 0) _ rfl (setRow_heap _ _ _ _ _ _ (unhide R1)) Tryz.underlying59 rfl szK) rfl ?_
  exact ⟨rfl, below_row (unhide B1)⟩
set_option maxHeartbeats 2000000 in
theorem rndS (n : Nat) (hn : n < 8) (w : World) : Calls Tryz.prog 74 #[.int .i64 (n : Int)] w fun r w' => ∃ v, r = .returned v ∧ OwnT w' w.heap.size v (rnT n) ∧ Below w.heap.size w w' := by
  have M1 := hide (markS_ex (mkS 40) w)
  have M2 := hide (fun w1 => regS n hn w1)
  have M3 := hide (fun w1 => markS_ex (mkS 41) w1)
  have OW := hide (fun (w1 : World) (h : w.heap.size ≤ w1.heap.size) => ownT_three w1 (mkT 40) (rgT n) (mkT 41) w.heap.size h)
  rw [show rnT n = [mkT 40, rgT n, mkT 41] from rfl]
  generalize hL : [mkT 40, rgT n, mkT 41] = L at *
  clear hL
  unfold mkT mkS at OW
  unfold rgT kpT at OW M2
  unfold Tk.v Tk.cs mkS at M1 M3
  unfold Tk.v Tk.cs at M2
  simp only at M1 M2 M3 OW
  generalize keptL.getD (23 + n) E0 = s at *
  go_enter Tryz.func74, Tryz.ntmps74
  go_wp2_with fail
  refine (unhide M1).mono ?_
  rintro r w1 ⟨rfl, hb1⟩
  have B1 := hide hb1
  clear hb1
  go_wp2_with fail
  refine (unhide M2 _).mono ?_
  rintro r w2 ⟨rfl, hb2⟩
  have B2 := hide ((unhide B1).trans (hb2.mono (unhide B1).size))
  clear hb2 B1
  go_wp2_with fail
  refine (unhide M3 _).mono ?_
  rintro r w3 ⟨rfl, hb3⟩
  have B3 := hide ((unhide B2).trans (hb3.mono (unhide B2).size))
  have OV := hide (unhide OW w3 (unhide B3).size)
  clear hb3 B2
  go_wp2
  go_ret
  exact ⟨_, rfl, unhide OV, (unhide B3).alloc (unhide B3).size _⟩
end Go.Proofs.YtmhcbehplhfgfaaGreatDoor
