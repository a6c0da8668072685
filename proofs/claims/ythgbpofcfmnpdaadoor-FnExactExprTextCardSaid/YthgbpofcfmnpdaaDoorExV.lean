/- The tokens of a term, by the model; over this seat's translation; conditions stand as hypotheses of each. -/
import Derived.Test.YthgbpofcfmnpdaaDoorExK
import Derived.Test.YthgbpofcfmnpdaaDoorLxD
import Derived.Test.YthgbpofcfmnpdaaDoorHeT
namespace Go.Proofs.YthgbpofcfmnpdaaDoor
open Go.ChangeShapes Go.WideShapes Go.ChangeAt Go.RowKit
set_option linter.unusedVariables false
set_option maxRecDepth 8000
set_option linter.unusedSimpArgs false

set_option maxHeartbeats 1000000 in
theorem markS_ex (x : ByteArray) (w : World) : Calls Tryd.prog 98 #[.string x] w fun e w' => e = .returned (Tk.v ⟨4, 0, x⟩) ∧ Below w.heap.size w w' := by
  have B0 := hide (below_new w (.cells T0c 31))
  have R0 := hide (heap_alloc_new w (.cells T0c 31))
  unfold T0c at B0 R0
  unfold Tk.v Tk.cs
  simp only
  go_enter Tryd.func98, Tryd.ntmps98
  go_wp2_with (first | (refine wpList_store_row rfl 31 _ _ rfl w.heap.size #[.int .i64 4, .int .i64 0, .string x] rfl rfl 31 _ (unhide R0) szK rfl (tk_one _ _ _) ?_))
  refine bodyPost_ret (results_cell_row (P := Tryd.prog) rfl _ _ w.heap.size 31 #[.int .i64 4, .int .i64 0, .string x] (0, 0) _ rfl (setRow_heap _ _ _ _ _ _ (unhide R0)) Tryd.underlying31 rfl szK) rfl ?_
  exact ⟨rfl, below_row (unhide B0)⟩
set_option maxHeartbeats 1000000 in
theorem signS_any (k : Int) (hk : 5 ≤ k ∧ k ≤ 10) (w : World) : Calls Tryd.prog 99 #[.int .i64 k] w fun e w' => e = .returned (.string (mkS (sgnC k))) ∧ w' = w := by
  have : k = 5 ∨ k = 6 ∨ k = 7 ∨ k = 8 ∨ k = 9 ∨ k = 10 := by omega
  rcases this with rfl | rfl | rfl | rfl | rfl | rfl <;> (go_enter Tryd.func99, Tryd.ntmps99; go_wp2; go_ret; exact ⟨rfl, rfl⟩)
/-- Where tokens that are owned lie. -/
theorem OwnT.src {w : World} {B : Nat} {v : Value} {ts : List Tk} (h : OwnT w B v ts) (hts : ts ≠ []) : ∃ g c, v = .slice (some ⟨g, 0, none⟩) ts.length c ∧ ∀ j u, (cellsT ts)[j]? = some u → w.cell? ((⟨g, 0, none⟩ : Addr).add j) = some u := by
  rcases h.form with ⟨rfl, rfl⟩ | ⟨g, c, rfl, _⟩
  · exact absurd rfl hts
  · refine ⟨g, c, rfl, fun j u hu => ?_⟩
    have hj : j < ts.length * 3 := by rw [← cellsT_len]; exact (List.getElem?_eq_some_iff.1 hu).1
    have := (World.ownsRow.cellAt h j hj).trans hu
    unfold Addr.add
    by_cases h0 : j = 0
    · subst h0; simpa using this
    · simpa [h0] using this
theorem ownT_join {w' : World} {B : Nat} {v : Value} {ts us : List Tk} (h : w'.ownsRow B 31 3 v (ts.length + us.length) (cellsT ts ++ cellsT us)) : OwnT w' B v (ts ++ us) := by
  unfold OwnT
  rw [List.length_append, cellsT_app]
  exact h
def ToksP (d : Nat) : Prop := ∀ (e : Ex) (b : Option Addr) (cap : Nat) (w : World), okF d true e = true → RdX w 0 e b → Calls Tryd.prog 77 #[.agg (e.cs b cap)] w fun r w' => ∃ v, r = .returned v ∧ OwnT w' w.heap.size v (toksF d e) ∧ Below w.heap.size w w'
theorem ownT_new (w : World) (t : Tk) (B : Nat) (hB : B ≤ w.heap.size) : OwnT (w.alloc (.cells t.cs 31)) B (.slice (some ⟨w.heap.size, 0, none⟩) 1 1) [t] :=
  ⟨rfl, .inr ⟨w.heap.size, 1, t.cs, rfl, hB, Array.getElem?_push_size, Nat.le_refl _, by unfold maxLen; omega, rfl, rfl⟩⟩
set_option maxHeartbeats 2000000 in
theorem toksS_num (n : Int) (s : ByteArray) (b : Option Addr) (cap : Nat) (w : World) : Calls Tryd.prog 77 #[.agg #[.int .i64 1, .int .i64 n, .string ⟨#[]⟩, .slice b 0 cap]] w fun r w' => ∃ v, r = .returned v ∧ OwnT w' w.heap.size v [⟨2, n, E0⟩] ∧ Below w.heap.size w w' := by
  have B0 := hide (below_new w (.cells #[.int .i64 1, .int .i64 n, .string ⟨#[]⟩, .slice b 0 cap] 37))
  have O1 := hide (ownT_new (w.alloc (.cells #[.int .i64 1, .int .i64 n, .string ⟨#[]⟩, .slice b 0 cap] 37)) ⟨2, n, E0⟩ w.heap.size (unhide B0).size)
  have B1 := hide ((unhide B0).alloc (unhide B0).size (.cells (Tk.cs ⟨2, n, E0⟩) 31))
  rw [show (w.alloc (.cells #[.int .i64 1, .int .i64 n, .string ⟨#[]⟩, .slice b 0 cap] 37)).heap.size = w.heap.size + 1 by simp] at O1
  unfold Tk.cs at O1 B1
  try unfold E0 at O1 B1
  try unfold E0
  simp only at O1 B1
  go_enter Tryd.func77, Tryd.ntmps77
  go_wp2
  go_ret
  exact ⟨_, rfl, unhide O1, unhide B1⟩
set_option maxHeartbeats 2000000 in
theorem toksS_sym (n : Int) (s : ByteArray) (b : Option Addr) (cap : Nat) (w : World) : Calls Tryd.prog 77 #[.agg #[.int .i64 2, .int .i64 0, .string s, .slice b 0 cap]] w fun r w' => ∃ v, r = .returned v ∧ OwnT w' w.heap.size v [⟨1, 0, s⟩] ∧ Below w.heap.size w w' := by
  have B0 := hide (below_new w (.cells #[.int .i64 2, .int .i64 0, .string s, .slice b 0 cap] 37))
  have O1 := hide (ownT_new (w.alloc (.cells #[.int .i64 2, .int .i64 0, .string s, .slice b 0 cap] 37)) ⟨1, 0, s⟩ w.heap.size (unhide B0).size)
  have B1 := hide ((unhide B0).alloc (unhide B0).size (.cells (Tk.cs ⟨1, 0, s⟩) 31))
  rw [show (w.alloc (.cells #[.int .i64 2, .int .i64 0, .string s, .slice b 0 cap] 37)).heap.size = w.heap.size + 1 by simp] at O1
  unfold Tk.cs at O1 B1
  try unfold E0 at O1 B1
  try unfold E0
  simp only at O1 B1
  go_enter Tryd.func77, Tryd.ntmps77
  go_wp2
  go_ret
  exact ⟨_, rfl, unhide O1, unhide B1⟩
set_option maxHeartbeats 2000000 in
theorem toksS_here (b : Option Addr) (cap : Nat) (w : World) : Calls Tryd.prog 77 #[.agg #[.int .i64 3, .int .i64 0, .string ⟨#[]⟩, .slice b 0 cap]] w fun r w' => ∃ v, r = .returned v ∧ OwnT w' w.heap.size v [mkT 46] ∧ Below w.heap.size w w' := by
  have B0 := hide (below_new w (.cells #[.int .i64 3, .int .i64 0, .string ⟨#[]⟩, .slice b 0 cap] 37))
  have MK := hide (markS_ex (mkS 46) (w.alloc (.cells #[.int .i64 3, .int .i64 0, .string ⟨#[]⟩, .slice b 0 cap] 37)))
  have ON := hide (fun w1 (h : w.heap.size ≤ w1.heap.size) => ownT_new w1 (mkT 46) w.heap.size h)
  unfold mkT mkS Tk.cs at ON
  unfold mkT
  unfold mkS Tk.v Tk.cs at MK
  unfold mkS
  simp only at ON MK
  go_enter Tryd.func77, Tryd.ntmps77
  go_wp2_with fail
  refine (unhide MK).mono ?_
  rintro r w1 ⟨rfl, hb1⟩
  have B1 := hide ((unhide B0).trans (hb1.mono (unhide B0).size))
  have O1 := hide (unhide ON w1 (unhide B1).size)
  clear hb1 MK ON
  go_wp2
  go_ret
  exact ⟨_, rfl, unhide O1, (unhide B1).alloc (unhide B1).size _⟩
set_option maxHeartbeats 4000000 in
theorem toksS_neg (c0 : Option Addr) (cp0 p po cap : Nat) (a : Ex) (ts : List Tk) (w : World) (hts : ts ≠ []) (h8 : ts.length ≤ 400) (hp : p < w.heap.size) (e0 : w.cell? ⟨p, po, none⟩ = some (.int .i64 a.k)) (e1 : w.cell? ⟨p, po + 1, none⟩ = some (.int .i64 a.n)) (e2 : w.cell? ⟨p, po + 2, none⟩ = some (.string a.s)) (e3 : w.cell? ⟨p, po + 3, none⟩ = some (.slice c0 a.l.length cp0)) (ih : ∀ w1, Below w.heap.size w w1 → Calls Tryd.prog 77 #[.agg (a.cs c0 cp0)] w1 fun r w' => ∃ v, r = .returned v ∧ OwnT w' w1.heap.size v ts ∧ Below w1.heap.size w1 w') : Calls Tryd.prog 77 #[.agg #[.int .i64 4, .int .i64 0, .string ⟨#[]⟩, .slice (some ⟨p, po, none⟩) 1 cap]] w fun r w' => ∃ v, r = .returned v ∧ OwnT w' w.heap.size v ([Tk.mk 4 0 ⟨#[45]⟩] ++ ts) ∧ Below w.heap.size w w' := by
  obtain ⟨W, hW⟩ : ∃ W, w.alloc (.cells #[.int .i64 4, .int .i64 0, .string ⟨#[]⟩, .slice (some ⟨p, po, none⟩) 1 cap] 37) = W := ⟨_, rfl⟩
  have B0 := hide (below_new w (.cells #[.int .i64 4, .int .i64 0, .string ⟨#[]⟩, .slice (some ⟨p, po, none⟩) 1 cap] 37))
  have hg : W.heap[w.heap.size]? = some (.cells #[.int .i64 4, .int .i64 0, .string ⟨#[]⟩, .slice (some ⟨p, po, none⟩) 1 cap] 37 (0, 0)) := by rw [← hW]; exact Array.getElem?_push_size
  rw [hW] at B0
  have x0 := Lib.cell_of_heap hg 0
  have xl : w.heap.size < W.heap.size := (Array.getElem?_eq_some_iff.1 hg).1
  have Y0 := hide (fun w1 (hb : Below W.heap.size W w1) => (hb.cell (p := ⟨w.heap.size, 0, none⟩) xl).trans (Lib.cell_of_heap hg 0))
  have Y3 := hide (fun w1 (hb : Below W.heap.size W w1) => (hb.cell (p := ⟨w.heap.size, 3, none⟩) xl).trans (Lib.cell_of_heap hg 3))
  have U0 := hide (fun w1 (hb : Below W.heap.size W w1) => (hb.cell (p := ⟨p, po, none⟩) (Nat.lt_trans hp xl)).trans (((unhide B0).cell (p := ⟨p, po, none⟩) hp).trans e0))
  have U1 := hide (fun w1 (hb : Below W.heap.size W w1) => (hb.cell (p := ⟨p, po + 1, none⟩) (Nat.lt_trans hp xl)).trans (((unhide B0).cell (p := ⟨p, po + 1, none⟩) hp).trans e1))
  have U2 := hide (fun w1 (hb : Below W.heap.size W w1) => (hb.cell (p := ⟨p, po + 2, none⟩) (Nat.lt_trans hp xl)).trans (((unhide B0).cell (p := ⟨p, po + 2, none⟩) hp).trans e2))
  have U3 := hide (fun w1 (hb : Below W.heap.size W w1) => (hb.cell (p := ⟨p, po + 3, none⟩) (Nat.lt_trans hp xl)).trans (((unhide B0).cell (p := ⟨p, po + 3, none⟩) hp).trans e3))
  have I0 := hide (fun w1 (hb : Below W.heap.size W w1) => ih w1 ((unhide B0).trans (hb.mono (unhide B0).size)))
  have MK := hide (fun w1 => markS_ex (mkS 45) w1)
  obtain ⟨i0, hi, hz0, hz1, hz2⟩ := info_parts infoT
  clear hg xl ih e0 e1 e2 e3 hp
  unfold Ex.cs at I0
  unfold mkS Tk.v Tk.cs at MK
  simp only at MK
  generalize a.k = ak at *
  generalize a.n = an at *
  generalize a.s = asv at *
  generalize a.l.length = al at *
  go_enter Tryd.func77, Tryd.ntmps77
  go_wp2_with fail
  have D0 := hide (show Below W.heap.size W W.drew from below_drew)
  refine wp_region_held_drew (S := fun w' => Below W.heap.size W w') (by kernel_rfl) (unhide D0) (fun hS => ?_)
  have HS := hide hS
  clear hS
  refine wpAnyH_take (i := 2) (v := .pointer (some ⟨w.heap.size, 3, none⟩)) rfl (by kernel_rfl) (by kernel_rfl) (by kernel_rfl) (fun _ _ _ h => h) (Or.inl ⟨by rfl, fun w hc => ?_⟩) (unhide HS) ?_
  · clear hc; go_simp
  go_simp
  refine wpAnyH_take (i := 3) (v := .slice (some ⟨p, po, none⟩) 1 cap) rfl (by kernel_rfl) (by kernel_rfl) (by kernel_rfl) (fun _ _ _ h => h) (Or.inl ⟨by rfl, fun w hc => ?_⟩) (unhide HS) ?_
  · have q := unhide Y3 _ hc; clear hc; go_simp
  go_simp
  refine wpAnyH_take (i := 4) (v := .pointer (some ⟨p, po, none⟩)) rfl (by kernel_rfl) (by kernel_rfl) (by kernel_rfl) (fun _ _ _ h => h) (Or.inl ⟨by rfl, fun w hc => ?_⟩) (unhide HS) ?_
  · clear hc; go_simp
  go_simp
  refine wpAnyH_take (i := 5) (v := .agg #[.int .i64 ak, .int .i64 an, .string asv, .slice c0 al cp0]) rfl (by kernel_rfl) (by kernel_rfl) (by kernel_rfl) (fun _ _ _ h => h) (Or.inl ⟨by rfl, fun w hc => ?_⟩) (unhide HS) ?_
  · have q0 := unhide U0 _ hc; have q1 := unhide U1 _ hc; have q2 := unhide U2 _ hc; have q3 := unhide U3 _ hc; clear hc; go_simp
  go_simp
  refine wpAnyH_ready (rs := [0]) (by kernel_rfl) (by simp) ?_
  refine AllReadyH.cons rfl (fun K2 hK => ?_) AllReadyH.nil
  go_simp
  refine (unhide MK _).mono ?_
  rintro r w1 ⟨rfl, hb1⟩
  have D1 := hide ((unhide D0).trans (hb1.mono (unhide D0).size))
  refine hK.out _ _ (unhide D1) (fun hS => ?_)
  clear HS
  have HS := hide hS
  clear hS hK K2
  clear hb1 D0
  refine wpAnyH_ready (rs := [1, 6]) (by kernel_rfl) (by simp) ?_
  refine AllReadyH.cons rfl (fun K2 hK => ?_) (AllReadyH.cons rfl (fun K2 hK => ?_) AllReadyH.nil)
  · go_simp
    have D2 := hide ((unhide D1).alloc (unhide D1).size (.cells #[.int .i64 4, .int .i64 0, .string ⟨#[45]⟩] 31))
    have N2 := hide (ownT_new w1 (Tk.mk 4 0 ⟨#[45]⟩) W.heap.size (unhide D1).size)
    unfold Tk.cs at N2
    simp only at N2
    generalize w1.heap.size = g1 at *
    generalize w1.alloc (.cells #[.int .i64 4, .int .i64 0, .string ⟨#[45]⟩] 31) = w2 at *
    refine hK.out _ _ (unhide D2) (fun hS => ?_)
    clear HS
    have HS := hide hS
    clear hS hK K2
    refine wpAnyH_ready (rs := [6]) (by kernel_rfl) (by simp) ?_
    refine AllReadyH.cons rfl (fun K2 hK => ?_) AllReadyH.nil
    go_simp
    refine (unhide I0 _ (unhide D2)).mono ?_
    rintro r w3 ⟨v3, rfl, o3, hb3⟩
    have D3 := hide ((unhide D2).trans (hb3.mono (unhide D2).size))
    have O1 := hide ((unhide N2).later hb3)
    obtain ⟨g2, c2, rfl, sr⟩ := (o3.base (unhide D2).size).src hts
    have SR := hide sr
    refine hK.out _ _ (unhide D3) (fun hS => ?_)
    clear HS
    have HS := hide hS
    clear hS hK K2
    clear hb3 o3 sr N2 D2 D1
    refine wpAnyH_ready (rs := [7]) (by kernel_rfl) (by simp) ?_
    refine AllReadyH.cons rfl (fun K2 hK => ?_) AllReadyH.nil
    rw [if_pos (by rfl)]
    refine wp_append_own _ (.tmp 25) (.tmp 30) 24 rfl W.heap.size 31 i0 (.agg #[.int .i64 0, .int .i64 0, .string ⟨#[]⟩]) 3 32 Tryd.underlying24 hi hz0 hz1 hz2 rfl (by decide) (.slice (some ⟨g1, 0, none⟩) 1 1) 1 (cellsT [Tk.mk 4 0 ⟨#[45]⟩]) rfl (unhide O1) ⟨g2, 0, none⟩ ts.length c2 (cellsT ts) rfl (cellsT_len ts) (unhide SR) (cellsT_one ts) (by unfold maxLen; omega) (by omega) (unhide D3).size ?_
    intro v5 w5 hown5 hgrow5 _
    have O5 := hide (ownT_join (ts := [Tk.mk 4 0 ⟨#[45]⟩]) (us := ts) hown5)
    have D5 := hide ((unhide D3).grown hgrow5 (unhide D3).size (fun g hg => ((unhide O1).lt hg).1))
    refine hK.out _ _ (unhide D5) (fun hS => ?_)
    clear HS
    have HS := hide hS
    clear hS hK K2
    refine wpAnyH_take (i := 8) (v := v5) rfl (by kernel_rfl) (by kernel_rfl) (by kernel_rfl) (fun _ _ _ h => h) (Or.inl ⟨by rfl, fun w hc => ?_⟩) (unhide HS) ?_
    · clear hc; go_simp
    go_simp
    refine wpAnyH_done (by kernel_rfl) ?_ _
    clear hown5 hgrow5 O1 D3 SR HS
    go_wp2
    go_ret
    exact ⟨_, rfl, (unhide O5).base (unhide B0).size, (unhide B0).trans ((unhide D5).mono (unhide B0).size)⟩
  · go_simp
    refine (unhide I0 _ (unhide D1)).mono ?_
    rintro r w2 ⟨v3, rfl, o3, hb3⟩
    have D2 := hide ((unhide D1).trans (hb3.mono (unhide D1).size))
    have O3 := hide (o3.base (unhide D1).size)
    refine hK.out _ _ (unhide D2) (fun hS => ?_)
    clear HS
    have HS := hide hS
    clear hS hK K2
    clear hb3 o3
    refine wpAnyH_ready (rs := [1]) (by kernel_rfl) (by simp) ?_
    refine AllReadyH.cons rfl (fun K2 hK => ?_) AllReadyH.nil
    go_simp
    have D3 := hide ((unhide D2).alloc (unhide D2).size (.cells #[.int .i64 4, .int .i64 0, .string ⟨#[45]⟩] 31))
    have O1 := hide (ownT_new w2 (Tk.mk 4 0 ⟨#[45]⟩) W.heap.size (unhide D2).size)
    obtain ⟨g2, c2, rfl, sr⟩ := ((unhide O3).later (below_new w2 (.cells #[.int .i64 4, .int .i64 0, .string ⟨#[45]⟩] 31))).src hts
    have SR := hide sr
    unfold Tk.cs at O1
    simp only at O1
    clear sr O3
    generalize w2.heap.size = g1 at *
    generalize w2.alloc (.cells #[.int .i64 4, .int .i64 0, .string ⟨#[45]⟩] 31) = w3 at *
    refine hK.out _ _ (unhide D3) (fun hS => ?_)
    clear HS
    have HS := hide hS
    clear hS hK K2
    clear D2 D1
    refine wpAnyH_ready (rs := [7]) (by kernel_rfl) (by simp) ?_
    refine AllReadyH.cons rfl (fun K2 hK => ?_) AllReadyH.nil
    rw [if_pos (by rfl)]
    refine wp_append_own _ (.tmp 25) (.tmp 30) 24 rfl W.heap.size 31 i0 (.agg #[.int .i64 0, .int .i64 0, .string ⟨#[]⟩]) 3 32 Tryd.underlying24 hi hz0 hz1 hz2 rfl (by decide) (.slice (some ⟨g1, 0, none⟩) 1 1) 1 (cellsT [Tk.mk 4 0 ⟨#[45]⟩]) rfl (unhide O1) ⟨g2, 0, none⟩ ts.length c2 (cellsT ts) rfl (cellsT_len ts) (unhide SR) (cellsT_one ts) (by unfold maxLen; omega) (by omega) (unhide D3).size ?_
    intro v5 w5 hown5 hgrow5 _
    have O5 := hide (ownT_join (ts := [Tk.mk 4 0 ⟨#[45]⟩]) (us := ts) hown5)
    have D5 := hide ((unhide D3).grown hgrow5 (unhide D3).size (fun g hg => ((unhide O1).lt hg).1))
    refine hK.out _ _ (unhide D5) (fun hS => ?_)
    clear HS
    have HS := hide hS
    clear hS hK K2
    refine wpAnyH_take (i := 8) (v := v5) rfl (by kernel_rfl) (by kernel_rfl) (by kernel_rfl) (fun _ _ _ h => h) (Or.inl ⟨by rfl, fun w hc => ?_⟩) (unhide HS) ?_
    · clear hc; go_simp
    go_simp
    refine wpAnyH_done (by kernel_rfl) ?_ _
    clear hown5 hgrow5 O1 D3 SR HS
    go_wp2
    go_ret
    exact ⟨_, rfl, (unhide O5).base (unhide B0).size, (unhide B0).trans ((unhide D5).mono (unhide B0).size)⟩
end Go.Proofs.YthgbpofcfmnpdaaDoor
