/- Contracts over this seat's translation, laid together; conditions stand as hypotheses of each. -/
import Derived.Test.YthgbpofcfmnpdaaGreatDoorTyA
import Derived.Test.YthgbpofcfmnpdaaGreatDoorTyB
import Derived.Test.YthgbpofcfmnpdaaGreatDoorTyC
import Derived.Test.YthgbpofcfmnpdaaGreatDoorTyD
import Derived.Test.YthgbpofcfmnpdaaGreatDoorTyE
import Derived.LoopN
import Derived.Deep.RegionWith

namespace Go.Proofs.YthgbpofcfmnpdaaGreatDoor
open Go.ChangeShapes Go.WideShapes Go.ChangeAt Go.RowKit
set_option linter.unusedVariables false
set_option maxRecDepth 8000
set_option linter.unusedSimpArgs false

/-- Rows of another type than the tokens' stay. -/
def KpT (w w' : World) : Prop := ∀ (g : Nat) (cs : Array Value) (t : TypeId) (fr : Nat × Nat), w.heap[g]? = some (.cells cs t fr) → t ≠ 62 → w'.heap[g]? = some (.cells cs t fr)
theorem KpT.refl (w : World) : KpT w w := fun _ _ _ _ h _ => h
theorem KpT.trans {a b c : World} (h : KpT a b) (k : KpT b c) : KpT a c := fun g cs t fr h1 h2 => k g cs t fr (h g cs t fr h1 h2) h2
theorem KpT.of {w w' : World} (hb : Below w.heap.size w w') : KpT w w' := fun g cs t fr h _ => (hb.block g (Array.getElem?_eq_some_iff.1 h).1).trans h
theorem KpT.own {w w' : World} {B : Nat} {v : Value} {ts : List Tk} (ho : OwnT w B v ts) (hg : w.grownBy w' v.ownBlock) : KpT w w' := fun g cs t fr h ht => by
  refine (hg.block g (Array.getElem?_eq_some_iff.1 h).1 (fun e => ?_)).trans h
  obtain ⟨_, ⟨rfl, _⟩ | ⟨g', cap, cur, rfl, _, hh, _⟩⟩ := ho
  · simp [Value.ownBlock] at e
  · simp [Value.ownBlock] at e
    subst e
    rw [hh] at h
    cases h
    exact ht rfl
/-- The marks of those of two, as the program has them. -/
def sgnL : List ByteArray := [E0, E0, E0, E0, E0, mkS 43, mkS 45, mkS 42, mkS 47, mkS 38, mkS 124]
def sgA : Array Value := (sgnL.map Value.string).toArray
def TabG (w : World) : Prop := ∃ t fr, w.heap[0]? = some (.cells sgA t fr)
theorem TabG.lt {w : World} (h : TabG w) : 0 < w.heap.size := by obtain ⟨t, fr, h⟩ := h; exact (Array.getElem?_eq_some_iff.1 h).1
theorem TabG.later {w w' : World} {B : Nat} (h : TabG w) (hb : Below B w w') (hB : 0 < B) : TabG w' := by
  obtain ⟨t, fr, h⟩ := h
  exact ⟨t, fr, (hb.block _ hB).trans h⟩
def PutP (d : Nat) : Prop := ∀ (e : Ex) (ts : List Tk) (v : Value) (B : Nat) (w : World), okF d true e = true → OwnT w B v ts → B ≤ w.heap.size → ts.length + mxT d ≤ 500 → TabG w → 0 < B → Calls Tryz.prog 25 #[v, tv e] w fun r w' => ∃ v', r = .returned v' ∧ OwnT w' B v' (ts ++ toksF d e) ∧ Below B w w' ∧ KpT w w'
set_option maxHeartbeats 4000000 in
theorem put_num (n : Int) (ts : List Tk) (v : Value) (B : Nat) (w : World) (ho : OwnT w B v ts) (hB : B ≤ w.heap.size) (hl : ts.length ≤ 498) : Calls Tryz.prog 25 #[v, .iface 106 (.agg #[.int .i64 n])] w fun r w' => ∃ v', r = .returned v' ∧ OwnT w' B v' (ts ++ [⟨2, n, ⟨#[]⟩⟩]) ∧ Below B w w' ∧ KpT w w' := by
  obtain ⟨i0, hi, hz0, hz1, hz2⟩ := info_parts infoT
  have hbx := below_new w (.cells #[.int .i64 n] 106)
  have D1 := hide (hbx.mono hB)
  have P1 := hide (KpT.of hbx)
  have O1 := hide (ho.later hbx)
  have W1 := hide (show (w.alloc (.cells #[.int .i64 n] 106)).heap.size = w.heap.size + 1 by simp)
  clear hbx
  have tt := taY_num (.agg #[.int .i64 n])
  generalize hw1 : w.alloc (.cells #[.int .i64 n] 106) = w1 at *
  have hg1 : w1.heap[w.heap.size]? = some (.cells #[.int .i64 n] 106 (0, 0)) := by rw [← hw1]; exact Array.getElem?_push_size
  have c0 := Lib.cell_of_heap hg1 0
  clear ho hg1
  go_enter Tryz.func25, Tryz.ntmps25
  go_wp2_with (at_builtin; go_must (refine wpList_append_own _ rfl (.tmp 16) (.tmp 20) 32 rfl B 62 i0 (.agg #[.int .i64 0, .int .i64 0, .string ⟨#[]⟩]) 3 32 Tryz.underlying32 hi hz0 hz1 hz2 rfl (by decide) v (ts).length (cellsT (ts)) rfl (World.ownsRow.alloc (unhide O1) _) ⟨w1.heap.size, 0, none⟩ 1 1 [.int .i64 2, .int .i64 n, .string ⟨#[]⟩] rfl rfl (cell_new w1 #[.int .i64 2, .int .i64 n, .string ⟨#[]⟩] 62) (newT_one _ _ _) (by unfold maxLen; (try simp only [List.length_append, List.length_cons, List.length_nil]); omega) (by (try simp only [List.length_append, List.length_cons, List.length_nil]); omega) (by have := (unhide D1).size; simp; omega) ?_; intro v5 w5 hown5 hgrow5 _; have O5 := hide (ownT_app (t := ⟨2, n, ⟨#[]⟩⟩) hown5); have D5 := hide (((unhide D1).alloc (Nat.le_trans hB (unhide D1).size) (.cells #[.int .i64 2, .int .i64 n, .string ⟨#[]⟩] 62)).grown hgrow5 (by have := (unhide D1).size; simp; omega) (fun g hg => ((unhide O1).lt hg).1)); have P5 := hide ((KpT.of (below_new w1 (.cells #[.int .i64 2, .int .i64 n, .string ⟨#[]⟩] 62))).trans (KpT.own (B := B) (ts := ts) (World.ownsRow.alloc (unhide O1) _) hgrow5)); clear hown5 hgrow5))
  go_ret
  exact ⟨_, rfl, unhide O5, unhide D5, (unhide P1).trans (unhide P5)⟩
set_option maxHeartbeats 4000000 in
theorem put_sym (s : ByteArray) (ts : List Tk) (v : Value) (B : Nat) (w : World) (ho : OwnT w B v ts) (hB : B ≤ w.heap.size) (hl : ts.length ≤ 498) : Calls Tryz.prog 25 #[v, .iface 107 (.agg #[.string s])] w fun r w' => ∃ v', r = .returned v' ∧ OwnT w' B v' (ts ++ [⟨1, 0, s⟩]) ∧ Below B w w' ∧ KpT w w' := by
  obtain ⟨i0, hi, hz0, hz1, hz2⟩ := info_parts infoT
  have hbx := below_new w (.cells #[.string s] 107)
  have D1 := hide (hbx.mono hB)
  have P1 := hide (KpT.of hbx)
  have O1 := hide (ho.later hbx)
  have W1 := hide (show (w.alloc (.cells #[.string s] 107)).heap.size = w.heap.size + 1 by simp)
  clear hbx
  have t0 := taN_num 107 (.agg #[.string s]) (by decide)
  have tt := taY_sym (.agg #[.string s])
  generalize hw1 : w.alloc (.cells #[.string s] 107) = w1 at *
  have hg1 : w1.heap[w.heap.size]? = some (.cells #[.string s] 107 (0, 0)) := by rw [← hw1]; exact Array.getElem?_push_size
  have c0 := Lib.cell_of_heap hg1 0
  clear ho hg1
  go_enter Tryz.func25, Tryz.ntmps25
  go_wp2_with (at_builtin; go_must (refine wpList_append_own _ rfl (.tmp 25) (.tmp 29) 32 rfl B 62 i0 (.agg #[.int .i64 0, .int .i64 0, .string ⟨#[]⟩]) 3 32 Tryz.underlying32 hi hz0 hz1 hz2 rfl (by decide) v (ts).length (cellsT (ts)) rfl (World.ownsRow.alloc (unhide O1) _) ⟨w1.heap.size, 0, none⟩ 1 1 [.int .i64 1, .int .i64 0, .string s] rfl rfl (cell_new w1 #[.int .i64 1, .int .i64 0, .string s] 62) (newT_one _ _ _) (by unfold maxLen; (try simp only [List.length_append, List.length_cons, List.length_nil]); omega) (by (try simp only [List.length_append, List.length_cons, List.length_nil]); omega) (by have := (unhide D1).size; simp; omega) ?_; intro v5 w5 hown5 hgrow5 _; have O5 := hide (ownT_app (t := ⟨1, 0, s⟩) hown5); have D5 := hide (((unhide D1).alloc (Nat.le_trans hB (unhide D1).size) (.cells #[.int .i64 1, .int .i64 0, .string s] 62)).grown hgrow5 (by have := (unhide D1).size; simp; omega) (fun g hg => ((unhide O1).lt hg).1)); have P5 := hide ((KpT.of (below_new w1 (.cells #[.int .i64 1, .int .i64 0, .string s] 62))).trans (KpT.own (B := B) (ts := ts) (World.ownsRow.alloc (unhide O1) _) hgrow5)); clear hown5 hgrow5))
  go_ret
  exact ⟨_, rfl, unhide O5, unhide D5, (unhide P1).trans (unhide P5)⟩
set_option maxHeartbeats 4000000 in
theorem put_here (ts : List Tk) (v : Value) (B : Nat) (w : World) (ho : OwnT w B v ts) (hB : B ≤ w.heap.size) (hl : ts.length ≤ 498) : Calls Tryz.prog 25 #[v, .iface 109 (.agg #[])] w fun r w' => ∃ v', r = .returned v' ∧ OwnT w' B v' (ts ++ [⟨4, 0, ⟨#[46]⟩⟩]) ∧ Below B w w' ∧ KpT w w' := by
  obtain ⟨i0, hi, hz0, hz1, hz2⟩ := info_parts infoT
  have hbx := below_new w (.cells #[] 109)
  have D1 := hide (hbx.mono hB)
  have P1 := hide (KpT.of hbx)
  have O1 := hide (ho.later hbx)
  have W1 := hide (show (w.alloc (.cells #[] 109)).heap.size = w.heap.size + 1 by simp)
  clear hbx
  have t0 := taN_num 109 (.agg #[]) (by decide)
  have t1 := taN_sym 109 (.agg #[]) (by decide)
  have tt := taY_here (.agg #[])
  generalize hw1 : w.alloc (.cells #[] 109) = w1 at *
  clear ho W1
  go_enter Tryz.func25, Tryz.ntmps25
  go_wp2_with fail
  refine (markI_any ⟨#[46]⟩ w1).mono ?_
  rintro r w2 ⟨rfl, hb2⟩
  have O2 := hide ((unhide O1).later hb2)
  have D2 := hide ((unhide D1).trans (hb2.mono (Nat.le_trans hB (unhide D1).size)))
  have P2 := hide ((unhide P1).trans (KpT.of hb2))
  clear hb2 O1 D1 P1
  unfold Tk.v Tk.cs
  go_wp2_with (at_builtin; go_must (refine wpList_append_own _ rfl (.tmp 34) (.tmp 36) 32 rfl B 62 i0 (.agg #[.int .i64 0, .int .i64 0, .string ⟨#[]⟩]) 3 32 Tryz.underlying32 hi hz0 hz1 hz2 rfl (by decide) v (ts).length (cellsT (ts)) rfl (World.ownsRow.alloc (unhide O2) _) ⟨w2.heap.size, 0, none⟩ 1 1 [.int .i64 4, .int .i64 0, .string ⟨#[46]⟩] rfl rfl (cell_new w2 #[.int .i64 4, .int .i64 0, .string ⟨#[46]⟩] 62) (newT_one _ _ _) (by unfold maxLen; (try simp only [List.length_append, List.length_cons, List.length_nil]); omega) (by (try simp only [List.length_append, List.length_cons, List.length_nil]); omega) (by have := (unhide D2).size; simp; omega) ?_; intro v5 w5 hown5 hgrow5 _; have O5 := hide (ownT_app (t := ⟨4, 0, ⟨#[46]⟩⟩) hown5); have D5 := hide (((unhide D2).alloc (Nat.le_trans hB (unhide D2).size) (.cells #[.int .i64 4, .int .i64 0, .string ⟨#[46]⟩] 62)).grown hgrow5 (by have := (unhide D2).size; simp; omega) (fun g hg => ((unhide O2).lt hg).1)); have P5 := hide ((KpT.of (below_new w2 (.cells #[.int .i64 4, .int .i64 0, .string ⟨#[46]⟩] 62))).trans (KpT.own (B := B) (ts := ts) (World.ownsRow.alloc (unhide O2) _) hgrow5)); clear hown5 hgrow5))
  go_ret
  exact ⟨_, rfl, unhide O5, unhide D5, (unhide P2).trans (unhide P5)⟩
set_option maxHeartbeats 8000000 in
theorem put_neg (t : TypeId) (x : Value) (B L : Nat) (hL : L ≤ 498) (us : List Tk) (h1 : ∀ (ts : List Tk) (v : Value) (w : World), OwnT w B v ts → B ≤ w.heap.size → ts.length ≤ (L + 1) → TabG w → Calls Tryz.prog 25 #[v, .iface t x] w fun r w' => ∃ v', r = .returned v' ∧ OwnT w' B v' (ts ++ us) ∧ Below B w w' ∧ KpT w w') (ts : List Tk) (v : Value) (w : World) (ho : OwnT w B v ts) (hB : B ≤ w.heap.size) (hl : ts.length ≤ L) (hT : TabG w) (hs : 0 < B) : Calls Tryz.prog 25 #[v, .iface 85 (.agg #[.iface t x])] w fun r w' => ∃ v', r = .returned v' ∧ OwnT w' B v' ((ts ++ [⟨4, 0, ⟨#[45]⟩⟩]) ++ us) ∧ Below B w w' ∧ KpT w w' := by
  obtain ⟨i0, hi, hz0, hz1, hz2⟩ := info_parts infoT
  have hbx := below_new w (.cells #[.iface t x] 85)
  have D1 := hide (hbx.mono hB)
  have P1 := hide (KpT.of hbx)
  have O1 := hide (ho.later hbx)
  have W1 := hide (show (w.alloc (.cells #[.iface t x] 85)).heap.size = w.heap.size + 1 by simp)
  clear hbx
  have t0 := taN_num 85 (.agg #[.iface t x]) (by decide)
  have t1 := taN_sym 85 (.agg #[.iface t x]) (by decide)
  have t2 := taN_here 85 (.agg #[.iface t x]) (by decide)
  have tt := taY_neg (.agg #[.iface t x])
  generalize hw1 : w.alloc (.cells #[.iface t x] 85) = w1 at *
  have hg1 : w1.heap[w.heap.size]? = some (.cells #[.iface t x] 85 (0, 0)) := by rw [← hw1]; exact Array.getElem?_push_size
  have HG := hide hg1
  have HT := hide hT
  have H1 := hide h1
  clear ho W1 hg1 hT h1
  go_enter Tryz.func25, Tryz.ntmps25
  go_wp2_with fail
  have D0 := hide (show w1.drew.heap[w.heap.size]? = some (.cells #[.iface t x] 85 (0, 0)) from unhide HG)
  have O2 := hide ((unhide O1).later (below_drew (w := w1)))
  have D2 := hide ((unhide D1).trans ((below_drew (w := w1)).mono (Nat.le_trans hB (unhide D1).size)))
  have P2 := hide ((unhide P1).trans (KpT.of (below_drew (w := w1))))
  refine wp_region_held_drew (S := fun w' => w'.heap[w.heap.size]? = some (.cells #[.iface t x] 85 (0, 0))) (by kernel_rfl) (unhide D0) (fun hS => ?_)
  have HS := hide hS
  clear hS O1 D1 P1 HG D0
  refine wpAnyH_take (i := 0) (v := v) rfl (by kernel_rfl) (by kernel_rfl) (by kernel_rfl) (fun _ _ _ h => h) (Or.inl ⟨by rfl, fun w hc => ?_⟩) (unhide HS) ?_
  · clear hc; go_simp
  go_simp
  refine wpAnyH_take (i := 4) (v := .pointer (some ⟨w.heap.size, 0, none⟩)) rfl (by kernel_rfl) (by kernel_rfl) (by kernel_rfl) (fun _ _ _ h => h) (Or.inl ⟨by rfl, fun w hc => ?_⟩) (unhide HS) ?_
  · clear hc; go_simp
  go_simp
  refine wpAnyH_take (i := 5) (v := .iface t x) rfl (by kernel_rfl) (by kernel_rfl) (by kernel_rfl) (fun _ _ _ h => h) (Or.inl ⟨by rfl, fun w hc => ?_⟩) (unhide HS) ?_
  · have q := Lib.cell_of_heap hc 0; clear hc; go_simp
  go_simp
  refine wpAnyH_ready (rs := [1]) (by kernel_rfl) (by simp) ?_
  refine AllReadyH.cons rfl (fun K2 hK => ?_) AllReadyH.nil
  go_simp
  refine (markI_any ⟨#[45]⟩ _).mono ?_
  rintro r w3 ⟨rfl, hb3⟩
  unfold Tk.v Tk.cs
  have O3 := hide ((unhide O2).later hb3)
  have D3 := hide ((unhide D2).trans (hb3.mono (Nat.le_trans hB (unhide D2).size)))
  have P3 := hide ((unhide P2).trans (KpT.of hb3))
  have S3 := hide (KpT.of hb3 _ _ _ _ (unhide HS) (by decide))
  refine hK.out _ _ (unhide S3) (fun hS => ?_)
  clear HS
  have HS := hide hS
  clear hS hK K2
  clear hb3 O2 D2 P2
  refine wpAnyH_ready (rs := [2]) (by kernel_rfl) (by simp) ?_
  refine AllReadyH.cons rfl (fun K2 hK => ?_) AllReadyH.nil
  go_simp
  have hb4 := below_new w3 (.cells #[.int .i64 4, .int .i64 0, .string ⟨#[45]⟩] 62)
  have O4 := hide ((unhide O3).later hb4)
  have D4 := hide ((unhide D3).trans (hb4.mono (Nat.le_trans hB (unhide D3).size)))
  have P4 := hide ((unhide P3).trans (KpT.of hb4))
  have S4 := hide (KpT.of hb4 _ _ _ _ (unhide S3) (by decide))
  have C4 := hide (cell_new w3 #[.int .i64 4, .int .i64 0, .string ⟨#[45]⟩] 62)
  clear hb4 O3 D3 P3 S3
  generalize w3.heap.size = g4 at *
  generalize w3.alloc (.cells #[.int .i64 4, .int .i64 0, .string ⟨#[45]⟩] 62) = w4 at *
  refine hK.out _ _ (unhide S4) (fun hS => ?_)
  clear HS
  have HS := hide hS
  clear hS hK K2
  refine wpAnyH_ready (rs := [3]) (by kernel_rfl) (by simp) ?_
  refine AllReadyH.cons rfl (fun K2 hK => ?_) AllReadyH.nil
  rw [if_pos (by rfl)]
  refine wp_append_own _ (.tmp 41) (.tmp 43) 32 rfl B 62 i0 (.agg #[.int .i64 0, .int .i64 0, .string ⟨#[]⟩]) 3 32 Tryz.underlying32 hi hz0 hz1 hz2 rfl (by decide) v ts.length (cellsT ts) rfl (unhide O4) ⟨g4, 0, none⟩ 1 1 [.int .i64 4, .int .i64 0, .string ⟨#[45]⟩] rfl rfl (unhide C4) (newT_one _ _ _) (by unfold maxLen; omega) (by omega) (Nat.le_trans hB (unhide D4).size) ?_
  intro v5 w5 hown5 hgrow5 _
  have O5 := hide (ownT_app (t := ⟨4, 0, ⟨#[45]⟩⟩) hown5)
  have D5 := hide ((unhide D4).grown hgrow5 (Nat.le_trans hB (unhide D4).size) (fun g hg => ((unhide O4).lt hg).1))
  have P5 := hide ((unhide P4).trans (KpT.own (unhide O4) hgrow5))
  have S5 := hide (KpT.own (unhide O4) hgrow5 _ _ _ _ (unhide S4) (by decide))
  refine hK.out _ _ (unhide S5) (fun hS => ?_)
  clear HS
  have HS := hide hS
  clear hS hK K2
  clear hown5 hgrow5 O4 D4 P4 S4 C4
  refine wpAnyH_ready (rs := [6]) (by kernel_rfl) (by simp) ?_
  refine AllReadyH.cons rfl (fun K2 hK => ?_) AllReadyH.nil
  go_simp
  refine (unhide H1 (ts ++ [⟨4, 0, ⟨#[45]⟩⟩]) v5 w5 (unhide O5) (Nat.le_trans hB (unhide D5).size) (by simp only [List.length_append, List.length_cons, List.length_nil]; omega) ((unhide HT).later (unhide D5) hs)).mono ?_
  rintro r w6 ⟨v6, rfl, o6, hb6, hp6⟩
  refine hK.out _ _ (hp6 _ _ _ _ (unhide S5) (by decide)) (fun hS => ?_)
  clear HS
  have HS := hide hS
  clear hS hK K2
  refine wpAnyH_take (i := 7) (v := v6) rfl (by kernel_rfl) (by kernel_rfl) (by kernel_rfl) (fun _ _ _ h => h) (Or.inl ⟨by rfl, fun w hc => ?_⟩) (unhide HS) ?_
  · clear hc; go_simp
  go_simp
  refine wpAnyH_done (by kernel_rfl) ?_ _
  have O6 := hide o6
  have D6 := hide ((unhide D5).trans hb6)
  have P6 := hide ((unhide P5).trans hp6)
  clear o6 hb6 hp6 O5 D5 P5 S5 HS
  go_wp2
  go_ret
  exact ⟨_, rfl, unhide O6, unhide D6, unhide P6⟩
set_option maxHeartbeats 8000000 in
theorem put_add (t u : TypeId) (x y : Value) (B L M : Nat) (us : List Tk) (h1 : ∀ (ts : List Tk) (v : Value) (w : World), OwnT w B v ts → B ≤ w.heap.size → ts.length ≤ (L + 1) → TabG w → Calls Tryz.prog 25 #[v, .iface t x] w fun r w' => ∃ v', r = .returned v' ∧ OwnT w' B v' (ts ++ us) ∧ Below B w w' ∧ KpT w w') (hus : us.length ≤ M) (us2 : List Tk) (h2 : ∀ (ts : List Tk) (v : Value) (w : World), OwnT w B v ts → B ≤ w.heap.size → ts.length ≤ (L + M + 2) → TabG w → Calls Tryz.prog 25 #[v, .iface u y] w fun r w' => ∃ v', r = .returned v' ∧ OwnT w' B v' (ts ++ us2) ∧ Below B w w' ∧ KpT w w') (hus2 : us2.length ≤ M) (hLM : L + 2 * M + 3 ≤ 500) (ts : List Tk) (v : Value) (w : World) (ho : OwnT w B v ts) (hB : B ≤ w.heap.size) (hl : ts.length ≤ L) (hT : TabG w) (hs : 0 < B) : Calls Tryz.prog 25 #[v, .iface 124 (.agg #[.iface t x, .iface u y])] w fun r w' => ∃ v', r = .returned v' ∧ OwnT w' B v' ((((ts ++ [⟨4, 0, ⟨#[60]⟩⟩]) ++ us) ++ [⟨4, 0, ⟨#[43]⟩⟩]) ++ us2 ++ [⟨4, 0, ⟨#[62]⟩⟩]) ∧ Below B w w' ∧ KpT w w' := by
  obtain ⟨i0, hi, hz0, hz1, hz2⟩ := info_parts infoT
  have t0 := taN_num 124 (.agg #[.iface t x, .iface u y]) (by decide)
  have t1 := taN_sym 124 (.agg #[.iface t x, .iface u y]) (by decide)
  have t2 := taN_here 124 (.agg #[.iface t x, .iface u y]) (by decide)
  have t3 := taN_neg 124 (.agg #[.iface t x, .iface u y]) (by decide)
  have m := me_add (.iface t x) (.iface u y)
  have PT := hide (parts2 t u x y w)
  have KD := hide (fun w => kind_add 0 E0 t u x y w)
  have SG := hide (fun w1 (h : TabG w1) => (show w1.cell? ⟨0, 5, none⟩ = some (.string ⟨#[43]⟩) by obtain ⟨t, fr, h⟩ := h; exact Lib.cell_of_heap h 5))
  have HT := hide hT
  have H1 := hide h1
  have H2 := hide h2
  have O0 := hide ho
  obtain ⟨RS, hRS⟩ : ∃ RS, (((ts ++ [Tk.mk 4 0 ⟨#[60]⟩]) ++ us) ++ [Tk.mk 4 0 ⟨#[43]⟩]) ++ us2 ++ [Tk.mk 4 0 ⟨#[62]⟩] = RS := ⟨_, rfl⟩
  rw [hRS]
  have E1 := hide (fun ts1 (h : (ts ++ [Tk.mk 4 0 ⟨#[60]⟩]) ++ us = ts1) ts2 (h2 : (ts1 ++ [Tk.mk 4 0 ⟨#[43]⟩]) ++ us2 = ts2) => (show ts2 ++ [Tk.mk 4 0 ⟨#[62]⟩] = RS by rw [← hRS, h, h2]))
  clear hT h1 h2 ho hRS
  go_enter Tryz.func25, Tryz.ntmps25
  go_wp2_with fail
  refine (unhide PT).mono ?_
  rintro r w1 ⟨gp, rfl, hgp, hb1⟩
  have O1 := hide ((unhide O0).later hb1)
  have D1 := hide (hb1.mono hB)
  have P1 := hide (KpT.of hb1)
  have G1 := hide hgp
  have c0 := Lib.cell_of_heap hgp 0
  clear hb1 hgp O0 PT
  go_wp2
  refine wp_loop_rounds 3 ?_
  rw [rounds_succ]
  go_wp2_with fail
  refine (markI_any ⟨#[60]⟩ w1).mono ?_
  rintro r w2 ⟨rfl, hb2⟩
  have O2 := hide ((unhide O1).later hb2)
  have D2 := hide ((unhide D1).trans (hb2.mono (Nat.le_trans hB (unhide D1).size)))
  have P2 := hide ((unhide P1).trans (KpT.of hb2))
  have G2 := hide (KpT.of hb2 _ _ _ _ (unhide G1) (by decide))
  clear hb2 O1 D1 P1 G1 c0
  unfold Tk.v Tk.cs
  go_wp2_with (first | (at_builtin; go_must (refine wpList_append_own _ rfl (.tmp 62) (.tmp 65) 32 rfl B 62 i0 (.agg #[.int .i64 0, .int .i64 0, .string ⟨#[]⟩]) 3 32 Tryz.underlying32 hi hz0 hz1 hz2 rfl (by decide) v (ts).length (cellsT (ts)) rfl (World.ownsRow.alloc (unhide O2) _) ⟨w2.heap.size, 0, none⟩ 1 1 [.int .i64 4, .int .i64 0, .string ⟨#[60]⟩] rfl rfl (cell_new w2 #[.int .i64 4, .int .i64 0, .string ⟨#[60]⟩] 62) (newT_one _ _ _) (by unfold maxLen; (try simp only [List.length_append, List.length_cons, List.length_nil]); omega) (by (try simp only [List.length_append, List.length_cons, List.length_nil]); omega) (by have := (unhide D2).size; simp; omega) ?_; intro v3 w3 hown3 hgrow3 _; have O3 := hide (ownT_app (t := ⟨4, 0, ⟨#[60]⟩⟩) hown3); have D3 := hide (((unhide D2).alloc (Nat.le_trans hB (unhide D2).size) (.cells #[.int .i64 4, .int .i64 0, .string ⟨#[60]⟩] 62)).grown hgrow3 (by have := (unhide D2).size; simp; omega) (fun g hg => ((unhide O2).lt hg).1)); have P3 := hide ((KpT.of (below_new w2 (.cells #[.int .i64 4, .int .i64 0, .string ⟨#[60]⟩] 62))).trans (KpT.own (B := B) (ts := ts) (World.ownsRow.alloc (unhide O2) _) hgrow3)); clear hown3 hgrow3; have Q3 := hide ((unhide P2).trans (unhide P3)); have G3 := hide (unhide P3 _ _ _ _ (unhide G2) (by decide)); have A3 := hide (unhide H1 (ts ++ [⟨4, 0, ⟨#[60]⟩⟩]) v3 w3 (unhide O3) (Nat.le_trans hB (unhide D3).size) (by simp only [List.length_append, List.length_cons, List.length_nil]; omega) ((unhide HT).later (unhide D3) hs)))) | (go_at_call 25; refine (unhide A3).mono ?_; rintro r w4 ⟨v4, rfl, o4, hb4, hp4⟩))
  have O4 := hide o4
  have D4 := hide ((unhide D3).trans hb4)
  have P4 := hide ((unhide Q3).trans hp4)
  have G4 := hide (hp4 _ _ _ _ (unhide G3) (by decide))
  have T4 := unhide SG w4 ((unhide HT).later (unhide D4) hs)
  have c1 := Lib.cell_of_heap (unhide G4) 1
  clear o4 hb4 hp4 O3 D3 P3 Q3 G3 A3 O2 D2 P2 G2
  have l4 : ((ts ++ [Tk.mk 4 0 ⟨#[60]⟩]) ++ us).length = ts.length + 1 + us.length := by simp only [List.length_append, List.length_cons, List.length_nil]
  generalize hts1 : (ts ++ [Tk.mk 4 0 ⟨#[60]⟩]) ++ us = ts1 at *
  have E2 := hide (unhide E1 ts1 (by first | rfl | exact hts1))
  clear E1 hts1
  rw [rounds_succ]
  go_wp2_with (first | (go_at_call 55; refine (unhide KD _).mono ?_; rintro r w' ⟨rfl, hw'⟩; rw [hw']; clear hw' w') | (go_at_call 37; refine (markI_any ⟨#[43]⟩ w4).mono ?_; rintro r w5 ⟨rfl, hb5⟩; have O5 := hide ((unhide O4).later hb5); have D5 := hide ((unhide D4).trans (hb5.mono (Nat.le_trans hB (unhide D4).size))); have P5 := hide ((unhide P4).trans (KpT.of hb5)); have G5 := hide (KpT.of hb5 _ _ _ _ (unhide G4) (by decide)); clear hb5; unfold Tk.v Tk.cs) | (at_builtin; go_must (refine wpList_append_own _ rfl (.tmp 62) (.tmp 65) 32 rfl B 62 i0 (.agg #[.int .i64 0, .int .i64 0, .string ⟨#[]⟩]) 3 32 Tryz.underlying32 hi hz0 hz1 hz2 rfl (by decide) v4 (ts1).length (cellsT (ts1)) rfl (World.ownsRow.alloc (unhide O5) _) ⟨w5.heap.size, 0, none⟩ 1 1 [.int .i64 4, .int .i64 0, .string ⟨#[43]⟩] rfl rfl (cell_new w5 #[.int .i64 4, .int .i64 0, .string ⟨#[43]⟩] 62) (newT_one _ _ _) (by unfold maxLen; (try simp only [List.length_append, List.length_cons, List.length_nil]); omega) (by (try simp only [List.length_append, List.length_cons, List.length_nil]); omega) (by have := (unhide D5).size; simp; omega) ?_; intro v6 w6 hown6 hgrow6 _; have O6 := hide (ownT_app (t := ⟨4, 0, ⟨#[43]⟩⟩) hown6); have D6 := hide (((unhide D5).alloc (Nat.le_trans hB (unhide D5).size) (.cells #[.int .i64 4, .int .i64 0, .string ⟨#[43]⟩] 62)).grown hgrow6 (by have := (unhide D5).size; simp; omega) (fun g hg => ((unhide O5).lt hg).1)); have P6 := hide ((KpT.of (below_new w5 (.cells #[.int .i64 4, .int .i64 0, .string ⟨#[43]⟩] 62))).trans (KpT.own (B := B) (ts := ts1) (World.ownsRow.alloc (unhide O5) _) hgrow6)); clear hown6 hgrow6; have Q6 := hide ((unhide P5).trans (unhide P6)); have G6 := hide (unhide P6 _ _ _ _ (unhide G5) (by decide)); have A6 := hide (unhide H2 (ts1 ++ [⟨4, 0, ⟨#[43]⟩⟩]) v6 w6 (unhide O6) (Nat.le_trans hB (unhide D6).size) (by simp only [List.length_append, List.length_cons, List.length_nil]; omega) ((unhide HT).later (unhide D6) hs)))) | (go_at_call 25; refine (unhide A6).mono ?_; rintro r w7 ⟨v7, rfl, o7, hb7, hp7⟩))
  have O7 := hide o7
  have D7 := hide ((unhide D6).trans hb7)
  have P7 := hide ((unhide Q6).trans hp7)
  clear o7 hb7 hp7 O6 D6 P6 Q6 G6 A6 T4 c1 G4 O5 D5 P5 G5 O4 D4 P4
  have l7 : ((ts1 ++ [Tk.mk 4 0 ⟨#[43]⟩]) ++ us2).length = ts1.length + 1 + us2.length := by simp only [List.length_append, List.length_cons, List.length_nil]
  generalize hts2 : (ts1 ++ [Tk.mk 4 0 ⟨#[43]⟩]) ++ us2 = ts2 at *
  have E3 := hide (unhide E2 ts2 (by first | rfl | exact hts2))
  clear E2 hts2
  rw [rounds_succ]
  go_wp2_with fail
  refine (markI_any ⟨#[62]⟩ w7).mono ?_
  rintro r w8 ⟨rfl, hb8⟩
  have O8 := hide ((unhide O7).later hb8)
  have D8 := hide ((unhide D7).trans (hb8.mono (Nat.le_trans hB (unhide D7).size)))
  have P8 := hide ((unhide P7).trans (KpT.of hb8))
  clear hb8 O7 D7 P7
  unfold Tk.v Tk.cs
  go_wp2_with (at_builtin; go_must (refine wpList_append_own _ rfl (.tmp 70) (.tmp 72) 32 rfl B 62 i0 (.agg #[.int .i64 0, .int .i64 0, .string ⟨#[]⟩]) 3 32 Tryz.underlying32 hi hz0 hz1 hz2 rfl (by decide) v7 (ts2).length (cellsT (ts2)) rfl (World.ownsRow.alloc (unhide O8) _) ⟨w8.heap.size, 0, none⟩ 1 1 [.int .i64 4, .int .i64 0, .string ⟨#[62]⟩] rfl rfl (cell_new w8 #[.int .i64 4, .int .i64 0, .string ⟨#[62]⟩] 62) (newT_one _ _ _) (by unfold maxLen; (try simp only [List.length_append, List.length_cons, List.length_nil]); omega) (by (try simp only [List.length_append, List.length_cons, List.length_nil]); omega) (by have := (unhide D8).size; simp; omega) ?_; intro v9 w9 hown9 hgrow9 _; have O9 := hide (ownT_app (t := ⟨4, 0, ⟨#[62]⟩⟩) hown9); have D9 := hide (((unhide D8).alloc (Nat.le_trans hB (unhide D8).size) (.cells #[.int .i64 4, .int .i64 0, .string ⟨#[62]⟩] 62)).grown hgrow9 (by have := (unhide D8).size; simp; omega) (fun g hg => ((unhide O8).lt hg).1)); have P9 := hide ((KpT.of (below_new w8 (.cells #[.int .i64 4, .int .i64 0, .string ⟨#[62]⟩] 62))).trans (KpT.own (B := B) (ts := ts2) (World.ownsRow.alloc (unhide O8) _) hgrow9)); clear hown9 hgrow9))
  go_ret
  rw [unhide E3] at O9
  exact ⟨_, rfl, unhide O9, unhide D9, (unhide P8).trans (unhide P9)⟩
set_option maxHeartbeats 8000000 in
theorem put_sub (t u : TypeId) (x y : Value) (B L M : Nat) (us : List Tk) (h1 : ∀ (ts : List Tk) (v : Value) (w : World), OwnT w B v ts → B ≤ w.heap.size → ts.length ≤ (L + 1) → TabG w → Calls Tryz.prog 25 #[v, .iface t x] w fun r w' => ∃ v', r = .returned v' ∧ OwnT w' B v' (ts ++ us) ∧ Below B w w' ∧ KpT w w') (hus : us.length ≤ M) (us2 : List Tk) (h2 : ∀ (ts : List Tk) (v : Value) (w : World), OwnT w B v ts → B ≤ w.heap.size → ts.length ≤ (L + M + 2) → TabG w → Calls Tryz.prog 25 #[v, .iface u y] w fun r w' => ∃ v', r = .returned v' ∧ OwnT w' B v' (ts ++ us2) ∧ Below B w w' ∧ KpT w w') (hus2 : us2.length ≤ M) (hLM : L + 2 * M + 3 ≤ 500) (ts : List Tk) (v : Value) (w : World) (ho : OwnT w B v ts) (hB : B ≤ w.heap.size) (hl : ts.length ≤ L) (hT : TabG w) (hs : 0 < B) : Calls Tryz.prog 25 #[v, .iface 125 (.agg #[.iface t x, .iface u y])] w fun r w' => ∃ v', r = .returned v' ∧ OwnT w' B v' ((((ts ++ [⟨4, 0, ⟨#[60]⟩⟩]) ++ us) ++ [⟨4, 0, ⟨#[45]⟩⟩]) ++ us2 ++ [⟨4, 0, ⟨#[62]⟩⟩]) ∧ Below B w w' ∧ KpT w w' := by
  obtain ⟨i0, hi, hz0, hz1, hz2⟩ := info_parts infoT
  have t0 := taN_num 125 (.agg #[.iface t x, .iface u y]) (by decide)
  have t1 := taN_sym 125 (.agg #[.iface t x, .iface u y]) (by decide)
  have t2 := taN_here 125 (.agg #[.iface t x, .iface u y]) (by decide)
  have t3 := taN_neg 125 (.agg #[.iface t x, .iface u y]) (by decide)
  have m := me_sub (.iface t x) (.iface u y)
  have PT := hide (parts2 t u x y w)
  have KD := hide (fun w => kind_sub 0 E0 t u x y w)
  have SG := hide (fun w1 (h : TabG w1) => (show w1.cell? ⟨0, 6, none⟩ = some (.string ⟨#[45]⟩) by obtain ⟨t, fr, h⟩ := h; exact Lib.cell_of_heap h 6))
  have HT := hide hT
  have H1 := hide h1
  have H2 := hide h2
  have O0 := hide ho
  obtain ⟨RS, hRS⟩ : ∃ RS, (((ts ++ [Tk.mk 4 0 ⟨#[60]⟩]) ++ us) ++ [Tk.mk 4 0 ⟨#[45]⟩]) ++ us2 ++ [Tk.mk 4 0 ⟨#[62]⟩] = RS := ⟨_, rfl⟩
  rw [hRS]
  have E1 := hide (fun ts1 (h : (ts ++ [Tk.mk 4 0 ⟨#[60]⟩]) ++ us = ts1) ts2 (h2 : (ts1 ++ [Tk.mk 4 0 ⟨#[45]⟩]) ++ us2 = ts2) => (show ts2 ++ [Tk.mk 4 0 ⟨#[62]⟩] = RS by rw [← hRS, h, h2]))
  clear hT h1 h2 ho hRS
  go_enter Tryz.func25, Tryz.ntmps25
  go_wp2_with fail
  refine (unhide PT).mono ?_
  rintro r w1 ⟨gp, rfl, hgp, hb1⟩
  have O1 := hide ((unhide O0).later hb1)
  have D1 := hide (hb1.mono hB)
  have P1 := hide (KpT.of hb1)
  have G1 := hide hgp
  have c0 := Lib.cell_of_heap hgp 0
  clear hb1 hgp O0 PT
  go_wp2
  refine wp_loop_rounds 3 ?_
  rw [rounds_succ]
  go_wp2_with fail
  refine (markI_any ⟨#[60]⟩ w1).mono ?_
  rintro r w2 ⟨rfl, hb2⟩
  have O2 := hide ((unhide O1).later hb2)
  have D2 := hide ((unhide D1).trans (hb2.mono (Nat.le_trans hB (unhide D1).size)))
  have P2 := hide ((unhide P1).trans (KpT.of hb2))
  have G2 := hide (KpT.of hb2 _ _ _ _ (unhide G1) (by decide))
  clear hb2 O1 D1 P1 G1 c0
  unfold Tk.v Tk.cs
  go_wp2_with (first | (at_builtin; go_must (refine wpList_append_own _ rfl (.tmp 62) (.tmp 65) 32 rfl B 62 i0 (.agg #[.int .i64 0, .int .i64 0, .string ⟨#[]⟩]) 3 32 Tryz.underlying32 hi hz0 hz1 hz2 rfl (by decide) v (ts).length (cellsT (ts)) rfl (World.ownsRow.alloc (unhide O2) _) ⟨w2.heap.size, 0, none⟩ 1 1 [.int .i64 4, .int .i64 0, .string ⟨#[60]⟩] rfl rfl (cell_new w2 #[.int .i64 4, .int .i64 0, .string ⟨#[60]⟩] 62) (newT_one _ _ _) (by unfold maxLen; (try simp only [List.length_append, List.length_cons, List.length_nil]); omega) (by (try simp only [List.length_append, List.length_cons, List.length_nil]); omega) (by have := (unhide D2).size; simp; omega) ?_; intro v3 w3 hown3 hgrow3 _; have O3 := hide (ownT_app (t := ⟨4, 0, ⟨#[60]⟩⟩) hown3); have D3 := hide (((unhide D2).alloc (Nat.le_trans hB (unhide D2).size) (.cells #[.int .i64 4, .int .i64 0, .string ⟨#[60]⟩] 62)).grown hgrow3 (by have := (unhide D2).size; simp; omega) (fun g hg => ((unhide O2).lt hg).1)); have P3 := hide ((KpT.of (below_new w2 (.cells #[.int .i64 4, .int .i64 0, .string ⟨#[60]⟩] 62))).trans (KpT.own (B := B) (ts := ts) (World.ownsRow.alloc (unhide O2) _) hgrow3)); clear hown3 hgrow3; have Q3 := hide ((unhide P2).trans (unhide P3)); have G3 := hide (unhide P3 _ _ _ _ (unhide G2) (by decide)); have A3 := hide (unhide H1 (ts ++ [⟨4, 0, ⟨#[60]⟩⟩]) v3 w3 (unhide O3) (Nat.le_trans hB (unhide D3).size) (by simp only [List.length_append, List.length_cons, List.length_nil]; omega) ((unhide HT).later (unhide D3) hs)))) | (go_at_call 25; refine (unhide A3).mono ?_; rintro r w4 ⟨v4, rfl, o4, hb4, hp4⟩))
  have O4 := hide o4
  have D4 := hide ((unhide D3).trans hb4)
  have P4 := hide ((unhide Q3).trans hp4)
  have G4 := hide (hp4 _ _ _ _ (unhide G3) (by decide))
  have T4 := unhide SG w4 ((unhide HT).later (unhide D4) hs)
  have c1 := Lib.cell_of_heap (unhide G4) 1
  clear o4 hb4 hp4 O3 D3 P3 Q3 G3 A3 O2 D2 P2 G2
  have l4 : ((ts ++ [Tk.mk 4 0 ⟨#[60]⟩]) ++ us).length = ts.length + 1 + us.length := by simp only [List.length_append, List.length_cons, List.length_nil]
  generalize hts1 : (ts ++ [Tk.mk 4 0 ⟨#[60]⟩]) ++ us = ts1 at *
  have E2 := hide (unhide E1 ts1 (by first | rfl | exact hts1))
  clear E1 hts1
  rw [rounds_succ]
  go_wp2_with (first | (go_at_call 55; refine (unhide KD _).mono ?_; rintro r w' ⟨rfl, hw'⟩; rw [hw']; clear hw' w') | (go_at_call 37; refine (markI_any ⟨#[45]⟩ w4).mono ?_; rintro r w5 ⟨rfl, hb5⟩; have O5 := hide ((unhide O4).later hb5); have D5 := hide ((unhide D4).trans (hb5.mono (Nat.le_trans hB (unhide D4).size))); have P5 := hide ((unhide P4).trans (KpT.of hb5)); have G5 := hide (KpT.of hb5 _ _ _ _ (unhide G4) (by decide)); clear hb5; unfold Tk.v Tk.cs) | (at_builtin; go_must (refine wpList_append_own _ rfl (.tmp 62) (.tmp 65) 32 rfl B 62 i0 (.agg #[.int .i64 0, .int .i64 0, .string ⟨#[]⟩]) 3 32 Tryz.underlying32 hi hz0 hz1 hz2 rfl (by decide) v4 (ts1).length (cellsT (ts1)) rfl (World.ownsRow.alloc (unhide O5) _) ⟨w5.heap.size, 0, none⟩ 1 1 [.int .i64 4, .int .i64 0, .string ⟨#[45]⟩] rfl rfl (cell_new w5 #[.int .i64 4, .int .i64 0, .string ⟨#[45]⟩] 62) (newT_one _ _ _) (by unfold maxLen; (try simp only [List.length_append, List.length_cons, List.length_nil]); omega) (by (try simp only [List.length_append, List.length_cons, List.length_nil]); omega) (by have := (unhide D5).size; simp; omega) ?_; intro v6 w6 hown6 hgrow6 _; have O6 := hide (ownT_app (t := ⟨4, 0, ⟨#[45]⟩⟩) hown6); have D6 := hide (((unhide D5).alloc (Nat.le_trans hB (unhide D5).size) (.cells #[.int .i64 4, .int .i64 0, .string ⟨#[45]⟩] 62)).grown hgrow6 (by have := (unhide D5).size; simp; omega) (fun g hg => ((unhide O5).lt hg).1)); have P6 := hide ((KpT.of (below_new w5 (.cells #[.int .i64 4, .int .i64 0, .string ⟨#[45]⟩] 62))).trans (KpT.own (B := B) (ts := ts1) (World.ownsRow.alloc (unhide O5) _) hgrow6)); clear hown6 hgrow6; have Q6 := hide ((unhide P5).trans (unhide P6)); have G6 := hide (unhide P6 _ _ _ _ (unhide G5) (by decide)); have A6 := hide (unhide H2 (ts1 ++ [⟨4, 0, ⟨#[45]⟩⟩]) v6 w6 (unhide O6) (Nat.le_trans hB (unhide D6).size) (by simp only [List.length_append, List.length_cons, List.length_nil]; omega) ((unhide HT).later (unhide D6) hs)))) | (go_at_call 25; refine (unhide A6).mono ?_; rintro r w7 ⟨v7, rfl, o7, hb7, hp7⟩))
  have O7 := hide o7
  have D7 := hide ((unhide D6).trans hb7)
  have P7 := hide ((unhide Q6).trans hp7)
  clear o7 hb7 hp7 O6 D6 P6 Q6 G6 A6 T4 c1 G4 O5 D5 P5 G5 O4 D4 P4
  have l7 : ((ts1 ++ [Tk.mk 4 0 ⟨#[45]⟩]) ++ us2).length = ts1.length + 1 + us2.length := by simp only [List.length_append, List.length_cons, List.length_nil]
  generalize hts2 : (ts1 ++ [Tk.mk 4 0 ⟨#[45]⟩]) ++ us2 = ts2 at *
  have E3 := hide (unhide E2 ts2 (by first | rfl | exact hts2))
  clear E2 hts2
  rw [rounds_succ]
  go_wp2_with fail
  refine (markI_any ⟨#[62]⟩ w7).mono ?_
  rintro r w8 ⟨rfl, hb8⟩
  have O8 := hide ((unhide O7).later hb8)
  have D8 := hide ((unhide D7).trans (hb8.mono (Nat.le_trans hB (unhide D7).size)))
  have P8 := hide ((unhide P7).trans (KpT.of hb8))
  clear hb8 O7 D7 P7
  unfold Tk.v Tk.cs
  go_wp2_with (at_builtin; go_must (refine wpList_append_own _ rfl (.tmp 70) (.tmp 72) 32 rfl B 62 i0 (.agg #[.int .i64 0, .int .i64 0, .string ⟨#[]⟩]) 3 32 Tryz.underlying32 hi hz0 hz1 hz2 rfl (by decide) v7 (ts2).length (cellsT (ts2)) rfl (World.ownsRow.alloc (unhide O8) _) ⟨w8.heap.size, 0, none⟩ 1 1 [.int .i64 4, .int .i64 0, .string ⟨#[62]⟩] rfl rfl (cell_new w8 #[.int .i64 4, .int .i64 0, .string ⟨#[62]⟩] 62) (newT_one _ _ _) (by unfold maxLen; (try simp only [List.length_append, List.length_cons, List.length_nil]); omega) (by (try simp only [List.length_append, List.length_cons, List.length_nil]); omega) (by have := (unhide D8).size; simp; omega) ?_; intro v9 w9 hown9 hgrow9 _; have O9 := hide (ownT_app (t := ⟨4, 0, ⟨#[62]⟩⟩) hown9); have D9 := hide (((unhide D8).alloc (Nat.le_trans hB (unhide D8).size) (.cells #[.int .i64 4, .int .i64 0, .string ⟨#[62]⟩] 62)).grown hgrow9 (by have := (unhide D8).size; simp; omega) (fun g hg => ((unhide O8).lt hg).1)); have P9 := hide ((KpT.of (below_new w8 (.cells #[.int .i64 4, .int .i64 0, .string ⟨#[62]⟩] 62))).trans (KpT.own (B := B) (ts := ts2) (World.ownsRow.alloc (unhide O8) _) hgrow9)); clear hown9 hgrow9))
  go_ret
  rw [unhide E3] at O9
  exact ⟨_, rfl, unhide O9, unhide D9, (unhide P8).trans (unhide P9)⟩
set_option maxHeartbeats 8000000 in
theorem put_mul (t u : TypeId) (x y : Value) (B L M : Nat) (us : List Tk) (h1 : ∀ (ts : List Tk) (v : Value) (w : World), OwnT w B v ts → B ≤ w.heap.size → ts.length ≤ (L + 1) → TabG w → Calls Tryz.prog 25 #[v, .iface t x] w fun r w' => ∃ v', r = .returned v' ∧ OwnT w' B v' (ts ++ us) ∧ Below B w w' ∧ KpT w w') (hus : us.length ≤ M) (us2 : List Tk) (h2 : ∀ (ts : List Tk) (v : Value) (w : World), OwnT w B v ts → B ≤ w.heap.size → ts.length ≤ (L + M + 2) → TabG w → Calls Tryz.prog 25 #[v, .iface u y] w fun r w' => ∃ v', r = .returned v' ∧ OwnT w' B v' (ts ++ us2) ∧ Below B w w' ∧ KpT w w') (hus2 : us2.length ≤ M) (hLM : L + 2 * M + 3 ≤ 500) (ts : List Tk) (v : Value) (w : World) (ho : OwnT w B v ts) (hB : B ≤ w.heap.size) (hl : ts.length ≤ L) (hT : TabG w) (hs : 0 < B) : Calls Tryz.prog 25 #[v, .iface 126 (.agg #[.iface t x, .iface u y])] w fun r w' => ∃ v', r = .returned v' ∧ OwnT w' B v' ((((ts ++ [⟨4, 0, ⟨#[60]⟩⟩]) ++ us) ++ [⟨4, 0, ⟨#[42]⟩⟩]) ++ us2 ++ [⟨4, 0, ⟨#[62]⟩⟩]) ∧ Below B w w' ∧ KpT w w' := by
  obtain ⟨i0, hi, hz0, hz1, hz2⟩ := info_parts infoT
  have t0 := taN_num 126 (.agg #[.iface t x, .iface u y]) (by decide)
  have t1 := taN_sym 126 (.agg #[.iface t x, .iface u y]) (by decide)
  have t2 := taN_here 126 (.agg #[.iface t x, .iface u y]) (by decide)
  have t3 := taN_neg 126 (.agg #[.iface t x, .iface u y]) (by decide)
  have m := me_mul (.iface t x) (.iface u y)
  have PT := hide (parts2 t u x y w)
  have KD := hide (fun w => kind_mul 0 E0 t u x y w)
  have SG := hide (fun w1 (h : TabG w1) => (show w1.cell? ⟨0, 7, none⟩ = some (.string ⟨#[42]⟩) by obtain ⟨t, fr, h⟩ := h; exact Lib.cell_of_heap h 7))
  have HT := hide hT
  have H1 := hide h1
  have H2 := hide h2
  have O0 := hide ho
  obtain ⟨RS, hRS⟩ : ∃ RS, (((ts ++ [Tk.mk 4 0 ⟨#[60]⟩]) ++ us) ++ [Tk.mk 4 0 ⟨#[42]⟩]) ++ us2 ++ [Tk.mk 4 0 ⟨#[62]⟩] = RS := ⟨_, rfl⟩
  rw [hRS]
  have E1 := hide (fun ts1 (h : (ts ++ [Tk.mk 4 0 ⟨#[60]⟩]) ++ us = ts1) ts2 (h2 : (ts1 ++ [Tk.mk 4 0 ⟨#[42]⟩]) ++ us2 = ts2) => (show ts2 ++ [Tk.mk 4 0 ⟨#[62]⟩] = RS by rw [← hRS, h, h2]))
  clear hT h1 h2 ho hRS
  go_enter Tryz.func25, Tryz.ntmps25
  go_wp2_with fail
  refine (unhide PT).mono ?_
  rintro r w1 ⟨gp, rfl, hgp, hb1⟩
  have O1 := hide ((unhide O0).later hb1)
  have D1 := hide (hb1.mono hB)
  have P1 := hide (KpT.of hb1)
  have G1 := hide hgp
  have c0 := Lib.cell_of_heap hgp 0
  clear hb1 hgp O0 PT
  go_wp2
  refine wp_loop_rounds 3 ?_
  rw [rounds_succ]
  go_wp2_with fail
  refine (markI_any ⟨#[60]⟩ w1).mono ?_
  rintro r w2 ⟨rfl, hb2⟩
  have O2 := hide ((unhide O1).later hb2)
  have D2 := hide ((unhide D1).trans (hb2.mono (Nat.le_trans hB (unhide D1).size)))
  have P2 := hide ((unhide P1).trans (KpT.of hb2))
  have G2 := hide (KpT.of hb2 _ _ _ _ (unhide G1) (by decide))
  clear hb2 O1 D1 P1 G1 c0
  unfold Tk.v Tk.cs
  go_wp2_with (first | (at_builtin; go_must (refine wpList_append_own _ rfl (.tmp 62) (.tmp 65) 32 rfl B 62 i0 (.agg #[.int .i64 0, .int .i64 0, .string ⟨#[]⟩]) 3 32 Tryz.underlying32 hi hz0 hz1 hz2 rfl (by decide) v (ts).length (cellsT (ts)) rfl (World.ownsRow.alloc (unhide O2) _) ⟨w2.heap.size, 0, none⟩ 1 1 [.int .i64 4, .int .i64 0, .string ⟨#[60]⟩] rfl rfl (cell_new w2 #[.int .i64 4, .int .i64 0, .string ⟨#[60]⟩] 62) (newT_one _ _ _) (by unfold maxLen; (try simp only [List.length_append, List.length_cons, List.length_nil]); omega) (by (try simp only [List.length_append, List.length_cons, List.length_nil]); omega) (by have := (unhide D2).size; simp; omega) ?_; intro v3 w3 hown3 hgrow3 _; have O3 := hide (ownT_app (t := ⟨4, 0, ⟨#[60]⟩⟩) hown3); have D3 := hide (((unhide D2).alloc (Nat.le_trans hB (unhide D2).size) (.cells #[.int .i64 4, .int .i64 0, .string ⟨#[60]⟩] 62)).grown hgrow3 (by have := (unhide D2).size; simp; omega) (fun g hg => ((unhide O2).lt hg).1)); have P3 := hide ((KpT.of (below_new w2 (.cells #[.int .i64 4, .int .i64 0, .string ⟨#[60]⟩] 62))).trans (KpT.own (B := B) (ts := ts) (World.ownsRow.alloc (unhide O2) _) hgrow3)); clear hown3 hgrow3; have Q3 := hide ((unhide P2).trans (unhide P3)); have G3 := hide (unhide P3 _ _ _ _ (unhide G2) (by decide)); have A3 := hide (unhide H1 (ts ++ [⟨4, 0, ⟨#[60]⟩⟩]) v3 w3 (unhide O3) (Nat.le_trans hB (unhide D3).size) (by simp only [List.length_append, List.length_cons, List.length_nil]; omega) ((unhide HT).later (unhide D3) hs)))) | (go_at_call 25; refine (unhide A3).mono ?_; rintro r w4 ⟨v4, rfl, o4, hb4, hp4⟩))
  have O4 := hide o4
  have D4 := hide ((unhide D3).trans hb4)
  have P4 := hide ((unhide Q3).trans hp4)
  have G4 := hide (hp4 _ _ _ _ (unhide G3) (by decide))
  have T4 := unhide SG w4 ((unhide HT).later (unhide D4) hs)
  have c1 := Lib.cell_of_heap (unhide G4) 1
  clear o4 hb4 hp4 O3 D3 P3 Q3 G3 A3 O2 D2 P2 G2
  have l4 : ((ts ++ [Tk.mk 4 0 ⟨#[60]⟩]) ++ us).length = ts.length + 1 + us.length := by simp only [List.length_append, List.length_cons, List.length_nil]
  generalize hts1 : (ts ++ [Tk.mk 4 0 ⟨#[60]⟩]) ++ us = ts1 at *
  have E2 := hide (unhide E1 ts1 (by first | rfl | exact hts1))
  clear E1 hts1
  rw [rounds_succ]
  go_wp2_with (first | (go_at_call 55; refine (unhide KD _).mono ?_; rintro r w' ⟨rfl, hw'⟩; rw [hw']; clear hw' w') | (go_at_call 37; refine (markI_any ⟨#[42]⟩ w4).mono ?_; rintro r w5 ⟨rfl, hb5⟩; have O5 := hide ((unhide O4).later hb5); have D5 := hide ((unhide D4).trans (hb5.mono (Nat.le_trans hB (unhide D4).size))); have P5 := hide ((unhide P4).trans (KpT.of hb5)); have G5 := hide (KpT.of hb5 _ _ _ _ (unhide G4) (by decide)); clear hb5; unfold Tk.v Tk.cs) | (at_builtin; go_must (refine wpList_append_own _ rfl (.tmp 62) (.tmp 65) 32 rfl B 62 i0 (.agg #[.int .i64 0, .int .i64 0, .string ⟨#[]⟩]) 3 32 Tryz.underlying32 hi hz0 hz1 hz2 rfl (by decide) v4 (ts1).length (cellsT (ts1)) rfl (World.ownsRow.alloc (unhide O5) _) ⟨w5.heap.size, 0, none⟩ 1 1 [.int .i64 4, .int .i64 0, .string ⟨#[42]⟩] rfl rfl (cell_new w5 #[.int .i64 4, .int .i64 0, .string ⟨#[42]⟩] 62) (newT_one _ _ _) (by unfold maxLen; (try simp only [List.length_append, List.length_cons, List.length_nil]); omega) (by (try simp only [List.length_append, List.length_cons, List.length_nil]); omega) (by have := (unhide D5).size; simp; omega) ?_; intro v6 w6 hown6 hgrow6 _; have O6 := hide (ownT_app (t := ⟨4, 0, ⟨#[42]⟩⟩) hown6); have D6 := hide (((unhide D5).alloc (Nat.le_trans hB (unhide D5).size) (.cells #[.int .i64 4, .int .i64 0, .string ⟨#[42]⟩] 62)).grown hgrow6 (by have := (unhide D5).size; simp; omega) (fun g hg => ((unhide O5).lt hg).1)); have P6 := hide ((KpT.of (below_new w5 (.cells #[.int .i64 4, .int .i64 0, .string ⟨#[42]⟩] 62))).trans (KpT.own (B := B) (ts := ts1) (World.ownsRow.alloc (unhide O5) _) hgrow6)); clear hown6 hgrow6; have Q6 := hide ((unhide P5).trans (unhide P6)); have G6 := hide (unhide P6 _ _ _ _ (unhide G5) (by decide)); have A6 := hide (unhide H2 (ts1 ++ [⟨4, 0, ⟨#[42]⟩⟩]) v6 w6 (unhide O6) (Nat.le_trans hB (unhide D6).size) (by simp only [List.length_append, List.length_cons, List.length_nil]; omega) ((unhide HT).later (unhide D6) hs)))) | (go_at_call 25; refine (unhide A6).mono ?_; rintro r w7 ⟨v7, rfl, o7, hb7, hp7⟩))
  have O7 := hide o7
  have D7 := hide ((unhide D6).trans hb7)
  have P7 := hide ((unhide Q6).trans hp7)
  clear o7 hb7 hp7 O6 D6 P6 Q6 G6 A6 T4 c1 G4 O5 D5 P5 G5 O4 D4 P4
  have l7 : ((ts1 ++ [Tk.mk 4 0 ⟨#[42]⟩]) ++ us2).length = ts1.length + 1 + us2.length := by simp only [List.length_append, List.length_cons, List.length_nil]
  generalize hts2 : (ts1 ++ [Tk.mk 4 0 ⟨#[42]⟩]) ++ us2 = ts2 at *
  have E3 := hide (unhide E2 ts2 (by first | rfl | exact hts2))
  clear E2 hts2
  rw [rounds_succ]
  go_wp2_with fail
  refine (markI_any ⟨#[62]⟩ w7).mono ?_
  rintro r w8 ⟨rfl, hb8⟩
  have O8 := hide ((unhide O7).later hb8)
  have D8 := hide ((unhide D7).trans (hb8.mono (Nat.le_trans hB (unhide D7).size)))
  have P8 := hide ((unhide P7).trans (KpT.of hb8))
  clear hb8 O7 D7 P7
  unfold Tk.v Tk.cs
  go_wp2_with (at_builtin; go_must (refine wpList_append_own _ rfl (.tmp 70) (.tmp 72) 32 rfl B 62 i0 (.agg #[.int .i64 0, .int .i64 0, .string ⟨#[]⟩]) 3 32 Tryz.underlying32 hi hz0 hz1 hz2 rfl (by decide) v7 (ts2).length (cellsT (ts2)) rfl (World.ownsRow.alloc (unhide O8) _) ⟨w8.heap.size, 0, none⟩ 1 1 [.int .i64 4, .int .i64 0, .string ⟨#[62]⟩] rfl rfl (cell_new w8 #[.int .i64 4, .int .i64 0, .string ⟨#[62]⟩] 62) (newT_one _ _ _) (by unfold maxLen; (try simp only [List.length_append, List.length_cons, List.length_nil]); omega) (by (try simp only [List.length_append, List.length_cons, List.length_nil]); omega) (by have := (unhide D8).size; simp; omega) ?_; intro v9 w9 hown9 hgrow9 _; have O9 := hide (ownT_app (t := ⟨4, 0, ⟨#[62]⟩⟩) hown9); have D9 := hide (((unhide D8).alloc (Nat.le_trans hB (unhide D8).size) (.cells #[.int .i64 4, .int .i64 0, .string ⟨#[62]⟩] 62)).grown hgrow9 (by have := (unhide D8).size; simp; omega) (fun g hg => ((unhide O8).lt hg).1)); have P9 := hide ((KpT.of (below_new w8 (.cells #[.int .i64 4, .int .i64 0, .string ⟨#[62]⟩] 62))).trans (KpT.own (B := B) (ts := ts2) (World.ownsRow.alloc (unhide O8) _) hgrow9)); clear hown9 hgrow9))
  go_ret
  rw [unhide E3] at O9
  exact ⟨_, rfl, unhide O9, unhide D9, (unhide P8).trans (unhide P9)⟩
set_option maxHeartbeats 8000000 in
theorem put_div (t u : TypeId) (x y : Value) (B L M : Nat) (us : List Tk) (h1 : ∀ (ts : List Tk) (v : Value) (w : World), OwnT w B v ts → B ≤ w.heap.size → ts.length ≤ (L + 1) → TabG w → Calls Tryz.prog 25 #[v, .iface t x] w fun r w' => ∃ v', r = .returned v' ∧ OwnT w' B v' (ts ++ us) ∧ Below B w w' ∧ KpT w w') (hus : us.length ≤ M) (us2 : List Tk) (h2 : ∀ (ts : List Tk) (v : Value) (w : World), OwnT w B v ts → B ≤ w.heap.size → ts.length ≤ (L + M + 2) → TabG w → Calls Tryz.prog 25 #[v, .iface u y] w fun r w' => ∃ v', r = .returned v' ∧ OwnT w' B v' (ts ++ us2) ∧ Below B w w' ∧ KpT w w') (hus2 : us2.length ≤ M) (hLM : L + 2 * M + 3 ≤ 500) (ts : List Tk) (v : Value) (w : World) (ho : OwnT w B v ts) (hB : B ≤ w.heap.size) (hl : ts.length ≤ L) (hT : TabG w) (hs : 0 < B) : Calls Tryz.prog 25 #[v, .iface 127 (.agg #[.iface t x, .iface u y])] w fun r w' => ∃ v', r = .returned v' ∧ OwnT w' B v' ((((ts ++ [⟨4, 0, ⟨#[60]⟩⟩]) ++ us) ++ [⟨4, 0, ⟨#[47]⟩⟩]) ++ us2 ++ [⟨4, 0, ⟨#[62]⟩⟩]) ∧ Below B w w' ∧ KpT w w' := by
  obtain ⟨i0, hi, hz0, hz1, hz2⟩ := info_parts infoT
  have t0 := taN_num 127 (.agg #[.iface t x, .iface u y]) (by decide)
  have t1 := taN_sym 127 (.agg #[.iface t x, .iface u y]) (by decide)
  have t2 := taN_here 127 (.agg #[.iface t x, .iface u y]) (by decide)
  have t3 := taN_neg 127 (.agg #[.iface t x, .iface u y]) (by decide)
  have m := me_div (.iface t x) (.iface u y)
  have PT := hide (parts2 t u x y w)
  have KD := hide (fun w => kind_div 0 E0 t u x y w)
  have SG := hide (fun w1 (h : TabG w1) => (show w1.cell? ⟨0, 8, none⟩ = some (.string ⟨#[47]⟩) by obtain ⟨t, fr, h⟩ := h; exact Lib.cell_of_heap h 8))
  have HT := hide hT
  have H1 := hide h1
  have H2 := hide h2
  have O0 := hide ho
  obtain ⟨RS, hRS⟩ : ∃ RS, (((ts ++ [Tk.mk 4 0 ⟨#[60]⟩]) ++ us) ++ [Tk.mk 4 0 ⟨#[47]⟩]) ++ us2 ++ [Tk.mk 4 0 ⟨#[62]⟩] = RS := ⟨_, rfl⟩
  rw [hRS]
  have E1 := hide (fun ts1 (h : (ts ++ [Tk.mk 4 0 ⟨#[60]⟩]) ++ us = ts1) ts2 (h2 : (ts1 ++ [Tk.mk 4 0 ⟨#[47]⟩]) ++ us2 = ts2) => (show ts2 ++ [Tk.mk 4 0 ⟨#[62]⟩] = RS by rw [← hRS, h, h2]))
  clear hT h1 h2 ho hRS
  go_enter Tryz.func25, Tryz.ntmps25
  go_wp2_with fail
  refine (unhide PT).mono ?_
  rintro r w1 ⟨gp, rfl, hgp, hb1⟩
  have O1 := hide ((unhide O0).later hb1)
  have D1 := hide (hb1.mono hB)
  have P1 := hide (KpT.of hb1)
  have G1 := hide hgp
  have c0 := Lib.cell_of_heap hgp 0
  clear hb1 hgp O0 PT
  go_wp2
  refine wp_loop_rounds 3 ?_
  rw [rounds_succ]
  go_wp2_with fail
  refine (markI_any ⟨#[60]⟩ w1).mono ?_
  rintro r w2 ⟨rfl, hb2⟩
  have O2 := hide ((unhide O1).later hb2)
  have D2 := hide ((unhide D1).trans (hb2.mono (Nat.le_trans hB (unhide D1).size)))
  have P2 := hide ((unhide P1).trans (KpT.of hb2))
  have G2 := hide (KpT.of hb2 _ _ _ _ (unhide G1) (by decide))
  clear hb2 O1 D1 P1 G1 c0
  unfold Tk.v Tk.cs
  go_wp2_with (first | (at_builtin; go_must (refine wpList_append_own _ rfl (.tmp 62) (.tmp 65) 32 rfl B 62 i0 (.agg #[.int .i64 0, .int .i64 0, .string ⟨#[]⟩]) 3 32 Tryz.underlying32 hi hz0 hz1 hz2 rfl (by decide) v (ts).length (cellsT (ts)) rfl (World.ownsRow.alloc (unhide O2) _) ⟨w2.heap.size, 0, none⟩ 1 1 [.int .i64 4, .int .i64 0, .string ⟨#[60]⟩] rfl rfl (cell_new w2 #[.int .i64 4, .int .i64 0, .string ⟨#[60]⟩] 62) (newT_one _ _ _) (by unfold maxLen; (try simp only [List.length_append, List.length_cons, List.length_nil]); omega) (by (try simp only [List.length_append, List.length_cons, List.length_nil]); omega) (by have := (unhide D2).size; simp; omega) ?_; intro v3 w3 hown3 hgrow3 _; have O3 := hide (ownT_app (t := ⟨4, 0, ⟨#[60]⟩⟩) hown3); have D3 := hide (((unhide D2).alloc (Nat.le_trans hB (unhide D2).size) (.cells #[.int .i64 4, .int .i64 0, .string ⟨#[60]⟩] 62)).grown hgrow3 (by have := (unhide D2).size; simp; omega) (fun g hg => ((unhide O2).lt hg).1)); have P3 := hide ((KpT.of (below_new w2 (.cells #[.int .i64 4, .int .i64 0, .string ⟨#[60]⟩] 62))).trans (KpT.own (B := B) (ts := ts) (World.ownsRow.alloc (unhide O2) _) hgrow3)); clear hown3 hgrow3; have Q3 := hide ((unhide P2).trans (unhide P3)); have G3 := hide (unhide P3 _ _ _ _ (unhide G2) (by decide)); have A3 := hide (unhide H1 (ts ++ [⟨4, 0, ⟨#[60]⟩⟩]) v3 w3 (unhide O3) (Nat.le_trans hB (unhide D3).size) (by simp only [List.length_append, List.length_cons, List.length_nil]; omega) ((unhide HT).later (unhide D3) hs)))) | (go_at_call 25; refine (unhide A3).mono ?_; rintro r w4 ⟨v4, rfl, o4, hb4, hp4⟩))
  have O4 := hide o4
  have D4 := hide ((unhide D3).trans hb4)
  have P4 := hide ((unhide Q3).trans hp4)
  have G4 := hide (hp4 _ _ _ _ (unhide G3) (by decide))
  have T4 := unhide SG w4 ((unhide HT).later (unhide D4) hs)
  have c1 := Lib.cell_of_heap (unhide G4) 1
  clear o4 hb4 hp4 O3 D3 P3 Q3 G3 A3 O2 D2 P2 G2
  have l4 : ((ts ++ [Tk.mk 4 0 ⟨#[60]⟩]) ++ us).length = ts.length + 1 + us.length := by simp only [List.length_append, List.length_cons, List.length_nil]
  generalize hts1 : (ts ++ [Tk.mk 4 0 ⟨#[60]⟩]) ++ us = ts1 at *
  have E2 := hide (unhide E1 ts1 (by first | rfl | exact hts1))
  clear E1 hts1
  rw [rounds_succ]
  go_wp2_with (first | (go_at_call 55; refine (unhide KD _).mono ?_; rintro r w' ⟨rfl, hw'⟩; rw [hw']; clear hw' w') | (go_at_call 37; refine (markI_any ⟨#[47]⟩ w4).mono ?_; rintro r w5 ⟨rfl, hb5⟩; have O5 := hide ((unhide O4).later hb5); have D5 := hide ((unhide D4).trans (hb5.mono (Nat.le_trans hB (unhide D4).size))); have P5 := hide ((unhide P4).trans (KpT.of hb5)); have G5 := hide (KpT.of hb5 _ _ _ _ (unhide G4) (by decide)); clear hb5; unfold Tk.v Tk.cs) | (at_builtin; go_must (refine wpList_append_own _ rfl (.tmp 62) (.tmp 65) 32 rfl B 62 i0 (.agg #[.int .i64 0, .int .i64 0, .string ⟨#[]⟩]) 3 32 Tryz.underlying32 hi hz0 hz1 hz2 rfl (by decide) v4 (ts1).length (cellsT (ts1)) rfl (World.ownsRow.alloc (unhide O5) _) ⟨w5.heap.size, 0, none⟩ 1 1 [.int .i64 4, .int .i64 0, .string ⟨#[47]⟩] rfl rfl (cell_new w5 #[.int .i64 4, .int .i64 0, .string ⟨#[47]⟩] 62) (newT_one _ _ _) (by unfold maxLen; (try simp only [List.length_append, List.length_cons, List.length_nil]); omega) (by (try simp only [List.length_append, List.length_cons, List.length_nil]); omega) (by have := (unhide D5).size; simp; omega) ?_; intro v6 w6 hown6 hgrow6 _; have O6 := hide (ownT_app (t := ⟨4, 0, ⟨#[47]⟩⟩) hown6); have D6 := hide (((unhide D5).alloc (Nat.le_trans hB (unhide D5).size) (.cells #[.int .i64 4, .int .i64 0, .string ⟨#[47]⟩] 62)).grown hgrow6 (by have := (unhide D5).size; simp; omega) (fun g hg => ((unhide O5).lt hg).1)); have P6 := hide ((KpT.of (below_new w5 (.cells #[.int .i64 4, .int .i64 0, .string ⟨#[47]⟩] 62))).trans (KpT.own (B := B) (ts := ts1) (World.ownsRow.alloc (unhide O5) _) hgrow6)); clear hown6 hgrow6; have Q6 := hide ((unhide P5).trans (unhide P6)); have G6 := hide (unhide P6 _ _ _ _ (unhide G5) (by decide)); have A6 := hide (unhide H2 (ts1 ++ [⟨4, 0, ⟨#[47]⟩⟩]) v6 w6 (unhide O6) (Nat.le_trans hB (unhide D6).size) (by simp only [List.length_append, List.length_cons, List.length_nil]; omega) ((unhide HT).later (unhide D6) hs)))) | (go_at_call 25; refine (unhide A6).mono ?_; rintro r w7 ⟨v7, rfl, o7, hb7, hp7⟩))
  have O7 := hide o7
  have D7 := hide ((unhide D6).trans hb7)
  have P7 := hide ((unhide Q6).trans hp7)
  clear o7 hb7 hp7 O6 D6 P6 Q6 G6 A6 T4 c1 G4 O5 D5 P5 G5 O4 D4 P4
  have l7 : ((ts1 ++ [Tk.mk 4 0 ⟨#[47]⟩]) ++ us2).length = ts1.length + 1 + us2.length := by simp only [List.length_append, List.length_cons, List.length_nil]
  generalize hts2 : (ts1 ++ [Tk.mk 4 0 ⟨#[47]⟩]) ++ us2 = ts2 at *
  have E3 := hide (unhide E2 ts2 (by first | rfl | exact hts2))
  clear E2 hts2
  rw [rounds_succ]
  go_wp2_with fail
  refine (markI_any ⟨#[62]⟩ w7).mono ?_
  rintro r w8 ⟨rfl, hb8⟩
  have O8 := hide ((unhide O7).later hb8)
  have D8 := hide ((unhide D7).trans (hb8.mono (Nat.le_trans hB (unhide D7).size)))
  have P8 := hide ((unhide P7).trans (KpT.of hb8))
  clear hb8 O7 D7 P7
  unfold Tk.v Tk.cs
  go_wp2_with (at_builtin; go_must (refine wpList_append_own _ rfl (.tmp 70) (.tmp 72) 32 rfl B 62 i0 (.agg #[.int .i64 0, .int .i64 0, .string ⟨#[]⟩]) 3 32 Tryz.underlying32 hi hz0 hz1 hz2 rfl (by decide) v7 (ts2).length (cellsT (ts2)) rfl (World.ownsRow.alloc (unhide O8) _) ⟨w8.heap.size, 0, none⟩ 1 1 [.int .i64 4, .int .i64 0, .string ⟨#[62]⟩] rfl rfl (cell_new w8 #[.int .i64 4, .int .i64 0, .string ⟨#[62]⟩] 62) (newT_one _ _ _) (by unfold maxLen; (try simp only [List.length_append, List.length_cons, List.length_nil]); omega) (by (try simp only [List.length_append, List.length_cons, List.length_nil]); omega) (by have := (unhide D8).size; simp; omega) ?_; intro v9 w9 hown9 hgrow9 _; have O9 := hide (ownT_app (t := ⟨4, 0, ⟨#[62]⟩⟩) hown9); have D9 := hide (((unhide D8).alloc (Nat.le_trans hB (unhide D8).size) (.cells #[.int .i64 4, .int .i64 0, .string ⟨#[62]⟩] 62)).grown hgrow9 (by have := (unhide D8).size; simp; omega) (fun g hg => ((unhide O8).lt hg).1)); have P9 := hide ((KpT.of (below_new w8 (.cells #[.int .i64 4, .int .i64 0, .string ⟨#[62]⟩] 62))).trans (KpT.own (B := B) (ts := ts2) (World.ownsRow.alloc (unhide O8) _) hgrow9)); clear hown9 hgrow9))
  go_ret
  rw [unhide E3] at O9
  exact ⟨_, rfl, unhide O9, unhide D9, (unhide P8).trans (unhide P9)⟩
set_option maxHeartbeats 8000000 in
theorem put_and (t u : TypeId) (x y : Value) (B L M : Nat) (us : List Tk) (h1 : ∀ (ts : List Tk) (v : Value) (w : World), OwnT w B v ts → B ≤ w.heap.size → ts.length ≤ (L + 1) → TabG w → Calls Tryz.prog 25 #[v, .iface t x] w fun r w' => ∃ v', r = .returned v' ∧ OwnT w' B v' (ts ++ us) ∧ Below B w w' ∧ KpT w w') (hus : us.length ≤ M) (us2 : List Tk) (h2 : ∀ (ts : List Tk) (v : Value) (w : World), OwnT w B v ts → B ≤ w.heap.size → ts.length ≤ (L + M + 2) → TabG w → Calls Tryz.prog 25 #[v, .iface u y] w fun r w' => ∃ v', r = .returned v' ∧ OwnT w' B v' (ts ++ us2) ∧ Below B w w' ∧ KpT w w') (hus2 : us2.length ≤ M) (hLM : L + 2 * M + 3 ≤ 500) (ts : List Tk) (v : Value) (w : World) (ho : OwnT w B v ts) (hB : B ≤ w.heap.size) (hl : ts.length ≤ L) (hT : TabG w) (hs : 0 < B) : Calls Tryz.prog 25 #[v, .iface 128 (.agg #[.iface t x, .iface u y])] w fun r w' => ∃ v', r = .returned v' ∧ OwnT w' B v' ((((ts ++ [⟨4, 0, ⟨#[60]⟩⟩]) ++ us) ++ [⟨4, 0, ⟨#[38]⟩⟩]) ++ us2 ++ [⟨4, 0, ⟨#[62]⟩⟩]) ∧ Below B w w' ∧ KpT w w' := by
  obtain ⟨i0, hi, hz0, hz1, hz2⟩ := info_parts infoT
  have t0 := taN_num 128 (.agg #[.iface t x, .iface u y]) (by decide)
  have t1 := taN_sym 128 (.agg #[.iface t x, .iface u y]) (by decide)
  have t2 := taN_here 128 (.agg #[.iface t x, .iface u y]) (by decide)
  have t3 := taN_neg 128 (.agg #[.iface t x, .iface u y]) (by decide)
  have m := me_and (.iface t x) (.iface u y)
  have PT := hide (parts2 t u x y w)
  have KD := hide (fun w => kind_and 0 E0 t u x y w)
  have SG := hide (fun w1 (h : TabG w1) => (show w1.cell? ⟨0, 9, none⟩ = some (.string ⟨#[38]⟩) by obtain ⟨t, fr, h⟩ := h; exact Lib.cell_of_heap h 9))
  have HT := hide hT
  have H1 := hide h1
  have H2 := hide h2
  have O0 := hide ho
  obtain ⟨RS, hRS⟩ : ∃ RS, (((ts ++ [Tk.mk 4 0 ⟨#[60]⟩]) ++ us) ++ [Tk.mk 4 0 ⟨#[38]⟩]) ++ us2 ++ [Tk.mk 4 0 ⟨#[62]⟩] = RS := ⟨_, rfl⟩
  rw [hRS]
  have E1 := hide (fun ts1 (h : (ts ++ [Tk.mk 4 0 ⟨#[60]⟩]) ++ us = ts1) ts2 (h2 : (ts1 ++ [Tk.mk 4 0 ⟨#[38]⟩]) ++ us2 = ts2) => (show ts2 ++ [Tk.mk 4 0 ⟨#[62]⟩] = RS by rw [← hRS, h, h2]))
  clear hT h1 h2 ho hRS
  go_enter Tryz.func25, Tryz.ntmps25
  go_wp2_with fail
  refine (unhide PT).mono ?_
  rintro r w1 ⟨gp, rfl, hgp, hb1⟩
  have O1 := hide ((unhide O0).later hb1)
  have D1 := hide (hb1.mono hB)
  have P1 := hide (KpT.of hb1)
  have G1 := hide hgp
  have c0 := Lib.cell_of_heap hgp 0
  clear hb1 hgp O0 PT
  go_wp2
  refine wp_loop_rounds 3 ?_
  rw [rounds_succ]
  go_wp2_with fail
  refine (markI_any ⟨#[60]⟩ w1).mono ?_
  rintro r w2 ⟨rfl, hb2⟩
  have O2 := hide ((unhide O1).later hb2)
  have D2 := hide ((unhide D1).trans (hb2.mono (Nat.le_trans hB (unhide D1).size)))
  have P2 := hide ((unhide P1).trans (KpT.of hb2))
  have G2 := hide (KpT.of hb2 _ _ _ _ (unhide G1) (by decide))
  clear hb2 O1 D1 P1 G1 c0
  unfold Tk.v Tk.cs
  go_wp2_with (first | (at_builtin; go_must (refine wpList_append_own _ rfl (.tmp 62) (.tmp 65) 32 rfl B 62 i0 (.agg #[.int .i64 0, .int .i64 0, .string ⟨#[]⟩]) 3 32 Tryz.underlying32 hi hz0 hz1 hz2 rfl (by decide) v (ts).length (cellsT (ts)) rfl (World.ownsRow.alloc (unhide O2) _) ⟨w2.heap.size, 0, none⟩ 1 1 [.int .i64 4, .int .i64 0, .string ⟨#[60]⟩] rfl rfl (cell_new w2 #[.int .i64 4, .int .i64 0, .string ⟨#[60]⟩] 62) (newT_one _ _ _) (by unfold maxLen; (try simp only [List.length_append, List.length_cons, List.length_nil]); omega) (by (try simp only [List.length_append, List.length_cons, List.length_nil]); omega) (by have := (unhide D2).size; simp; omega) ?_; intro v3 w3 hown3 hgrow3 _; have O3 := hide (ownT_app (t := ⟨4, 0, ⟨#[60]⟩⟩) hown3); have D3 := hide (((unhide D2).alloc (Nat.le_trans hB (unhide D2).size) (.cells #[.int .i64 4, .int .i64 0, .string ⟨#[60]⟩] 62)).grown hgrow3 (by have := (unhide D2).size; simp; omega) (fun g hg => ((unhide O2).lt hg).1)); have P3 := hide ((KpT.of (below_new w2 (.cells #[.int .i64 4, .int .i64 0, .string ⟨#[60]⟩] 62))).trans (KpT.own (B := B) (ts := ts) (World.ownsRow.alloc (unhide O2) _) hgrow3)); clear hown3 hgrow3; have Q3 := hide ((unhide P2).trans (unhide P3)); have G3 := hide (unhide P3 _ _ _ _ (unhide G2) (by decide)); have A3 := hide (unhide H1 (ts ++ [⟨4, 0, ⟨#[60]⟩⟩]) v3 w3 (unhide O3) (Nat.le_trans hB (unhide D3).size) (by simp only [List.length_append, List.length_cons, List.length_nil]; omega) ((unhide HT).later (unhide D3) hs)))) | (go_at_call 25; refine (unhide A3).mono ?_; rintro r w4 ⟨v4, rfl, o4, hb4, hp4⟩))
  have O4 := hide o4
  have D4 := hide ((unhide D3).trans hb4)
  have P4 := hide ((unhide Q3).trans hp4)
  have G4 := hide (hp4 _ _ _ _ (unhide G3) (by decide))
  have T4 := unhide SG w4 ((unhide HT).later (unhide D4) hs)
  have c1 := Lib.cell_of_heap (unhide G4) 1
  clear o4 hb4 hp4 O3 D3 P3 Q3 G3 A3 O2 D2 P2 G2
  have l4 : ((ts ++ [Tk.mk 4 0 ⟨#[60]⟩]) ++ us).length = ts.length + 1 + us.length := by simp only [List.length_append, List.length_cons, List.length_nil]
  generalize hts1 : (ts ++ [Tk.mk 4 0 ⟨#[60]⟩]) ++ us = ts1 at *
  have E2 := hide (unhide E1 ts1 (by first | rfl | exact hts1))
  clear E1 hts1
  rw [rounds_succ]
  go_wp2_with (first | (go_at_call 55; refine (unhide KD _).mono ?_; rintro r w' ⟨rfl, hw'⟩; rw [hw']; clear hw' w') | (go_at_call 37; refine (markI_any ⟨#[38]⟩ w4).mono ?_; rintro r w5 ⟨rfl, hb5⟩; have O5 := hide ((unhide O4).later hb5); have D5 := hide ((unhide D4).trans (hb5.mono (Nat.le_trans hB (unhide D4).size))); have P5 := hide ((unhide P4).trans (KpT.of hb5)); have G5 := hide (KpT.of hb5 _ _ _ _ (unhide G4) (by decide)); clear hb5; unfold Tk.v Tk.cs) | (at_builtin; go_must (refine wpList_append_own _ rfl (.tmp 62) (.tmp 65) 32 rfl B 62 i0 (.agg #[.int .i64 0, .int .i64 0, .string ⟨#[]⟩]) 3 32 Tryz.underlying32 hi hz0 hz1 hz2 rfl (by decide) v4 (ts1).length (cellsT (ts1)) rfl (World.ownsRow.alloc (unhide O5) _) ⟨w5.heap.size, 0, none⟩ 1 1 [.int .i64 4, .int .i64 0, .string ⟨#[38]⟩] rfl rfl (cell_new w5 #[.int .i64 4, .int .i64 0, .string ⟨#[38]⟩] 62) (newT_one _ _ _) (by unfold maxLen; (try simp only [List.length_append, List.length_cons, List.length_nil]); omega) (by (try simp only [List.length_append, List.length_cons, List.length_nil]); omega) (by have := (unhide D5).size; simp; omega) ?_; intro v6 w6 hown6 hgrow6 _; have O6 := hide (ownT_app (t := ⟨4, 0, ⟨#[38]⟩⟩) hown6); have D6 := hide (((unhide D5).alloc (Nat.le_trans hB (unhide D5).size) (.cells #[.int .i64 4, .int .i64 0, .string ⟨#[38]⟩] 62)).grown hgrow6 (by have := (unhide D5).size; simp; omega) (fun g hg => ((unhide O5).lt hg).1)); have P6 := hide ((KpT.of (below_new w5 (.cells #[.int .i64 4, .int .i64 0, .string ⟨#[38]⟩] 62))).trans (KpT.own (B := B) (ts := ts1) (World.ownsRow.alloc (unhide O5) _) hgrow6)); clear hown6 hgrow6; have Q6 := hide ((unhide P5).trans (unhide P6)); have G6 := hide (unhide P6 _ _ _ _ (unhide G5) (by decide)); have A6 := hide (unhide H2 (ts1 ++ [⟨4, 0, ⟨#[38]⟩⟩]) v6 w6 (unhide O6) (Nat.le_trans hB (unhide D6).size) (by simp only [List.length_append, List.length_cons, List.length_nil]; omega) ((unhide HT).later (unhide D6) hs)))) | (go_at_call 25; refine (unhide A6).mono ?_; rintro r w7 ⟨v7, rfl, o7, hb7, hp7⟩))
  have O7 := hide o7
  have D7 := hide ((unhide D6).trans hb7)
  have P7 := hide ((unhide Q6).trans hp7)
  clear o7 hb7 hp7 O6 D6 P6 Q6 G6 A6 T4 c1 G4 O5 D5 P5 G5 O4 D4 P4
  have l7 : ((ts1 ++ [Tk.mk 4 0 ⟨#[38]⟩]) ++ us2).length = ts1.length + 1 + us2.length := by simp only [List.length_append, List.length_cons, List.length_nil]
  generalize hts2 : (ts1 ++ [Tk.mk 4 0 ⟨#[38]⟩]) ++ us2 = ts2 at *
  have E3 := hide (unhide E2 ts2 (by first | rfl | exact hts2))
  clear E2 hts2
  rw [rounds_succ]
  go_wp2_with fail
  refine (markI_any ⟨#[62]⟩ w7).mono ?_
  rintro r w8 ⟨rfl, hb8⟩
  have O8 := hide ((unhide O7).later hb8)
  have D8 := hide ((unhide D7).trans (hb8.mono (Nat.le_trans hB (unhide D7).size)))
  have P8 := hide ((unhide P7).trans (KpT.of hb8))
  clear hb8 O7 D7 P7
  unfold Tk.v Tk.cs
  go_wp2_with (at_builtin; go_must (refine wpList_append_own _ rfl (.tmp 70) (.tmp 72) 32 rfl B 62 i0 (.agg #[.int .i64 0, .int .i64 0, .string ⟨#[]⟩]) 3 32 Tryz.underlying32 hi hz0 hz1 hz2 rfl (by decide) v7 (ts2).length (cellsT (ts2)) rfl (World.ownsRow.alloc (unhide O8) _) ⟨w8.heap.size, 0, none⟩ 1 1 [.int .i64 4, .int .i64 0, .string ⟨#[62]⟩] rfl rfl (cell_new w8 #[.int .i64 4, .int .i64 0, .string ⟨#[62]⟩] 62) (newT_one _ _ _) (by unfold maxLen; (try simp only [List.length_append, List.length_cons, List.length_nil]); omega) (by (try simp only [List.length_append, List.length_cons, List.length_nil]); omega) (by have := (unhide D8).size; simp; omega) ?_; intro v9 w9 hown9 hgrow9 _; have O9 := hide (ownT_app (t := ⟨4, 0, ⟨#[62]⟩⟩) hown9); have D9 := hide (((unhide D8).alloc (Nat.le_trans hB (unhide D8).size) (.cells #[.int .i64 4, .int .i64 0, .string ⟨#[62]⟩] 62)).grown hgrow9 (by have := (unhide D8).size; simp; omega) (fun g hg => ((unhide O8).lt hg).1)); have P9 := hide ((KpT.of (below_new w8 (.cells #[.int .i64 4, .int .i64 0, .string ⟨#[62]⟩] 62))).trans (KpT.own (B := B) (ts := ts2) (World.ownsRow.alloc (unhide O8) _) hgrow9)); clear hown9 hgrow9))
  go_ret
  rw [unhide E3] at O9
  exact ⟨_, rfl, unhide O9, unhide D9, (unhide P8).trans (unhide P9)⟩
set_option maxHeartbeats 8000000 in
theorem put_or (t u : TypeId) (x y : Value) (B L M : Nat) (us : List Tk) (h1 : ∀ (ts : List Tk) (v : Value) (w : World), OwnT w B v ts → B ≤ w.heap.size → ts.length ≤ (L + 1) → TabG w → Calls Tryz.prog 25 #[v, .iface t x] w fun r w' => ∃ v', r = .returned v' ∧ OwnT w' B v' (ts ++ us) ∧ Below B w w' ∧ KpT w w') (hus : us.length ≤ M) (us2 : List Tk) (h2 : ∀ (ts : List Tk) (v : Value) (w : World), OwnT w B v ts → B ≤ w.heap.size → ts.length ≤ (L + M + 2) → TabG w → Calls Tryz.prog 25 #[v, .iface u y] w fun r w' => ∃ v', r = .returned v' ∧ OwnT w' B v' (ts ++ us2) ∧ Below B w w' ∧ KpT w w') (hus2 : us2.length ≤ M) (hLM : L + 2 * M + 3 ≤ 500) (ts : List Tk) (v : Value) (w : World) (ho : OwnT w B v ts) (hB : B ≤ w.heap.size) (hl : ts.length ≤ L) (hT : TabG w) (hs : 0 < B) : Calls Tryz.prog 25 #[v, .iface 129 (.agg #[.iface t x, .iface u y])] w fun r w' => ∃ v', r = .returned v' ∧ OwnT w' B v' ((((ts ++ [⟨4, 0, ⟨#[60]⟩⟩]) ++ us) ++ [⟨4, 0, ⟨#[124]⟩⟩]) ++ us2 ++ [⟨4, 0, ⟨#[62]⟩⟩]) ∧ Below B w w' ∧ KpT w w' := by
  obtain ⟨i0, hi, hz0, hz1, hz2⟩ := info_parts infoT
  have t0 := taN_num 129 (.agg #[.iface t x, .iface u y]) (by decide)
  have t1 := taN_sym 129 (.agg #[.iface t x, .iface u y]) (by decide)
  have t2 := taN_here 129 (.agg #[.iface t x, .iface u y]) (by decide)
  have t3 := taN_neg 129 (.agg #[.iface t x, .iface u y]) (by decide)
  have m := me_or (.iface t x) (.iface u y)
  have PT := hide (parts2 t u x y w)
  have KD := hide (fun w => kind_or 0 E0 t u x y w)
  have SG := hide (fun w1 (h : TabG w1) => (show w1.cell? ⟨0, 10, none⟩ = some (.string ⟨#[124]⟩) by obtain ⟨t, fr, h⟩ := h; exact Lib.cell_of_heap h 10))
  have HT := hide hT
  have H1 := hide h1
  have H2 := hide h2
  have O0 := hide ho
  obtain ⟨RS, hRS⟩ : ∃ RS, (((ts ++ [Tk.mk 4 0 ⟨#[60]⟩]) ++ us) ++ [Tk.mk 4 0 ⟨#[124]⟩]) ++ us2 ++ [Tk.mk 4 0 ⟨#[62]⟩] = RS := ⟨_, rfl⟩
  rw [hRS]
  have E1 := hide (fun ts1 (h : (ts ++ [Tk.mk 4 0 ⟨#[60]⟩]) ++ us = ts1) ts2 (h2 : (ts1 ++ [Tk.mk 4 0 ⟨#[124]⟩]) ++ us2 = ts2) => (show ts2 ++ [Tk.mk 4 0 ⟨#[62]⟩] = RS by rw [← hRS, h, h2]))
  clear hT h1 h2 ho hRS
  go_enter Tryz.func25, Tryz.ntmps25
  go_wp2_with fail
  refine (unhide PT).mono ?_
  rintro r w1 ⟨gp, rfl, hgp, hb1⟩
  have O1 := hide ((unhide O0).later hb1)
  have D1 := hide (hb1.mono hB)
  have P1 := hide (KpT.of hb1)
  have G1 := hide hgp
  have c0 := Lib.cell_of_heap hgp 0
  clear hb1 hgp O0 PT
  go_wp2
  refine wp_loop_rounds 3 ?_
  rw [rounds_succ]
  go_wp2_with fail
  refine (markI_any ⟨#[60]⟩ w1).mono ?_
  rintro r w2 ⟨rfl, hb2⟩
  have O2 := hide ((unhide O1).later hb2)
  have D2 := hide ((unhide D1).trans (hb2.mono (Nat.le_trans hB (unhide D1).size)))
  have P2 := hide ((unhide P1).trans (KpT.of hb2))
  have G2 := hide (KpT.of hb2 _ _ _ _ (unhide G1) (by decide))
  clear hb2 O1 D1 P1 G1 c0
  unfold Tk.v Tk.cs
  go_wp2_with (first | (at_builtin; go_must (refine wpList_append_own _ rfl (.tmp 62) (.tmp 65) 32 rfl B 62 i0 (.agg #[.int .i64 0, .int .i64 0, .string ⟨#[]⟩]) 3 32 Tryz.underlying32 hi hz0 hz1 hz2 rfl (by decide) v (ts).length (cellsT (ts)) rfl (World.ownsRow.alloc (unhide O2) _) ⟨w2.heap.size, 0, none⟩ 1 1 [.int .i64 4, .int .i64 0, .string ⟨#[60]⟩] rfl rfl (cell_new w2 #[.int .i64 4, .int .i64 0, .string ⟨#[60]⟩] 62) (newT_one _ _ _) (by unfold maxLen; (try simp only [List.length_append, List.length_cons, List.length_nil]); omega) (by (try simp only [List.length_append, List.length_cons, List.length_nil]); omega) (by have := (unhide D2).size; simp; omega) ?_; intro v3 w3 hown3 hgrow3 _; have O3 := hide (ownT_app (t := ⟨4, 0, ⟨#[60]⟩⟩) hown3); have D3 := hide (((unhide D2).alloc (Nat.le_trans hB (unhide D2).size) (.cells #[.int .i64 4, .int .i64 0, .string ⟨#[60]⟩] 62)).grown hgrow3 (by have := (unhide D2).size; simp; omega) (fun g hg => ((unhide O2).lt hg).1)); have P3 := hide ((KpT.of (below_new w2 (.cells #[.int .i64 4, .int .i64 0, .string ⟨#[60]⟩] 62))).trans (KpT.own (B := B) (ts := ts) (World.ownsRow.alloc (unhide O2) _) hgrow3)); clear hown3 hgrow3; have Q3 := hide ((unhide P2).trans (unhide P3)); have G3 := hide (unhide P3 _ _ _ _ (unhide G2) (by decide)); have A3 := hide (unhide H1 (ts ++ [⟨4, 0, ⟨#[60]⟩⟩]) v3 w3 (unhide O3) (Nat.le_trans hB (unhide D3).size) (by simp only [List.length_append, List.length_cons, List.length_nil]; omega) ((unhide HT).later (unhide D3) hs)))) | (go_at_call 25; refine (unhide A3).mono ?_; rintro r w4 ⟨v4, rfl, o4, hb4, hp4⟩))
  have O4 := hide o4
  have D4 := hide ((unhide D3).trans hb4)
  have P4 := hide ((unhide Q3).trans hp4)
  have G4 := hide (hp4 _ _ _ _ (unhide G3) (by decide))
  have T4 := unhide SG w4 ((unhide HT).later (unhide D4) hs)
  have c1 := Lib.cell_of_heap (unhide G4) 1
  clear o4 hb4 hp4 O3 D3 P3 Q3 G3 A3 O2 D2 P2 G2
  have l4 : ((ts ++ [Tk.mk 4 0 ⟨#[60]⟩]) ++ us).length = ts.length + 1 + us.length := by simp only [List.length_append, List.length_cons, List.length_nil]
  generalize hts1 : (ts ++ [Tk.mk 4 0 ⟨#[60]⟩]) ++ us = ts1 at *
  have E2 := hide (unhide E1 ts1 (by first | rfl | exact hts1))
  clear E1 hts1
  rw [rounds_succ]
  go_wp2_with (first | (go_at_call 55; refine (unhide KD _).mono ?_; rintro r w' ⟨rfl, hw'⟩; rw [hw']; clear hw' w') | (go_at_call 37; refine (markI_any ⟨#[124]⟩ w4).mono ?_; rintro r w5 ⟨rfl, hb5⟩; have O5 := hide ((unhide O4).later hb5); have D5 := hide ((unhide D4).trans (hb5.mono (Nat.le_trans hB (unhide D4).size))); have P5 := hide ((unhide P4).trans (KpT.of hb5)); have G5 := hide (KpT.of hb5 _ _ _ _ (unhide G4) (by decide)); clear hb5; unfold Tk.v Tk.cs) | (at_builtin; go_must (refine wpList_append_own _ rfl (.tmp 62) (.tmp 65) 32 rfl B 62 i0 (.agg #[.int .i64 0, .int .i64 0, .string ⟨#[]⟩]) 3 32 Tryz.underlying32 hi hz0 hz1 hz2 rfl (by decide) v4 (ts1).length (cellsT (ts1)) rfl (World.ownsRow.alloc (unhide O5) _) ⟨w5.heap.size, 0, none⟩ 1 1 [.int .i64 4, .int .i64 0, .string ⟨#[124]⟩] rfl rfl (cell_new w5 #[.int .i64 4, .int .i64 0, .string ⟨#[124]⟩] 62) (newT_one _ _ _) (by unfold maxLen; (try simp only [List.length_append, List.length_cons, List.length_nil]); omega) (by (try simp only [List.length_append, List.length_cons, List.length_nil]); omega) (by have := (unhide D5).size; simp; omega) ?_; intro v6 w6 hown6 hgrow6 _; have O6 := hide (ownT_app (t := ⟨4, 0, ⟨#[124]⟩⟩) hown6); have D6 := hide (((unhide D5).alloc (Nat.le_trans hB (unhide D5).size) (.cells #[.int .i64 4, .int .i64 0, .string ⟨#[124]⟩] 62)).grown hgrow6 (by have := (unhide D5).size; simp; omega) (fun g hg => ((unhide O5).lt hg).1)); have P6 := hide ((KpT.of (below_new w5 (.cells #[.int .i64 4, .int .i64 0, .string ⟨#[124]⟩] 62))).trans (KpT.own (B := B) (ts := ts1) (World.ownsRow.alloc (unhide O5) _) hgrow6)); clear hown6 hgrow6; have Q6 := hide ((unhide P5).trans (unhide P6)); have G6 := hide (unhide P6 _ _ _ _ (unhide G5) (by decide)); have A6 := hide (unhide H2 (ts1 ++ [⟨4, 0, ⟨#[124]⟩⟩]) v6 w6 (unhide O6) (Nat.le_trans hB (unhide D6).size) (by simp only [List.length_append, List.length_cons, List.length_nil]; omega) ((unhide HT).later (unhide D6) hs)))) | (go_at_call 25; refine (unhide A6).mono ?_; rintro r w7 ⟨v7, rfl, o7, hb7, hp7⟩))
  have O7 := hide o7
  have D7 := hide ((unhide D6).trans hb7)
  have P7 := hide ((unhide Q6).trans hp7)
  clear o7 hb7 hp7 O6 D6 P6 Q6 G6 A6 T4 c1 G4 O5 D5 P5 G5 O4 D4 P4
  have l7 : ((ts1 ++ [Tk.mk 4 0 ⟨#[124]⟩]) ++ us2).length = ts1.length + 1 + us2.length := by simp only [List.length_append, List.length_cons, List.length_nil]
  generalize hts2 : (ts1 ++ [Tk.mk 4 0 ⟨#[124]⟩]) ++ us2 = ts2 at *
  have E3 := hide (unhide E2 ts2 (by first | rfl | exact hts2))
  clear E2 hts2
  rw [rounds_succ]
  go_wp2_with fail
  refine (markI_any ⟨#[62]⟩ w7).mono ?_
  rintro r w8 ⟨rfl, hb8⟩
  have O8 := hide ((unhide O7).later hb8)
  have D8 := hide ((unhide D7).trans (hb8.mono (Nat.le_trans hB (unhide D7).size)))
  have P8 := hide ((unhide P7).trans (KpT.of hb8))
  clear hb8 O7 D7 P7
  unfold Tk.v Tk.cs
  go_wp2_with (at_builtin; go_must (refine wpList_append_own _ rfl (.tmp 70) (.tmp 72) 32 rfl B 62 i0 (.agg #[.int .i64 0, .int .i64 0, .string ⟨#[]⟩]) 3 32 Tryz.underlying32 hi hz0 hz1 hz2 rfl (by decide) v7 (ts2).length (cellsT (ts2)) rfl (World.ownsRow.alloc (unhide O8) _) ⟨w8.heap.size, 0, none⟩ 1 1 [.int .i64 4, .int .i64 0, .string ⟨#[62]⟩] rfl rfl (cell_new w8 #[.int .i64 4, .int .i64 0, .string ⟨#[62]⟩] 62) (newT_one _ _ _) (by unfold maxLen; (try simp only [List.length_append, List.length_cons, List.length_nil]); omega) (by (try simp only [List.length_append, List.length_cons, List.length_nil]); omega) (by have := (unhide D8).size; simp; omega) ?_; intro v9 w9 hown9 hgrow9 _; have O9 := hide (ownT_app (t := ⟨4, 0, ⟨#[62]⟩⟩) hown9); have D9 := hide (((unhide D8).alloc (Nat.le_trans hB (unhide D8).size) (.cells #[.int .i64 4, .int .i64 0, .string ⟨#[62]⟩] 62)).grown hgrow9 (by have := (unhide D8).size; simp; omega) (fun g hg => ((unhide O8).lt hg).1)); have P9 := hide ((KpT.of (below_new w8 (.cells #[.int .i64 4, .int .i64 0, .string ⟨#[62]⟩] 62))).trans (KpT.own (B := B) (ts := ts2) (World.ownsRow.alloc (unhide O8) _) hgrow9)); clear hown9 hgrow9))
  go_ret
  rw [unhide E3] at O9
  exact ⟨_, rfl, unhide O9, unhide D9, (unhide P8).trans (unhide P9)⟩
theorem put_all : ∀ d : Nat, d ≤ 6 → PutP d := by
  intro d
  induction d with
  | zero => intro _ e ts v B w h; cases h
  | succ d ih =>
    intro hd e ts v B w h ho hB hl hT hs
    have ihd := ih (by omega)
    rw [mxT] at hl
    rcases plain_cases h with ⟨n, hn, rfl⟩ | ⟨s, hs, rfl⟩ | rfl | ⟨a, ha, rfl⟩ | ⟨k, a, b, hk, ha, hb, rfl⟩
    · rw [tv_num, toks_num]; exact put_num n ts v B w ho hB (by omega)
    · rw [tv_sym, toks_sym]; exact put_sym s ts v B w ho hB (by omega)
    · rw [tv_here, toks_here]; exact put_here ts v B w ho hB (by omega)
    · obtain ⟨t, x, e1⟩ := tv_if a
      have h1 := fun ts v w ho hB hl hT => ihd a ts v B w ha ho hB hl hT hs
      rw [e1] at h1
      rw [tv_neg, e1, toks_neg]
      have hm := (toks_ok d a ha).2
      have R := put_neg t x B ts.length (by omega) (toksF d a) (fun ts' v w ho hB hl hT => h1 ts' v w ho hB (by omega) hT) ts v w ho hB (Nat.le_refl _) hT hs
      rw [List.append_assoc] at R
      exact R
    · obtain ⟨t, x, e1⟩ := tv_if a
      obtain ⟨u, y, e2⟩ := tv_if b
      have h1 := fun ts v w ho hB hl hT => ihd a ts v B w ha ho hB hl hT hs
      have h2 := fun ts v w ho hB hl hT => ihd b ts v B w hb ho hB hl hT hs
      rw [e1] at h1
      rw [e2] at h2
      rw [tv_two hk, e1, e2, toks_two d hk]
      have hm1 := (toks_ok d a ha).2
      have hm2 := (toks_ok d b hb).2
      have hx := mxT_le d (by omega)
      have F1 := fun (ts' : List Tk) v w ho hB (hl : ts'.length ≤ ts.length + 1) hT => h1 ts' v w ho hB (by omega) hT
      have F2 := fun (ts' : List Tk) v w ho hB (hl : ts'.length ≤ ts.length + mxT d + 2) hT => h2 ts' v w ho hB (by omega) hT
      have : k = 5 ∨ k = 6 ∨ k = 7 ∨ k = 8 ∨ k = 9 ∨ k = 10 := by omega
      rcases this with rfl | rfl | rfl | rfl | rfl | rfl
      · have R := put_add t u x y B ts.length (mxT d) (toksF d a) F1 hm1 (toksF d b) F2 hm2 (by omega) ts v w ho hB (Nat.le_refl _) hT hs
        simp only [List.append_assoc, List.cons_append, List.nil_append] at R
        exact R
      · have R := put_sub t u x y B ts.length (mxT d) (toksF d a) F1 hm1 (toksF d b) F2 hm2 (by omega) ts v w ho hB (Nat.le_refl _) hT hs
        simp only [List.append_assoc, List.cons_append, List.nil_append] at R
        exact R
      · have R := put_mul t u x y B ts.length (mxT d) (toksF d a) F1 hm1 (toksF d b) F2 hm2 (by omega) ts v w ho hB (Nat.le_refl _) hT hs
        simp only [List.append_assoc, List.cons_append, List.nil_append] at R
        exact R
      · have R := put_div t u x y B ts.length (mxT d) (toksF d a) F1 hm1 (toksF d b) F2 hm2 (by omega) ts v w ho hB (Nat.le_refl _) hT hs
        simp only [List.append_assoc, List.cons_append, List.nil_append] at R
        exact R
      · have R := put_and t u x y B ts.length (mxT d) (toksF d a) F1 hm1 (toksF d b) F2 hm2 (by omega) ts v w ho hB (Nat.le_refl _) hT hs
        simp only [List.append_assoc, List.cons_append, List.nil_append] at R
        exact R
      · have R := put_or t u x y B ts.length (mxT d) (toksF d a) F1 hm1 (toksF d b) F2 hm2 (by omega) ts v w ho hB (Nat.le_refl _) hT hs
        simp only [List.append_assoc, List.cons_append, List.nil_append] at R
        exact R
end Go.Proofs.YthgbpofcfmnpdaaGreatDoor

namespace Go.Proofs.YthgbpofcfmnpdaaGreatDoor
open Go.ChangeShapes Go.WideShapes Go.ChangeAt Go.RowKit
set_option linter.unusedVariables false
set_option maxRecDepth 8000
set_option linter.unusedSimpArgs false

/-- The cursor, while draws go on that began at w. -/
structure Dz (w wr : World) (cb : Nat) (a : Option Addr) (len cap : Nat) (xs : List UInt8) : Prop where
  cur : Cur wr cb a len cap xs
  gr : w.grownBy wr (some cb)
  lt : cb < w.heap.size
  cd : xs = [] ∨ ∀ ad, a = some ad → ad.block < w.heap.size
section
variable {w wr w' : World} {cb : Nat} {a : Option Addr} {len cap : Nat} {xs : List UInt8}
theorem dz_new (hc : Cur w cb a len cap xs) : Dz w w cb a len cap xs := ⟨hc, grownBy_below (Below.refl _ _), hc.lt, hc.code⟩
theorem Dz.size (h : Dz w wr cb a len cap xs) : w.heap.size ≤ wr.heap.size := h.gr.size
theorem Dz.draw (h : Dz w wr cb a len cap xs) (hc : Cur w' cb a len cap xs) (hg : wr.grownBy w' (some cb)) : Dz w w' cb a len cap xs := ⟨hc, grownBy_trans h.gr hg, h.lt, h.cd⟩
theorem Dz.later (h : Dz w wr cb a len cap xs) (hb : Below wr.heap.size wr w') : Dz w w' cb a len cap xs := h.draw (h.cur.later hb) (grownBy_below hb)
theorem Dz.own {row : Option Nat} (h : Dz w wr cb a len cap xs) (hg : wr.grownBy w' row) (hr : ∀ g, row = some g → w.heap.size ≤ g) : Dz w w' cb a len cap xs := ⟨h.cur.past hg h.lt h.cd hr, grownBy_own h.gr hg hr, h.lt, h.cd⟩
theorem grownBy_row {W : World} {g : Nat} (cs : Array Value) : W.grownBy (W.setRow g cs) (some g) := ⟨rfl, rfl, rfl, by simp [World.setRow], fun k _ hk => setRow_other _ _ _ _ (fun e => hk (by rw [e]))⟩
theorem Dz.row (h : Dz w wr cb a len cap xs) (cs : Array Value) : Dz w (wr.setRow w.heap.size cs) cb a len cap xs := h.own (grownBy_row cs) (fun g e => by cases e; exact Nat.le_refl _)
/-- A block of the call's own stays while draws go on. -/
theorem Dz.blk {W : World} {g : Nat} {o : Obj} (h : Dz w wr cb a len cap xs) (hg : wr.grownBy W (some cb)) (hb : wr.heap[g]? = some o) (hge : w.heap.size ≤ g) : W.heap[g]? = some o :=
  (hg.block g (Array.getElem?_eq_some_iff.1 hb).1 (fun e => by have := h.lt; simp at e; omega)).trans hb
end
theorem lit_cell (L : List ByteArray) (W : World) (j : Nat) (h : j < L.length) : (W.alloc (.cells (L.map Value.string).toArray 9)).cell? ⟨W.heap.size, j, none⟩ = some (.string (L.getD j E0)) := by
  rw [World.cell?_alloc_at _ _ _ _ rfl, List.getElem?_toArray, List.getElem?_map, List.getElem?_eq_getElem h, List.getD_eq_getElem?_getD, List.getElem?_eq_getElem h]
  rfl
set_option maxHeartbeats 400000 in
theorem strD (L : List ByteArray) (n : Nat) (cb : Nat) (a : Option Addr) (len cap : Nat) (xs : List UInt8) (w0 : World) (hn : L.length = n) (h0 : 0 < n) (hm : n ≤ 1000) (hc : Cur w0 cb a len cap xs) :
    Calls Tryz.prog 29 #[.pointer (some ⟨cb, 0, none⟩), .slice (some ⟨w0.heap.size, 0, none⟩) n n] (w0.alloc (.cells (L.map Value.string).toArray 9)) fun e w' => ∃ j, j < n ∧ e = .returned (.string (L.getD j E0)) ∧ Cur w' cb a len cap xs ∧ w0.grownBy w' (some cb) := by
  have hlt := hc.lt
  have HC := hide (hc.later ((Below.refl _ _).alloc (Nat.le_refl _) (.cells (L.map Value.string).toArray 9)))
  have HT := hide (fun j (hj : j < n) => lit_cell L w0 j (by omega))
  have HZ : w0.heap.size < (w0.alloc (.cells (L.map Value.string).toArray 9)).heap.size := by simp
  have HG := hide (World.grownBy_alloc w0 (.cells (L.map Value.string).toArray 9) (some cb))
  clear hc
  generalize w0.alloc (.cells (L.map Value.string).toArray 9) = w at *
  go_enter Tryz.func29, Tryz.ntmps29
  go_wp2_with fail
  refine (below_any cb a len cap xs n w (by omega) (unhide HC)).mono ?_
  rintro e w1 ⟨x, hx0, hx1, rfl, hc1, hg1⟩
  obtain ⟨hx2, hx3⟩ := hx0 (by omega)
  obtain ⟨j, rfl⟩ := Int.eq_ofNat_of_zero_le hx2
  have hj : j < n := by omega
  have hcx : w1.cell? ⟨w0.heap.size, j, none⟩ = some (.string (L.getD j E0)) := (World.cell?_of_block (w := w) (hg1.block w0.heap.size HZ (by simp; omega))).trans (unhide HT j hj)
  obtain ⟨s, hs⟩ : ∃ s, L.getD j E0 = s := ⟨_, rfl⟩
  have HS := hide hs
  rw [hs] at hcx
  clear hx0 hx1 hs HT
  go_wp2
  go_ret
  exact ⟨j, hj, by rw [unhide HS]; rfl, hc1, grownBy_trans (unhide HG) hg1⟩
set_option maxHeartbeats 400000 in
theorem wordD (cb : Nat) (a : Option Addr) (len cap : Nat) (xs : List UInt8) (w : World) (hc : Cur w cb a len cap xs) :
    Calls Tryz.prog 82 #[.pointer (some ⟨cb, 0, none⟩)] w fun e w' => ∃ x : Int, 0 ≤ x ∧ x ≤ 65535 ∧ e = .returned (.int .i64 x) ∧ Cur w' cb a len cap xs ∧ w.grownBy w' (some cb) := by
  have D0 := hide (dz_new hc)
  go_enter Tryz.func82, Tryz.ntmps82
  go_wp2_with fail
  refine (below_any cb a len cap xs 65536 w (by omega) hc).mono ?_
  rintro e w1 ⟨x, hx0, hx1, rfl, hc1, hg1⟩
  obtain ⟨hx2, hx3⟩ := hx0 (by omega)
  have D1 := hide ((unhide D0).draw hc1 hg1)
  have hlt := hc1.lt
  have I1 := hide (int_any cb a len cap xs (some ⟨w1.heap.size, 0, none⟩) 11 11 [0, 1, 2, 3, 5, 8, 255, 32767, 32768, 65535, x] (w1.alloc (.cells ([0, 1, 2, 3, 5, 8, 255, 32767, 32768, 65535, x].map (Value.int .i64)).toArray 3)) (hc1.later ((Below.refl _ _).alloc (Nat.le_refl _) _)) (RdN_lit w1 _) (fun ad e => by cases e; show w1.heap.size ≠ cb; omega) rfl (by omega) (by omega))
  have G1 := hide (World.grownBy_alloc w1 (.cells ([0, 1, 2, 3, 5, 8, 255, 32767, 32768, 65535, x].map (Value.int .i64)).toArray 3) (some cb))
  have BD := hide (show ∀ j, j < 11 → 0 ≤ nAt [0, 1, 2, 3, 5, 8, 255, 32767, 32768, 65535, x] j ∧ nAt [0, 1, 2, 3, 5, 8, 255, 32767, 32768, 65535, x] j ≤ 65535 from fun j hj => by
    have hk : j = 0 ∨ j = 1 ∨ j = 2 ∨ j = 3 ∨ j = 4 ∨ j = 5 ∨ j = 6 ∨ j = 7 ∨ j = 8 ∨ j = 9 ∨ j = 10 := by omega
    rcases hk with rfl | rfl | rfl | rfl | rfl | rfl | rfl | rfl | rfl | rfl | rfl <;> simp [nAt] <;> omega)
  clear hc1 hg1 hx0 hx1 D0
  go_wp2_with fail
  refine (unhide I1).mono ?_
  rintro e w2 ⟨j, hj, rfl, hc2, hg2⟩
  have D2 := hide ((unhide D1).draw hc2 (grownBy_trans (unhide G1) hg2))
  obtain ⟨b0, b1⟩ := unhide BD j hj
  generalize nAt [0, 1, 2, 3, 5, 8, 255, 32767, 32768, 65535, x] j = y at *
  clear hc2 hg2 I1 G1 BD D1
  go_wp2
  go_ret
  exact ⟨y, b0, b1, rfl, (unhide D2).cur, (unhide D2).gr⟩
def L9a : List ByteArray := [⟨#[97]⟩, ⟨#[115, 116, 97, 114, 116]⟩, ⟨#[120, 49]⟩, ⟨#[114, 54]⟩]
def L9b : List ByteArray := [⟨#[46, 119, 111, 114, 100]⟩, ⟨#[46, 109, 97, 99, 114, 111]⟩, ⟨#[46, 120]⟩]
def L9c : List ByteArray := [⟨#[109, 111, 118]⟩, ⟨#[114, 48]⟩, ⟨#[104, 97, 108, 116]⟩]
def L9d : List ByteArray := [⟨#[58]⟩, ⟨#[44]⟩, ⟨#[40]⟩, ⟨#[41]⟩, ⟨#[46]⟩, ⟨#[60]⟩, ⟨#[64]⟩]
theorem ok9a : ∀ j : Fin 4, (Tk.mk 1 0 (L9a.getD j.val E0)).ok = true := by decide +kernel
theorem ok9b : ∀ j : Fin 3, (Tk.mk 3 0 (L9b.getD j.val E0)).ok = true := by decide +kernel
theorem ok9c : ∀ j : Fin 3, (Tk.mk 5 0 (L9c.getD j.val E0)).ok = true := by decide +kernel
theorem ok9d : ∀ j : Fin 7, (Tk.mk 4 0 (L9d.getD j.val E0)).ok = true := by decide +kernel
theorem ok9n (x : Int) (h0 : 0 ≤ x) (h1 : x ≤ 65535) : (Tk.mk 2 x ⟨#[]⟩).ok = true := by
  unfold Tk.ok
  simp only
  rw [if_pos (by decide), inB_t _ _ _ h0 h1]
  rfl
end Go.Proofs.YthgbpofcfmnpdaaGreatDoor

namespace Go.Proofs.YthgbpofcfmnpdaaGreatDoor
open Go.ChangeShapes Go.WideShapes Go.ChangeAt Go.RowKit
set_option linter.unusedVariables false
set_option maxRecDepth 8000
set_option linter.unusedSimpArgs false

/-- The reader at rb goes through ts, stands at k, is bad or not. -/
structure Rz (wr : World) (rb : Nat) (la : Option Addr) (cap : Nat) (ts : List Tk) (k : Nat) (bad : Bool) : Prop where
  row : wr.heap[rb]? = some (.cells #[.slice la ts.length cap, .int .i64 k, .bool bad] 59 (0, 0))
  toks : RdT wr la ts
  far : ts = [] ∨ ∀ ad, la = some ad → ad.block ≠ rb
  le : k ≤ ts.length
section
variable {wr w' : World} {rb : Nat} {la : Option Addr} {cap : Nat} {ts : List Tk} {k : Nat} {bad : Bool}
theorem Rz.lt (h : Rz wr rb la cap ts k bad) : rb < wr.heap.size := (Array.getElem?_eq_some_iff.1 h.row).1
theorem Rz.later (h : Rz wr rb la cap ts k bad) (hb : Below wr.heap.size wr w') : Rz w' rb la cap ts k bad := ⟨(hb.block _ h.lt).trans h.row, h.toks.later hb, h.far, h.le⟩
theorem RdT.past {w w' : World} {a : Option Addr} {xs : List Tk} {b : Nat} (h : RdT w a xs) (hb : w.grownBy w' (some b)) (hne : xs = [] ∨ ∀ ad, a = some ad → ad.block ≠ b) : RdT w' a xs := by
  rcases h with h | ⟨c, off, ha, hlt, hc⟩
  · exact .inl h
  · rcases hne with h | hne
    · exact .inl h
    · have hn : c ≠ b := hne _ ha
      have hk : ∀ o, w'.cell? ⟨c, o, none⟩ = w.cell? ⟨c, o, none⟩ := fun o => World.cell?_of_block (hb.block c hlt (by simpa using hn))
      exact .inr ⟨c, off, ha, Nat.lt_of_lt_of_le hlt hb.size, fun i hi => ⟨(hk _).trans (hc i hi).1, (hk _).trans (hc i hi).2.1, (hk _).trans (hc i hi).2.2⟩⟩
theorem Rz.setAt (h : Rz wr rb la cap ts k bad) (j : Nat) (hj : j ≤ ts.length) (v : Int) (hv : v = (j : Int)) : Rz (wr.setCell ⟨rb, 1, none⟩ (.int .i64 v)) rb la cap ts j bad := by
  subst hv
  exact ⟨heap_setCell_same wr rb 1 _ _ _ h.row, h.toks.past (grownBy_set _) h.far, h.far, hj⟩
theorem Rz.setBad (h : Rz wr rb la cap ts k bad) : Rz (wr.setCell ⟨rb, 2, none⟩ (.bool true)) rb la cap ts k true :=
  ⟨heap_setCell_same wr rb 2 _ _ _ h.row, h.toks.past (grownBy_set _) h.far, h.far, h.le⟩
theorem Rz.cells (h : Rz wr rb la cap ts k bad) : wr.cell? ⟨rb, 0, none⟩ = some (.slice la ts.length cap) ∧ wr.cell? ⟨rb, 1, none⟩ = some (.int .i64 k) ∧ wr.cell? ⟨rb, 2, none⟩ = some (.bool bad) := ⟨Lib.cell_of_heap h.row 0, Lib.cell_of_heap h.row 1, Lib.cell_of_heap h.row 2⟩
theorem Rz.frz (h : Rz wr rb la cap ts k bad) (j : Nat) : wr.frozen? ⟨rb, j, none⟩ = false := by simp [World.frozen?, h.row]
theorem Rz.tok (h : Rz wr rb la cap ts k bad) (hk : k < ts.length) : ∃ b off, la = some ⟨b, off, none⟩ ∧ b ≠ rb ∧ wr.cell? ⟨b, off + k * 3, none⟩ = some (.int .i64 (tAt ts k).k) ∧ wr.cell? ⟨b, off + k * 3 + 1, none⟩ = some (.int .i64 (tAt ts k).n) ∧ wr.cell? ⟨b, off + k * 3 + 2, none⟩ = some (.string (tAt ts k).s) := by
  rcases h.toks with h0 | ⟨b, off, ha, hlt, hc⟩
  · rw [h0] at hk; simp at hk
  · rcases h.far with h0 | hf
    · rw [h0] at hk; simp at hk
    · exact ⟨b, off, ha, hf _ ha, hc k hk⟩
end
def seeB (ts : List Tk) (k : Nat) (bad : Bool) (s : ByteArray) : Bool := !bad && (decide (k < ts.length) && eqS (tAt ts k).s s)
set_option maxHeartbeats 2000000 in
theorem seeS_any (rb : Nat) (la : Option Addr) (cap : Nat) (ts : List Tk) (k : Nat) (bad : Bool) (s : ByteArray) (w : World) (hm : ts.length ≤ 1048576) (h : Rz w rb la cap ts k bad) :
    Calls Tryz.prog 111 #[.pointer (some ⟨rb, 0, none⟩), .string s] w fun r w' => r = .returned (.bool (seeB ts k bad s)) ∧ Below w.heap.size w w' := by
  obtain ⟨c0, c1, c2⟩ := h.cells
  unfold seeB eqS
  have hk := h.le
  have hrl := h.lt
  cases bad
  case true =>
    clear h
    go_enter Tryz.func111, Tryz.ntmps111
    go_wp2
    go_region
    go_wp2
    go_ret
    exact ⟨rfl, below_drew⟩
  case false =>
    by_cases hlt : k < ts.length
    · obtain ⟨b, off, rfl, hne, t0, t1, t2⟩ := h.tok hlt
      have hbl := World.block_lt_of_cell? w _ t2
      clear h t0 t1
      rw [decide_eq_true hlt]
      generalize (tAt ts k).s = sx at *
      generalize ts.length = n at *
      have hi : (k : Int) < (n : Int) := by omega
      have hi2 : ¬ (n : Int) ≤ (k : Int) := by omega
      go_enter Tryz.func111, Tryz.ntmps111
      go_wp2
      go_region
      go_wp2
      go_ret
      exact ⟨rfl, below_drew⟩
    · have hn : k = ts.length := by omega
      clear h
      rw [decide_eq_false hlt]
      subst hn
      generalize ts.length = n at *
      go_enter Tryz.func111, Tryz.ntmps111
      go_wp2
      go_region
      go_wp2
      go_ret
      exact ⟨rfl, below_drew⟩
end Go.Proofs.YthgbpofcfmnpdaaGreatDoor

namespace Go.Proofs.YthgbpofcfmnpdaaGreatDoor
open Go.ChangeShapes Go.WideShapes Go.ChangeAt Go.RowKit
set_option linter.unusedVariables false
set_option maxRecDepth 8000
set_option linter.unusedSimpArgs false

/-- The reader, while work goes on that began at w. -/
structure Rq (w wr : World) (rb : Nat) (la : Option Addr) (cap : Nat) (ts : List Tk) (k : Nat) (bad : Bool) : Prop where
  rz : Rz wr rb la cap ts k bad
  gr : w.grownBy wr (some rb)
  lt : rb < w.heap.size
  tk : ts = [] ∨ ∀ ad, la = some ad → ad.block < w.heap.size
section
variable {w wr w' : World} {rb : Nat} {la : Option Addr} {cap : Nat} {ts : List Tk} {k j : Nat} {bad b2 : Bool}
theorem Rz.start (h : Rz w rb la cap ts k bad) : Rq w w rb la cap ts k bad := ⟨h, grownBy_below (Below.refl _ _), h.lt, by
  rcases h.toks with h | ⟨b, off, ha, hl, _⟩
  · exact .inl h
  · exact .inr fun ad e => by rw [ha] at e; cases e; exact hl⟩
theorem Rq.next (h : Rq w wr rb la cap ts k bad) (hr : Rz w' rb la cap ts j b2) (hg : wr.grownBy w' (some rb)) : Rq w w' rb la cap ts j b2 := ⟨hr, grownBy_trans h.gr hg, h.lt, h.tk⟩
theorem Rq.later (h : Rq w wr rb la cap ts k bad) (hb : Below wr.heap.size wr w') : Rq w w' rb la cap ts k bad := h.next (h.rz.later hb) (grownBy_below hb)
theorem Rq.row (h : Rq w wr rb la cap ts k bad) (cs : Array Value) : Rq w (wr.setRow w.heap.size cs) rb la cap ts k bad := by
  have hl := h.lt
  refine ⟨⟨(setRow_other _ _ _ _ (by omega)).trans h.rz.row, h.rz.toks.past (grownBy_row cs) ?_, h.rz.far, h.rz.le⟩, grownBy_own h.gr (grownBy_row cs) (fun g e => by cases e; exact Nat.le_refl _), hl, h.tk⟩
  rcases h.tk with h | h
  · exact .inl h
  · exact .inr fun ad e => by have := h ad e; omega
/-- A block of the call's own stays while the reader goes on. -/
theorem Rq.blk {g : Nat} {o : Obj} (h : Rq w wr rb la cap ts k bad) (hg : wr.grownBy w' (some rb)) (hb : wr.heap[g]? = some o) (hge : w.heap.size ≤ g) : w'.heap[g]? = some o :=
  (hg.block g (Array.getElem?_eq_some_iff.1 hb).1 (fun e => by have := h.lt; simp at e; omega)).trans hb
theorem Rq.cell (h : Rq w wr rb la cap ts k bad) (i : Nat) (v : Value) : Rq w (wr.setCell ⟨w.heap.size, i, none⟩ v) rb la cap ts k bad := by
  have hl := h.lt
  refine ⟨⟨(heap_setCell_other wr ⟨w.heap.size, i, none⟩ rb v (by simp; omega)).trans h.rz.row, h.rz.toks.past (grownBy_set (b := w.heap.size) (o := i) v) ?_, h.rz.far, h.rz.le⟩, grownBy_own h.gr (grownBy_set (b := w.heap.size) (o := i) v) (fun g e => by cases e; exact Nat.le_refl _), hl, h.tk⟩
  rcases h.tk with h | h
  · exact .inl h
  · exact .inr fun ad e => by have := h ad e; omega
theorem row3_set {g : Nat} {u0 u1 u2 : Value} {t : TypeId} (h : w.heap[g]? = some (.cells #[u0, u1, u2] t (0, 0))) (v0 v1 v2 : Value) : (((w.setCell ⟨g, 0, none⟩ v0).setCell ⟨g, 1, none⟩ v1).setCell ⟨g, 2, none⟩ v2).heap[g]? = some (.cells #[v0, v1, v2] t (0, 0)) :=
  heap_setCell_same _ g 2 _ t v2 (heap_setCell_same _ g 1 _ t v1 (heap_setCell_same _ g 0 _ t v0 h))
theorem Rz.drew (h : Rz wr rb la cap ts k bad) : Rz wr.drew rb la cap ts k bad := h.later below_drew
end
theorem seeB_bad {ts : List Tk} {k : Nat} {bad : Bool} {s : ByteArray} (h : seeB ts k bad s = true) : bad = false ∧ k < ts.length ∧ eqS (tAt ts k).s s = true := by
  unfold seeB at h
  cases bad
  · simp only [Bool.not_false, Bool.true_and, Bool.and_eq_true, decide_eq_true_eq] at h
    exact ⟨rfl, h.1, h.2⟩
  · cases h
set_option maxHeartbeats 1000000 in
theorem isS_any (rb : Nat) (la : Option Addr) (cap : Nat) (ts : List Tk) (k : Nat) (bad : Bool) (s : ByteArray) (w : World) (hm : ts.length ≤ 1048576) (h : Rz w rb la cap ts k bad) :
    Calls Tryz.prog 102 #[.pointer (some ⟨rb, 0, none⟩), .string s] w fun r w' => r = .returned (.bool (seeB ts k bad s)) ∧ Rz w' rb la cap ts (if seeB ts k bad s = true then k + 1 else k) bad ∧ w.grownBy w' (some rb) := by
  have SE := hide (seeS_any rb la cap ts k bad s w hm h)
  have HR := hide h
  have hk := h.le
  clear h
  cases hq : seeB ts k bad s
  case false =>
    rw [hq] at SE
    go_enter Tryz.func102, Tryz.ntmps102
    go_wp2_with fail
    refine (unhide SE).mono ?_
    rintro r w1 ⟨rfl, hb1⟩
    have R1 := hide ((unhide HR).later hb1)
    have G1 := hide (grownBy_below (r := some rb) hb1)
    clear hb1 SE HR
    go_wp2
    go_ret
    exact ⟨rfl, unhide R1, unhide G1⟩
  case true =>
    have hlt := (seeB_bad hq).2.1
    rw [hq] at SE
    go_enter Tryz.func102, Tryz.ntmps102
    go_wp2_with fail
    refine (unhide SE).mono ?_
    rintro r w1 ⟨rfl, hb1⟩
    have R1 := hide ((unhide HR).later hb1)
    have G1 := hide (grownBy_below (r := some rb) hb1)
    obtain ⟨c0, c1, c2⟩ := (unhide R1).cells
    have f1 := (unhide R1).frz 1
    have R2 := hide ((unhide R1).setAt (k + 1) (by omega) ((k : Int) + 1) (by omega))
    clear hb1 SE HR
    go_wp2
    go_ret
    exact ⟨rfl, unhide R2, grownBy_trans (unhide G1) (grownBy_set _)⟩
set_option maxHeartbeats 1000000 in
theorem mustS_any (rb : Nat) (la : Option Addr) (cap : Nat) (ts : List Tk) (k : Nat) (bad : Bool) (s : ByteArray) (w : World) (hm : ts.length ≤ 1048576) (h : Rz w rb la cap ts k bad) :
    Calls Tryz.prog 95 #[.pointer (some ⟨rb, 0, none⟩), .string s] w fun r w' => r = .returned (.tuple #[]) ∧ Rz w' rb la cap ts (if seeB ts k bad s = true then k + 1 else k) (!seeB ts k bad s) ∧ w.grownBy w' (some rb) := by
  have SE := hide (isS_any rb la cap ts k bad s w hm h)
  clear h
  cases hq : seeB ts k bad s
  case false =>
    rw [hq] at SE
    go_enter Tryz.func95, Tryz.ntmps95
    go_wp2_with fail
    refine (unhide SE).mono ?_
    rintro r w1 ⟨rfl, h1, hg1⟩
    have R1 := hide h1
    have G1 := hide hg1
    obtain ⟨c0, c1, c2⟩ := h1.cells
    have f1 := h1.frz 2
    have R2 := hide h1.setBad
    clear h1 hg1 SE
    go_wp2
    refine bodyPost_end (results_none rfl _ _ _) rfl ?_
    exact ⟨rfl, unhide R2, grownBy_trans (unhide G1) (grownBy_set _)⟩
  case true =>
    obtain ⟨rfl, hlt, _⟩ := seeB_bad hq
    rw [hq] at SE
    go_enter Tryz.func95, Tryz.ntmps95
    go_wp2_with fail
    refine (unhide SE).mono ?_
    rintro r w1 ⟨rfl, h1, hg1⟩
    have R1 := hide h1
    have G1 := hide hg1
    clear h1 hg1 SE
    go_wp2
    refine bodyPost_end (results_none rfl _ _ _) rfl ?_
    exact ⟨rfl, unhide R1, unhide G1⟩
/-- What the next token is, and whether there is one. -/
def nextB (ts : List Tk) (k : Nat) (bad : Bool) : Bool := !bad && decide (k < ts.length)
set_option maxHeartbeats 2000000 in
theorem nextS_no (rb : Nat) (la : Option Addr) (cap : Nat) (ts : List Tk) (k : Nat) (bad : Bool) (w : World) (hm : ts.length ≤ 1048576) (h : Rz w rb la cap ts k bad) (hn : nextB ts k bad = false) :
    Calls Tryz.prog 63 #[.pointer (some ⟨rb, 0, none⟩)] w fun r w' => r = .returned (.agg #[.int .i64 0, .int .i64 0, .string ⟨#[]⟩]) ∧ Rz w' rb la cap ts k true ∧ w.grownBy w' (some rb) := by
  have B0 := below_new w (.cells T0c 62)
  have R0 := hide (heap_alloc_new w (.cells T0c 62))
  have H1 := hide (h.start.later B0)
  have hlt := h.lt
  unfold T0c at R0 H1
  clear h B0
  go_enter Tryz.func63, Tryz.ntmps63
  go_wp2_with fail
  generalize w.alloc (Obj.cells #[.int .i64 0, .int .i64 0, .string ⟨#[]⟩] 62) = W at *
  obtain ⟨c0, c1, c2⟩ := (unhide H1).rz.cells
  have f2 := (unhide H1).rz.frz 2
  have hk := (unhide H1).rz.le
  have H2 := hide ((unhide H1).next (unhide H1).rz.setBad (grownBy_set _))
  have R2 := hide ((unhide H1).blk (grownBy_set (w := W) (b := rb) (o := 2) (.bool true)) (unhide R0) (Nat.le_refl _))
  have H3 := hide ((unhide H2).later below_drew)
  have R3 := hide (row_keep (unhide R2) below_drew)
  clear H1 H2 R0 R2
  cases bad
  case true =>
    go_region
    go_wp2_with (refine wpList_store_row rfl 62 _ _ rfl w.heap.size #[.int .i64 0, .int .i64 0, .string ⟨#[]⟩] rfl rfl 62 _ (unhide R3) szK rfl (tk_one _ _ _) ?_)
    refine bodyPost_ret (results_cell_row (P := Tryz.prog) rfl _ _ w.heap.size 62 #[.int .i64 0, .int .i64 0, .string ⟨#[]⟩] (0, 0) _ rfl (setRow_heap _ _ _ _ _ _ (unhide R3)) Tryz.underlying62 rfl szK) rfl ?_
    exact ⟨rfl, ((unhide H3).row _).rz, ((unhide H3).row _).gr⟩
  case false =>
    obtain rfl : k = ts.length := by
      unfold nextB at hn
      simp at hn
      omega
    go_region
    go_wp2_with (refine wpList_store_row rfl 62 _ _ rfl w.heap.size #[.int .i64 0, .int .i64 0, .string ⟨#[]⟩] rfl rfl 62 _ (unhide R3) szK rfl (tk_one _ _ _) ?_)
    refine bodyPost_ret (results_cell_row (P := Tryz.prog) rfl _ _ w.heap.size 62 #[.int .i64 0, .int .i64 0, .string ⟨#[]⟩] (0, 0) _ rfl (setRow_heap _ _ _ _ _ _ (unhide R3)) Tryz.underlying62 rfl szK) rfl ?_
    exact ⟨rfl, ((unhide H3).row _).rz, ((unhide H3).row _).gr⟩
set_option maxHeartbeats 4000000 in
theorem nextS_yes (rb : Nat) (la : Option Addr) (cap : Nat) (ts : List Tk) (k : Nat) (w : World) (hm : ts.length ≤ 1048576) (h : Rz w rb la cap ts k false) (hn : k < ts.length) :
    Calls Tryz.prog 63 #[.pointer (some ⟨rb, 0, none⟩)] w fun r w' => r = .returned (tAt ts k).v ∧ Rz w' rb la cap ts (k + 1) false ∧ w.grownBy w' (some rb) := by
  have B0 := below_new w (.cells T0c 62)
  have R0 := hide (heap_alloc_new w (.cells T0c 62))
  have H1 := hide (h.start.later B0)
  have hlt := h.lt
  unfold T0c at R0 H1
  clear h B0
  unfold Tk.v Tk.cs
  go_enter Tryz.func63, Tryz.ntmps63
  go_wp2_with fail
  generalize w.alloc (Obj.cells #[.int .i64 0, .int .i64 0, .string ⟨#[]⟩] 62) = W at *
  obtain ⟨c0, c1, c2⟩ := (unhide H1).rz.cells
  have f1 := (unhide H1).rz.frz 1
  have H2 := hide ((unhide H1).next ((unhide H1).rz.setAt (k + 1) (by omega) ((k : Int) + 1) (by omega)) (grownBy_set _))
  have R2 := hide ((unhide H1).blk (grownBy_set (w := W) (b := rb) (o := 1) (.int .i64 ((k : Int) + 1))) (unhide R0) (Nat.le_refl _))
  have H3 := hide ((unhide H2).later below_drew)
  have R3 := hide (row_keep (unhide R2) below_drew)
  obtain ⟨b, off, rfl, hne, _, _, _⟩ := (unhide H1).rz.tok hn
  have TT := hide (show ∀ i, i < ts.length → (W.setCell ⟨rb, 1, none⟩ (.int .i64 ((k : Int) + 1))).drew.cell? ⟨b, off + i * 3, none⟩ = some (.int .i64 (tAt ts i).k) ∧ (W.setCell ⟨rb, 1, none⟩ (.int .i64 ((k : Int) + 1))).drew.cell? ⟨b, off + i * 3 + 1, none⟩ = some (.int .i64 (tAt ts i).n) ∧ (W.setCell ⟨rb, 1, none⟩ (.int .i64 ((k : Int) + 1))).drew.cell? ⟨b, off + i * 3 + 2, none⟩ = some (.string (tAt ts i).s) by
    rcases (unhide H3).rz.toks with h0 | ⟨b', off', ha, hl, hc⟩
    · rw [h0] at hn; simp at hn
    · cases ha; exact hc)
  clear H1 H2 R0 R2
  go_region
  go_wp2
  generalize (W.setCell ⟨rb, 1, none⟩ (.int .i64 ((k : Int) + 1))).drew = V at *
  obtain ⟨t0, t1, t2⟩ := unhide TT k hn
  obtain ⟨d0, d1, d2⟩ := (unhide H3).rz.cells
  have hV := below_drew (w := V)
  have H4 := hide ((unhide H3).later hV)
  have R4 := hide (row_keep (unhide R3) hV)
  have q0 := Lib.cell_of_heap (unhide R3) 0
  have q1 := Lib.cell_of_heap (unhide R3) 1
  have q2 := Lib.cell_of_heap (unhide R3) 2
  have g0 := Lib.frozen_of_heap (unhide R3) 0
  have g1 := Lib.frozen_of_heap (unhide R3) 1
  have g2 := Lib.frozen_of_heap (unhide R3) 2
  clear hV c0 c1 c2 TT f1
  generalize e0 : (tAt ts k).k = tk at *
  generalize e1 : (tAt ts k).n = tn at *
  generalize e2 : (tAt ts k).s = tx at *
  have E := hide (And.intro e0 (And.intro e1 e2))
  clear e0 e1 e2
  generalize hn2 : ts.length = n at *
  have hi : (k : Int) < (n : Int) := by omega
  have hi2 : ¬ (n : Int) ≤ (k : Int) := by omega
  go_region
  go_wp2
  refine bodyPost_ret (results_cell_row (P := Tryz.prog) rfl _ _ w.heap.size 62 #[.int .i64 tk, .int .i64 tn, .string tx] (0, 0) _ rfl (row3_set (unhide R4) _ _ _) Tryz.underlying62 rfl szK) rfl ?_
  have H5 := ((((unhide H4).cell 0 (.int .i64 tk)).cell 1 (.int .i64 tn)).cell 2 (.string tx))
  obtain ⟨e0, e1, e2⟩ := unhide E
  exact ⟨by rw [e0, e1, e2], H5.rz, H5.gr⟩
end Go.Proofs.YthgbpofcfmnpdaaGreatDoor

namespace Go.Proofs.YthgbpofcfmnpdaaGreatDoor
open Go.ChangeShapes Go.WideShapes Go.ChangeAt Go.RowKit
set_option linter.unusedVariables false
set_option linter.unusedSimpArgs false

/-- What reading came to, against what it should come to. -/
def OutO (o : Option (Ex × List Tk)) (ts : List Tk) (bad : Bool) (e : Ex) (k' : Nat) (bad' : Bool) : Prop :=
  (bad = true → bad' = true) ∧ (bad = false → match o with | none => bad' = true | some (x, q) => bad' = false ∧ e = x ∧ q = ts.drop k')
def twoF (d : Nat) (r : List Tk) : Option (Ex × List Tk) :=
  match readF d r with
  | none => none
  | some (a, []) => none
  | some (a, t1 :: q1) =>
    match readF d q1 with
    | none => none
    | some (b, []) => none
    | some (b, t2 :: q2) => if eqS t2.s (mkS 62) = true then (match sgnK t1.s with | none => none | some k => some (⟨k, 0, E0, [a, b]⟩, q2)) else none
theorem OutO.bad {o : Option (Ex × List Tk)} {ts : List Tk} {bad : Bool} (e : Ex) (k' : Nat) (h : bad = false → o = none) : OutO o ts bad e k' true := ⟨fun _ => rfl, fun hb => by rw [h hb]⟩
theorem drop_head {ts : List Tk} {k : Nat} {t : Tk} {q : List Tk} (h : t :: q = ts.drop k) : k < ts.length ∧ tAt ts k = t ∧ q = ts.drop (k + 1) := by
  have hk : k < ts.length := by
    by_cases hk : k < ts.length
    · exact hk
    · rw [List.drop_eq_nil_of_le (by omega)] at h; cases h
  rw [List.drop_eq_getElem_cons hk] at h
  injection h with h1 h2
  refine ⟨hk, ?_, h2⟩
  unfold tAt
  rw [List.getD_eq_getElem?_getD, List.getElem?_eq_getElem hk, h1]
  rfl
theorem drop_nil {ts : List Tk} {k : Nat} (h : [] = ts.drop k) : ts.length ≤ k := List.drop_eq_nil_iff.1 h.symm
theorem drop_at {ts : List Tk} {k : Nat} (h : k < ts.length) : ts.drop k = tAt ts k :: ts.drop (k + 1) := by
  rw [List.drop_eq_getElem_cons h]
  unfold tAt
  rw [List.getD_eq_getElem?_getD, List.getElem?_eq_getElem h]
  rfl
theorem next_bad (ts : List Tk) (k : Nat) : nextB ts k true = false := rfl
theorem see_bad (ts : List Tk) (k : Nat) (s : ByteArray) : seeB ts k true s = false := rfl
theorem next_end {ts : List Tk} {k : Nat} (b : Bool) (h : ts.length ≤ k) : nextB ts k b = false := by
  unfold nextB
  rw [decide_eq_false (by omega), Bool.and_false]
theorem see_end {ts : List Tk} {k : Nat} (b : Bool) (s : ByteArray) (h : ts.length ≤ k) : seeB ts k b s = false := by
  unfold seeB
  rw [decide_eq_false (by omega), Bool.false_and, Bool.and_false]
theorem next_in {ts : List Tk} {k : Nat} (h : k < ts.length) : nextB ts k false = true := by
  unfold nextB
  rw [decide_eq_true h]
  rfl
theorem see_in {ts : List Tk} {k : Nat} (s : ByteArray) (h : k < ts.length) : seeB ts k false s = eqS (tAt ts k).s s := by
  unfold seeB
  rw [decide_eq_true h]
  rfl
/-- The text of the next token, or none. -/
def nextT (ts : List Tk) (k : Nat) (bad : Bool) : Tk := if nextB ts k bad = true then tAt ts k else ⟨0, 0, E0⟩
def nextK (ts : List Tk) (k : Nat) (bad : Bool) : Nat := if nextB ts k bad = true then k + 1 else k
theorem two_yes {d : Nat} {ts : List Tk} {k k1 k3 : Nat} {bad b1 b3 : Bool} {x y : Ex} (h1 : OutO (readF d (ts.drop k)) ts bad x k1 b1) (h3 : OutO (readF d (ts.drop (nextK ts k1 b1))) ts (!nextB ts k1 b1) y k3 b3) :
    (∀ kk, sgnK (nextT ts k1 b1).s = some kk → OutO (twoF d (ts.drop k)) ts bad ⟨kk, 0, E0, [x, y]⟩ (if seeB ts k3 b3 (mkS 62) = true then k3 + 1 else k3) (!seeB ts k3 b3 (mkS 62))) ∧ (sgnK (nextT ts k1 b1).s = none → ∀ e j, OutO (twoF d (ts.drop k)) ts bad e j true) := by
  cases bad with
  | true =>
    have e1 := h1.1 rfl
    subst e1
    have e3 : b3 = true := h3.1 rfl
    subst e3
    refine ⟨fun kk _ => ⟨fun _ => rfl, fun h => by cases h⟩, fun _ e j => ⟨fun _ => rfl, fun h => by cases h⟩⟩
  | false =>
    have r1 := h1.2 rfl
    cases hr : readF d (ts.drop k) with
    | none =>
      rw [hr] at r1
      simp only at r1
      subst r1
      have e3 : b3 = true := h3.1 rfl
      subst e3
      have ht : twoF d (ts.drop k) = none := by unfold twoF; rw [hr]
      exact ⟨fun kk _ => OutO.bad _ _ (fun _ => ht), fun _ e j => OutO.bad _ _ (fun _ => ht)⟩
    | some p =>
      obtain ⟨a, q⟩ := p
      rw [hr] at r1
      obtain ⟨rfl, rfl, hq⟩ := r1
      cases q with
      | nil =>
        have hl := drop_nil hq
        have ht : twoF d (ts.drop k) = none := by unfold twoF; rw [hr]
        rw [next_end _ hl] at h3
        have e3 : b3 = true := h3.1 rfl
        subst e3
        exact ⟨fun kk _ => OutO.bad _ _ (fun _ => ht), fun _ e j => OutO.bad _ _ (fun _ => ht)⟩
      | cons t1 q1 =>
        obtain ⟨hk, ht1, hq1⟩ := drop_head hq
        subst ht1 hq1
        unfold nextK at h3
        unfold nextT
        rw [next_in hk, if_pos rfl] at h3
        rw [next_in hk, if_pos rfl]
        have r3 := h3.2 rfl
        cases hr3 : readF d (ts.drop (k1 + 1)) with
        | none =>
          rw [hr3] at r3
          simp only at r3
          subst r3
          have ht : twoF d (ts.drop k) = none := by unfold twoF; rw [hr]; simp only [hr3]
          exact ⟨fun kk _ => OutO.bad _ _ (fun _ => ht), fun _ e j => OutO.bad _ _ (fun _ => ht)⟩
        | some p3 =>
          obtain ⟨b, q3⟩ := p3
          rw [hr3] at r3
          obtain ⟨rfl, rfl, hq3⟩ := r3
          cases q3 with
          | nil =>
            have hl := drop_nil hq3
            have ht : twoF d (ts.drop k) = none := by unfold twoF; rw [hr]; simp only [hr3]
            rw [see_end _ _ hl]
            exact ⟨fun kk _ => OutO.bad _ _ (fun _ => ht), fun _ e j => OutO.bad _ _ (fun _ => ht)⟩
          | cons t2 q2 =>
            obtain ⟨hk3, ht2, hq2⟩ := drop_head hq3
            subst ht2 hq2
            have ht : twoF d (ts.drop k) = if eqS (tAt ts k3).s (mkS 62) = true then (match sgnK (tAt ts k1).s with | none => none | some k => some (⟨k, 0, E0, [x, y]⟩, ts.drop (k3 + 1))) else none := by unfold twoF; rw [hr]; simp only [hr3]
            rw [see_in _ hk3, ht]
            cases hs : eqS (tAt ts k3).s (mkS 62) with
            | false => exact ⟨fun kk _ => OutO.bad _ _ (fun _ => by simp), fun _ e j => OutO.bad _ _ (fun _ => by simp)⟩
            | true =>
              refine ⟨fun kk hkk => ⟨fun h => (by cases h), fun _ => ?_⟩, fun hn e j => OutO.bad _ _ (fun _ => by rw [hn]; simp)⟩
              rw [hkk]
              exact ⟨rfl, rfl, rfl⟩
end Go.Proofs.YthgbpofcfmnpdaaGreatDoor
