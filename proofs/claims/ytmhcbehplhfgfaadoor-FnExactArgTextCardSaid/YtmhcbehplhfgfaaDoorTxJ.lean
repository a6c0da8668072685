/- Contracts over this seat's translation, laid together; conditions stand as hypotheses of each. -/
import Derived.Test.YtmhcbehplhfgfaaDoorTxI
import Derived.LoopN

namespace Go.Proofs.YtmhcbehplhfgfaaDoor
open Go.ChangeShapes Go.WideShapes Go.ChangeAt Go.RowKit
set_option linter.unusedVariables false
set_option maxRecDepth 8000
set_option linter.unusedSimpArgs false

/-- Rows of another type than the tokens' stay. -/
def KpT (w w' : World) : Prop := ∀ (g : Nat) (cs : Array Value) (t : TypeId) (fr : Nat × Nat), w.heap[g]? = some (.cells cs t fr) → t ≠ 91 → w'.heap[g]? = some (.cells cs t fr)
theorem KpT.refl (w : World) : KpT w w := fun _ _ _ _ h _ => h
theorem KpT.trans {a b c : World} (h : KpT a b) (k : KpT b c) : KpT a c := fun g cs t fr h1 h2 => k g cs t fr (h g cs t fr h1 h2) h2
theorem KpT.of {w w' : World} (hb : Below w.heap.size w w') : KpT w w' := fun g cs t fr h _ => (hb.block g (Array.getElem?_eq_some_iff.1 h).1).trans h
theorem KpT.own {w w' : World} {B : Nat} {v : Value} {ts : List Tk} (ho : OwnT w B v ts) (hg : w.grownBy w' v.ownBlock) : KpT w w' := fun g cs t fr h ht => by
  refine (hg.block g (Array.getElem?_eq_some_iff.1 h).1 (fun e => ?_)).trans h
  obtain ⟨_, ⟨rfl, _⟩ | ⟨g', cap, cur, rfl, _, hh, _⟩⟩ := ho
  · simp [Value.ownBlock] at e
  · simp [Value.ownBlock] at e
    subst e
    rw [hh] at h
    cases h
    exact ht rfl
/-- The marks of those of two, as the program has them. -/
def sgnL : List ByteArray := [E0, E0, E0, E0, E0, mkS 43, mkS 45, mkS 42, mkS 47, mkS 38, mkS 124]
def sgA : Array Value := (sgnL.map Value.string).toArray
def TabG (w : World) : Prop := ∃ t fr, w.heap[2]? = some (.cells sgA t fr)
theorem TabG.lt {w : World} (h : TabG w) : 2 < w.heap.size := by obtain ⟨t, fr, h⟩ := h; exact (Array.getElem?_eq_some_iff.1 h).1
theorem TabG.later {w w' : World} {B : Nat} (h : TabG w) (hb : Below B w w') (hB : 2 < B) : TabG w' := by
  obtain ⟨t, fr, h⟩ := h
  exact ⟨t, fr, (hb.block _ hB).trans h⟩
def PutP (d : Nat) : Prop := ∀ (e : Ex) (ts : List Tk) (v : Value) (B : Nat) (w : World), okF d true e = true → OwnT w B v ts → B ≤ w.heap.size → ts.length + mxT d ≤ 500 → TabG w → 2 < B → Calls Tryd.prog 60 #[v, tv e] w fun r w' => ∃ v', r = .returned v' ∧ OwnT w' B v' (ts ++ toksF d e) ∧ Below B w w' ∧ KpT w w'
set_option maxHeartbeats 4000000 in
theorem put_num (n : Int) (ts : List Tk) (v : Value) (B : Nat) (w : World) (ho : OwnT w B v ts) (hB : B ≤ w.heap.size) (hl : ts.length ≤ 498) : Calls Tryd.prog 60 #[v, .iface 123 (.agg #[.int .i64 n])] w fun r w' => ∃ v', r = .returned v' ∧ OwnT w' B v' (ts ++ [⟨2, n, ⟨#[]⟩⟩]) ∧ Below B w w' ∧ KpT w w' := by
  obtain ⟨i0, hi, hz0, hz1, hz2⟩ := info_parts infoT
  have hbx := below_new w (.cells #[.int .i64 n] 123)
  have D1 := hide (hbx.mono hB)
  have P1 := hide (KpT.of hbx)
  have O1 := hide (ho.later hbx)
  have W1 := hide (show (w.alloc (.cells #[.int .i64 n] 123)).heap.size = w.heap.size + 1 by simp)
  clear hbx
  have tt := taY_num (.agg #[.int .i64 n])
  generalize hw1 : w.alloc (.cells #[.int .i64 n] 123) = w1 at *
  have hg1 : w1.heap[w.heap.size]? = some (.cells #[.int .i64 n] 123 (0, 0)) := by rw [← hw1]; exact Array.getElem?_push_size
  have c0 := Lib.cell_of_heap hg1 0
  clear ho hg1
  go_enter Tryd.func60, Tryd.ntmps60
  go_wp2_with (at_builtin; go_must (refine wpList_append_own _ rfl (.tmp 16) (.tmp 20) 70 rfl B 91 i0 (.agg #[.int .i64 0, .int .i64 0, .string ⟨#[]⟩]) 3 32 Tryd.underlying70 hi hz0 hz1 hz2 rfl (by decide) v (ts).length (cellsT (ts)) rfl (World.ownsRow.alloc (unhide O1) _) ⟨w1.heap.size, 0, none⟩ 1 1 [.int .i64 2, .int .i64 n, .string ⟨#[]⟩] rfl rfl (cell_new w1 #[.int .i64 2, .int .i64 n, .string ⟨#[]⟩] 91) (newT_one _ _ _) (by unfold maxLen; (try simp only [List.length_append, List.length_cons, List.length_nil]); omega) (by (try simp only [List.length_append, List.length_cons, List.length_nil]); omega) (by have := (unhide D1).size; simp; omega) ?_; intro v5 w5 hown5 hgrow5 _; have O5 := hide (ownT_app (t := ⟨2, n, ⟨#[]⟩⟩) hown5); have D5 := hide (((unhide D1).alloc (Nat.le_trans hB (unhide D1).size) (.cells #[.int .i64 2, .int .i64 n, .string ⟨#[]⟩] 91)).grown hgrow5 (by have := (unhide D1).size; simp; omega) (fun g hg => ((unhide O1).lt hg).1)); have P5 := hide ((KpT.of (below_new w1 (.cells #[.int .i64 2, .int .i64 n, .string ⟨#[]⟩] 91))).trans (KpT.own (B := B) (ts := ts) (World.ownsRow.alloc (unhide O1) _) hgrow5)); clear hown5 hgrow5))
  go_ret
  exact ⟨_, rfl, unhide O5, unhide D5, (unhide P1).trans (unhide P5)⟩
set_option maxHeartbeats 4000000 in
theorem put_sym (s : ByteArray) (ts : List Tk) (v : Value) (B : Nat) (w : World) (ho : OwnT w B v ts) (hB : B ≤ w.heap.size) (hl : ts.length ≤ 498) : Calls Tryd.prog 60 #[v, .iface 125 (.agg #[.string s])] w fun r w' => ∃ v', r = .returned v' ∧ OwnT w' B v' (ts ++ [⟨1, 0, s⟩]) ∧ Below B w w' ∧ KpT w w' := by
  obtain ⟨i0, hi, hz0, hz1, hz2⟩ := info_parts infoT
  have hbx := below_new w (.cells #[.string s] 125)
  have D1 := hide (hbx.mono hB)
  have P1 := hide (KpT.of hbx)
  have O1 := hide (ho.later hbx)
  have W1 := hide (show (w.alloc (.cells #[.string s] 125)).heap.size = w.heap.size + 1 by simp)
  clear hbx
  have t0 := taN_num 125 (.agg #[.string s]) (by decide)
  have tt := taY_sym (.agg #[.string s])
  generalize hw1 : w.alloc (.cells #[.string s] 125) = w1 at *
  have hg1 : w1.heap[w.heap.size]? = some (.cells #[.string s] 125 (0, 0)) := by rw [← hw1]; exact Array.getElem?_push_size
  have c0 := Lib.cell_of_heap hg1 0
  clear ho hg1
  go_enter Tryd.func60, Tryd.ntmps60
  go_wp2_with (at_builtin; go_must (refine wpList_append_own _ rfl (.tmp 25) (.tmp 29) 70 rfl B 91 i0 (.agg #[.int .i64 0, .int .i64 0, .string ⟨#[]⟩]) 3 32 Tryd.underlying70 hi hz0 hz1 hz2 rfl (by decide) v (ts).length (cellsT (ts)) rfl (World.ownsRow.alloc (unhide O1) _) ⟨w1.heap.size, 0, none⟩ 1 1 [.int .i64 1, .int .i64 0, .string s] rfl rfl (cell_new w1 #[.int .i64 1, .int .i64 0, .string s] 91) (newT_one _ _ _) (by unfold maxLen; (try simp only [List.length_append, List.length_cons, List.length_nil]); omega) (by (try simp only [List.length_append, List.length_cons, List.length_nil]); omega) (by have := (unhide D1).size; simp; omega) ?_; intro v5 w5 hown5 hgrow5 _; have O5 := hide (ownT_app (t := ⟨1, 0, s⟩) hown5); have D5 := hide (((unhide D1).alloc (Nat.le_trans hB (unhide D1).size) (.cells #[.int .i64 1, .int .i64 0, .string s] 91)).grown hgrow5 (by have := (unhide D1).size; simp; omega) (fun g hg => ((unhide O1).lt hg).1)); have P5 := hide ((KpT.of (below_new w1 (.cells #[.int .i64 1, .int .i64 0, .string s] 91))).trans (KpT.own (B := B) (ts := ts) (World.ownsRow.alloc (unhide O1) _) hgrow5)); clear hown5 hgrow5))
  go_ret
  exact ⟨_, rfl, unhide O5, unhide D5, (unhide P1).trans (unhide P5)⟩
set_option maxHeartbeats 4000000 in
theorem put_here (ts : List Tk) (v : Value) (B : Nat) (w : World) (ho : OwnT w B v ts) (hB : B ≤ w.heap.size) (hl : ts.length ≤ 498) : Calls Tryd.prog 60 #[v, .iface 127 (.agg #[])] w fun r w' => ∃ v', r = .returned v' ∧ OwnT w' B v' (ts ++ [⟨4, 0, ⟨#[46]⟩⟩]) ∧ Below B w w' ∧ KpT w w' := by
  obtain ⟨i0, hi, hz0, hz1, hz2⟩ := info_parts infoT
  have hbx := below_new w (.cells #[] 127)
  have D1 := hide (hbx.mono hB)
  have P1 := hide (KpT.of hbx)
  have O1 := hide (ho.later hbx)
  have W1 := hide (show (w.alloc (.cells #[] 127)).heap.size = w.heap.size + 1 by simp)
  clear hbx
  have t0 := taN_num 127 (.agg #[]) (by decide)
  have t1 := taN_sym 127 (.agg #[]) (by decide)
  have tt := taY_here (.agg #[])
  generalize hw1 : w.alloc (.cells #[] 127) = w1 at *
  clear ho W1
  go_enter Tryd.func60, Tryd.ntmps60
  go_wp2_with fail
  refine (markI_any ⟨#[46]⟩ w1).mono ?_
  rintro r w2 ⟨rfl, hb2⟩
  have O2 := hide ((unhide O1).later hb2)
  have D2 := hide ((unhide D1).trans (hb2.mono (Nat.le_trans hB (unhide D1).size)))
  have P2 := hide ((unhide P1).trans (KpT.of hb2))
  clear hb2 O1 D1 P1
  unfold Tk.v Tk.cs
  go_wp2_with (at_builtin; go_must (refine wpList_append_own _ rfl (.tmp 34) (.tmp 36) 70 rfl B 91 i0 (.agg #[.int .i64 0, .int .i64 0, .string ⟨#[]⟩]) 3 32 Tryd.underlying70 hi hz0 hz1 hz2 rfl (by decide) v (ts).length (cellsT (ts)) rfl (World.ownsRow.alloc (unhide O2) _) ⟨w2.heap.size, 0, none⟩ 1 1 [.int .i64 4, .int .i64 0, .string ⟨#[46]⟩] rfl rfl (cell_new w2 #[.int .i64 4, .int .i64 0, .string ⟨#[46]⟩] 91) (newT_one _ _ _) (by unfold maxLen; (try simp only [List.length_append, List.length_cons, List.length_nil]); omega) (by (try simp only [List.length_append, List.length_cons, List.length_nil]); omega) (by have := (unhide D2).size; simp; omega) ?_; intro v5 w5 hown5 hgrow5 _; have O5 := hide (ownT_app (t := ⟨4, 0, ⟨#[46]⟩⟩) hown5); have D5 := hide (((unhide D2).alloc (Nat.le_trans hB (unhide D2).size) (.cells #[.int .i64 4, .int .i64 0, .string ⟨#[46]⟩] 91)).grown hgrow5 (by have := (unhide D2).size; simp; omega) (fun g hg => ((unhide O2).lt hg).1)); have P5 := hide ((KpT.of (below_new w2 (.cells #[.int .i64 4, .int .i64 0, .string ⟨#[46]⟩] 91))).trans (KpT.own (B := B) (ts := ts) (World.ownsRow.alloc (unhide O2) _) hgrow5)); clear hown5 hgrow5))
  go_ret
  exact ⟨_, rfl, unhide O5, unhide D5, (unhide P2).trans (unhide P5)⟩
set_option maxHeartbeats 8000000 in
theorem put_neg (t : TypeId) (x : Value) (B L : Nat) (hL : L ≤ 498) (us : List Tk) (h1 : ∀ (ts : List Tk) (v : Value) (w : World), OwnT w B v ts → B ≤ w.heap.size → ts.length ≤ (L + 1) → TabG w → Calls Tryd.prog 60 #[v, .iface t x] w fun r w' => ∃ v', r = .returned v' ∧ OwnT w' B v' (ts ++ us) ∧ Below B w w' ∧ KpT w w') (ts : List Tk) (v : Value) (w : World) (ho : OwnT w B v ts) (hB : B ≤ w.heap.size) (hl : ts.length ≤ L) (hT : TabG w) (hs : 2 < B) : Calls Tryd.prog 60 #[v, .iface 129 (.agg #[.iface t x])] w fun r w' => ∃ v', r = .returned v' ∧ OwnT w' B v' ((ts ++ [⟨4, 0, ⟨#[45]⟩⟩]) ++ us) ∧ Below B w w' ∧ KpT w w' := by
  obtain ⟨i0, hi, hz0, hz1, hz2⟩ := info_parts infoT
  have hbx := below_new w (.cells #[.iface t x] 129)
  have D1 := hide (hbx.mono hB)
  have P1 := hide (KpT.of hbx)
  have O1 := hide (ho.later hbx)
  have W1 := hide (show (w.alloc (.cells #[.iface t x] 129)).heap.size = w.heap.size + 1 by simp)
  clear hbx
  have t0 := taN_num 129 (.agg #[.iface t x]) (by decide)
  have t1 := taN_sym 129 (.agg #[.iface t x]) (by decide)
  have t2 := taN_here 129 (.agg #[.iface t x]) (by decide)
  have tt := taY_neg (.agg #[.iface t x])
  generalize hw1 : w.alloc (.cells #[.iface t x] 129) = w1 at *
  have hg1 : w1.heap[w.heap.size]? = some (.cells #[.iface t x] 129 (0, 0)) := by rw [← hw1]; exact Array.getElem?_push_size
  have HG := hide hg1
  have HT := hide hT
  have H1 := hide h1
  clear ho W1 hg1 hT h1
  go_enter Tryd.func60, Tryd.ntmps60
  go_wp2_with fail
  have D0 := hide (show w1.drew.heap[w.heap.size]? = some (.cells #[.iface t x] 129 (0, 0)) from unhide HG)
  have O2 := hide ((unhide O1).later (below_drew (w := w1)))
  have D2 := hide ((unhide D1).trans ((below_drew (w := w1)).mono (Nat.le_trans hB (unhide D1).size)))
  have P2 := hide ((unhide P1).trans (KpT.of (below_drew (w := w1))))
  refine wp_region_held_drew (S := fun w' => w'.heap[w.heap.size]? = some (.cells #[.iface t x] 129 (0, 0))) (by kernel_rfl) (unhide D0) (fun hS => ?_)
  have HS := hide hS
  clear hS O1 D1 P1 HG D0
  refine wpAnyH_take (i := 0) (v := v) rfl (by kernel_rfl) (by kernel_rfl) (by kernel_rfl) (fun _ _ _ h => h) (Or.inl ⟨by rfl, fun w hc => ?_⟩) (unhide HS) ?_
  · clear hc; go_simp
  go_simp
  refine wpAnyH_take (i := 4) (v := .pointer (some ⟨w.heap.size, 0, none⟩)) rfl (by kernel_rfl) (by kernel_rfl) (by kernel_rfl) (fun _ _ _ h => h) (Or.inl ⟨by rfl, fun w hc => ?_⟩) (unhide HS) ?_
  · clear hc; go_simp
  go_simp
  refine wpAnyH_take (i := 5) (v := .iface t x) rfl (by kernel_rfl) (by kernel_rfl) (by kernel_rfl) (fun _ _ _ h => h) (Or.inl ⟨by rfl, fun w hc => ?_⟩) (unhide HS) ?_
  · have q := Lib.cell_of_heap hc 0; clear hc; go_simp
  go_simp
  refine wpAnyH_ready (rs := [1]) (by kernel_rfl) (by simp) ?_
  refine AllReadyH.cons rfl (fun K2 hK => ?_) AllReadyH.nil
  go_simp
  refine (markI_any ⟨#[45]⟩ _).mono ?_
  rintro r w3 ⟨rfl, hb3⟩
  unfold Tk.v Tk.cs
  have O3 := hide ((unhide O2).later hb3)
  have D3 := hide ((unhide D2).trans (hb3.mono (Nat.le_trans hB (unhide D2).size)))
  have P3 := hide ((unhide P2).trans (KpT.of hb3))
  have S3 := hide (KpT.of hb3 _ _ _ _ (unhide HS) (by decide))
  refine hK.out _ _ (unhide S3) (fun hS => ?_)
  clear HS
  have HS := hide hS
  clear hS hK K2
  clear hb3 O2 D2 P2
  refine wpAnyH_ready (rs := [2]) (by kernel_rfl) (by simp) ?_
  refine AllReadyH.cons rfl (fun K2 hK => ?_) AllReadyH.nil
  go_simp
  have hb4 := below_new w3 (.cells #[.int .i64 4, .int .i64 0, .string ⟨#[45]⟩] 91)
  have O4 := hide ((unhide O3).later hb4)
  have D4 := hide ((unhide D3).trans (hb4.mono (Nat.le_trans hB (unhide D3).size)))
  have P4 := hide ((unhide P3).trans (KpT.of hb4))
  have S4 := hide (KpT.of hb4 _ _ _ _ (unhide S3) (by decide))
  have C4 := hide (cell_new w3 #[.int .i64 4, .int .i64 0, .string ⟨#[45]⟩] 91)
  clear hb4 O3 D3 P3 S3
  generalize w3.heap.size = g4 at *
  generalize w3.alloc (.cells #[.int .i64 4, .int .i64 0, .string ⟨#[45]⟩] 91) = w4 at *
  refine hK.out _ _ (unhide S4) (fun hS => ?_)
  clear HS
  have HS := hide hS
  clear hS hK K2
  refine wpAnyH_ready (rs := [3]) (by kernel_rfl) (by simp) ?_
  refine AllReadyH.cons rfl (fun K2 hK => ?_) AllReadyH.nil
  rw [if_pos (by rfl)]
  refine wp_append_own _ (.tmp 41) (.tmp 43) 70 rfl B 91 i0 (.agg #[.int .i64 0, .int .i64 0, .string ⟨#[]⟩]) 3 32 Tryd.underlying70 hi hz0 hz1 hz2 rfl (by decide) v ts.length (cellsT ts) rfl (unhide O4) ⟨g4, 0, none⟩ 1 1 [.int .i64 4, .int .i64 0, .string ⟨#[45]⟩] rfl rfl (unhide C4) (newT_one _ _ _) (by unfold maxLen; omega) (by omega) (Nat.le_trans hB (unhide D4).size) ?_
  intro v5 w5 hown5 hgrow5 _
  have O5 := hide (ownT_app (t := ⟨4, 0, ⟨#[45]⟩⟩) hown5)
  have D5 := hide ((unhide D4).grown hgrow5 (Nat.le_trans hB (unhide D4).size) (fun g hg => ((unhide O4).lt hg).1))
  have P5 := hide ((unhide P4).trans (KpT.own (unhide O4) hgrow5))
  have S5 := hide (KpT.own (unhide O4) hgrow5 _ _ _ _ (unhide S4) (by decide))
  refine hK.out _ _ (unhide S5) (fun hS => ?_)
  clear HS
  have HS := hide hS
  clear hS hK K2
  clear hown5 hgrow5 O4 D4 P4 S4 C4
  refine wpAnyH_ready (rs := [6]) (by kernel_rfl) (by simp) ?_
  refine AllReadyH.cons rfl (fun K2 hK => ?_) AllReadyH.nil
  go_simp
  refine (unhide H1 (ts ++ [⟨4, 0, ⟨#[45]⟩⟩]) v5 w5 (unhide O5) (Nat.le_trans hB (unhide D5).size) (by simp only [List.length_append, List.length_cons, List.length_nil]; omega) ((unhide HT).later (unhide D5) hs)).mono ?_
  rintro r w6 ⟨v6, rfl, o6, hb6, hp6⟩
  refine hK.out _ _ (hp6 _ _ _ _ (unhide S5) (by decide)) (fun hS => ?_)
  clear HS
  have HS := hide hS
  clear hS hK K2
  refine wpAnyH_take (i := 7) (v := v6) rfl (by kernel_rfl) (by kernel_rfl) (by kernel_rfl) (fun _ _ _ h => h) (Or.inl ⟨by rfl, fun w hc => ?_⟩) (unhide HS) ?_
  · clear hc; go_simp
  go_simp
  refine wpAnyH_done (by kernel_rfl) ?_ _
  have O6 := hide o6
  have D6 := hide ((unhide D5).trans hb6)
  have P6 := hide ((unhide P5).trans hp6)
  clear o6 hb6 hp6 O5 D5 P5 S5 HS
  go_wp2
  go_ret
  exact ⟨_, rfl, unhide O6, unhide D6, unhide P6⟩
set_option maxHeartbeats 8000000 in
theorem put_add (t u : TypeId) (x y : Value) (B L M : Nat) (us : List Tk) (h1 : ∀ (ts : List Tk) (v : Value) (w : World), OwnT w B v ts → B ≤ w.heap.size → ts.length ≤ (L + 1) → TabG w → Calls Tryd.prog 60 #[v, .iface t x] w fun r w' => ∃ v', r = .returned v' ∧ OwnT w' B v' (ts ++ us) ∧ Below B w w' ∧ KpT w w') (hus : us.length ≤ M) (us2 : List Tk) (h2 : ∀ (ts : List Tk) (v : Value) (w : World), OwnT w B v ts → B ≤ w.heap.size → ts.length ≤ (L + M + 2) → TabG w → Calls Tryd.prog 60 #[v, .iface u y] w fun r w' => ∃ v', r = .returned v' ∧ OwnT w' B v' (ts ++ us2) ∧ Below B w w' ∧ KpT w w') (hus2 : us2.length ≤ M) (hLM : L + 2 * M + 3 ≤ 500) (ts : List Tk) (v : Value) (w : World) (ho : OwnT w B v ts) (hB : B ≤ w.heap.size) (hl : ts.length ≤ L) (hT : TabG w) (hs : 2 < B) : Calls Tryd.prog 60 #[v, .iface 138 (.agg #[.iface t x, .iface u y])] w fun r w' => ∃ v', r = .returned v' ∧ OwnT w' B v' ((((ts ++ [⟨4, 0, ⟨#[60]⟩⟩]) ++ us) ++ [⟨4, 0, ⟨#[43]⟩⟩]) ++ us2 ++ [⟨4, 0, ⟨#[62]⟩⟩]) ∧ Below B w w' ∧ KpT w w' := by
  obtain ⟨i0, hi, hz0, hz1, hz2⟩ := info_parts infoT
  have t0 := taN_num 138 (.agg #[.iface t x, .iface u y]) (by decide)
  have t1 := taN_sym 138 (.agg #[.iface t x, .iface u y]) (by decide)
  have t2 := taN_here 138 (.agg #[.iface t x, .iface u y]) (by decide)
  have t3 := taN_neg 138 (.agg #[.iface t x, .iface u y]) (by decide)
  have m := me_add (.iface t x) (.iface u y)
  have PT := hide (parts2 t u x y w)
  have KD := hide (fun w => kind_add 0 E0 t u x y w)
  have SG := hide (fun w1 (h : TabG w1) => (show w1.cell? ⟨2, 5, none⟩ = some (.string ⟨#[43]⟩) by obtain ⟨t, fr, h⟩ := h; exact Lib.cell_of_heap h 5))
  have HT := hide hT
  have H1 := hide h1
  have H2 := hide h2
  have O0 := hide ho
  obtain ⟨RS, hRS⟩ : ∃ RS, (((ts ++ [Tk.mk 4 0 ⟨#[60]⟩]) ++ us) ++ [Tk.mk 4 0 ⟨#[43]⟩]) ++ us2 ++ [Tk.mk 4 0 ⟨#[62]⟩] = RS := ⟨_, rfl⟩
  rw [hRS]
  have E1 := hide (fun ts1 (h : (ts ++ [Tk.mk 4 0 ⟨#[60]⟩]) ++ us = ts1) ts2 (h2 : (ts1 ++ [Tk.mk 4 0 ⟨#[43]⟩]) ++ us2 = ts2) => (show ts2 ++ [Tk.mk 4 0 ⟨#[62]⟩] = RS by rw [← hRS, h, h2]))
  clear hT h1 h2 ho hRS
  go_enter Tryd.func60, Tryd.ntmps60
  go_wp2_with fail
  refine (unhide PT).mono ?_
  rintro r w1 ⟨gp, rfl, hgp, hb1⟩
  have O1 := hide ((unhide O0).later hb1)
  have D1 := hide (hb1.mono hB)
  have P1 := hide (KpT.of hb1)
  have G1 := hide hgp
  have c0 := Lib.cell_of_heap hgp 0
  clear hb1 hgp O0 PT
  go_wp2
  refine wp_loop_rounds 3 ?_
  rw [rounds_succ]
  go_wp2_with fail
  refine (markI_any ⟨#[60]⟩ w1).mono ?_
  rintro r w2 ⟨rfl, hb2⟩
  have O2 := hide ((unhide O1).later hb2)
  have D2 := hide ((unhide D1).trans (hb2.mono (Nat.le_trans hB (unhide D1).size)))
  have P2 := hide ((unhide P1).trans (KpT.of hb2))
  have G2 := hide (KpT.of hb2 _ _ _ _ (unhide G1) (by decide))
  clear hb2 O1 D1 P1 G1 c0
  unfold Tk.v Tk.cs
  go_wp2_with (first | (at_builtin; go_must (refine wpList_append_own _ rfl (.tmp 62) (.tmp 65) 70 rfl B 91 i0 (.agg #[.int .i64 0, .int .i64 0, .string ⟨#[]⟩]) 3 32 Tryd.underlying70 hi hz0 hz1 hz2 rfl (by decide) v (ts).length (cellsT (ts)) rfl (World.ownsRow.alloc (unhide O2) _) ⟨w2.heap.size, 0, none⟩ 1 1 [.int .i64 4, .int .i64 0, .string ⟨#[60]⟩] rfl rfl (cell_new w2 #[.int .i64 4, .int .i64 0, .string ⟨#[60]⟩] 91) (newT_one _ _ _) (by unfold maxLen; (try simp only [List.length_append, List.length_cons, List.length_nil]); omega) (by (try simp only [List.length_append, List.length_cons, List.length_nil]); omega) (by have := (unhide D2).size; simp; omega) ?_; intro v3 w3 hown3 hgrow3 _; have O3 := hide (ownT_app (t := ⟨4, 0, ⟨#[60]⟩⟩) hown3); have D3 := hide (((unhide D2).alloc (Nat.le_trans hB (unhide D2).size) (.cells #[.int .i64 4, .int .i64 0, .string ⟨#[60]⟩] 91)).grown hgrow3 (by have := (unhide D2).size; simp; omega) (fun g hg => ((unhide O2).lt hg).1)); have P3 := hide ((KpT.of (below_new w2 (.cells #[.int .i64 4, .int .i64 0, .string ⟨#[60]⟩] 91))).trans (KpT.own (B := B) (ts := ts) (World.ownsRow.alloc (unhide O2) _) hgrow3)); clear hown3 hgrow3; have Q3 := hide ((unhide P2).trans (unhide P3)); have G3 := hide (unhide P3 _ _ _ _ (unhide G2) (by decide)); have A3 := hide (unhide H1 (ts ++ [⟨4, 0, ⟨#[60]⟩⟩]) v3 w3 (unhide O3) (Nat.le_trans hB (unhide D3).size) (by simp only [List.length_append, List.length_cons, List.length_nil]; omega) ((unhide HT).later (unhide D3) hs)))) | (go_at_call 60; refine (unhide A3).mono ?_; rintro r w4 ⟨v4, rfl, o4, hb4, hp4⟩))
  have O4 := hide o4
  have D4 := hide ((unhide D3).trans hb4)
  have P4 := hide ((unhide Q3).trans hp4)
  have G4 := hide (hp4 _ _ _ _ (unhide G3) (by decide))
  have T4 := unhide SG w4 ((unhide HT).later (unhide D4) hs)
  have c1 := Lib.cell_of_heap (unhide G4) 1
  clear o4 hb4 hp4 O3 D3 P3 Q3 G3 A3 O2 D2 P2 G2
  have l4 : ((ts ++ [Tk.mk 4 0 ⟨#[60]⟩]) ++ us).length = ts.length + 1 + us.length := by simp only [List.length_append, List.length_cons, List.length_nil]
  generalize hts1 : (ts ++ [Tk.mk 4 0 ⟨#[60]⟩]) ++ us = ts1 at *
  have E2 := hide (unhide E1 ts1 (by first | rfl | exact hts1))
  clear E1 hts1
  rw [rounds_succ]
  go_wp2_with (first | (go_at_call 71; refine (unhide KD _).mono ?_; rintro r w' ⟨rfl, hw'⟩; rw [hw']; clear hw' w') | (go_at_call 61; refine (markI_any ⟨#[43]⟩ w4).mono ?_; rintro r w5 ⟨rfl, hb5⟩; have O5 := hide ((unhide O4).later hb5); have D5 := hide ((unhide D4).trans (hb5.mono (Nat.le_trans hB (unhide D4).size))); have P5 := hide ((unhide P4).trans (KpT.of hb5)); have G5 := hide (KpT.of hb5 _ _ _ _ (unhide G4) (by decide)); clear hb5; unfold Tk.v Tk.cs) | (at_builtin; go_must (refine wpList_append_own _ rfl (.tmp 62) (.tmp 65) 70 rfl B 91 i0 (.agg #[.int .i64 0, .int .i64 0, .string ⟨#[]⟩]) 3 32 Tryd.underlying70 hi hz0 hz1 hz2 rfl (by decide) v4 (ts1).length (cellsT (ts1)) rfl (World.ownsRow.alloc (unhide O5) _) ⟨w5.heap.size, 0, none⟩ 1 1 [.int .i64 4, .int .i64 0, .string ⟨#[43]⟩] rfl rfl (cell_new w5 #[.int .i64 4, .int .i64 0, .string ⟨#[43]⟩] 91) (newT_one _ _ _) (by unfold maxLen; (try simp only [List.length_append, List.length_cons, List.length_nil]); omega) (by (try simp only [List.length_append, List.length_cons, List.length_nil]); omega) (by have := (unhide D5).size; simp; omega) ?_; intro v6 w6 hown6 hgrow6 _; have O6 := hide (ownT_app (t := ⟨4, 0, ⟨#[43]⟩⟩) hown6); have D6 := hide (((unhide D5).alloc (Nat.le_trans hB (unhide D5).size) (.cells #[.int .i64 4, .int .i64 0, .string ⟨#[43]⟩] 91)).grown hgrow6 (by have := (unhide D5).size; simp; omega) (fun g hg => ((unhide O5).lt hg).1)); have P6 := hide ((KpT.of (below_new w5 (.cells #[.int .i64 4, .int .i64 0, .string ⟨#[43]⟩] 91))).trans (KpT.own (B := B) (ts := ts1) (World.ownsRow.alloc (unhide O5) _) hgrow6)); clear hown6 hgrow6; have Q6 := hide ((unhide P5).trans (unhide P6)); have G6 := hide (unhide P6 _ _ _ _ (unhide G5) (by decide)); have A6 := hide (unhide H2 (ts1 ++ [⟨4, 0, ⟨#[43]⟩⟩]) v6 w6 (unhide O6) (Nat.le_trans hB (unhide D6).size) (by simp only [List.length_append, List.length_cons, List.length_nil]; omega) ((unhide HT).later (unhide D6) hs)))) | (go_at_call 60; refine (unhide A6).mono ?_; rintro r w7 ⟨v7, rfl, o7, hb7, hp7⟩))
  have O7 := hide o7
  have D7 := hide ((unhide D6).trans hb7)
  have P7 := hide ((unhide Q6).trans hp7)
  clear o7 hb7 hp7 O6 D6 P6 Q6 G6 A6 T4 c1 G4 O5 D5 P5 G5 O4 D4 P4
  have l7 : ((ts1 ++ [Tk.mk 4 0 ⟨#[43]⟩]) ++ us2).length = ts1.length + 1 + us2.length := by simp only [List.length_append, List.length_cons, List.length_nil]
  generalize hts2 : (ts1 ++ [Tk.mk 4 0 ⟨#[43]⟩]) ++ us2 = ts2 at *
  have E3 := hide (unhide E2 ts2 (by first | rfl | exact hts2))
  clear E2 hts2
  rw [rounds_succ]
  go_wp2_with fail
  refine (markI_any ⟨#[62]⟩ w7).mono ?_
  rintro r w8 ⟨rfl, hb8⟩
  have O8 := hide ((unhide O7).later hb8)
  have D8 := hide ((unhide D7).trans (hb8.mono (Nat.le_trans hB (unhide D7).size)))
  have P8 := hide ((unhide P7).trans (KpT.of hb8))
  clear hb8 O7 D7 P7
  unfold Tk.v Tk.cs
  go_wp2_with (at_builtin; go_must (refine wpList_append_own _ rfl (.tmp 70) (.tmp 72) 70 rfl B 91 i0 (.agg #[.int .i64 0, .int .i64 0, .string ⟨#[]⟩]) 3 32 Tryd.underlying70 hi hz0 hz1 hz2 rfl (by decide) v7 (ts2).length (cellsT (ts2)) rfl (World.ownsRow.alloc (unhide O8) _) ⟨w8.heap.size, 0, none⟩ 1 1 [.int .i64 4, .int .i64 0, .string ⟨#[62]⟩] rfl rfl (cell_new w8 #[.int .i64 4, .int .i64 0, .string ⟨#[62]⟩] 91) (newT_one _ _ _) (by unfold maxLen; (try simp only [List.length_append, List.length_cons, List.length_nil]); omega) (by (try simp only [List.length_append, List.length_cons, List.length_nil]); omega) (by have := (unhide D8).size; simp; omega) ?_; intro v9 w9 hown9 hgrow9 _; have O9 := hide (ownT_app (t := ⟨4, 0, ⟨#[62]⟩⟩) hown9); have D9 := hide (((unhide D8).alloc (Nat.le_trans hB (unhide D8).size) (.cells #[.int .i64 4, .int .i64 0, .string ⟨#[62]⟩] 91)).grown hgrow9 (by have := (unhide D8).size; simp; omega) (fun g hg => ((unhide O8).lt hg).1)); have P9 := hide ((KpT.of (below_new w8 (.cells #[.int .i64 4, .int .i64 0, .string ⟨#[62]⟩] 91))).trans (KpT.own (B := B) (ts := ts2) (World.ownsRow.alloc (unhide O8) _) hgrow9)); clear hown9 hgrow9))
  go_ret
  rw [unhide E3] at O9
  exact ⟨_, rfl, unhide O9, unhide D9, (unhide P8).trans (unhide P9)⟩
set_option maxHeartbeats 8000000 in
theorem put_sub (t u : TypeId) (x y : Value) (B L M : Nat) (us : List Tk) (h1 : ∀ (ts : List Tk) (v : Value) (w : World), OwnT w B v ts → B ≤ w.heap.size → ts.length ≤ (L + 1) → TabG w → Calls Tryd.prog 60 #[v, .iface t x] w fun r w' => ∃ v', r = .returned v' ∧ OwnT w' B v' (ts ++ us) ∧ Below B w w' ∧ KpT w w') (hus : us.length ≤ M) (us2 : List Tk) (h2 : ∀ (ts : List Tk) (v : Value) (w : World), OwnT w B v ts → B ≤ w.heap.size → ts.length ≤ (L + M + 2) → TabG w → Calls Tryd.prog 60 #[v, .iface u y] w fun r w' => ∃ v', r = .returned v' ∧ OwnT w' B v' (ts ++ us2) ∧ Below B w w' ∧ KpT w w') (hus2 : us2.length ≤ M) (hLM : L + 2 * M + 3 ≤ 500) (ts : List Tk) (v : Value) (w : World) (ho : OwnT w B v ts) (hB : B ≤ w.heap.size) (hl : ts.length ≤ L) (hT : TabG w) (hs : 2 < B) : Calls Tryd.prog 60 #[v, .iface 139 (.agg #[.iface t x, .iface u y])] w fun r w' => ∃ v', r = .returned v' ∧ OwnT w' B v' ((((ts ++ [⟨4, 0, ⟨#[60]⟩⟩]) ++ us) ++ [⟨4, 0, ⟨#[45]⟩⟩]) ++ us2 ++ [⟨4, 0, ⟨#[62]⟩⟩]) ∧ Below B w w' ∧ KpT w w' := by
  obtain ⟨i0, hi, hz0, hz1, hz2⟩ := info_parts infoT
  have t0 := taN_num 139 (.agg #[.iface t x, .iface u y]) (by decide)
  have t1 := taN_sym 139 (.agg #[.iface t x, .iface u y]) (by decide)
  have t2 := taN_here 139 (.agg #[.iface t x, .iface u y]) (by decide)
  have t3 := taN_neg 139 (.agg #[.iface t x, .iface u y]) (by decide)
  have m := me_sub (.iface t x) (.iface u y)
  have PT := hide (parts2 t u x y w)
  have KD := hide (fun w => kind_sub 0 E0 t u x y w)
  have SG := hide (fun w1 (h : TabG w1) => (show w1.cell? ⟨2, 6, none⟩ = some (.string ⟨#[45]⟩) by obtain ⟨t, fr, h⟩ := h; exact Lib.cell_of_heap h 6))
  have HT := hide hT
  have H1 := hide h1
  have H2 := hide h2
  have O0 := hide ho
  obtain ⟨RS, hRS⟩ : ∃ RS, (((ts ++ [Tk.mk 4 0 ⟨#[60]⟩]) ++ us) ++ [Tk.mk 4 0 ⟨#[45]⟩]) ++ us2 ++ [Tk.mk 4 0 ⟨#[62]⟩] = RS := ⟨_, rfl⟩
  rw [hRS]
  have E1 := hide (fun ts1 (h : (ts ++ [Tk.mk 4 0 ⟨#[60]⟩]) ++ us = ts1) ts2 (h2 : (ts1 ++ [Tk.mk 4 0 ⟨#[45]⟩]) ++ us2 = ts2) => (show ts2 ++ [Tk.mk 4 0 ⟨#[62]⟩] = RS by rw [← hRS, h, h2]))
  clear hT h1 h2 ho hRS
  go_enter Tryd.func60, Tryd.ntmps60
  go_wp2_with fail
  refine (unhide PT).mono ?_
  rintro r w1 ⟨gp, rfl, hgp, hb1⟩
  have O1 := hide ((unhide O0).later hb1)
  have D1 := hide (hb1.mono hB)
  have P1 := hide (KpT.of hb1)
  have G1 := hide hgp
  have c0 := Lib.cell_of_heap hgp 0
  clear hb1 hgp O0 PT
  go_wp2
  refine wp_loop_rounds 3 ?_
  rw [rounds_succ]
  go_wp2_with fail
  refine (markI_any ⟨#[60]⟩ w1).mono ?_
  rintro r w2 ⟨rfl, hb2⟩
  have O2 := hide ((unhide O1).later hb2)
  have D2 := hide ((unhide D1).trans (hb2.mono (Nat.le_trans hB (unhide D1).size)))
  have P2 := hide ((unhide P1).trans (KpT.of hb2))
  have G2 := hide (KpT.of hb2 _ _ _ _ (unhide G1) (by decide))
  clear hb2 O1 D1 P1 G1 c0
  unfold Tk.v Tk.cs
  go_wp2_with (first | (at_builtin; go_must (refine wpList_append_own _ rfl (.tmp 62) (.tmp 65) 70 rfl B 91 i0 (.agg #[.int .i64 0, .int .i64 0, .string ⟨#[]⟩]) 3 32 Tryd.underlying70 hi hz0 hz1 hz2 rfl (by decide) v (ts).length (cellsT (ts)) rfl (World.ownsRow.alloc (unhide O2) _) ⟨w2.heap.size, 0, none⟩ 1 1 [.int .i64 4, .int .i64 0, .string ⟨#[60]⟩] rfl rfl (cell_new w2 #[.int .i64 4, .int .i64 0, .string ⟨#[60]⟩] 91) (newT_one _ _ _) (by unfold maxLen; (try simp only [List.length_append, List.length_cons, List.length_nil]); omega) (by (try simp only [List.length_append, List.length_cons, List.length_nil]); omega) (by have := (unhide D2).size; simp; omega) ?_; intro v3 w3 hown3 hgrow3 _; have O3 := hide (ownT_app (t := ⟨4, 0, ⟨#[60]⟩⟩) hown3); have D3 := hide (((unhide D2).alloc (Nat.le_trans hB (unhide D2).size) (.cells #[.int .i64 4, .int .i64 0, .string ⟨#[60]⟩] 91)).grown hgrow3 (by have := (unhide D2).size; simp; omega) (fun g hg => ((unhide O2).lt hg).1)); have P3 := hide ((KpT.of (below_new w2 (.cells #[.int .i64 4, .int .i64 0, .string ⟨#[60]⟩] 91))).trans (KpT.own (B := B) (ts := ts) (World.ownsRow.alloc (unhide O2) _) hgrow3)); clear hown3 hgrow3; have Q3 := hide ((unhide P2).trans (unhide P3)); have G3 := hide (unhide P3 _ _ _ _ (unhide G2) (by decide)); have A3 := hide (unhide H1 (ts ++ [⟨4, 0, ⟨#[60]⟩⟩]) v3 w3 (unhide O3) (Nat.le_trans hB (unhide D3).size) (by simp only [List.length_append, List.length_cons, List.length_nil]; omega) ((unhide HT).later (unhide D3) hs)))) | (go_at_call 60; refine (unhide A3).mono ?_; rintro r w4 ⟨v4, rfl, o4, hb4, hp4⟩))
  have O4 := hide o4
  have D4 := hide ((unhide D3).trans hb4)
  have P4 := hide ((unhide Q3).trans hp4)
  have G4 := hide (hp4 _ _ _ _ (unhide G3) (by decide))
  have T4 := unhide SG w4 ((unhide HT).later (unhide D4) hs)
  have c1 := Lib.cell_of_heap (unhide G4) 1
  clear o4 hb4 hp4 O3 D3 P3 Q3 G3 A3 O2 D2 P2 G2
  have l4 : ((ts ++ [Tk.mk 4 0 ⟨#[60]⟩]) ++ us).length = ts.length + 1 + us.length := by simp only [List.length_append, List.length_cons, List.length_nil]
  generalize hts1 : (ts ++ [Tk.mk 4 0 ⟨#[60]⟩]) ++ us = ts1 at *
  have E2 := hide (unhide E1 ts1 (by first | rfl | exact hts1))
  clear E1 hts1
  rw [rounds_succ]
  go_wp2_with (first | (go_at_call 71; refine (unhide KD _).mono ?_; rintro r w' ⟨rfl, hw'⟩; rw [hw']; clear hw' w') | (go_at_call 61; refine (markI_any ⟨#[45]⟩ w4).mono ?_; rintro r w5 ⟨rfl, hb5⟩; have O5 := hide ((unhide O4).later hb5); have D5 := hide ((unhide D4).trans (hb5.mono (Nat.le_trans hB (unhide D4).size))); have P5 := hide ((unhide P4).trans (KpT.of hb5)); have G5 := hide (KpT.of hb5 _ _ _ _ (unhide G4) (by decide)); clear hb5; unfold Tk.v Tk.cs) | (at_builtin; go_must (refine wpList_append_own _ rfl (.tmp 62) (.tmp 65) 70 rfl B 91 i0 (.agg #[.int .i64 0, .int .i64 0, .string ⟨#[]⟩]) 3 32 Tryd.underlying70 hi hz0 hz1 hz2 rfl (by decide) v4 (ts1).length (cellsT (ts1)) rfl (World.ownsRow.alloc (unhide O5) _) ⟨w5.heap.size, 0, none⟩ 1 1 [.int .i64 4, .int .i64 0, .string ⟨#[45]⟩] rfl rfl (cell_new w5 #[.int .i64 4, .int .i64 0, .string ⟨#[45]⟩] 91) (newT_one _ _ _) (by unfold maxLen; (try simp only [List.length_append, List.length_cons, List.length_nil]); omega) (by (try simp only [List.length_append, List.length_cons, List.length_nil]); omega) (by have := (unhide D5).size; simp; omega) ?_; intro v6 w6 hown6 hgrow6 _; have O6 := hide (ownT_app (t := ⟨4, 0, ⟨#[45]⟩⟩) hown6); have D6 := hide (((unhide D5).alloc (Nat.le_trans hB (unhide D5).size) (.cells #[.int .i64 4, .int .i64 0, .string ⟨#[45]⟩] 91)).grown hgrow6 (by have := (unhide D5).size; simp; omega) (fun g hg => ((unhide O5).lt hg).1)); have P6 := hide ((KpT.of (below_new w5 (.cells #[.int .i64 4, .int .i64 0, .string ⟨#[45]⟩] 91))).trans (KpT.own (B := B) (ts := ts1) (World.ownsRow.alloc (unhide O5) _) hgrow6)); clear hown6 hgrow6; have Q6 := hide ((unhide P5).trans (unhide P6)); have G6 := hide (unhide P6 _ _ _ _ (unhide G5) (by decide)); have A6 := hide (unhide H2 (ts1 ++ [⟨4, 0, ⟨#[45]⟩⟩]) v6 w6 (unhide O6) (Nat.le_trans hB (unhide D6).size) (by simp only [List.length_append, List.length_cons, List.length_nil]; omega) ((unhide HT).later (unhide D6) hs)))) | (go_at_call 60; refine (unhide A6).mono ?_; rintro r w7 ⟨v7, rfl, o7, hb7, hp7⟩))
  have O7 := hide o7
  have D7 := hide ((unhide D6).trans hb7)
  have P7 := hide ((unhide Q6).trans hp7)
  clear o7 hb7 hp7 O6 D6 P6 Q6 G6 A6 T4 c1 G4 O5 D5 P5 G5 O4 D4 P4
  have l7 : ((ts1 ++ [Tk.mk 4 0 ⟨#[45]⟩]) ++ us2).length = ts1.length + 1 + us2.length := by simp only [List.length_append, List.length_cons, List.length_nil]
  generalize hts2 : (ts1 ++ [Tk.mk 4 0 ⟨#[45]⟩]) ++ us2 = ts2 at *
  have E3 := hide (unhide E2 ts2 (by first | rfl | exact hts2))
  clear E2 hts2
  rw [rounds_succ]
  go_wp2_with fail
  refine (markI_any ⟨#[62]⟩ w7).mono ?_
  rintro r w8 ⟨rfl, hb8⟩
  have O8 := hide ((unhide O7).later hb8)
  have D8 := hide ((unhide D7).trans (hb8.mono (Nat.le_trans hB (unhide D7).size)))
  have P8 := hide ((unhide P7).trans (KpT.of hb8))
  clear hb8 O7 D7 P7
  unfold Tk.v Tk.cs
  go_wp2_with (at_builtin; go_must (refine wpList_append_own _ rfl (.tmp 70) (.tmp 72) 70 rfl B 91 i0 (.agg #[.int .i64 0, .int .i64 0, .string ⟨#[]⟩]) 3 32 Tryd.underlying70 hi hz0 hz1 hz2 rfl (by decide) v7 (ts2).length (cellsT (ts2)) rfl (World.ownsRow.alloc (unhide O8) _) ⟨w8.heap.size, 0, none⟩ 1 1 [.int .i64 4, .int .i64 0, .string ⟨#[62]⟩] rfl rfl (cell_new w8 #[.int .i64 4, .int .i64 0, .string ⟨#[62]⟩] 91) (newT_one _ _ _) (by unfold maxLen; (try simp only [List.length_append, List.length_cons, List.length_nil]); omega) (by (try simp only [List.length_append, List.length_cons, List.length_nil]); omega) (by have := (unhide D8).size; simp; omega) ?_; intro v9 w9 hown9 hgrow9 _; have O9 := hide (ownT_app (t := ⟨4, 0, ⟨#[62]⟩⟩) hown9); have D9 := hide (((unhide D8).alloc (Nat.le_trans hB (unhide D8).size) (.cells #[.int .i64 4, .int .i64 0, .string ⟨#[62]⟩] 91)).grown hgrow9 (by have := (unhide D8).size; simp; omega) (fun g hg => ((unhide O8).lt hg).1)); have P9 := hide ((KpT.of (below_new w8 (.cells #[.int .i64 4, .int .i64 0, .string ⟨#[62]⟩] 91))).trans (KpT.own (B := B) (ts := ts2) (World.ownsRow.alloc (unhide O8) _) hgrow9)); clear hown9 hgrow9))
  go_ret
  rw [unhide E3] at O9
  exact ⟨_, rfl, unhide O9, unhide D9, (unhide P8).trans (unhide P9)⟩
set_option maxHeartbeats 8000000 in
theorem put_mul (t u : TypeId) (x y : Value) (B L M : Nat) (us : List Tk) (h1 : ∀ (ts : List Tk) (v : Value) (w : World), OwnT w B v ts → B ≤ w.heap.size → ts.length ≤ (L + 1) → TabG w → Calls Tryd.prog 60 #[v, .iface t x] w fun r w' => ∃ v', r = .returned v' ∧ OwnT w' B v' (ts ++ us) ∧ Below B w w' ∧ KpT w w') (hus : us.length ≤ M) (us2 : List Tk) (h2 : ∀ (ts : List Tk) (v : Value) (w : World), OwnT w B v ts → B ≤ w.heap.size → ts.length ≤ (L + M + 2) → TabG w → Calls Tryd.prog 60 #[v, .iface u y] w fun r w' => ∃ v', r = .returned v' ∧ OwnT w' B v' (ts ++ us2) ∧ Below B w w' ∧ KpT w w') (hus2 : us2.length ≤ M) (hLM : L + 2 * M + 3 ≤ 500) (ts : List Tk) (v : Value) (w : World) (ho : OwnT w B v ts) (hB : B ≤ w.heap.size) (hl : ts.length ≤ L) (hT : TabG w) (hs : 2 < B) : Calls Tryd.prog 60 #[v, .iface 140 (.agg #[.iface t x, .iface u y])] w fun r w' => ∃ v', r = .returned v' ∧ OwnT w' B v' ((((ts ++ [⟨4, 0, ⟨#[60]⟩⟩]) ++ us) ++ [⟨4, 0, ⟨#[42]⟩⟩]) ++ us2 ++ [⟨4, 0, ⟨#[62]⟩⟩]) ∧ Below B w w' ∧ KpT w w' := by
  obtain ⟨i0, hi, hz0, hz1, hz2⟩ := info_parts infoT
  have t0 := taN_num 140 (.agg #[.iface t x, .iface u y]) (by decide)
  have t1 := taN_sym 140 (.agg #[.iface t x, .iface u y]) (by decide)
  have t2 := taN_here 140 (.agg #[.iface t x, .iface u y]) (by decide)
  have t3 := taN_neg 140 (.agg #[.iface t x, .iface u y]) (by decide)
  have m := me_mul (.iface t x) (.iface u y)
  have PT := hide (parts2 t u x y w)
  have KD := hide (fun w => kind_mul 0 E0 t u x y w)
  have SG := hide (fun w1 (h : TabG w1) => (show w1.cell? ⟨2, 7, none⟩ = some (.string ⟨#[42]⟩) by obtain ⟨t, fr, h⟩ := h; exact Lib.cell_of_heap h 7))
  have HT := hide hT
  have H1 := hide h1
  have H2 := hide h2
  have O0 := hide ho
  obtain ⟨RS, hRS⟩ : ∃ RS, (((ts ++ [Tk.mk 4 0 ⟨#[60]⟩]) ++ us) ++ [Tk.mk 4 0 ⟨#[42]⟩]) ++ us2 ++ [Tk.mk 4 0 ⟨#[62]⟩] = RS := ⟨_, rfl⟩
  rw [hRS]
  have E1 := hide (fun ts1 (h : (ts ++ [Tk.mk 4 0 ⟨#[60]⟩]) ++ us = ts1) ts2 (h2 : (ts1 ++ [Tk.mk 4 0 ⟨#[42]⟩]) ++ us2 = ts2) => (show ts2 ++ [Tk.mk 4 0 ⟨#[62]⟩] = RS by rw [← hRS, h, h2]))
  clear hT h1 h2 ho hRS
  go_enter Tryd.func60, Tryd.ntmps60
  go_wp2_with fail
  refine (unhide PT).mono ?_
  rintro r w1 ⟨gp, rfl, hgp, hb1⟩
  have O1 := hide ((unhide O0).later hb1)
  have D1 := hide (hb1.mono hB)
  have P1 := hide (KpT.of hb1)
  have G1 := hide hgp
  have c0 := Lib.cell_of_heap hgp 0
  clear hb1 hgp O0 PT
  go_wp2
  refine wp_loop_rounds 3 ?_
  rw [rounds_succ]
  go_wp2_with fail
  refine (markI_any ⟨#[60]⟩ w1).mono ?_
  rintro r w2 ⟨rfl, hb2⟩
  have O2 := hide ((unhide O1).later hb2)
  have D2 := hide ((unhide D1).trans (hb2.mono (Nat.le_trans hB (unhide D1).size)))
  have P2 := hide ((unhide P1).trans (KpT.of hb2))
  have G2 := hide (KpT.of hb2 _ _ _ _ (unhide G1) (by decide))
  clear hb2 O1 D1 P1 G1 c0
  unfold Tk.v Tk.cs
  go_wp2_with (first | (at_builtin; go_must (refine wpList_append_own _ rfl (.tmp 62) (.tmp 65) 70 rfl B 91 i0 (.agg #[.int .i64 0, .int .i64 0, .string ⟨#[]⟩]) 3 32 Tryd.underlying70 hi hz0 hz1 hz2 rfl (by decide) v (ts).length (cellsT (ts)) rfl (World.ownsRow.alloc (unhide O2) _) ⟨w2.heap.size, 0, none⟩ 1 1 [.int .i64 4, .int .i64 0, .string ⟨#[60]⟩] rfl rfl (cell_new w2 #[.int .i64 4, .int .i64 0, .string ⟨#[60]⟩] 91) (newT_one _ _ _) (by unfold maxLen; (try simp only [List.length_append, List.length_cons, List.length_nil]); omega) (by (try simp only [List.length_append, List.length_cons, List.length_nil]); omega) (by have := (unhide D2).size; simp; omega) ?_; intro v3 w3 hown3 hgrow3 _; have O3 := hide (ownT_app (t := ⟨4, 0, ⟨#[60]⟩⟩) hown3); have D3 := hide (((unhide D2).alloc (Nat.le_trans hB (unhide D2).size) (.cells #[.int .i64 4, .int .i64 0, .string ⟨#[60]⟩] 91)).grown hgrow3 (by have := (unhide D2).size; simp; omega) (fun g hg => ((unhide O2).lt hg).1)); have P3 := hide ((KpT.of (below_new w2 (.cells #[.int .i64 4, .int .i64 0, .string ⟨#[60]⟩] 91))).trans (KpT.own (B := B) (ts := ts) (World.ownsRow.alloc (unhide O2) _) hgrow3)); clear hown3 hgrow3; have Q3 := hide ((unhide P2).trans (unhide P3)); have G3 := hide (unhide P3 _ _ _ _ (unhide G2) (by decide)); have A3 := hide (unhide H1 (ts ++ [⟨4, 0, ⟨#[60]⟩⟩]) v3 w3 (unhide O3) (Nat.le_trans hB (unhide D3).size) (by simp only [List.length_append, List.length_cons, List.length_nil]; omega) ((unhide HT).later (unhide D3) hs)))) | (go_at_call 60; refine (unhide A3).mono ?_; rintro r w4 ⟨v4, rfl, o4, hb4, hp4⟩))
  have O4 := hide o4
  have D4 := hide ((unhide D3).trans hb4)
  have P4 := hide ((unhide Q3).trans hp4)
  have G4 := hide (hp4 _ _ _ _ (unhide G3) (by decide))
  have T4 := unhide SG w4 ((unhide HT).later (unhide D4) hs)
  have c1 := Lib.cell_of_heap (unhide G4) 1
  clear o4 hb4 hp4 O3 D3 P3 Q3 G3 A3 O2 D2 P2 G2
  have l4 : ((ts ++ [Tk.mk 4 0 ⟨#[60]⟩]) ++ us).length = ts.length + 1 + us.length := by simp only [List.length_append, List.length_cons, List.length_nil]
  generalize hts1 : (ts ++ [Tk.mk 4 0 ⟨#[60]⟩]) ++ us = ts1 at *
  have E2 := hide (unhide E1 ts1 (by first | rfl | exact hts1))
  clear E1 hts1
  rw [rounds_succ]
  go_wp2_with (first | (go_at_call 71; refine (unhide KD _).mono ?_; rintro r w' ⟨rfl, hw'⟩; rw [hw']; clear hw' w') | (go_at_call 61; refine (markI_any ⟨#[42]⟩ w4).mono ?_; rintro r w5 ⟨rfl, hb5⟩; have O5 := hide ((unhide O4).later hb5); have D5 := hide ((unhide D4).trans (hb5.mono (Nat.le_trans hB (unhide D4).size))); have P5 := hide ((unhide P4).trans (KpT.of hb5)); have G5 := hide (KpT.of hb5 _ _ _ _ (unhide G4) (by decide)); clear hb5; unfold Tk.v Tk.cs) | (at_builtin; go_must (refine wpList_append_own _ rfl (.tmp 62) (.tmp 65) 70 rfl B 91 i0 (.agg #[.int .i64 0, .int .i64 0, .string ⟨#[]⟩]) 3 32 Tryd.underlying70 hi hz0 hz1 hz2 rfl (by decide) v4 (ts1).length (cellsT (ts1)) rfl (World.ownsRow.alloc (unhide O5) _) ⟨w5.heap.size, 0, none⟩ 1 1 [.int .i64 4, .int .i64 0, .string ⟨#[42]⟩] rfl rfl (cell_new w5 #[.int .i64 4, .int .i64 0, .string ⟨#[42]⟩] 91) (newT_one _ _ _) (by unfold maxLen; (try simp only [List.length_append, List.length_cons, List.length_nil]); omega) (by (try simp only [List.length_append, List.length_cons, List.length_nil]); omega) (by have := (unhide D5).size; simp; omega) ?_; intro v6 w6 hown6 hgrow6 _; have O6 := hide (ownT_app (t := ⟨4, 0, ⟨#[42]⟩⟩) hown6); have D6 := hide (((unhide D5).alloc (Nat.le_trans hB (unhide D5).size) (.cells #[.int .i64 4, .int .i64 0, .string ⟨#[42]⟩] 91)).grown hgrow6 (by have := (unhide D5).size; simp; omega) (fun g hg => ((unhide O5).lt hg).1)); have P6 := hide ((KpT.of (below_new w5 (.cells #[.int .i64 4, .int .i64 0, .string ⟨#[42]⟩] 91))).trans (KpT.own (B := B) (ts := ts1) (World.ownsRow.alloc (unhide O5) _) hgrow6)); clear hown6 hgrow6; have Q6 := hide ((unhide P5).trans (unhide P6)); have G6 := hide (unhide P6 _ _ _ _ (unhide G5) (by decide)); have A6 := hide (unhide H2 (ts1 ++ [⟨4, 0, ⟨#[42]⟩⟩]) v6 w6 (unhide O6) (Nat.le_trans hB (unhide D6).size) (by simp only [List.length_append, List.length_cons, List.length_nil]; omega) ((unhide HT).later (unhide D6) hs)))) | (go_at_call 60; refine (unhide A6).mono ?_; rintro r w7 ⟨v7, rfl, o7, hb7, hp7⟩))
  have O7 := hide o7
  have D7 := hide ((unhide D6).trans hb7)
  have P7 := hide ((unhide Q6).trans hp7)
  clear o7 hb7 hp7 O6 D6 P6 Q6 G6 A6 T4 c1 G4 O5 D5 P5 G5 O4 D4 P4
  have l7 : ((ts1 ++ [Tk.mk 4 0 ⟨#[42]⟩]) ++ us2).length = ts1.length + 1 + us2.length := by simp only [List.length_append, List.length_cons, List.length_nil]
  generalize hts2 : (ts1 ++ [Tk.mk 4 0 ⟨#[42]⟩]) ++ us2 = ts2 at *
  have E3 := hide (unhide E2 ts2 (by first | rfl | exact hts2))
  clear E2 hts2
  rw [rounds_succ]
  go_wp2_with fail
  refine (markI_any ⟨#[62]⟩ w7).mono ?_
  rintro r w8 ⟨rfl, hb8⟩
  have O8 := hide ((unhide O7).later hb8)
  have D8 := hide ((unhide D7).trans (hb8.mono (Nat.le_trans hB (unhide D7).size)))
  have P8 := hide ((unhide P7).trans (KpT.of hb8))
  clear hb8 O7 D7 P7
  unfold Tk.v Tk.cs
  go_wp2_with (at_builtin; go_must (refine wpList_append_own _ rfl (.tmp 70) (.tmp 72) 70 rfl B 91 i0 (.agg #[.int .i64 0, .int .i64 0, .string ⟨#[]⟩]) 3 32 Tryd.underlying70 hi hz0 hz1 hz2 rfl (by decide) v7 (ts2).length (cellsT (ts2)) rfl (World.ownsRow.alloc (unhide O8) _) ⟨w8.heap.size, 0, none⟩ 1 1 [.int .i64 4, .int .i64 0, .string ⟨#[62]⟩] rfl rfl (cell_new w8 #[.int .i64 4, .int .i64 0, .string ⟨#[62]⟩] 91) (newT_one _ _ _) (by unfold maxLen; (try simp only [List.length_append, List.length_cons, List.length_nil]); omega) (by (try simp only [List.length_append, List.length_cons, List.length_nil]); omega) (by have := (unhide D8).size; simp; omega) ?_; intro v9 w9 hown9 hgrow9 _; have O9 := hide (ownT_app (t := ⟨4, 0, ⟨#[62]⟩⟩) hown9); have D9 := hide (((unhide D8).alloc (Nat.le_trans hB (unhide D8).size) (.cells #[.int .i64 4, .int .i64 0, .string ⟨#[62]⟩] 91)).grown hgrow9 (by have := (unhide D8).size; simp; omega) (fun g hg => ((unhide O8).lt hg).1)); have P9 := hide ((KpT.of (below_new w8 (.cells #[.int .i64 4, .int .i64 0, .string ⟨#[62]⟩] 91))).trans (KpT.own (B := B) (ts := ts2) (World.ownsRow.alloc (unhide O8) _) hgrow9)); clear hown9 hgrow9))
  go_ret
  rw [unhide E3] at O9
  exact ⟨_, rfl, unhide O9, unhide D9, (unhide P8).trans (unhide P9)⟩
set_option maxHeartbeats 8000000 in
theorem put_div (t u : TypeId) (x y : Value) (B L M : Nat) (us : List Tk) (h1 : ∀ (ts : List Tk) (v : Value) (w : World), OwnT w B v ts → B ≤ w.heap.size → ts.length ≤ (L + 1) → TabG w → Calls Tryd.prog 60 #[v, .iface t x] w fun r w' => ∃ v', r = .returned v' ∧ OwnT w' B v' (ts ++ us) ∧ Below B w w' ∧ KpT w w') (hus : us.length ≤ M) (us2 : List Tk) (h2 : ∀ (ts : List Tk) (v : Value) (w : World), OwnT w B v ts → B ≤ w.heap.size → ts.length ≤ (L + M + 2) → TabG w → Calls Tryd.prog 60 #[v, .iface u y] w fun r w' => ∃ v', r = .returned v' ∧ OwnT w' B v' (ts ++ us2) ∧ Below B w w' ∧ KpT w w') (hus2 : us2.length ≤ M) (hLM : L + 2 * M + 3 ≤ 500) (ts : List Tk) (v : Value) (w : World) (ho : OwnT w B v ts) (hB : B ≤ w.heap.size) (hl : ts.length ≤ L) (hT : TabG w) (hs : 2 < B) : Calls Tryd.prog 60 #[v, .iface 141 (.agg #[.iface t x, .iface u y])] w fun r w' => ∃ v', r = .returned v' ∧ OwnT w' B v' ((((ts ++ [⟨4, 0, ⟨#[60]⟩⟩]) ++ us) ++ [⟨4, 0, ⟨#[47]⟩⟩]) ++ us2 ++ [⟨4, 0, ⟨#[62]⟩⟩]) ∧ Below B w w' ∧ KpT w w' := by
  obtain ⟨i0, hi, hz0, hz1, hz2⟩ := info_parts infoT
  have t0 := taN_num 141 (.agg #[.iface t x, .iface u y]) (by decide)
  have t1 := taN_sym 141 (.agg #[.iface t x, .iface u y]) (by decide)
  have t2 := taN_here 141 (.agg #[.iface t x, .iface u y]) (by decide)
  have t3 := taN_neg 141 (.agg #[.iface t x, .iface u y]) (by decide)
  have m := me_div (.iface t x) (.iface u y)
  have PT := hide (parts2 t u x y w)
  have KD := hide (fun w => kind_div 0 E0 t u x y w)
  have SG := hide (fun w1 (h : TabG w1) => (show w1.cell? ⟨2, 8, none⟩ = some (.string ⟨#[47]⟩) by obtain ⟨t, fr, h⟩ := h; exact Lib.cell_of_heap h 8))
  have HT := hide hT
  have H1 := hide h1
  have H2 := hide h2
  have O0 := hide ho
  obtain ⟨RS, hRS⟩ : ∃ RS, (((ts ++ [Tk.mk 4 0 ⟨#[60]⟩]) ++ us) ++ [Tk.mk 4 0 ⟨#[47]⟩]) ++ us2 ++ [Tk.mk 4 0 ⟨#[62]⟩] = RS := ⟨_, rfl⟩
  rw [hRS]
  have E1 := hide (fun ts1 (h : (ts ++ [Tk.mk 4 0 ⟨#[60]⟩]) ++ us = ts1) ts2 (h2 : (ts1 ++ [Tk.mk 4 0 ⟨#[47]⟩]) ++ us2 = ts2) => (show ts2 ++ [Tk.mk 4 0 ⟨#[62]⟩] = RS by rw [← hRS, h, h2]))
  clear hT h1 h2 ho hRS
  go_enter Tryd.func60, Tryd.ntmps60
  go_wp2_with fail
  refine (unhide PT).mono ?_
  rintro r w1 ⟨gp, rfl, hgp, hb1⟩
  have O1 := hide ((unhide O0).later hb1)
  have D1 := hide (hb1.mono hB)
  have P1 := hide (KpT.of hb1)
  have G1 := hide hgp
  have c0 := Lib.cell_of_heap hgp 0
  clear hb1 hgp O0 PT
  go_wp2
  refine wp_loop_rounds 3 ?_
  rw [rounds_succ]
  go_wp2_with fail
  refine (markI_any ⟨#[60]⟩ w1).mono ?_
  rintro r w2 ⟨rfl, hb2⟩
  have O2 := hide ((unhide O1).later hb2)
  have D2 := hide ((unhide D1).trans (hb2.mono (Nat.le_trans hB (unhide D1).size)))
  have P2 := hide ((unhide P1).trans (KpT.of hb2))
  have G2 := hide (KpT.of hb2 _ _ _ _ (unhide G1) (by decide))
  clear hb2 O1 D1 P1 G1 c0
  unfold Tk.v Tk.cs
  go_wp2_with (first | (at_builtin; go_must (refine wpList_append_own _ rfl (.tmp 62) (.tmp 65) 70 rfl B 91 i0 (.agg #[.int .i64 0, .int .i64 0, .string ⟨#[]⟩]) 3 32 Tryd.underlying70 hi hz0 hz1 hz2 rfl (by decide) v (ts).length (cellsT (ts)) rfl (World.ownsRow.alloc (unhide O2) _) ⟨w2.heap.size, 0, none⟩ 1 1 [.int .i64 4, .int .i64 0, .string ⟨#[60]⟩] rfl rfl (cell_new w2 #[.int .i64 4, .int .i64 0, .string ⟨#[60]⟩] 91) (newT_one _ _ _) (by unfold maxLen; (try simp only [List.length_append, List.length_cons, List.length_nil]); omega) (by (try simp only [List.length_append, List.length_cons, List.length_nil]); omega) (by have := (unhide D2).size; simp; omega) ?_; intro v3 w3 hown3 hgrow3 _; have O3 := hide (ownT_app (t := ⟨4, 0, ⟨#[60]⟩⟩) hown3); have D3 := hide (((unhide D2).alloc (Nat.le_trans hB (unhide D2).size) (.cells #[.int .i64 4, .int .i64 0, .string ⟨#[60]⟩] 91)).grown hgrow3 (by have := (unhide D2).size; simp; omega) (fun g hg => ((unhide O2).lt hg).1)); have P3 := hide ((KpT.of (below_new w2 (.cells #[.int .i64 4, .int .i64 0, .string ⟨#[60]⟩] 91))).trans (KpT.own (B := B) (ts := ts) (World.ownsRow.alloc (unhide O2) _) hgrow3)); clear hown3 hgrow3; have Q3 := hide ((unhide P2).trans (unhide P3)); have G3 := hide (unhide P3 _ _ _ _ (unhide G2) (by decide)); have A3 := hide (unhide H1 (ts ++ [⟨4, 0, ⟨#[60]⟩⟩]) v3 w3 (unhide O3) (Nat.le_trans hB (unhide D3).size) (by simp only [List.length_append, List.length_cons, List.length_nil]; omega) ((unhide HT).later (unhide D3) hs)))) | (go_at_call 60; refine (unhide A3).mono ?_; rintro r w4 ⟨v4, rfl, o4, hb4, hp4⟩))
  have O4 := hide o4
  have D4 := hide ((unhide D3).trans hb4)
  have P4 := hide ((unhide Q3).trans hp4)
  have G4 := hide (hp4 _ _ _ _ (unhide G3) (by decide))
  have T4 := unhide SG w4 ((unhide HT).later (unhide D4) hs)
  have c1 := Lib.cell_of_heap (unhide G4) 1
  clear o4 hb4 hp4 O3 D3 P3 Q3 G3 A3 O2 D2 P2 G2
  have l4 : ((ts ++ [Tk.mk 4 0 ⟨#[60]⟩]) ++ us).length = ts.length + 1 + us.length := by simp only [List.length_append, List.length_cons, List.length_nil]
  generalize hts1 : (ts ++ [Tk.mk 4 0 ⟨#[60]⟩]) ++ us = ts1 at *
  have E2 := hide (unhide E1 ts1 (by first | rfl | exact hts1))
  clear E1 hts1
  rw [rounds_succ]
  go_wp2_with (first | (go_at_call 71; refine (unhide KD _).mono ?_; rintro r w' ⟨rfl, hw'⟩; rw [hw']; clear hw' w') | (go_at_call 61; refine (markI_any ⟨#[47]⟩ w4).mono ?_; rintro r w5 ⟨rfl, hb5⟩; have O5 := hide ((unhide O4).later hb5); have D5 := hide ((unhide D4).trans (hb5.mono (Nat.le_trans hB (unhide D4).size))); have P5 := hide ((unhide P4).trans (KpT.of hb5)); have G5 := hide (KpT.of hb5 _ _ _ _ (unhide G4) (by decide)); clear hb5; unfold Tk.v Tk.cs) | (at_builtin; go_must (refine wpList_append_own _ rfl (.tmp 62) (.tmp 65) 70 rfl B 91 i0 (.agg #[.int .i64 0, .int .i64 0, .string ⟨#[]⟩]) 3 32 Tryd.underlying70 hi hz0 hz1 hz2 rfl (by decide) v4 (ts1).length (cellsT (ts1)) rfl (World.ownsRow.alloc (unhide O5) _) ⟨w5.heap.size, 0, none⟩ 1 1 [.int .i64 4, .int .i64 0, .string ⟨#[47]⟩] rfl rfl (cell_new w5 #[.int .i64 4, .int .i64 0, .string ⟨#[47]⟩] 91) (newT_one _ _ _) (by unfold maxLen; (try simp only [List.length_append, List.length_cons, List.length_nil]); omega) (by (try simp only [List.length_append, List.length_cons, List.length_nil]); omega) (by have := (unhide D5).size; simp; omega) ?_; intro v6 w6 hown6 hgrow6 _; have O6 := hide (ownT_app (t := ⟨4, 0, ⟨#[47]⟩⟩) hown6); have D6 := hide (((unhide D5).alloc (Nat.le_trans hB (unhide D5).size) (.cells #[.int .i64 4, .int .i64 0, .string ⟨#[47]⟩] 91)).grown hgrow6 (by have := (unhide D5).size; simp; omega) (fun g hg => ((unhide O5).lt hg).1)); have P6 := hide ((KpT.of (below_new w5 (.cells #[.int .i64 4, .int .i64 0, .string ⟨#[47]⟩] 91))).trans (KpT.own (B := B) (ts := ts1) (World.ownsRow.alloc (unhide O5) _) hgrow6)); clear hown6 hgrow6; have Q6 := hide ((unhide P5).trans (unhide P6)); have G6 := hide (unhide P6 _ _ _ _ (unhide G5) (by decide)); have A6 := hide (unhide H2 (ts1 ++ [⟨4, 0, ⟨#[47]⟩⟩]) v6 w6 (unhide O6) (Nat.le_trans hB (unhide D6).size) (by simp only [List.length_append, List.length_cons, List.length_nil]; omega) ((unhide HT).later (unhide D6) hs)))) | (go_at_call 60; refine (unhide A6).mono ?_; rintro r w7 ⟨v7, rfl, o7, hb7, hp7⟩))
  have O7 := hide o7
  have D7 := hide ((unhide D6).trans hb7)
  have P7 := hide ((unhide Q6).trans hp7)
  clear o7 hb7 hp7 O6 D6 P6 Q6 G6 A6 T4 c1 G4 O5 D5 P5 G5 O4 D4 P4
  have l7 : ((ts1 ++ [Tk.mk 4 0 ⟨#[47]⟩]) ++ us2).length = ts1.length + 1 + us2.length := by simp only [List.length_append, List.length_cons, List.length_nil]
  generalize hts2 : (ts1 ++ [Tk.mk 4 0 ⟨#[47]⟩]) ++ us2 = ts2 at *
  have E3 := hide (unhide E2 ts2 (by first | rfl | exact hts2))
  clear E2 hts2
  rw [rounds_succ]
  go_wp2_with fail
  refine (markI_any ⟨#[62]⟩ w7).mono ?_
  rintro r w8 ⟨rfl, hb8⟩
  have O8 := hide ((unhide O7).later hb8)
  have D8 := hide ((unhide D7).trans (hb8.mono (Nat.le_trans hB (unhide D7).size)))
  have P8 := hide ((unhide P7).trans (KpT.of hb8))
  clear hb8 O7 D7 P7
  unfold Tk.v Tk.cs
  go_wp2_with (at_builtin; go_must (refine wpList_append_own _ rfl (.tmp 70) (.tmp 72) 70 rfl B 91 i0 (.agg #[.int .i64 0, .int .i64 0, .string ⟨#[]⟩]) 3 32 Tryd.underlying70 hi hz0 hz1 hz2 rfl (by decide) v7 (ts2).length (cellsT (ts2)) rfl (World.ownsRow.alloc (unhide O8) _) ⟨w8.heap.size, 0, none⟩ 1 1 [.int .i64 4, .int .i64 0, .string ⟨#[62]⟩] rfl rfl (cell_new w8 #[.int .i64 4, .int .i64 0, .string ⟨#[62]⟩] 91) (newT_one _ _ _) (by unfold maxLen; (try simp only [List.length_append, List.length_cons, List.length_nil]); omega) (by (try simp only [List.length_append, List.length_cons, List.length_nil]); omega) (by have := (unhide D8).size; simp; omega) ?_; intro v9 w9 hown9 hgrow9 _; have O9 := hide (ownT_app (t := ⟨4, 0, ⟨#[62]⟩⟩) hown9); have D9 := hide (((unhide D8).alloc (Nat.le_trans hB (unhide D8).size) (.cells #[.int .i64 4, .int .i64 0, .string ⟨#[62]⟩] 91)).grown hgrow9 (by have := (unhide D8).size; simp; omega) (fun g hg => ((unhide O8).lt hg).1)); have P9 := hide ((KpT.of (below_new w8 (.cells #[.int .i64 4, .int .i64 0, .string ⟨#[62]⟩] 91))).trans (KpT.own (B := B) (ts := ts2) (World.ownsRow.alloc (unhide O8) _) hgrow9)); clear hown9 hgrow9))
  go_ret
  rw [unhide E3] at O9
  exact ⟨_, rfl, unhide O9, unhide D9, (unhide P8).trans (unhide P9)⟩
set_option maxHeartbeats 8000000 in
theorem put_and (t u : TypeId) (x y : Value) (B L M : Nat) (us : List Tk) (h1 : ∀ (ts : List Tk) (v : Value) (w : World), OwnT w B v ts → B ≤ w.heap.size → ts.length ≤ (L + 1) → TabG w → Calls Tryd.prog 60 #[v, .iface t x] w fun r w' => ∃ v', r = .returned v' ∧ OwnT w' B v' (ts ++ us) ∧ Below B w w' ∧ KpT w w') (hus : us.length ≤ M) (us2 : List Tk) (h2 : ∀ (ts : List Tk) (v : Value) (w : World), OwnT w B v ts → B ≤ w.heap.size → ts.length ≤ (L + M + 2) → TabG w → Calls Tryd.prog 60 #[v, .iface u y] w fun r w' => ∃ v', r = .returned v' ∧ OwnT w' B v' (ts ++ us2) ∧ Below B w w' ∧ KpT w w') (hus2 : us2.length ≤ M) (hLM : L + 2 * M + 3 ≤ 500) (ts : List Tk) (v : Value) (w : World) (ho : OwnT w B v ts) (hB : B ≤ w.heap.size) (hl : ts.length ≤ L) (hT : TabG w) (hs : 2 < B) : Calls Tryd.prog 60 #[v, .iface 142 (.agg #[.iface t x, .iface u y])] w fun r w' => ∃ v', r = .returned v' ∧ OwnT w' B v' ((((ts ++ [⟨4, 0, ⟨#[60]⟩⟩]) ++ us) ++ [⟨4, 0, ⟨#[38]⟩⟩]) ++ us2 ++ [⟨4, 0, ⟨#[62]⟩⟩]) ∧ Below B w w' ∧ KpT w w' := by
  obtain ⟨i0, hi, hz0, hz1, hz2⟩ := info_parts infoT
  have t0 := taN_num 142 (.agg #[.iface t x, .iface u y]) (by decide)
  have t1 := taN_sym 142 (.agg #[.iface t x, .iface u y]) (by decide)
  have t2 := taN_here 142 (.agg #[.iface t x, .iface u y]) (by decide)
  have t3 := taN_neg 142 (.agg #[.iface t x, .iface u y]) (by decide)
  have m := me_and (.iface t x) (.iface u y)
  have PT := hide (parts2 t u x y w)
  have KD := hide (fun w => kind_and 0 E0 t u x y w)
  have SG := hide (fun w1 (h : TabG w1) => (show w1.cell? ⟨2, 9, none⟩ = some (.string ⟨#[38]⟩) by obtain ⟨t, fr, h⟩ := h; exact Lib.cell_of_heap h 9))
  have HT := hide hT
  have H1 := hide h1
  have H2 := hide h2
  have O0 := hide ho
  obtain ⟨RS, hRS⟩ : ∃ RS, (((ts ++ [Tk.mk 4 0 ⟨#[60]⟩]) ++ us) ++ [Tk.mk 4 0 ⟨#[38]⟩]) ++ us2 ++ [Tk.mk 4 0 ⟨#[62]⟩] = RS := ⟨_, rfl⟩
  rw [hRS]
  have E1 := hide (fun ts1 (h : (ts ++ [Tk.mk 4 0 ⟨#[60]⟩]) ++ us = ts1) ts2 (h2 : (ts1 ++ [Tk.mk 4 0 ⟨#[38]⟩]) ++ us2 = ts2) => (show ts2 ++ [Tk.mk 4 0 ⟨#[62]⟩] = RS by rw [← hRS, h, h2]))
  clear hT h1 h2 ho hRS
  go_enter Tryd.func60, Tryd.ntmps60
  go_wp2_with fail
  refine (unhide PT).mono ?_
  rintro r w1 ⟨gp, rfl, hgp, hb1⟩
  have O1 := hide ((unhide O0).later hb1)
  have D1 := hide (hb1.mono hB)
  have P1 := hide (KpT.of hb1)
  have G1 := hide hgp
  have c0 := Lib.cell_of_heap hgp 0
  clear hb1 hgp O0 PT
  go_wp2
  refine wp_loop_rounds 3 ?_
  rw [rounds_succ]
  go_wp2_with fail
  refine (markI_any ⟨#[60]⟩ w1).mono ?_
  rintro r w2 ⟨rfl, hb2⟩
  have O2 := hide ((unhide O1).later hb2)
  have D2 := hide ((unhide D1).trans (hb2.mono (Nat.le_trans hB (unhide D1).size)))
  have P2 := hide ((unhide P1).trans (KpT.of hb2))
  have G2 := hide (KpT.of hb2 _ _ _ _ (unhide G1) (by decide))
  clear hb2 O1 D1 P1 G1 c0
  unfold Tk.v Tk.cs
  go_wp2_with (first | (at_builtin; go_must (refine wpList_append_own _ rfl (.tmp 62) (.tmp 65) 70 rfl B 91 i0 (.agg #[.int .i64 0, .int .i64 0, .string ⟨#[]⟩]) 3 32 Tryd.underlying70 hi hz0 hz1 hz2 rfl (by decide) v (ts).length (cellsT (ts)) rfl (World.ownsRow.alloc (unhide O2) _) ⟨w2.heap.size, 0, none⟩ 1 1 [.int .i64 4, .int .i64 0, .string ⟨#[60]⟩] rfl rfl (cell_new w2 #[.int .i64 4, .int .i64 0, .string ⟨#[60]⟩] 91) (newT_one _ _ _) (by unfold maxLen; (try simp only [List.length_append, List.length_cons, List.length_nil]); omega) (by (try simp only [List.length_append, List.length_cons, List.length_nil]); omega) (by have := (unhide D2).size; simp; omega) ?_; intro v3 w3 hown3 hgrow3 _; have O3 := hide (ownT_app (t := ⟨4, 0, ⟨#[60]⟩⟩) hown3); have D3 := hide (((unhide D2).alloc (Nat.le_trans hB (unhide D2).size) (.cells #[.int .i64 4, .int .i64 0, .string ⟨#[60]⟩] 91)).grown hgrow3 (by have := (unhide D2).size; simp; omega) (fun g hg => ((unhide O2).lt hg).1)); have P3 := hide ((KpT.of (below_new w2 (.cells #[.int .i64 4, .int .i64 0, .string ⟨#[60]⟩] 91))).trans (KpT.own (B := B) (ts := ts) (World.ownsRow.alloc (unhide O2) _) hgrow3)); clear hown3 hgrow3; have Q3 := hide ((unhide P2).trans (unhide P3)); have G3 := hide (unhide P3 _ _ _ _ (unhide G2) (by decide)); have A3 := hide (unhide H1 (ts ++ [⟨4, 0, ⟨#[60]⟩⟩]) v3 w3 (unhide O3) (Nat.le_trans hB (unhide D3).size) (by simp only [List.length_append, List.length_cons, List.length_nil]; omega) ((unhide HT).later (unhide D3) hs)))) | (go_at_call 60; refine (unhide A3).mono ?_; rintro r w4 ⟨v4, rfl, o4, hb4, hp4⟩))
  have O4 := hide o4
  have D4 := hide ((unhide D3).trans hb4)
  have P4 := hide ((unhide Q3).trans hp4)
  have G4 := hide (hp4 _ _ _ _ (unhide G3) (by decide))
  have T4 := unhide SG w4 ((unhide HT).later (unhide D4) hs)
  have c1 := Lib.cell_of_heap (unhide G4) 1
  clear o4 hb4 hp4 O3 D3 P3 Q3 G3 A3 O2 D2 P2 G2
  have l4 : ((ts ++ [Tk.mk 4 0 ⟨#[60]⟩]) ++ us).length = ts.length + 1 + us.length := by simp only [List.length_append, List.length_cons, List.length_nil]
  generalize hts1 : (ts ++ [Tk.mk 4 0 ⟨#[60]⟩]) ++ us = ts1 at *
  have E2 := hide (unhide E1 ts1 (by first | rfl | exact hts1))
  clear E1 hts1
  rw [rounds_succ]
  go_wp2_with (first | (go_at_call 71; refine (unhide KD _).mono ?_; rintro r w' ⟨rfl, hw'⟩; rw [hw']; clear hw' w') | (go_at_call 61; refine (markI_any ⟨#[38]⟩ w4).mono ?_; rintro r w5 ⟨rfl, hb5⟩; have O5 := hide ((unhide O4).later hb5); have D5 := hide ((unhide D4).trans (hb5.mono (Nat.le_trans hB (unhide D4).size))); have P5 := hide ((unhide P4).trans (KpT.of hb5)); have G5 := hide (KpT.of hb5 _ _ _ _ (unhide G4) (by decide)); clear hb5; unfold Tk.v Tk.cs) | (at_builtin; go_must (refine wpList_append_own _ rfl (.tmp 62) (.tmp 65) 70 rfl B 91 i0 (.agg #[.int .i64 0, .int .i64 0, .string ⟨#[]⟩]) 3 32 Tryd.underlying70 hi hz0 hz1 hz2 rfl (by decide) v4 (ts1).length (cellsT (ts1)) rfl (World.ownsRow.alloc (unhide O5) _) ⟨w5.heap.size, 0, none⟩ 1 1 [.int .i64 4, .int .i64 0, .string ⟨#[38]⟩] rfl rfl (cell_new w5 #[.int .i64 4, .int .i64 0, .string ⟨#[38]⟩] 91) (newT_one _ _ _) (by unfold maxLen; (try simp only [List.length_append, List.length_cons, List.length_nil]); omega) (by (try simp only [List.length_append, List.length_cons, List.length_nil]); omega) (by have := (unhide D5).size; simp; omega) ?_; intro v6 w6 hown6 hgrow6 _; have O6 := hide (ownT_app (t := ⟨4, 0, ⟨#[38]⟩⟩) hown6); have D6 := hide (((unhide D5).alloc (Nat.le_trans hB (unhide D5).size) (.cells #[.int .i64 4, .int .i64 0, .string ⟨#[38]⟩] 91)).grown hgrow6 (by have := (unhide D5).size; simp; omega) (fun g hg => ((unhide O5).lt hg).1)); have P6 := hide ((KpT.of (below_new w5 (.cells #[.int .i64 4, .int .i64 0, .string ⟨#[38]⟩] 91))).trans (KpT.own (B := B) (ts := ts1) (World.ownsRow.alloc (unhide O5) _) hgrow6)); clear hown6 hgrow6; have Q6 := hide ((unhide P5).trans (unhide P6)); have G6 := hide (unhide P6 _ _ _ _ (unhide G5) (by decide)); have A6 := hide (unhide H2 (ts1 ++ [⟨4, 0, ⟨#[38]⟩⟩]) v6 w6 (unhide O6) (Nat.le_trans hB (unhide D6).size) (by simp only [List.length_append, List.length_cons, List.length_nil]; omega) ((unhide HT).later (unhide D6) hs)))) | (go_at_call 60; refine (unhide A6).mono ?_; rintro r w7 ⟨v7, rfl, o7, hb7, hp7⟩))
  have O7 := hide o7
  have D7 := hide ((unhide D6).trans hb7)
  have P7 := hide ((unhide Q6).trans hp7)
  clear o7 hb7 hp7 O6 D6 P6 Q6 G6 A6 T4 c1 G4 O5 D5 P5 G5 O4 D4 P4
  have l7 : ((ts1 ++ [Tk.mk 4 0 ⟨#[38]⟩]) ++ us2).length = ts1.length + 1 + us2.length := by simp only [List.length_append, List.length_cons, List.length_nil]
  generalize hts2 : (ts1 ++ [Tk.mk 4 0 ⟨#[38]⟩]) ++ us2 = ts2 at *
  have E3 := hide (unhide E2 ts2 (by first | rfl | exact hts2))
  clear E2 hts2
  rw [rounds_succ]
  go_wp2_with fail
  refine (markI_any ⟨#[62]⟩ w7).mono ?_
  rintro r w8 ⟨rfl, hb8⟩
  have O8 := hide ((unhide O7).later hb8)
  have D8 := hide ((unhide D7).trans (hb8.mono (Nat.le_trans hB (unhide D7).size)))
  have P8 := hide ((unhide P7).trans (KpT.of hb8))
  clear hb8 O7 D7 P7
  unfold Tk.v Tk.cs
  go_wp2_with (at_builtin; go_must (refine wpList_append_own _ rfl (.tmp 70) (.tmp 72) 70 rfl B 91 i0 (.agg #[.int .i64 0, .int .i64 0, .string ⟨#[]⟩]) 3 32 Tryd.underlying70 hi hz0 hz1 hz2 rfl (by decide) v7 (ts2).length (cellsT (ts2)) rfl (World.ownsRow.alloc (unhide O8) _) ⟨w8.heap.size, 0, none⟩ 1 1 [.int .i64 4, .int .i64 0, .string ⟨#[62]⟩] rfl rfl (cell_new w8 #[.int .i64 4, .int .i64 0, .string ⟨#[62]⟩] 91) (newT_one _ _ _) (by unfold maxLen; (try simp only [List.length_append, List.length_cons, List.length_nil]); omega) (by (try simp only [List.length_append, List.length_cons, List.length_nil]); omega) (by have := (unhide D8).size; simp; omega) ?_; intro v9 w9 hown9 hgrow9 _; have O9 := hide (ownT_app (t := ⟨4, 0, ⟨#[62]⟩⟩) hown9); have D9 := hide (((unhide D8).alloc (Nat.le_trans hB (unhide D8).size) (.cells #[.int .i64 4, .int .i64 0, .string ⟨#[62]⟩] 91)).grown hgrow9 (by have := (unhide D8).size; simp; omega) (fun g hg => ((unhide O8).lt hg).1)); have P9 := hide ((KpT.of (below_new w8 (.cells #[.int .i64 4, .int .i64 0, .string ⟨#[62]⟩] 91))).trans (KpT.own (B := B) (ts := ts2) (World.ownsRow.alloc (unhide O8) _) hgrow9)); clear hown9 hgrow9))
  go_ret
  rw [unhide E3] at O9
  exact ⟨_, rfl, unhide O9, unhide D9, (unhide P8).trans (unhide P9)⟩
set_option maxHeartbeats 8000000 in
theorem put_or (t u : TypeId) (x y : Value) (B L M : Nat) (us : List Tk) (h1 : ∀ (ts : List Tk) (v : Value) (w : World), OwnT w B v ts → B ≤ w.heap.size → ts.length ≤ (L + 1) → TabG w → Calls Tryd.prog 60 #[v, .iface t x] w fun r w' => ∃ v', r = .returned v' ∧ OwnT w' B v' (ts ++ us) ∧ Below B w w' ∧ KpT w w') (hus : us.length ≤ M) (us2 : List Tk) (h2 : ∀ (ts : List Tk) (v : Value) (w : World), OwnT w B v ts → B ≤ w.heap.size → ts.length ≤ (L + M + 2) → TabG w → Calls Tryd.prog 60 #[v, .iface u y] w fun r w' => ∃ v', r = .returned v' ∧ OwnT w' B v' (ts ++ us2) ∧ Below B w w' ∧ KpT w w') (hus2 : us2.length ≤ M) (hLM : L + 2 * M + 3 ≤ 500) (ts : List Tk) (v : Value) (w : World) (ho : OwnT w B v ts) (hB : B ≤ w.heap.size) (hl : ts.length ≤ L) (hT : TabG w) (hs : 2 < B) : Calls Tryd.prog 60 #[v, .iface 143 (.agg #[.iface t x, .iface u y])] w fun r w' => ∃ v', r = .returned v' ∧ OwnT w' B v' ((((ts ++ [⟨4, 0, ⟨#[60]⟩⟩]) ++ us) ++ [⟨4, 0, ⟨#[124]⟩⟩]) ++ us2 ++ [⟨4, 0, ⟨#[62]⟩⟩]) ∧ Below B w w' ∧ KpT w w' := by
  obtain ⟨i0, hi, hz0, hz1, hz2⟩ := info_parts infoT
  have t0 := taN_num 143 (.agg #[.iface t x, .iface u y]) (by decide)
  have t1 := taN_sym 143 (.agg #[.iface t x, .iface u y]) (by decide)
  have t2 := taN_here 143 (.agg #[.iface t x, .iface u y]) (by decide)
  have t3 := taN_neg 143 (.agg #[.iface t x, .iface u y]) (by decide)
  have m := me_or (.iface t x) (.iface u y)
  have PT := hide (parts2 t u x y w)
  have KD := hide (fun w => kind_or 0 E0 t u x y w)
  have SG := hide (fun w1 (h : TabG w1) => (show w1.cell? ⟨2, 10, none⟩ = some (.string ⟨#[124]⟩) by obtain ⟨t, fr, h⟩ := h; exact Lib.cell_of_heap h 10))
  have HT := hide hT
  have H1 := hide h1
  have H2 := hide h2
  have O0 := hide ho
  obtain ⟨RS, hRS⟩ : ∃ RS, (((ts ++ [Tk.mk 4 0 ⟨#[60]⟩]) ++ us) ++ [Tk.mk 4 0 ⟨#[124]⟩]) ++ us2 ++ [Tk.mk 4 0 ⟨#[62]⟩] = RS := ⟨_, rfl⟩
  rw [hRS]
  have E1 := hide (fun ts1 (h : (ts ++ [Tk.mk 4 0 ⟨#[60]⟩]) ++ us = ts1) ts2 (h2 : (ts1 ++ [Tk.mk 4 0 ⟨#[124]⟩]) ++ us2 = ts2) => (show ts2 ++ [Tk.mk 4 0 ⟨#[62]⟩] = RS by rw [← hRS, h, h2]))
  clear hT h1 h2 ho hRS
  go_enter Tryd.func60, Tryd.ntmps60
  go_wp2_with fail
  refine (unhide PT).mono ?_
  rintro r w1 ⟨gp, rfl, hgp, hb1⟩
  have O1 := hide ((unhide O0).later hb1)
  have D1 := hide (hb1.mono hB)
  have P1 := hide (KpT.of hb1)
  have G1 := hide hgp
  have c0 := Lib.cell_of_heap hgp 0
  clear hb1 hgp O0 PT
  go_wp2
  refine wp_loop_rounds 3 ?_
  rw [rounds_succ]
  go_wp2_with fail
  refine (markI_any ⟨#[60]⟩ w1).mono ?_
  rintro r w2 ⟨rfl, hb2⟩
  have O2 := hide ((unhide O1).later hb2)
  have D2 := hide ((unhide D1).trans (hb2.mono (Nat.le_trans hB (unhide D1).size)))
  have P2 := hide ((unhide P1).trans (KpT.of hb2))
  have G2 := hide (KpT.of hb2 _ _ _ _ (unhide G1) (by decide))
  clear hb2 O1 D1 P1 G1 c0
  unfold Tk.v Tk.cs
  go_wp2_with (first | (at_builtin; go_must (refine wpList_append_own _ rfl (.tmp 62) (.tmp 65) 70 rfl B 91 i0 (.agg #[.int .i64 0, .int .i64 0, .string ⟨#[]⟩]) 3 32 Tryd.underlying70 hi hz0 hz1 hz2 rfl (by decide) v (ts).length (cellsT (ts)) rfl (World.ownsRow.alloc (unhide O2) _) ⟨w2.heap.size, 0, none⟩ 1 1 [.int .i64 4, .int .i64 0, .string ⟨#[60]⟩] rfl rfl (cell_new w2 #[.int .i64 4, .int .i64 0, .string ⟨#[60]⟩] 91) (newT_one _ _ _) (by unfold maxLen; (try simp only [List.length_append, List.length_cons, List.length_nil]); omega) (by (try simp only [List.length_append, List.length_cons, List.length_nil]); omega) (by have := (unhide D2).size; simp; omega) ?_; intro v3 w3 hown3 hgrow3 _; have O3 := hide (ownT_app (t := ⟨4, 0, ⟨#[60]⟩⟩) hown3); have D3 := hide (((unhide D2).alloc (Nat.le_trans hB (unhide D2).size) (.cells #[.int .i64 4, .int .i64 0, .string ⟨#[60]⟩] 91)).grown hgrow3 (by have := (unhide D2).size; simp; omega) (fun g hg => ((unhide O2).lt hg).1)); have P3 := hide ((KpT.of (below_new w2 (.cells #[.int .i64 4, .int .i64 0, .string ⟨#[60]⟩] 91))).trans (KpT.own (B := B) (ts := ts) (World.ownsRow.alloc (unhide O2) _) hgrow3)); clear hown3 hgrow3; have Q3 := hide ((unhide P2).trans (unhide P3)); have G3 := hide (unhide P3 _ _ _ _ (unhide G2) (by decide)); have A3 := hide (unhide H1 (ts ++ [⟨4, 0, ⟨#[60]⟩⟩]) v3 w3 (unhide O3) (Nat.le_trans hB (unhide D3).size) (by simp only [List.length_append, List.length_cons, List.length_nil]; omega) ((unhide HT).later (unhide D3) hs)))) | (go_at_call 60; refine (unhide A3).mono ?_; rintro r w4 ⟨v4, rfl, o4, hb4, hp4⟩))
  have O4 := hide o4
  have D4 := hide ((unhide D3).trans hb4)
  have P4 := hide ((unhide Q3).trans hp4)
  have G4 := hide (hp4 _ _ _ _ (unhide G3) (by decide))
  have T4 := unhide SG w4 ((unhide HT).later (unhide D4) hs)
  have c1 := Lib.cell_of_heap (unhide G4) 1
  clear o4 hb4 hp4 O3 D3 P3 Q3 G3 A3 O2 D2 P2 G2
  have l4 : ((ts ++ [Tk.mk 4 0 ⟨#[60]⟩]) ++ us).length = ts.length + 1 + us.length := by simp only [List.length_append, List.length_cons, List.length_nil]
  generalize hts1 : (ts ++ [Tk.mk 4 0 ⟨#[60]⟩]) ++ us = ts1 at *
  have E2 := hide (unhide E1 ts1 (by first | rfl | exact hts1))
  clear E1 hts1
  rw [rounds_succ]
  go_wp2_with (first | (go_at_call 71; refine (unhide KD _).mono ?_; rintro r w' ⟨rfl, hw'⟩; rw [hw']; clear hw' w') | (go_at_call 61; refine (markI_any ⟨#[124]⟩ w4).mono ?_; rintro r w5 ⟨rfl, hb5⟩; have O5 := hide ((unhide O4).later hb5); have D5 := hide ((unhide D4).trans (hb5.mono (Nat.le_trans hB (unhide D4).size))); have P5 := hide ((unhide P4).trans (KpT.of hb5)); have G5 := hide (KpT.of hb5 _ _ _ _ (unhide G4) (by decide)); clear hb5; unfold Tk.v Tk.cs) | (at_builtin; go_must (refine wpList_append_own _ rfl (.tmp 62) (.tmp 65) 70 rfl B 91 i0 (.agg #[.int .i64 0, .int .i64 0, .string ⟨#[]⟩]) 3 32 Tryd.underlying70 hi hz0 hz1 hz2 rfl (by decide) v4 (ts1).length (cellsT (ts1)) rfl (World.ownsRow.alloc (unhide O5) _) ⟨w5.heap.size, 0, none⟩ 1 1 [.int .i64 4, .int .i64 0, .string ⟨#[124]⟩] rfl rfl (cell_new w5 #[.int .i64 4, .int .i64 0, .string ⟨#[124]⟩] 91) (newT_one _ _ _) (by unfold maxLen; (try simp only [List.length_append, List.length_cons, List.length_nil]); omega) (by (try simp only [List.length_append, List.length_cons, List.length_nil]); omega) (by have := (unhide D5).size; simp; omega) ?_; intro v6 w6 hown6 hgrow6 _; have O6 := hide (ownT_app (t := ⟨4, 0, ⟨#[124]⟩⟩) hown6); have D6 := hide (((unhide D5).alloc (Nat.le_trans hB (unhide D5).size) (.cells #[.int .i64 4, .int .i64 0, .string ⟨#[124]⟩] 91)).grown hgrow6 (by have := (unhide D5).size; simp; omega) (fun g hg => ((unhide O5).lt hg).1)); have P6 := hide ((KpT.of (below_new w5 (.cells #[.int .i64 4, .int .i64 0, .string ⟨#[124]⟩] 91))).trans (KpT.own (B := B) (ts := ts1) (World.ownsRow.alloc (unhide O5) _) hgrow6)); clear hown6 hgrow6; have Q6 := hide ((unhide P5).trans (unhide P6)); have G6 := hide (unhide P6 _ _ _ _ (unhide G5) (by decide)); have A6 := hide (unhide H2 (ts1 ++ [⟨4, 0, ⟨#[124]⟩⟩]) v6 w6 (unhide O6) (Nat.le_trans hB (unhide D6).size) (by simp only [List.length_append, List.length_cons, List.length_nil]; omega) ((unhide HT).later (unhide D6) hs)))) | (go_at_call 60; refine (unhide A6).mono ?_; rintro r w7 ⟨v7, rfl, o7, hb7, hp7⟩))
  have O7 := hide o7
  have D7 := hide ((unhide D6).trans hb7)
  have P7 := hide ((unhide Q6).trans hp7)
  clear o7 hb7 hp7 O6 D6 P6 Q6 G6 A6 T4 c1 G4 O5 D5 P5 G5 O4 D4 P4
  have l7 : ((ts1 ++ [Tk.mk 4 0 ⟨#[124]⟩]) ++ us2).length = ts1.length + 1 + us2.length := by simp only [List.length_append, List.length_cons, List.length_nil]
  generalize hts2 : (ts1 ++ [Tk.mk 4 0 ⟨#[124]⟩]) ++ us2 = ts2 at *
  have E3 := hide (unhide E2 ts2 (by first | rfl | exact hts2))
  clear E2 hts2
  rw [rounds_succ]
  go_wp2_with fail
  refine (markI_any ⟨#[62]⟩ w7).mono ?_
  rintro r w8 ⟨rfl, hb8⟩
  have O8 := hide ((unhide O7).later hb8)
  have D8 := hide ((unhide D7).trans (hb8.mono (Nat.le_trans hB (unhide D7).size)))
  have P8 := hide ((unhide P7).trans (KpT.of hb8))
  clear hb8 O7 D7 P7
  unfold Tk.v Tk.cs
  go_wp2_with (at_builtin; go_must (refine wpList_append_own _ rfl (.tmp 70) (.tmp 72) 70 rfl B 91 i0 (.agg #[.int .i64 0, .int .i64 0, .string ⟨#[]⟩]) 3 32 Tryd.underlying70 hi hz0 hz1 hz2 rfl (by decide) v7 (ts2).length (cellsT (ts2)) rfl (World.ownsRow.alloc (unhide O8) _) ⟨w8.heap.size, 0, none⟩ 1 1 [.int .i64 4, .int .i64 0, .string ⟨#[62]⟩] rfl rfl (cell_new w8 #[.int .i64 4, .int .i64 0, .string ⟨#[62]⟩] 91) (newT_one _ _ _) (by unfold maxLen; (try simp only [List.length_append, List.length_cons, List.length_nil]); omega) (by (try simp only [List.length_append, List.length_cons, List.length_nil]); omega) (by have := (unhide D8).size; simp; omega) ?_; intro v9 w9 hown9 hgrow9 _; have O9 := hide (ownT_app (t := ⟨4, 0, ⟨#[62]⟩⟩) hown9); have D9 := hide (((unhide D8).alloc (Nat.le_trans hB (unhide D8).size) (.cells #[.int .i64 4, .int .i64 0, .string ⟨#[62]⟩] 91)).grown hgrow9 (by have := (unhide D8).size; simp; omega) (fun g hg => ((unhide O8).lt hg).1)); have P9 := hide ((KpT.of (below_new w8 (.cells #[.int .i64 4, .int .i64 0, .string ⟨#[62]⟩] 91))).trans (KpT.own (B := B) (ts := ts2) (World.ownsRow.alloc (unhide O8) _) hgrow9)); clear hown9 hgrow9))
  go_ret
  rw [unhide E3] at O9
  exact ⟨_, rfl, unhide O9, unhide D9, (unhide P8).trans (unhide P9)⟩
theorem put_all : ∀ d : Nat, d ≤ 6 → PutP d := by
  intro d
  induction d with
  | zero => intro _ e ts v B w h; cases h
  | succ d ih =>
    intro hd e ts v B w h ho hB hl hT hs
    have ihd := ih (by omega)
    rw [mxT] at hl
    rcases plain_cases h with ⟨n, hn, rfl⟩ | ⟨s, hs, rfl⟩ | rfl | ⟨a, ha, rfl⟩ | ⟨k, a, b, hk, ha, hb, rfl⟩
    · rw [tv_num, toks_num]; exact put_num n ts v B w ho hB (by omega)
    · rw [tv_sym, toks_sym]; exact put_sym s ts v B w ho hB (by omega)
    · rw [tv_here, toks_here]; exact put_here ts v B w ho hB (by omega)
    · obtain ⟨t, x, e1⟩ := tv_if a
      have h1 := fun ts v w ho hB hl hT => ihd a ts v B w ha ho hB hl hT hs
      rw [e1] at h1
      rw [tv_neg, e1, toks_neg]
      have hm := (toks_ok d a ha).2
      have R := put_neg t x B ts.length (by omega) (toksF d a) (fun ts' v w ho hB hl hT => h1 ts' v w ho hB (by omega) hT) ts v w ho hB (Nat.le_refl _) hT hs
      rw [List.append_assoc] at R
      exact R
    · obtain ⟨t, x, e1⟩ := tv_if a
      obtain ⟨u, y, e2⟩ := tv_if b
      have h1 := fun ts v w ho hB hl hT => ihd a ts v B w ha ho hB hl hT hs
      have h2 := fun ts v w ho hB hl hT => ihd b ts v B w hb ho hB hl hT hs
      rw [e1] at h1
      rw [e2] at h2
      rw [tv_two hk, e1, e2, toks_two d hk]
      have hm1 := (toks_ok d a ha).2
      have hm2 := (toks_ok d b hb).2
      have hx := mxT_le d (by omega)
      have F1 := fun (ts' : List Tk) v w ho hB (hl : ts'.length ≤ ts.length + 1) hT => h1 ts' v w ho hB (by omega) hT
      have F2 := fun (ts' : List Tk) v w ho hB (hl : ts'.length ≤ ts.length + mxT d + 2) hT => h2 ts' v w ho hB (by omega) hT
      have : k = 5 ∨ k = 6 ∨ k = 7 ∨ k = 8 ∨ k = 9 ∨ k = 10 := by omega
      rcases this with rfl | rfl | rfl | rfl | rfl | rfl
      · have R := put_add t u x y B ts.length (mxT d) (toksF d a) F1 hm1 (toksF d b) F2 hm2 (by omega) ts v w ho hB (Nat.le_refl _) hT hs
        simp only [List.append_assoc, List.cons_append, List.nil_append] at R
        exact R
      · have R := put_sub t u x y B ts.length (mxT d) (toksF d a) F1 hm1 (toksF d b) F2 hm2 (by omega) ts v w ho hB (Nat.le_refl _) hT hs
        simp only [List.append_assoc, List.cons_append, List.nil_append] at R
        exact R
      · have R := put_mul t u x y B ts.length (mxT d) (toksF d a) F1 hm1 (toksF d b) F2 hm2 (by omega) ts v w ho hB (Nat.le_refl _) hT hs
        simp only [List.append_assoc, List.cons_append, List.nil_append] at R
        exact R
      · have R := put_div t u x y B ts.length (mxT d) (toksF d a) F1 hm1 (toksF d b) F2 hm2 (by omega) ts v w ho hB (Nat.le_refl _) hT hs
        simp only [List.append_assoc, List.cons_append, List.nil_append] at R
        exact R
      · have R := put_and t u x y B ts.length (mxT d) (toksF d a) F1 hm1 (toksF d b) F2 hm2 (by omega) ts v w ho hB (Nat.le_refl _) hT hs
        simp only [List.append_assoc, List.cons_append, List.nil_append] at R
        exact R
      · have R := put_or t u x y B ts.length (mxT d) (toksF d a) F1 hm1 (toksF d b) F2 hm2 (by omega) ts v w ho hB (Nat.le_refl _) hT hs
        simp only [List.append_assoc, List.cons_append, List.nil_append] at R
        exact R
end Go.Proofs.YtmhcbehplhfgfaaDoor
