/- Words, numbers and copies of texts by the program; what its Lex leans on; over this seat's translation; conditions stand as hypotheses of each. -/
import Derived.Test.YthgbpofcfmnpdaaDoorLxC
namespace Go.Proofs.YthgbpofcfmnpdaaDoor
open Go.ChangeShapes Go.WideShapes Go.ChangeAt Go.RowKit
set_option linter.unusedVariables false
set_option maxRecDepth 8000

/-- What the program's reading leans on: its tables, the library's table and sentinels. -/
structure Env (w : World) : Prop where
  tab : TabK w
  db : w.cell? ⟨8, 7, none⟩ = some (.int .u8 3)
  es : ∃ t p, w.cell? ⟨5, 0, none⟩ = some (.iface t p)
  er : ∃ t p, w.cell? ⟨6, 0, none⟩ = some (.iface t p)
theorem Env.later {w w' : World} (h : Env w) (hb : Below w.heap.size w w') : Env w' := by
  obtain ⟨h1, h2, ⟨t, p, h3⟩, ⟨t', p', h4⟩⟩ := h
  exact ⟨h1.next hb, (hb.cell (p := ⟨8, 7, none⟩) (World.block_lt_of_cell? w _ h2)).trans h2, ⟨t, p, (hb.cell (p := ⟨5, 0, none⟩) (World.block_lt_of_cell? w _ h3)).trans h3⟩, ⟨t', p', (hb.cell (p := ⟨6, 0, none⟩) (World.block_lt_of_cell? w _ h4)).trans h4⟩⟩
theorem cloneI_any (s : ByteArray) (w : World) (hlim : s.size ≤ 1099511627776) : Calls Tryd.prog 44 #[.string s] w fun e w' => e = .returned (.string s) ∧ Below w.heap.size w w' := by
  have H := hide (clone_any s w (by omega))
  go_enter Tryd.func44, Tryd.ntmps44
  go_wp2_with fail
  refine (unhide H).mono ?_
  rintro e w1 ⟨rfl, hb1⟩
  go_wp2
  go_ret
  exact ⟨rfl, hb1⟩
set_option maxHeartbeats 1000000 in
theorem wordI_any (x : ByteArray) (w : World) (ht : TabK w) : Calls Tryd.prog 42 #[.string x] w fun e w' => e = .returned (wordT x).v ∧ Below w.heap.size w w' := by
  have WT := hide (wordT_v x)
  have B0 := hide (below_new w (.cells T0c 31))
  have R0 := hide (heap_alloc_new w (.cells T0c 31))
  have HK := hide (keptI_any x (w.alloc (.cells T0c 31)) (ht.next (unhide B0)))
  unfold T0c at B0 R0 HK
  generalize keptB x = q at *
  clear ht
  cases q
  · have W1 := hide ((unhide WT).2 rfl)
    rw [unhide W1]
    unfold Tk.v Tk.cs
    simp only
    clear WT
    go_enter Tryd.func42, Tryd.ntmps42
    go_wp2_with (first | (go_at_call 61; refine (unhide HK).mono ?_; rintro e w' ⟨rfl, hw'⟩; rw [hw']; clear hw' w') | (refine wpList_store_row rfl 31 _ _ rfl w.heap.size #[.int .i64 1, .int .i64 0, .string x] rfl rfl 31 _ (unhide R0) szK rfl (tk_one _ _ _) ?_))
    refine bodyPost_ret (results_cell_row (P := Tryd.prog) rfl _ _ w.heap.size 31 #[.int .i64 1, .int .i64 0, .string x] (0, 0) _ rfl (setRow_heap _ _ _ _ _ _ (unhide R0)) Tryd.underlying31 rfl szK) rfl ?_
    exact ⟨rfl, below_row (unhide B0)⟩
  · have W1 := hide ((unhide WT).1 rfl)
    rw [unhide W1]
    unfold Tk.v Tk.cs
    simp only
    clear WT
    go_enter Tryd.func42, Tryd.ntmps42
    go_wp2_with (first | (go_at_call 61; refine (unhide HK).mono ?_; rintro e w' ⟨rfl, hw'⟩; rw [hw']; clear hw' w') | (refine wpList_store_row rfl 31 _ _ rfl w.heap.size #[.int .i64 5, .int .i64 0, .string x] rfl rfl 31 _ (unhide R0) szK rfl (tk_one _ _ _) ?_))
    refine bodyPost_ret (results_cell_row (P := Tryd.prog) rfl _ _ w.heap.size 31 #[.int .i64 5, .int .i64 0, .string x] (0, 0) _ rfl (setRow_heap _ _ _ _ _ _ (unhide R0)) Tryd.underlying31 rfl szK) rfl ?_
    exact ⟨rfl, below_row (unhide B0)⟩
theorem num_dec (x : ByteArray) : (∃ m, m < 65536 ∧ x = strOf (octD m)) ∨ ∀ m, m < 65536 → x ≠ strOf (octD m) := by
  cases h : numV x with
  | some m => exact .inl ⟨m, numV_bd h⟩
  | none => exact .inr fun m hm e => by rw [numV_yes hm e] at h; cases h
set_option maxHeartbeats 1000000 in
theorem numI_any (x : ByteArray) (w : World) (hx : x.size ≤ 1099511627776) (he : Env w) : Calls Tryd.prog 43 #[.string x] w fun e w' => e = .returned (numT badI x).v ∧ Below w.heap.size w w' := by
  have B0 := hide (below_new w (.cells T0c 31))
  have R0 := hide (heap_alloc_new w (.cells T0c 31))
  have Z0 := hide (show w.heap.size ≤ (w.alloc (.cells T0c 31)).heap.size by simp)
  obtain ⟨_, db, ⟨t1, p1, e1⟩, ⟨t2, p2, e2⟩⟩ := he.later (unhide B0)
  rcases num_dec x with ⟨m, hm, hxm⟩ | hno
  · have PO := hide (poI_yes m hm t1 t2 p1 p2 _ e1 e2 db)
    have ET := hide (numT_some (bad := badI) hm hxm)
    rw [← hxm] at PO
    unfold T0c at B0 R0 Z0 PO
    generalize numT badI x = T at *
    clear hxm e1 e2 db
    go_enter Tryd.func43, Tryd.ntmps43
    go_wp2_with fail
    generalize w.alloc (Obj.cells #[.int .i64 0, .int .i64 0, .string ⟨#[]⟩] 31) = W at *
    refine (unhide PO).mono ?_
    rintro e w1 ⟨rfl, hb1⟩
    have R1 := hide ((hb1.block _ (Array.getElem?_eq_some_iff.1 (unhide R0)).1).trans (unhide R0))
    have B1 := hide ((unhide B0).trans (hb1.mono (unhide Z0)))
    clear hb1 PO R0
    go_wp2_with (first | (refine wpList_store_row rfl 31 _ _ rfl w.heap.size #[.int .i64 2, .int .i64 m, .string ⟨#[]⟩] rfl rfl 31 _ (unhide R1) szK rfl (tk_one _ _ _) ?_))
    refine bodyPost_ret (results_cell_row (P := Tryd.prog) rfl _ _ w.heap.size 31 #[.int .i64 2, .int .i64 m, .string ⟨#[]⟩] (0, 0) _ rfl (setRow_heap _ _ _ _ _ _ (unhide R1)) Tryd.underlying31 rfl szK) rfl ?_
    exact ⟨by rw [unhide ET]; rfl, below_row (unhide B1)⟩
  · have PO := hide (poI_no x hno hx t1 t2 p1 p2 _ e1 e2 db)
    have ET := hide (numT_none (bad := badI) hno)
    unfold T0c at B0 R0 Z0 PO
    generalize numT badI x = T at *
    clear hno e1 e2 db
    go_enter Tryd.func43, Tryd.ntmps43
    go_wp2_with fail
    generalize w.alloc (Obj.cells #[.int .i64 0, .int .i64 0, .string ⟨#[]⟩] 31) = W at *
    refine (unhide PO).mono ?_
    rintro e w1 ⟨rfl, hb1⟩
    have R1 := hide ((hb1.block _ (Array.getElem?_eq_some_iff.1 (unhide R0)).1).trans (unhide R0))
    have B1 := hide ((unhide B0).trans (hb1.mono (unhide Z0)))
    clear hb1 PO R0
    go_wp2_with (first | (refine wpList_store_row rfl 31 _ _ rfl w.heap.size #[.int .i64 0, .int .i64 0, .string ⟨#[]⟩] rfl rfl 31 _ (unhide R1) szK rfl (tk_one _ _ _) ?_))
    refine bodyPost_ret (results_cell_row (P := Tryd.prog) rfl _ _ w.heap.size 31 #[.int .i64 0, .int .i64 0, .string ⟨#[]⟩] (0, 0) _ rfl (setRow_heap _ _ _ _ _ _ (unhide R1)) Tryd.underlying31 rfl szK) rfl ?_
    exact ⟨by rw [unhide ET]; rfl, below_row (unhide B1)⟩
end Go.Proofs.YthgbpofcfmnpdaaDoor
