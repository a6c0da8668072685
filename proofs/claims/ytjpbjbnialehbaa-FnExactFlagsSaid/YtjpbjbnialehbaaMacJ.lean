/- Words at addresses: read by the program; over this seat's translation; conditions stand as hypotheses of each. -/
import Derived.Test.YtjpbjbnialehbaaMacI
namespace Go.Proofs.Ytjpbjbnialehbaa
open Go.ChangeShapes Go.WideShapes Go.ChangeAt Go.RowKit
set_option linter.unusedVariables false
set_option maxRecDepth 8000
set_option linter.unusedSimpArgs false

theorem nAt_laid {ns mem : List Int} {k : Nat} (h : k < 256) (hk : k < ns.length) : nAt (laidM ns mem) k = nAt ns k := by
  unfold nAt laidM
  rw [List.getD_eq_getElem?_getD, List.getD_eq_getElem?_getD, List.getElem?_append_left (by rw [List.length_take]; omega), List.getElem?_take, if_pos h]

set_option maxHeartbeats 1000000 in
theorem readI_any (x : Mv) (d : Md) (a : Int) (w : World) (hs : x.small) (hz : x.nz) (hr : RdM w x d) : Calls Try.prog 19 #[.agg x.cs, .int .i64 a] w fun e w' => e = .returned (.tuple #[.int .i64 (d.get a), .bool (d.has a)]) ∧ Below w.heap.size w w' := by
  have HB := hide (below_new w (.cells x.cs 38))
  have X := hide (hr.later (unhide HB))
  have R0 := hide (heap_alloc_last w (.cells x.cs 38))
  have H := hide (has_any x d a (w.alloc (.cells x.cs 38)) hr.ml hs.1)
  have HT := hide (has_t (d := d) (a := a))
  have S := hide hs
  have NZ := hide hz
  unfold Md.get
  clear hr hs hz
  generalize d.has a = q at H HT ⊢
  go_enter Try.func19, Try.ntmps19
  go_wp2_with (refine wpList_load_row rfl 38 _ rfl w.heap.size rfl 38 x.cs (0, 0) _ (unhide R0) Try.underlying38 rfl (by kernel_rfl) ?_)
  refine (unhide H).mono ?_
  rintro e w1 ⟨rfl, hb⟩
  have X1 := hide ((unhide X).later hb)
  have R1 := hide (row_lat (unhide R0) hb)
  have B1 := hide ((unhide HB).trans (hb.mono (by have := (unhide HB).size; omega)))
  clear hb X R0 HB H
  cases q
  · go_wp2
    go_ret2
    exact ⟨rfl, unhide B1⟩
  obtain ⟨ta, tl⟩ := unhide HT (by trivial)
  obtain ⟨t0, t1, _⟩ := adB_t ta
  clear HT ta
  have M := hide (machineOf_any x d w1 (unhide S) (unhide NZ) (unhide X1))
  go_wp2_with (refine wpList_load_row rfl 38 _ rfl w.heap.size rfl 38 x.cs (0, 0) _ (unhide R1) Try.underlying38 rfl (by kernel_rfl) ?_)
  refine (unhide M).mono ?_
  rintro e w2 ⟨y, rfl, fy, oy, hb⟩
  have B2 := hide (((unhide B1).trans (hb.mono (by have := (unhide B1).size; omega))).alloc (by have := hb.size; have := (unhide B1).size; omega) (.cells (bigA (laidM d.m z256) y) 69))
  have W2 := hide (word_at w2.heap.size a (laidM d.m z256) y (w2.alloc (.cells (bigA (laidM d.m z256) y) 69)) t0 (by omega) (laidM_len z256_len) (heap_alloc_last w2 _))
  have E : nAt (laidM d.m z256) (a / 2).toNat = nAt d.m (a / 2).toNat := nAt_laid (by omega) (by omega)
  rw [E] at W2
  clear hb fy oy M B1 E
  go_wp2_with (first | (refine wpList_alloc60 rfl rfl ?_) | (refine wpList_store60 rfl _ _ rfl (laidM d.m z256) y (laidM_len z256_len) rfl rfl ?_))
  refine (unhide W2).mono ?_
  rintro e w' ⟨rfl, rfl⟩
  go_wp2
  go_ret2
  exact ⟨by simp, unhide B2⟩
end Go.Proofs.Ytjpbjbnialehbaa
