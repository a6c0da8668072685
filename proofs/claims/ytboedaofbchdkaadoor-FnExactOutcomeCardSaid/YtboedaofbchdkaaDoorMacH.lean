/- The program's machine: made, answered, read and written; over this seat's translation; conditions stand as hypotheses of each. -/
import Derived.Test.YtboedaofbchdkaaDoorMacG
namespace Go.Proofs.YtboedaofbchdkaaDoor
open Go.ChangeShapes Go.WideShapes Go.ChangeAt Go.RowKit
set_option linter.unusedVariables false
set_option maxRecDepth 8000
set_option linter.unusedSimpArgs false

/-- While a machine is made: its box, the answer's place. -/
structure Mo (w wr : World) (x : Mv) : Prop where
  bx : wr.heap[w.heap.size]? = some (.cells x.cs 32 (0, 0))
  re : wr.heap[w.heap.size + 1]? = some (.cells (bigA z256 zMv) 55 (0, 0))
  bel : Below w.heap.size w wr
  sz : w.heap.size + 2 ≤ wr.heap.size
section
variable {w wr w' : World} {x : Mv}
theorem Mo.later (h : Mo w wr x) (hb : Below wr.heap.size wr w') : Mo w w' x :=
  ⟨row_lat h.bx hb, row_lat h.re hb, h.bel.trans (hb.mono (by have := h.bel.size; omega)), Nat.le_trans h.sz hb.size⟩
theorem Mo.past {g : Nat} (h : Mo w wr x) (hg : wr.grownBy w' (some g)) (hB : w.heap.size + 2 ≤ g) : Mo w w' x :=
  ⟨(hg.block _ (row_lt h.bx) (by simp; omega)).trans h.bx, (hg.block _ (row_lt h.re) (by simp; omega)).trans h.re, h.bel.grown hg h.bel.size (fun k e => by cases e; omega), Nat.le_trans h.sz hg.size⟩
theorem mo_new (w : World) (x : Mv) : Mo w ((w.alloc (.cells x.cs 32)).alloc (.cells (bigA z256 zMv) 55)) x := by
  have z1 : (w.alloc (.cells x.cs 32)).heap.size = w.heap.size + 1 := by simp
  have a1 := row_lat (heap_alloc_last w (.cells x.cs 32)) (below_new _ (.cells (bigA z256 zMv) 55))
  have a2 := heap_alloc_last (w.alloc (.cells x.cs 32)) (.cells (bigA z256 zMv) 55)
  rw [z1] at a2
  exact ⟨a1, a2, ((Below.refl _ _).alloc (Nat.le_refl _) _).alloc (by omega) _, by simp⟩
end

theorem OwnM.row {w : World} {B g : Nat} {x : Mv} {d : Md} (h : OwnM w B x d) (hb : g < B) (cs : Array Value) : OwnM (w.setRow g cs) B x d := h.keep fun j h1 _ => setRow_other w g j cs (by omega)

set_option maxHeartbeats 1000000 in
theorem machineOf_any (x : Mv) (d : Md) (w : World) (hs : x.small) (hz : x.nz) (hr : RdM w x d) : Calls Tryd.prog 25 #[.agg x.cs] w fun e w' => ∃ y : Mv, e = .returned (.agg (bigA (laidM d.m z256) y)) ∧ y.fl = x.fl ∧ OwnM w' (w.heap.size + 2) y d ∧ Below w.heap.size w w' := by
  have C := hide (mo_new w x)
  have R := hide (hr.later (unhide C).bel)
  have T := hide (copyM_any x d _ hs hz (unhide R))
  have HR := hide hr
  have z1 : (w.alloc (.cells x.cs 32)).heap.size = w.heap.size + 1 := by simp
  have Z1 := hide z1
  clear hr hs hz z1
  go_enter Tryd.func25, Tryd.ntmps25
  go_wp2_with (first | (refine wpList_alloc60 rfl rfl ?_) | (refine wpList_load_row rfl 32 _ rfl w.heap.size rfl 32 x.cs (0, 0) _ (unhide C).bx Tryd.underlying32 rfl (by kernel_rfl) ?_))
  refine (unhide T).mono ?_
  rintro e w1 ⟨y, rfl, fy, oy, hb⟩
  have C1 := hide (((unhide C).later hb).later (below_new w1 (.cells (bigA z256 y) 55)))
  have R1 := hide (((unhide R).later hb).later (below_new w1 (.cells (bigA z256 y) 55)))
  have O1 := hide (oy.base (C := w.heap.size + 2) (by have := (unhide C).sz; omega))
  have hsz := hide (Nat.le_trans (unhide C).sz hb.size)
  have FY := hide fy
  clear C R T hb fy oy
  have hrow := hide (heap_alloc_last w1 (.cells (bigA z256 y) 55))
  obtain ⟨w2, k, hcp, hr2, hg2⟩ := copy_in x.m d.m z256 y w1.heap.size (w1.alloc (.cells (bigA z256 y) 55)).drew (unhide hrow) z256_len ((unhide R1).later below_drew).m (unhide R1).ml
  have C2 := hide (((unhide C1).later below_drew).past hg2 (unhide hsz))
  have O2 := hide ((unhide O1).keep (w' := w2) (fun g h1 h2 => (hg2.block g (Nat.lt_of_lt_of_le h2 (below_new w1 (.cells (bigA z256 y) 55)).size) (by simp; omega)).trans ((below_new w1 (.cells (bigA z256 y) 55)).block g h2)))
  have R2 := hide hr2
  clear R1 O1 hr2 hg2
  have c0 := row_m ((unhide C1).later below_drew).bx
  have CP := hide hcp
  have D0 := hide c0
  clear hcp c0
  go_wp2_with (first | (refine wpList_build60 rfl _ rfl y rfl ?_) | (refine wpList_alloc60 rfl rfl ?_) | (refine wpList_store60 rfl _ _ rfl z256 y z256_len rfl rfl ?_))
  refine wp_region_held_drew (S := fun w' => w'.cell? ⟨w.heap.size, 0, none⟩ = some (.slice x.m.a x.m.n x.m.c)) (by kernel_rfl) (unhide D0) (fun hS => ?_)
  have HS := hide hS
  clear hS
  go_simp
  refine wpAnyH_take (i := 0) (v := .pointer (some ⟨w1.heap.size, 0, none⟩)) rfl (by kernel_rfl) (by kernel_rfl) (by kernel_rfl) (fun _ _ _ h => h) (Or.inl ⟨by rfl, fun w _ => ?_⟩) (unhide HS) ?_
  · go_simp
  go_simp
  refine wpAnyH_take (i := 1) (v := .slice (some ⟨w1.heap.size, 0, none⟩) 256 256) rfl (by kernel_rfl) (by kernel_rfl) (by kernel_rfl) (fun _ _ _ h => h) (Or.inl ⟨by rfl, fun w _ => ?_⟩) (unhide HS) ?_
  · go_simp
  go_simp
  refine wpAnyH_take (i := 2) (v := .pointer (some ⟨w.heap.size, 0, none⟩)) rfl (by kernel_rfl) (by kernel_rfl) (by kernel_rfl) (fun _ _ _ h => h) (Or.inl ⟨by rfl, fun w _ => ?_⟩) (unhide HS) ?_
  · go_simp
  go_simp
  refine wpAnyH_take (i := 3) (v := .slice x.m.a x.m.n x.m.c) rfl (by kernel_rfl) (by kernel_rfl) (by kernel_rfl) (fun _ _ _ h => h) (Or.inl ⟨by rfl, fun w hc => ?_⟩) (unhide HS) ?_
  · go_simp
  go_simp
  refine wpAnyH_ready (rs := [4]) (by kernel_rfl) (by simp) ?_
  refine AllReadyH.cons rfl (fun K hK => ?_) AllReadyH.nil
  have hcp := unhide CP
  go_simp
  refine hK.out _ _ (row_m (unhide C2).bx) (fun _ => ?_)
  clear hK K hcp CP D0 HS hrow C1
  refine wpAnyH_done (by kernel_rfl) ?_ _
  go_wp2_with (first | (refine wpList_load60 rfl _ rfl w1.heap.size (laidM d.m z256) y (laidM_len z256_len) rfl (unhide R2) ?_) | (refine wpList_over60 rfl _ _ rfl (w.heap.size + 1) (laidM d.m z256) z256 y zMv (laidM_len z256_len) z256_len rfl rfl (unhide C2).re ?_))
  refine bodyPost_ret (results_cell_row (P := Tryd.prog) rfl _ _ (w.heap.size + 1) 55 (bigA (laidM d.m z256) y) (0, 0) _ rfl (setRow_heap w2 _ _ _ 55 _ (unhide C2).re) Tryd.underlying55 rfl (size60 y _ (laidM_len z256_len))) rfl ?_
  exact ⟨y, rfl, unhide FY, (unhide O2).row (by omega) _, below_setRow (unhide C2).bel (by omega) _⟩

set_option maxHeartbeats 1000000 in
theorem cell_at (g : Nat) (a : Int) (w : World) (h0 : 0 ≤ a) (h1 : a < 512) :
    Calls Tryd.prog 49 #[.pointer (some ⟨g, 0, none⟩), .int .i64 a] w fun e w' => e = .returned (.pointer (some ⟨g, (a / 2).toNat, none⟩)) ∧ w' = w := by
  obtain ⟨k, hk⟩ := Int.eq_ofNat_of_zero_le (show 0 ≤ a / 2 by omega)
  have hk2 : k < 256 := by omega
  rw [hk, show ((k : Int)).toNat = k by omega]
  have HK := hide hk
  go_enter Tryd.func49, Tryd.ntmps49
  go_wp2
  go_ret
  exact ⟨rfl, rfl⟩

end Go.Proofs.YtboedaofbchdkaaDoor
