/- Contracts over this seat's translation, laid together; conditions stand as hypotheses of each. -/
import Derived.Test.YtmhcbehplhfgfaaGreatDoorTxA
import Derived.Test.YtmhcbehplhfgfaaGreatDoorTxE
import Derived.Test.YtmhcbehplhfgfaaGreatDoorTxG
import Derived.OwnWalk
import Derived.Deep.RegionWith
import Derived.Deep.WholeRow
import Derived.OpenVars

namespace Go.Proofs.YtmhcbehplhfgfaaGreatDoor
open Go.ChangeShapes Go.WideShapes Go.ChangeAt Go.RowKit
set_option linter.unusedVariables false
set_option maxRecDepth 8000
set_option linter.unusedSimpArgs false
set_option maxHeartbeats 4000000 in
theorem opd_6 (r : Int) (e : Ex) (b : Option Addr) (cap : Nat) (w : World) (hr : RdX w 0 e b) (hz : e.sz ≤ 1048576) (ht : TabK w) (hf : TabF w) : Calls Tryz.prog 81 #[.agg ((Ag.mk 6 r e).cs b cap)] w (OpdR ⟨6, r, e⟩ w) := by
  have hsz := sz_is e
  have cR : cntB ⟨#[69, 40, 82, 41]⟩ 82 = true := by decide
  have cE : cntB ⟨#[69, 40, 82, 41]⟩ 69 = true := by decide
  have P := hide (fun w' (h : Below w.heap.size w w') => plnO_any e b cap w' (hr.later h) hz (ht.next h))
  unfold PlnR Ex.cs at P
  have V : agX ⟨6, r, e⟩ = (inB r 0 7 && okF 6 true e) := by unfold agX; rfl
  have U : opU ⟨6, r, e⟩ = tv e := by unfold opU; rfl
  have FN := hide (fun r0 w' u f0 g q (h : (inB r 0 7 && okF 6 true e) = q) (hr : r0 = .returned (.tuple #[.agg #[u, .int .i64 f0, .int .i64 g], .bool q])) (hu : IfV u) (hv : q = true → u = tv e ∧ f0 = 6 ∧ g = r) => opdR_of (w := w) (r := r0) (w' := w') (u := u) (f := f0) (g := g) (V.trans h) hr hu (fun x => by rw [U]; exact hv x))
  clear V U hr ht hsz hz
  generalize OpdR ⟨6, r, e⟩ w = R at *
  generalize okF 6 true e = q at *
  generalize tv e = tve at *
  unfold Ag.cs
  simp only
  generalize e.k = k at *
  generalize e.n = n at *
  generalize e.s = s at *
  generalize e.l.length = ll at *
  have G2 := two_new w (.cells #[.int .i64 6, .int .i64 r, .int .i64 k, .int .i64 n, .string s, .slice b ll cap] 35) (.cells #[.nilIface, .int .i64 0, .int .i64 0] 87)
  have G1 := two_new0 w (.cells #[.int .i64 6, .int .i64 r, .int .i64 k, .int .i64 n, .string s, .slice b ll cap] 35) (.cells #[.nilIface, .int .i64 0, .int .i64 0] 87)
  obtain ⟨V, hV⟩ : ∃ V, w.alloc (.cells #[.int .i64 6, .int .i64 r, .int .i64 k, .int .i64 n, .string s, .slice b ll cap] 35) = V := ⟨_, rfl⟩
  have vsz : w.heap.size + 1 = V.heap.size := by rw [← hV]; simp
  rw [vsz, hV] at G2
  rw [hV] at G1
  obtain ⟨W, hW⟩ : ∃ W, V.alloc (.cells #[.nilIface, .int .i64 0, .int .i64 0] 87) = W := ⟨_, rfl⟩
  rw [hW] at G1 G2
  obtain ⟨G2, hbW⟩ := G2
  have l1 : w.heap.size < W.heap.size := (Array.getElem?_eq_some_iff.1 G1).1
  have l2 : V.heap.size < W.heap.size := (Array.getElem?_eq_some_iff.1 G2).1
  have BY := hide (fun y : Sub W.heap.size W => hbW.trans (y.h.mono hbW.size))
  have RY := hide (fun y : Sub W.heap.size W => (y.h.block _ l2).trans G2)
  have VL := hide (show w.heap.size ≤ V.heap.size by omega)
  have ne := Sub.ne W.heap.size W
  have HZ := hide (Nat.le_refl W.heap.size)
  have E0 : ∀ y : Sub W.heap.size W, y.w.cell? ⟨w.heap.size, 0, none⟩ = some (.int .i64 6) := fun y => (y.h.cell (p := ⟨w.heap.size, 0, none⟩) l1).trans (Lib.cell_of_heap G1 0)
  have E1 : ∀ y : Sub W.heap.size W, y.w.cell? ⟨w.heap.size, 1, none⟩ = some (.int .i64 r) := fun y => (y.h.cell (p := ⟨w.heap.size, 1, none⟩) l1).trans (Lib.cell_of_heap G1 1)
  have E2 : ∀ y : Sub W.heap.size W, y.w.cell? ⟨w.heap.size, 2, none⟩ = some (.int .i64 k) := fun y => (y.h.cell (p := ⟨w.heap.size, 2, none⟩) l1).trans (Lib.cell_of_heap G1 2)
  have E3 : ∀ y : Sub W.heap.size W, y.w.cell? ⟨w.heap.size, 3, none⟩ = some (.int .i64 n) := fun y => (y.h.cell (p := ⟨w.heap.size, 3, none⟩) l1).trans (Lib.cell_of_heap G1 3)
  have E4 : ∀ y : Sub W.heap.size W, y.w.cell? ⟨w.heap.size, 4, none⟩ = some (.string s) := fun y => (y.h.cell (p := ⟨w.heap.size, 4, none⟩) l1).trans (Lib.cell_of_heap G1 4)
  have E5 : ∀ y : Sub W.heap.size W, y.w.cell? ⟨w.heap.size, 5, none⟩ = some (.slice b ll cap) := fun y => (y.h.cell (p := ⟨w.heap.size, 5, none⟩) l1).trans (Lib.cell_of_heap G1 5)
  have T0 : ∀ y : Sub W.heap.size W, y.w.cell? ⟨3, 6, none⟩ = some (.string ⟨#[69, 40, 82, 41]⟩) := fun y => (hf.next (unhide BY y)).at6
  obtain ⟨y0, hy0⟩ : ∃ z : Sub W.heap.size W, W = z.w := ⟨⟨W, Below.refl _ _⟩, rfl⟩
  rw [hy0] at hW
  clear l1 l2 vsz hbW hy0
  have PY := hide (fun y : Sub W.heap.size W => unhide P y.w (unhide BY y))
  clear P hf
  by_cases h0 : r < 0
  · have F2 := hide (fun r0 w' u f0 g => unhide FN r0 w' u f0 g false (by rw [inB_f r 0 7 (by omega)]; rfl))
    clear FN PY
    go_enter Tryz.func81, Tryz.ntmps81
    go_wp2_with (first | (go_at_call 90; refine (cntI _ _ _).mono ?_; rintro e w' ⟨rfl, hw'⟩; rw [hw']; clear hw' w'; (try rw [cR]); (try rw [cE])) | (refine wpList_store_row rfl 87 _ _ rfl V.heap.size #[.nilIface, .int .i64 0, .int .i64 0] rfl rfl 87 _ (unhide RY _) szOp rfl (op_one (.inl rfl) 0 0) ?_))
    refine bodyPost_ret (results_row2 (P := Tryz.prog) rfl _ _ V.heap.size 87 #[.nilIface, .int .i64 0, .int .i64 0] (0, 0) _ rfl (setRow_heap _ _ _ _ _ _ (unhide RY _)) Tryz.underlying87 rfl szOp) rfl ?_
    exact unhide F2 _ _ _ _ _ rfl (.inl rfl) (fun h => by cases h) (below_rowG (unhide BY _) (unhide VL))
  by_cases h7 : 7 < r
  · have F2 := hide (fun r0 w' u f0 g => unhide FN r0 w' u f0 g false (by rw [inB_f r 0 7 (by omega)]; rfl))
    clear FN PY
    go_enter Tryz.func81, Tryz.ntmps81
    go_wp2_with (first | (go_at_call 90; refine (cntI _ _ _).mono ?_; rintro e w' ⟨rfl, hw'⟩; rw [hw']; clear hw' w'; (try rw [cR]); (try rw [cE])) | (refine wpList_store_row rfl 87 _ _ rfl V.heap.size #[.nilIface, .int .i64 0, .int .i64 0] rfl rfl 87 _ (unhide RY _) szOp rfl (op_one (.inl rfl) 0 0) ?_))
    refine bodyPost_ret (results_row2 (P := Tryz.prog) rfl _ _ V.heap.size 87 #[.nilIface, .int .i64 0, .int .i64 0] (0, 0) _ rfl (setRow_heap _ _ _ _ _ _ (unhide RY _)) Tryz.underlying87 rfl szOp) rfl ?_
    exact unhide F2 _ _ _ _ _ rfl (.inl rfl) (fun h => by cases h) (below_rowG (unhide BY _) (unhide VL))
  have F2 := hide (fun r0 w' u f0 g => unhide FN r0 w' u f0 g q (by rw [inB_t r 0 7 (by omega) (by omega)]; rfl))
  clear FN
  obtain ⟨y1, hy1⟩ := Sub.step (unhide HZ) (below_new y0.w (.cells #[.nilIface, .int .i64 6, .int .i64 r] 87))
  have O1 := hide (show y1.w.heap[y0.w.heap.size]? = some (.cells #[.nilIface, .int .i64 6, .int .i64 r] 87 (0, 0)) by rw [← hy1]; exact Array.getElem?_push_size)
  have NO := hide (show V.heap.size ≠ y0.w.heap.size by have := (Array.getElem?_eq_some_iff.1 (unhide RY y0)).1; omega)
  have NA := hide (show V.heap.size ≠ w.heap.size by rw [← hV]; simp)
  have AY := hide (fun y : Sub W.heap.size W => (y.h.block _ (Array.getElem?_eq_some_iff.1 G1).1).trans G1)
  clear G1 G2
  go_enter Tryz.func81, Tryz.ntmps81
  go_wp2_with (first | (go_at_call 90; refine (cntI _ _ _).mono ?_; rintro e w' ⟨rfl, hw'⟩; rw [hw']; clear hw' w'; (try rw [cR]); (try rw [cE])))
  refine (unhide PY y1).mono ?_
  rintro r w2 ⟨v, rfl, hv, hb⟩
  have O2 := hide (row_keep (unhide O1) hb)
  have HV := hide hv.2
  have hi := hv.1
  obtain ⟨y2, rfl⟩ := Sub.step (unhide HZ) hb
  have c0 := Lib.cell_of_heap (unhide O2) 0
  clear hb O1 hv
  rcases hi with rfl | ⟨tt, xx, rfl⟩
  · obtain ⟨y3, hy3⟩ : ∃ z : Sub W.heap.size W, y2.w.setCell ⟨y0.w.heap.size, 0, none⟩ (.nilIface) = z.w := ⟨⟨_, y2.h.setCell (p := ⟨y0.w.heap.size, 0, none⟩) y0.h.size _⟩, rfl⟩
    have fz : y2.w.frozen? ⟨y0.w.heap.size, 0, none⟩ = false := by have := unhide O2; simp [World.frozen?, this]
    have O3 := hide (show y3.w.heap[y0.w.heap.size]? = some (.cells #[.nilIface, .int .i64 6, .int .i64 r] 87 (0, 0)) by rw [← hy3]; exact heap_setCell_same _ _ _ _ _ _ (unhide O2))
    clear O2
    go_wp2_with (first | (refine wpList_load_row rfl 87 _ rfl y0.w.heap.size rfl 87 #[.nilIface, .int .i64 6, .int .i64 r] (0, 0) _ (unhide O3) Tryz.underlying87 rfl (by kernel_rfl) ?_) | (refine wpList_store_row rfl 87 _ _ rfl V.heap.size #[.nilIface, .int .i64 6, .int .i64 r] rfl rfl 87 _ (unhide RY _) szOp rfl (op_one (.inl rfl) 6 r) ?_))
    refine bodyPost_ret (results_row2 (P := Tryz.prog) rfl _ _ V.heap.size 87 #[.nilIface, .int .i64 6, .int .i64 r] (0, 0) _ rfl (setRow_heap _ _ _ _ _ _ (unhide RY _)) Tryz.underlying87 rfl szOp) rfl ?_
    exact unhide F2 _ _ _ _ _ rfl (.inl rfl) (fun h => ⟨unhide HV h, rfl, rfl⟩) (below_rowG (unhide BY y3) (unhide VL))
  · obtain ⟨y3, hy3⟩ : ∃ z : Sub W.heap.size W, y2.w.setCell ⟨y0.w.heap.size, 0, none⟩ (.iface tt xx) = z.w := ⟨⟨_, y2.h.setCell (p := ⟨y0.w.heap.size, 0, none⟩) y0.h.size _⟩, rfl⟩
    have fz : y2.w.frozen? ⟨y0.w.heap.size, 0, none⟩ = false := by have := unhide O2; simp [World.frozen?, this]
    have O3 := hide (show y3.w.heap[y0.w.heap.size]? = some (.cells #[.iface tt xx, .int .i64 6, .int .i64 r] 87 (0, 0)) by rw [← hy3]; exact heap_setCell_same _ _ _ _ _ _ (unhide O2))
    clear O2
    go_wp2_with (first | (refine wpList_load_row rfl 87 _ rfl y0.w.heap.size rfl 87 #[.iface tt xx, .int .i64 6, .int .i64 r] (0, 0) _ (unhide O3) Tryz.underlying87 rfl (by kernel_rfl) ?_) | (refine wpList_store_row rfl 87 _ _ rfl V.heap.size #[.iface tt xx, .int .i64 6, .int .i64 r] rfl rfl 87 _ (unhide RY _) szOp rfl (op_one (.inr ⟨_, _, rfl⟩) 6 r) ?_))
    refine bodyPost_ret (results_row2 (P := Tryz.prog) rfl _ _ V.heap.size 87 #[.iface tt xx, .int .i64 6, .int .i64 r] (0, 0) _ rfl (setRow_heap _ _ _ _ _ _ (unhide RY _)) Tryz.underlying87 rfl szOp) rfl ?_
    exact unhide F2 _ _ _ _ _ rfl (.inr ⟨_, _, rfl⟩) (fun h => ⟨unhide HV h, rfl, rfl⟩) (below_rowG (unhide BY y3) (unhide VL))
set_option maxHeartbeats 4000000 in
theorem opd_7 (r : Int) (e : Ex) (b : Option Addr) (cap : Nat) (w : World) (hr : RdX w 0 e b) (hz : e.sz ≤ 1048576) (ht : TabK w) (hf : TabF w) : Calls Tryz.prog 81 #[.agg ((Ag.mk 7 r e).cs b cap)] w (OpdR ⟨7, r, e⟩ w) := by
  have hsz := sz_is e
  have cR : cntB ⟨#[64, 69, 40, 82, 41]⟩ 82 = true := by decide
  have cE : cntB ⟨#[64, 69, 40, 82, 41]⟩ 69 = true := by decide
  have P := hide (fun w' (h : Below w.heap.size w w') => plnO_any e b cap w' (hr.later h) hz (ht.next h))
  unfold PlnR Ex.cs at P
  have V : agX ⟨7, r, e⟩ = (inB r 0 7 && okF 6 true e) := by unfold agX; rfl
  have U : opU ⟨7, r, e⟩ = tv e := by unfold opU; rfl
  have FN := hide (fun r0 w' u f0 g q (h : (inB r 0 7 && okF 6 true e) = q) (hr : r0 = .returned (.tuple #[.agg #[u, .int .i64 f0, .int .i64 g], .bool q])) (hu : IfV u) (hv : q = true → u = tv e ∧ f0 = 7 ∧ g = r) => opdR_of (w := w) (r := r0) (w' := w') (u := u) (f := f0) (g := g) (V.trans h) hr hu (fun x => by rw [U]; exact hv x))
  clear V U hr ht hsz hz
  generalize OpdR ⟨7, r, e⟩ w = R at *
  generalize okF 6 true e = q at *
  generalize tv e = tve at *
  unfold Ag.cs
  simp only
  generalize e.k = k at *
  generalize e.n = n at *
  generalize e.s = s at *
  generalize e.l.length = ll at *
  have G2 := two_new w (.cells #[.int .i64 7, .int .i64 r, .int .i64 k, .int .i64 n, .string s, .slice b ll cap] 35) (.cells #[.nilIface, .int .i64 0, .int .i64 0] 87)
  have G1 := two_new0 w (.cells #[.int .i64 7, .int .i64 r, .int .i64 k, .int .i64 n, .string s, .slice b ll cap] 35) (.cells #[.nilIface, .int .i64 0, .int .i64 0] 87)
  obtain ⟨V, hV⟩ : ∃ V, w.alloc (.cells #[.int .i64 7, .int .i64 r, .int .i64 k, .int .i64 n, .string s, .slice b ll cap] 35) = V := ⟨_, rfl⟩
  have vsz : w.heap.size + 1 = V.heap.size := by rw [← hV]; simp
  rw [vsz, hV] at G2
  rw [hV] at G1
  obtain ⟨W, hW⟩ : ∃ W, V.alloc (.cells #[.nilIface, .int .i64 0, .int .i64 0] 87) = W := ⟨_, rfl⟩
  rw [hW] at G1 G2
  obtain ⟨G2, hbW⟩ := G2
  have l1 : w.heap.size < W.heap.size := (Array.getElem?_eq_some_iff.1 G1).1
  have l2 : V.heap.size < W.heap.size := (Array.getElem?_eq_some_iff.1 G2).1
  have BY := hide (fun y : Sub W.heap.size W => hbW.trans (y.h.mono hbW.size))
  have RY := hide (fun y : Sub W.heap.size W => (y.h.block _ l2).trans G2)
  have VL := hide (show w.heap.size ≤ V.heap.size by omega)
  have ne := Sub.ne W.heap.size W
  have HZ := hide (Nat.le_refl W.heap.size)
  have E0 : ∀ y : Sub W.heap.size W, y.w.cell? ⟨w.heap.size, 0, none⟩ = some (.int .i64 7) := fun y => (y.h.cell (p := ⟨w.heap.size, 0, none⟩) l1).trans (Lib.cell_of_heap G1 0)
  have E1 : ∀ y : Sub W.heap.size W, y.w.cell? ⟨w.heap.size, 1, none⟩ = some (.int .i64 r) := fun y => (y.h.cell (p := ⟨w.heap.size, 1, none⟩) l1).trans (Lib.cell_of_heap G1 1)
  have E2 : ∀ y : Sub W.heap.size W, y.w.cell? ⟨w.heap.size, 2, none⟩ = some (.int .i64 k) := fun y => (y.h.cell (p := ⟨w.heap.size, 2, none⟩) l1).trans (Lib.cell_of_heap G1 2)
  have E3 : ∀ y : Sub W.heap.size W, y.w.cell? ⟨w.heap.size, 3, none⟩ = some (.int .i64 n) := fun y => (y.h.cell (p := ⟨w.heap.size, 3, none⟩) l1).trans (Lib.cell_of_heap G1 3)
  have E4 : ∀ y : Sub W.heap.size W, y.w.cell? ⟨w.heap.size, 4, none⟩ = some (.string s) := fun y => (y.h.cell (p := ⟨w.heap.size, 4, none⟩) l1).trans (Lib.cell_of_heap G1 4)
  have E5 : ∀ y : Sub W.heap.size W, y.w.cell? ⟨w.heap.size, 5, none⟩ = some (.slice b ll cap) := fun y => (y.h.cell (p := ⟨w.heap.size, 5, none⟩) l1).trans (Lib.cell_of_heap G1 5)
  have T0 : ∀ y : Sub W.heap.size W, y.w.cell? ⟨3, 7, none⟩ = some (.string ⟨#[64, 69, 40, 82, 41]⟩) := fun y => (hf.next (unhide BY y)).at7
  obtain ⟨y0, hy0⟩ : ∃ z : Sub W.heap.size W, W = z.w := ⟨⟨W, Below.refl _ _⟩, rfl⟩
  rw [hy0] at hW
  clear l1 l2 vsz hbW hy0
  have PY := hide (fun y : Sub W.heap.size W => unhide P y.w (unhide BY y))
  clear P hf
  by_cases h0 : r < 0
  · have F2 := hide (fun r0 w' u f0 g => unhide FN r0 w' u f0 g false (by rw [inB_f r 0 7 (by omega)]; rfl))
    clear FN PY
    go_enter Tryz.func81, Tryz.ntmps81
    go_wp2_with (first | (go_at_call 90; refine (cntI _ _ _).mono ?_; rintro e w' ⟨rfl, hw'⟩; rw [hw']; clear hw' w'; (try rw [cR]); (try rw [cE])) | (refine wpList_store_row rfl 87 _ _ rfl V.heap.size #[.nilIface, .int .i64 0, .int .i64 0] rfl rfl 87 _ (unhide RY _) szOp rfl (op_one (.inl rfl) 0 0) ?_))
    refine bodyPost_ret (results_row2 (P := Tryz.prog) rfl _ _ V.heap.size 87 #[.nilIface, .int .i64 0, .int .i64 0] (0, 0) _ rfl (setRow_heap _ _ _ _ _ _ (unhide RY _)) Tryz.underlying87 rfl szOp) rfl ?_
    exact unhide F2 _ _ _ _ _ rfl (.inl rfl) (fun h => by cases h) (below_rowG (unhide BY _) (unhide VL))
  by_cases h7 : 7 < r
  · have F2 := hide (fun r0 w' u f0 g => unhide FN r0 w' u f0 g false (by rw [inB_f r 0 7 (by omega)]; rfl))
    clear FN PY
    go_enter Tryz.func81, Tryz.ntmps81
    go_wp2_with (first | (go_at_call 90; refine (cntI _ _ _).mono ?_; rintro e w' ⟨rfl, hw'⟩; rw [hw']; clear hw' w'; (try rw [cR]); (try rw [cE])) | (refine wpList_store_row rfl 87 _ _ rfl V.heap.size #[.nilIface, .int .i64 0, .int .i64 0] rfl rfl 87 _ (unhide RY _) szOp rfl (op_one (.inl rfl) 0 0) ?_))
    refine bodyPost_ret (results_row2 (P := Tryz.prog) rfl _ _ V.heap.size 87 #[.nilIface, .int .i64 0, .int .i64 0] (0, 0) _ rfl (setRow_heap _ _ _ _ _ _ (unhide RY _)) Tryz.underlying87 rfl szOp) rfl ?_
    exact unhide F2 _ _ _ _ _ rfl (.inl rfl) (fun h => by cases h) (below_rowG (unhide BY _) (unhide VL))
  have F2 := hide (fun r0 w' u f0 g => unhide FN r0 w' u f0 g q (by rw [inB_t r 0 7 (by omega) (by omega)]; rfl))
  clear FN
  obtain ⟨y1, hy1⟩ := Sub.step (unhide HZ) (below_new y0.w (.cells #[.nilIface, .int .i64 7, .int .i64 r] 87))
  have O1 := hide (show y1.w.heap[y0.w.heap.size]? = some (.cells #[.nilIface, .int .i64 7, .int .i64 r] 87 (0, 0)) by rw [← hy1]; exact Array.getElem?_push_size)
  have NO := hide (show V.heap.size ≠ y0.w.heap.size by have := (Array.getElem?_eq_some_iff.1 (unhide RY y0)).1; omega)
  have NA := hide (show V.heap.size ≠ w.heap.size by rw [← hV]; simp)
  have AY := hide (fun y : Sub W.heap.size W => (y.h.block _ (Array.getElem?_eq_some_iff.1 G1).1).trans G1)
  clear G1 G2
  go_enter Tryz.func81, Tryz.ntmps81
  go_wp2_with (first | (go_at_call 90; refine (cntI _ _ _).mono ?_; rintro e w' ⟨rfl, hw'⟩; rw [hw']; clear hw' w'; (try rw [cR]); (try rw [cE])))
  refine (unhide PY y1).mono ?_
  rintro r w2 ⟨v, rfl, hv, hb⟩
  have O2 := hide (row_keep (unhide O1) hb)
  have HV := hide hv.2
  have hi := hv.1
  obtain ⟨y2, rfl⟩ := Sub.step (unhide HZ) hb
  have c0 := Lib.cell_of_heap (unhide O2) 0
  clear hb O1 hv
  rcases hi with rfl | ⟨tt, xx, rfl⟩
  · obtain ⟨y3, hy3⟩ : ∃ z : Sub W.heap.size W, y2.w.setCell ⟨y0.w.heap.size, 0, none⟩ (.nilIface) = z.w := ⟨⟨_, y2.h.setCell (p := ⟨y0.w.heap.size, 0, none⟩) y0.h.size _⟩, rfl⟩
    have fz : y2.w.frozen? ⟨y0.w.heap.size, 0, none⟩ = false := by have := unhide O2; simp [World.frozen?, this]
    have O3 := hide (show y3.w.heap[y0.w.heap.size]? = some (.cells #[.nilIface, .int .i64 7, .int .i64 r] 87 (0, 0)) by rw [← hy3]; exact heap_setCell_same _ _ _ _ _ _ (unhide O2))
    clear O2
    go_wp2_with (first | (refine wpList_load_row rfl 87 _ rfl y0.w.heap.size rfl 87 #[.nilIface, .int .i64 7, .int .i64 r] (0, 0) _ (unhide O3) Tryz.underlying87 rfl (by kernel_rfl) ?_) | (refine wpList_store_row rfl 87 _ _ rfl V.heap.size #[.nilIface, .int .i64 7, .int .i64 r] rfl rfl 87 _ (unhide RY _) szOp rfl (op_one (.inl rfl) 7 r) ?_))
    refine bodyPost_ret (results_row2 (P := Tryz.prog) rfl _ _ V.heap.size 87 #[.nilIface, .int .i64 7, .int .i64 r] (0, 0) _ rfl (setRow_heap _ _ _ _ _ _ (unhide RY _)) Tryz.underlying87 rfl szOp) rfl ?_
    exact unhide F2 _ _ _ _ _ rfl (.inl rfl) (fun h => ⟨unhide HV h, rfl, rfl⟩) (below_rowG (unhide BY y3) (unhide VL))
  · obtain ⟨y3, hy3⟩ : ∃ z : Sub W.heap.size W, y2.w.setCell ⟨y0.w.heap.size, 0, none⟩ (.iface tt xx) = z.w := ⟨⟨_, y2.h.setCell (p := ⟨y0.w.heap.size, 0, none⟩) y0.h.size _⟩, rfl⟩
    have fz : y2.w.frozen? ⟨y0.w.heap.size, 0, none⟩ = false := by have := unhide O2; simp [World.frozen?, this]
    have O3 := hide (show y3.w.heap[y0.w.heap.size]? = some (.cells #[.iface tt xx, .int .i64 7, .int .i64 r] 87 (0, 0)) by rw [← hy3]; exact heap_setCell_same _ _ _ _ _ _ (unhide O2))
    clear O2
    go_wp2_with (first | (refine wpList_load_row rfl 87 _ rfl y0.w.heap.size rfl 87 #[.iface tt xx, .int .i64 7, .int .i64 r] (0, 0) _ (unhide O3) Tryz.underlying87 rfl (by kernel_rfl) ?_) | (refine wpList_store_row rfl 87 _ _ rfl V.heap.size #[.iface tt xx, .int .i64 7, .int .i64 r] rfl rfl 87 _ (unhide RY _) szOp rfl (op_one (.inr ⟨_, _, rfl⟩) 7 r) ?_))
    refine bodyPost_ret (results_row2 (P := Tryz.prog) rfl _ _ V.heap.size 87 #[.iface tt xx, .int .i64 7, .int .i64 r] (0, 0) _ rfl (setRow_heap _ _ _ _ _ _ (unhide RY _)) Tryz.underlying87 rfl szOp) rfl ?_
    exact unhide F2 _ _ _ _ _ rfl (.inr ⟨_, _, rfl⟩) (fun h => ⟨unhide HV h, rfl, rfl⟩) (below_rowG (unhide BY y3) (unhide VL))
set_option maxHeartbeats 4000000 in
theorem opd_8 (r : Int) (e : Ex) (b : Option Addr) (cap : Nat) (w : World) (hr : RdX w 0 e b) (hz : e.sz ≤ 1048576) (ht : TabK w) (hf : TabF w) : Calls Tryz.prog 81 #[.agg ((Ag.mk 8 r e).cs b cap)] w (OpdR ⟨8, r, e⟩ w) := by
  have hsz := sz_is e
  have cR : cntB ⟨#[35, 69]⟩ 82 = false := by decide
  have cE : cntB ⟨#[35, 69]⟩ 69 = true := by decide
  have P := hide (fun w' (h : Below w.heap.size w w') => plnO_any e b cap w' (hr.later h) hz (ht.next h))
  unfold PlnR Ex.cs at P
  have V : agX ⟨8, r, e⟩ = (r == 0 && okF 6 true e) := by unfold agX; rfl
  have U : opU ⟨8, r, e⟩ = tv e := by unfold opU; rfl
  have FN := hide (fun r0 w' u f0 g q (h : (r == 0 && okF 6 true e) = q) (hr : r0 = .returned (.tuple #[.agg #[u, .int .i64 f0, .int .i64 g], .bool q])) (hu : IfV u) (hv : q = true → u = tv e ∧ f0 = 8 ∧ g = r) => opdR_of (w := w) (r := r0) (w' := w') (u := u) (f := f0) (g := g) (V.trans h) hr hu (fun x => by rw [U]; exact hv x))
  clear V U hr ht hsz hz
  generalize OpdR ⟨8, r, e⟩ w = R at *
  generalize okF 6 true e = q at *
  generalize tv e = tve at *
  unfold Ag.cs
  simp only
  generalize e.k = k at *
  generalize e.n = n at *
  generalize e.s = s at *
  generalize e.l.length = ll at *
  have G2 := two_new w (.cells #[.int .i64 8, .int .i64 r, .int .i64 k, .int .i64 n, .string s, .slice b ll cap] 35) (.cells #[.nilIface, .int .i64 0, .int .i64 0] 87)
  have G1 := two_new0 w (.cells #[.int .i64 8, .int .i64 r, .int .i64 k, .int .i64 n, .string s, .slice b ll cap] 35) (.cells #[.nilIface, .int .i64 0, .int .i64 0] 87)
  obtain ⟨V, hV⟩ : ∃ V, w.alloc (.cells #[.int .i64 8, .int .i64 r, .int .i64 k, .int .i64 n, .string s, .slice b ll cap] 35) = V := ⟨_, rfl⟩
  have vsz : w.heap.size + 1 = V.heap.size := by rw [← hV]; simp
  rw [vsz, hV] at G2
  rw [hV] at G1
  obtain ⟨W, hW⟩ : ∃ W, V.alloc (.cells #[.nilIface, .int .i64 0, .int .i64 0] 87) = W := ⟨_, rfl⟩
  rw [hW] at G1 G2
  obtain ⟨G2, hbW⟩ := G2
  have l1 : w.heap.size < W.heap.size := (Array.getElem?_eq_some_iff.1 G1).1
  have l2 : V.heap.size < W.heap.size := (Array.getElem?_eq_some_iff.1 G2).1
  have BY := hide (fun y : Sub W.heap.size W => hbW.trans (y.h.mono hbW.size))
  have RY := hide (fun y : Sub W.heap.size W => (y.h.block _ l2).trans G2)
  have VL := hide (show w.heap.size ≤ V.heap.size by omega)
  have ne := Sub.ne W.heap.size W
  have HZ := hide (Nat.le_refl W.heap.size)
  have E0 : ∀ y : Sub W.heap.size W, y.w.cell? ⟨w.heap.size, 0, none⟩ = some (.int .i64 8) := fun y => (y.h.cell (p := ⟨w.heap.size, 0, none⟩) l1).trans (Lib.cell_of_heap G1 0)
  have E1 : ∀ y : Sub W.heap.size W, y.w.cell? ⟨w.heap.size, 1, none⟩ = some (.int .i64 r) := fun y => (y.h.cell (p := ⟨w.heap.size, 1, none⟩) l1).trans (Lib.cell_of_heap G1 1)
  have E2 : ∀ y : Sub W.heap.size W, y.w.cell? ⟨w.heap.size, 2, none⟩ = some (.int .i64 k) := fun y => (y.h.cell (p := ⟨w.heap.size, 2, none⟩) l1).trans (Lib.cell_of_heap G1 2)
  have E3 : ∀ y : Sub W.heap.size W, y.w.cell? ⟨w.heap.size, 3, none⟩ = some (.int .i64 n) := fun y => (y.h.cell (p := ⟨w.heap.size, 3, none⟩) l1).trans (Lib.cell_of_heap G1 3)
  have E4 : ∀ y : Sub W.heap.size W, y.w.cell? ⟨w.heap.size, 4, none⟩ = some (.string s) := fun y => (y.h.cell (p := ⟨w.heap.size, 4, none⟩) l1).trans (Lib.cell_of_heap G1 4)
  have E5 : ∀ y : Sub W.heap.size W, y.w.cell? ⟨w.heap.size, 5, none⟩ = some (.slice b ll cap) := fun y => (y.h.cell (p := ⟨w.heap.size, 5, none⟩) l1).trans (Lib.cell_of_heap G1 5)
  have T0 : ∀ y : Sub W.heap.size W, y.w.cell? ⟨3, 8, none⟩ = some (.string ⟨#[35, 69]⟩) := fun y => (hf.next (unhide BY y)).at8
  obtain ⟨y0, hy0⟩ : ∃ z : Sub W.heap.size W, W = z.w := ⟨⟨W, Below.refl _ _⟩, rfl⟩
  rw [hy0] at hW
  clear l1 l2 vsz hbW hy0
  have PY := hide (fun y : Sub W.heap.size W => unhide P y.w (unhide BY y))
  clear P hf
  by_cases h0 : r < 0
  · have F2 := hide (fun r0 w' u f0 g => unhide FN r0 w' u f0 g false (by rw [beq_eq_false_iff_ne.2 (show r ≠ 0 by omega)]; rfl))
    clear FN PY
    go_enter Tryz.func81, Tryz.ntmps81
    go_wp2_with (first | (go_at_call 90; refine (cntI _ _ _).mono ?_; rintro e w' ⟨rfl, hw'⟩; rw [hw']; clear hw' w'; (try rw [cR]); (try rw [cE])) | (refine wpList_store_row rfl 87 _ _ rfl V.heap.size #[.nilIface, .int .i64 0, .int .i64 0] rfl rfl 87 _ (unhide RY _) szOp rfl (op_one (.inl rfl) 0 0) ?_))
    refine bodyPost_ret (results_row2 (P := Tryz.prog) rfl _ _ V.heap.size 87 #[.nilIface, .int .i64 0, .int .i64 0] (0, 0) _ rfl (setRow_heap _ _ _ _ _ _ (unhide RY _)) Tryz.underlying87 rfl szOp) rfl ?_
    exact unhide F2 _ _ _ _ _ rfl (.inl rfl) (fun h => by cases h) (below_rowG (unhide BY _) (unhide VL))
  by_cases h7 : 0 < r
  · have F2 := hide (fun r0 w' u f0 g => unhide FN r0 w' u f0 g false (by rw [beq_eq_false_iff_ne.2 (show r ≠ 0 by omega)]; rfl))
    clear FN PY
    go_enter Tryz.func81, Tryz.ntmps81
    go_wp2_with (first | (go_at_call 90; refine (cntI _ _ _).mono ?_; rintro e w' ⟨rfl, hw'⟩; rw [hw']; clear hw' w'; (try rw [cR]); (try rw [cE])) | (refine wpList_store_row rfl 87 _ _ rfl V.heap.size #[.nilIface, .int .i64 0, .int .i64 0] rfl rfl 87 _ (unhide RY _) szOp rfl (op_one (.inl rfl) 0 0) ?_))
    refine bodyPost_ret (results_row2 (P := Tryz.prog) rfl _ _ V.heap.size 87 #[.nilIface, .int .i64 0, .int .i64 0] (0, 0) _ rfl (setRow_heap _ _ _ _ _ _ (unhide RY _)) Tryz.underlying87 rfl szOp) rfl ?_
    exact unhide F2 _ _ _ _ _ rfl (.inl rfl) (fun h => by cases h) (below_rowG (unhide BY _) (unhide VL))
  have F2 := hide (fun r0 w' u f0 g => unhide FN r0 w' u f0 g q (by rw [show r = 0 by omega]; rfl))
  clear FN
  obtain ⟨y1, hy1⟩ := Sub.step (unhide HZ) (below_new y0.w (.cells #[.nilIface, .int .i64 8, .int .i64 r] 87))
  have O1 := hide (show y1.w.heap[y0.w.heap.size]? = some (.cells #[.nilIface, .int .i64 8, .int .i64 r] 87 (0, 0)) by rw [← hy1]; exact Array.getElem?_push_size)
  have NO := hide (show V.heap.size ≠ y0.w.heap.size by have := (Array.getElem?_eq_some_iff.1 (unhide RY y0)).1; omega)
  have NA := hide (show V.heap.size ≠ w.heap.size by rw [← hV]; simp)
  have AY := hide (fun y : Sub W.heap.size W => (y.h.block _ (Array.getElem?_eq_some_iff.1 G1).1).trans G1)
  clear G1 G2
  go_enter Tryz.func81, Tryz.ntmps81
  go_wp2_with (first | (go_at_call 90; refine (cntI _ _ _).mono ?_; rintro e w' ⟨rfl, hw'⟩; rw [hw']; clear hw' w'; (try rw [cR]); (try rw [cE])))
  refine (unhide PY y1).mono ?_
  rintro r w2 ⟨v, rfl, hv, hb⟩
  have O2 := hide (row_keep (unhide O1) hb)
  have HV := hide hv.2
  have hi := hv.1
  obtain ⟨y2, rfl⟩ := Sub.step (unhide HZ) hb
  have c0 := Lib.cell_of_heap (unhide O2) 0
  clear hb O1 hv
  rcases hi with rfl | ⟨tt, xx, rfl⟩
  · obtain ⟨y3, hy3⟩ : ∃ z : Sub W.heap.size W, y2.w.setCell ⟨y0.w.heap.size, 0, none⟩ (.nilIface) = z.w := ⟨⟨_, y2.h.setCell (p := ⟨y0.w.heap.size, 0, none⟩) y0.h.size _⟩, rfl⟩
    have fz : y2.w.frozen? ⟨y0.w.heap.size, 0, none⟩ = false := by have := unhide O2; simp [World.frozen?, this]
    have O3 := hide (show y3.w.heap[y0.w.heap.size]? = some (.cells #[.nilIface, .int .i64 8, .int .i64 r] 87 (0, 0)) by rw [← hy3]; exact heap_setCell_same _ _ _ _ _ _ (unhide O2))
    clear O2
    go_wp2_with (first | (refine wpList_load_row rfl 87 _ rfl y0.w.heap.size rfl 87 #[.nilIface, .int .i64 8, .int .i64 r] (0, 0) _ (unhide O3) Tryz.underlying87 rfl (by kernel_rfl) ?_) | (refine wpList_store_row rfl 87 _ _ rfl V.heap.size #[.nilIface, .int .i64 8, .int .i64 r] rfl rfl 87 _ (unhide RY _) szOp rfl (op_one (.inl rfl) 8 r) ?_))
    refine bodyPost_ret (results_row2 (P := Tryz.prog) rfl _ _ V.heap.size 87 #[.nilIface, .int .i64 8, .int .i64 r] (0, 0) _ rfl (setRow_heap _ _ _ _ _ _ (unhide RY _)) Tryz.underlying87 rfl szOp) rfl ?_
    exact unhide F2 _ _ _ _ _ rfl (.inl rfl) (fun h => ⟨unhide HV h, rfl, rfl⟩) (below_rowG (unhide BY y3) (unhide VL))
  · obtain ⟨y3, hy3⟩ : ∃ z : Sub W.heap.size W, y2.w.setCell ⟨y0.w.heap.size, 0, none⟩ (.iface tt xx) = z.w := ⟨⟨_, y2.h.setCell (p := ⟨y0.w.heap.size, 0, none⟩) y0.h.size _⟩, rfl⟩
    have fz : y2.w.frozen? ⟨y0.w.heap.size, 0, none⟩ = false := by have := unhide O2; simp [World.frozen?, this]
    have O3 := hide (show y3.w.heap[y0.w.heap.size]? = some (.cells #[.iface tt xx, .int .i64 8, .int .i64 r] 87 (0, 0)) by rw [← hy3]; exact heap_setCell_same _ _ _ _ _ _ (unhide O2))
    clear O2
    go_wp2_with (first | (refine wpList_load_row rfl 87 _ rfl y0.w.heap.size rfl 87 #[.iface tt xx, .int .i64 8, .int .i64 r] (0, 0) _ (unhide O3) Tryz.underlying87 rfl (by kernel_rfl) ?_) | (refine wpList_store_row rfl 87 _ _ rfl V.heap.size #[.iface tt xx, .int .i64 8, .int .i64 r] rfl rfl 87 _ (unhide RY _) szOp rfl (op_one (.inr ⟨_, _, rfl⟩) 8 r) ?_))
    refine bodyPost_ret (results_row2 (P := Tryz.prog) rfl _ _ V.heap.size 87 #[.iface tt xx, .int .i64 8, .int .i64 r] (0, 0) _ rfl (setRow_heap _ _ _ _ _ _ (unhide RY _)) Tryz.underlying87 rfl szOp) rfl ?_
    exact unhide F2 _ _ _ _ _ rfl (.inr ⟨_, _, rfl⟩) (fun h => ⟨unhide HV h, rfl, rfl⟩) (below_rowG (unhide BY y3) (unhide VL))
set_option maxHeartbeats 4000000 in
theorem opd_9 (r : Int) (e : Ex) (b : Option Addr) (cap : Nat) (w : World) (hr : RdX w 0 e b) (hz : e.sz ≤ 1048576) (ht : TabK w) (hf : TabF w) : Calls Tryz.prog 81 #[.agg ((Ag.mk 9 r e).cs b cap)] w (OpdR ⟨9, r, e⟩ w) := by
  have hsz := sz_is e
  have cR : cntB ⟨#[64, 35, 69]⟩ 82 = false := by decide
  have cE : cntB ⟨#[64, 35, 69]⟩ 69 = true := by decide
  have P := hide (fun w' (h : Below w.heap.size w w') => plnO_any e b cap w' (hr.later h) hz (ht.next h))
  unfold PlnR Ex.cs at P
  have V : agX ⟨9, r, e⟩ = (r == 0 && okF 6 true e) := by unfold agX; rfl
  have U : opU ⟨9, r, e⟩ = tv e := by unfold opU; rfl
  have FN := hide (fun r0 w' u f0 g q (h : (r == 0 && okF 6 true e) = q) (hr : r0 = .returned (.tuple #[.agg #[u, .int .i64 f0, .int .i64 g], .bool q])) (hu : IfV u) (hv : q = true → u = tv e ∧ f0 = 9 ∧ g = r) => opdR_of (w := w) (r := r0) (w' := w') (u := u) (f := f0) (g := g) (V.trans h) hr hu (fun x => by rw [U]; exact hv x))
  clear V U hr ht hsz hz
  generalize OpdR ⟨9, r, e⟩ w = R at *
  generalize okF 6 true e = q at *
  generalize tv e = tve at *
  unfold Ag.cs
  simp only
  generalize e.k = k at *
  generalize e.n = n at *
  generalize e.s = s at *
  generalize e.l.length = ll at *
  have G2 := two_new w (.cells #[.int .i64 9, .int .i64 r, .int .i64 k, .int .i64 n, .string s, .slice b ll cap] 35) (.cells #[.nilIface, .int .i64 0, .int .i64 0] 87)
  have G1 := two_new0 w (.cells #[.int .i64 9, .int .i64 r, .int .i64 k, .int .i64 n, .string s, .slice b ll cap] 35) (.cells #[.nilIface, .int .i64 0, .int .i64 0] 87)
  obtain ⟨V, hV⟩ : ∃ V, w.alloc (.cells #[.int .i64 9, .int .i64 r, .int .i64 k, .int .i64 n, .string s, .slice b ll cap] 35) = V := ⟨_, rfl⟩
  have vsz : w.heap.size + 1 = V.heap.size := by rw [← hV]; simp
  rw [vsz, hV] at G2
  rw [hV] at G1
  obtain ⟨W, hW⟩ : ∃ W, V.alloc (.cells #[.nilIface, .int .i64 0, .int .i64 0] 87) = W := ⟨_, rfl⟩
  rw [hW] at G1 G2
  obtain ⟨G2, hbW⟩ := G2
  have l1 : w.heap.size < W.heap.size := (Array.getElem?_eq_some_iff.1 G1).1
  have l2 : V.heap.size < W.heap.size := (Array.getElem?_eq_some_iff.1 G2).1
  have BY := hide (fun y : Sub W.heap.size W => hbW.trans (y.h.mono hbW.size))
  have RY := hide (fun y : Sub W.heap.size W => (y.h.block _ l2).trans G2)
  have VL := hide (show w.heap.size ≤ V.heap.size by omega)
  have ne := Sub.ne W.heap.size W
  have HZ := hide (Nat.le_refl W.heap.size)
  have E0 : ∀ y : Sub W.heap.size W, y.w.cell? ⟨w.heap.size, 0, none⟩ = some (.int .i64 9) := fun y => (y.h.cell (p := ⟨w.heap.size, 0, none⟩) l1).trans (Lib.cell_of_heap G1 0)
  have E1 : ∀ y : Sub W.heap.size W, y.w.cell? ⟨w.heap.size, 1, none⟩ = some (.int .i64 r) := fun y => (y.h.cell (p := ⟨w.heap.size, 1, none⟩) l1).trans (Lib.cell_of_heap G1 1)
  have E2 : ∀ y : Sub W.heap.size W, y.w.cell? ⟨w.heap.size, 2, none⟩ = some (.int .i64 k) := fun y => (y.h.cell (p := ⟨w.heap.size, 2, none⟩) l1).trans (Lib.cell_of_heap G1 2)
  have E3 : ∀ y : Sub W.heap.size W, y.w.cell? ⟨w.heap.size, 3, none⟩ = some (.int .i64 n) := fun y => (y.h.cell (p := ⟨w.heap.size, 3, none⟩) l1).trans (Lib.cell_of_heap G1 3)
  have E4 : ∀ y : Sub W.heap.size W, y.w.cell? ⟨w.heap.size, 4, none⟩ = some (.string s) := fun y => (y.h.cell (p := ⟨w.heap.size, 4, none⟩) l1).trans (Lib.cell_of_heap G1 4)
  have E5 : ∀ y : Sub W.heap.size W, y.w.cell? ⟨w.heap.size, 5, none⟩ = some (.slice b ll cap) := fun y => (y.h.cell (p := ⟨w.heap.size, 5, none⟩) l1).trans (Lib.cell_of_heap G1 5)
  have T0 : ∀ y : Sub W.heap.size W, y.w.cell? ⟨3, 9, none⟩ = some (.string ⟨#[64, 35, 69]⟩) := fun y => (hf.next (unhide BY y)).at9
  obtain ⟨y0, hy0⟩ : ∃ z : Sub W.heap.size W, W = z.w := ⟨⟨W, Below.refl _ _⟩, rfl⟩
  rw [hy0] at hW
  clear l1 l2 vsz hbW hy0
  have PY := hide (fun y : Sub W.heap.size W => unhide P y.w (unhide BY y))
  clear P hf
  by_cases h0 : r < 0
  · have F2 := hide (fun r0 w' u f0 g => unhide FN r0 w' u f0 g false (by rw [beq_eq_false_iff_ne.2 (show r ≠ 0 by omega)]; rfl))
    clear FN PY
    go_enter Tryz.func81, Tryz.ntmps81
    go_wp2_with (first | (go_at_call 90; refine (cntI _ _ _).mono ?_; rintro e w' ⟨rfl, hw'⟩; rw [hw']; clear hw' w'; (try rw [cR]); (try rw [cE])) | (refine wpList_store_row rfl 87 _ _ rfl V.heap.size #[.nilIface, .int .i64 0, .int .i64 0] rfl rfl 87 _ (unhide RY _) szOp rfl (op_one (.inl rfl) 0 0) ?_))
    refine bodyPost_ret (results_row2 (P := Tryz.prog) rfl _ _ V.heap.size 87 #[.nilIface, .int .i64 0, .int .i64 0] (0, 0) _ rfl (setRow_heap _ _ _ _ _ _ (unhide RY _)) Tryz.underlying87 rfl szOp) rfl ?_
    exact unhide F2 _ _ _ _ _ rfl (.inl rfl) (fun h => by cases h) (below_rowG (unhide BY _) (unhide VL))
  by_cases h7 : 0 < r
  · have F2 := hide (fun r0 w' u f0 g => unhide FN r0 w' u f0 g false (by rw [beq_eq_false_iff_ne.2 (show r ≠ 0 by omega)]; rfl))
    clear FN PY
    go_enter Tryz.func81, Tryz.ntmps81
    go_wp2_with (first | (go_at_call 90; refine (cntI _ _ _).mono ?_; rintro e w' ⟨rfl, hw'⟩; rw [hw']; clear hw' w'; (try rw [cR]); (try rw [cE])) | (refine wpList_store_row rfl 87 _ _ rfl V.heap.size #[.nilIface, .int .i64 0, .int .i64 0] rfl rfl 87 _ (unhide RY _) szOp rfl (op_one (.inl rfl) 0 0) ?_))
    refine bodyPost_ret (results_row2 (P := Tryz.prog) rfl _ _ V.heap.size 87 #[.nilIface, .int .i64 0, .int .i64 0] (0, 0) _ rfl (setRow_heap _ _ _ _ _ _ (unhide RY _)) Tryz.underlying87 rfl szOp) rfl ?_
    exact unhide F2 _ _ _ _ _ rfl (.inl rfl) (fun h => by cases h) (below_rowG (unhide BY _) (unhide VL))
  have F2 := hide (fun r0 w' u f0 g => unhide FN r0 w' u f0 g q (by rw [show r = 0 by omega]; rfl))
  clear FN
  obtain ⟨y1, hy1⟩ := Sub.step (unhide HZ) (below_new y0.w (.cells #[.nilIface, .int .i64 9, .int .i64 r] 87))
  have O1 := hide (show y1.w.heap[y0.w.heap.size]? = some (.cells #[.nilIface, .int .i64 9, .int .i64 r] 87 (0, 0)) by rw [← hy1]; exact Array.getElem?_push_size)
  have NO := hide (show V.heap.size ≠ y0.w.heap.size by have := (Array.getElem?_eq_some_iff.1 (unhide RY y0)).1; omega)
  have NA := hide (show V.heap.size ≠ w.heap.size by rw [← hV]; simp)
  have AY := hide (fun y : Sub W.heap.size W => (y.h.block _ (Array.getElem?_eq_some_iff.1 G1).1).trans G1)
  clear G1 G2
  go_enter Tryz.func81, Tryz.ntmps81
  go_wp2_with (first | (go_at_call 90; refine (cntI _ _ _).mono ?_; rintro e w' ⟨rfl, hw'⟩; rw [hw']; clear hw' w'; (try rw [cR]); (try rw [cE])))
  refine (unhide PY y1).mono ?_
  rintro r w2 ⟨v, rfl, hv, hb⟩
  have O2 := hide (row_keep (unhide O1) hb)
  have HV := hide hv.2
  have hi := hv.1
  obtain ⟨y2, rfl⟩ := Sub.step (unhide HZ) hb
  have c0 := Lib.cell_of_heap (unhide O2) 0
  clear hb O1 hv
  rcases hi with rfl | ⟨tt, xx, rfl⟩
  · obtain ⟨y3, hy3⟩ : ∃ z : Sub W.heap.size W, y2.w.setCell ⟨y0.w.heap.size, 0, none⟩ (.nilIface) = z.w := ⟨⟨_, y2.h.setCell (p := ⟨y0.w.heap.size, 0, none⟩) y0.h.size _⟩, rfl⟩
    have fz : y2.w.frozen? ⟨y0.w.heap.size, 0, none⟩ = false := by have := unhide O2; simp [World.frozen?, this]
    have O3 := hide (show y3.w.heap[y0.w.heap.size]? = some (.cells #[.nilIface, .int .i64 9, .int .i64 r] 87 (0, 0)) by rw [← hy3]; exact heap_setCell_same _ _ _ _ _ _ (unhide O2))
    clear O2
    go_wp2_with (first | (refine wpList_load_row rfl 87 _ rfl y0.w.heap.size rfl 87 #[.nilIface, .int .i64 9, .int .i64 r] (0, 0) _ (unhide O3) Tryz.underlying87 rfl (by kernel_rfl) ?_) | (refine wpList_store_row rfl 87 _ _ rfl V.heap.size #[.nilIface, .int .i64 9, .int .i64 r] rfl rfl 87 _ (unhide RY _) szOp rfl (op_one (.inl rfl) 9 r) ?_))
    refine bodyPost_ret (results_row2 (P := Tryz.prog) rfl _ _ V.heap.size 87 #[.nilIface, .int .i64 9, .int .i64 r] (0, 0) _ rfl (setRow_heap _ _ _ _ _ _ (unhide RY _)) Tryz.underlying87 rfl szOp) rfl ?_
    exact unhide F2 _ _ _ _ _ rfl (.inl rfl) (fun h => ⟨unhide HV h, rfl, rfl⟩) (below_rowG (unhide BY y3) (unhide VL))
  · obtain ⟨y3, hy3⟩ : ∃ z : Sub W.heap.size W, y2.w.setCell ⟨y0.w.heap.size, 0, none⟩ (.iface tt xx) = z.w := ⟨⟨_, y2.h.setCell (p := ⟨y0.w.heap.size, 0, none⟩) y0.h.size _⟩, rfl⟩
    have fz : y2.w.frozen? ⟨y0.w.heap.size, 0, none⟩ = false := by have := unhide O2; simp [World.frozen?, this]
    have O3 := hide (show y3.w.heap[y0.w.heap.size]? = some (.cells #[.iface tt xx, .int .i64 9, .int .i64 r] 87 (0, 0)) by rw [← hy3]; exact heap_setCell_same _ _ _ _ _ _ (unhide O2))
    clear O2
    go_wp2_with (first | (refine wpList_load_row rfl 87 _ rfl y0.w.heap.size rfl 87 #[.iface tt xx, .int .i64 9, .int .i64 r] (0, 0) _ (unhide O3) Tryz.underlying87 rfl (by kernel_rfl) ?_) | (refine wpList_store_row rfl 87 _ _ rfl V.heap.size #[.iface tt xx, .int .i64 9, .int .i64 r] rfl rfl 87 _ (unhide RY _) szOp rfl (op_one (.inr ⟨_, _, rfl⟩) 9 r) ?_))
    refine bodyPost_ret (results_row2 (P := Tryz.prog) rfl _ _ V.heap.size 87 #[.iface tt xx, .int .i64 9, .int .i64 r] (0, 0) _ rfl (setRow_heap _ _ _ _ _ _ (unhide RY _)) Tryz.underlying87 rfl szOp) rfl ?_
    exact unhide F2 _ _ _ _ _ rfl (.inr ⟨_, _, rfl⟩) (fun h => ⟨unhide HV h, rfl, rfl⟩) (below_rowG (unhide BY y3) (unhide VL))
set_option maxHeartbeats 4000000 in
theorem opd_10 (r : Int) (e : Ex) (b : Option Addr) (cap : Nat) (w : World) (hr : RdX w 0 e b) (hz : e.sz ≤ 1048576) (ht : TabK w) (hf : TabF w) : Calls Tryz.prog 81 #[.agg ((Ag.mk 10 r e).cs b cap)] w (OpdR ⟨10, r, e⟩ w) := by
  have hsz := sz_is e
  have cR : cntB ⟨#[69]⟩ 82 = false := by decide
  have cE : cntB ⟨#[69]⟩ 69 = true := by decide
  have P := hide (fun w' (h : Below w.heap.size w w') => plnO_any e b cap w' (hr.later h) hz (ht.next h))
  unfold PlnR Ex.cs at P
  have V : agX ⟨10, r, e⟩ = (r == 0 && okF 6 true e) := by unfold agX; rfl
  have U : opU ⟨10, r, e⟩ = tv e := by unfold opU; rfl
  have FN := hide (fun r0 w' u f0 g q (h : (r == 0 && okF 6 true e) = q) (hr : r0 = .returned (.tuple #[.agg #[u, .int .i64 f0, .int .i64 g], .bool q])) (hu : IfV u) (hv : q = true → u = tv e ∧ f0 = 10 ∧ g = r) => opdR_of (w := w) (r := r0) (w' := w') (u := u) (f := f0) (g := g) (V.trans h) hr hu (fun x => by rw [U]; exact hv x))
  clear V U hr ht hsz hz
  generalize OpdR ⟨10, r, e⟩ w = R at *
  generalize okF 6 true e = q at *
  generalize tv e = tve at *
  unfold Ag.cs
  simp only
  generalize e.k = k at *
  generalize e.n = n at *
  generalize e.s = s at *
  generalize e.l.length = ll at *
  have G2 := two_new w (.cells #[.int .i64 10, .int .i64 r, .int .i64 k, .int .i64 n, .string s, .slice b ll cap] 35) (.cells #[.nilIface, .int .i64 0, .int .i64 0] 87)
  have G1 := two_new0 w (.cells #[.int .i64 10, .int .i64 r, .int .i64 k, .int .i64 n, .string s, .slice b ll cap] 35) (.cells #[.nilIface, .int .i64 0, .int .i64 0] 87)
  obtain ⟨V, hV⟩ : ∃ V, w.alloc (.cells #[.int .i64 10, .int .i64 r, .int .i64 k, .int .i64 n, .string s, .slice b ll cap] 35) = V := ⟨_, rfl⟩
  have vsz : w.heap.size + 1 = V.heap.size := by rw [← hV]; simp
  rw [vsz, hV] at G2
  rw [hV] at G1
  obtain ⟨W, hW⟩ : ∃ W, V.alloc (.cells #[.nilIface, .int .i64 0, .int .i64 0] 87) = W := ⟨_, rfl⟩
  rw [hW] at G1 G2
  obtain ⟨G2, hbW⟩ := G2
  have l1 : w.heap.size < W.heap.size := (Array.getElem?_eq_some_iff.1 G1).1
  have l2 : V.heap.size < W.heap.size := (Array.getElem?_eq_some_iff.1 G2).1
  have BY := hide (fun y : Sub W.heap.size W => hbW.trans (y.h.mono hbW.size))
  have RY := hide (fun y : Sub W.heap.size W => (y.h.block _ l2).trans G2)
  have VL := hide (show w.heap.size ≤ V.heap.size by omega)
  have ne := Sub.ne W.heap.size W
  have HZ := hide (Nat.le_refl W.heap.size)
  have E0 : ∀ y : Sub W.heap.size W, y.w.cell? ⟨w.heap.size, 0, none⟩ = some (.int .i64 10) := fun y => (y.h.cell (p := ⟨w.heap.size, 0, none⟩) l1).trans (Lib.cell_of_heap G1 0)
  have E1 : ∀ y : Sub W.heap.size W, y.w.cell? ⟨w.heap.size, 1, none⟩ = some (.int .i64 r) := fun y => (y.h.cell (p := ⟨w.heap.size, 1, none⟩) l1).trans (Lib.cell_of_heap G1 1)
  have E2 : ∀ y : Sub W.heap.size W, y.w.cell? ⟨w.heap.size, 2, none⟩ = some (.int .i64 k) := fun y => (y.h.cell (p := ⟨w.heap.size, 2, none⟩) l1).trans (Lib.cell_of_heap G1 2)
  have E3 : ∀ y : Sub W.heap.size W, y.w.cell? ⟨w.heap.size, 3, none⟩ = some (.int .i64 n) := fun y => (y.h.cell (p := ⟨w.heap.size, 3, none⟩) l1).trans (Lib.cell_of_heap G1 3)
  have E4 : ∀ y : Sub W.heap.size W, y.w.cell? ⟨w.heap.size, 4, none⟩ = some (.string s) := fun y => (y.h.cell (p := ⟨w.heap.size, 4, none⟩) l1).trans (Lib.cell_of_heap G1 4)
  have E5 : ∀ y : Sub W.heap.size W, y.w.cell? ⟨w.heap.size, 5, none⟩ = some (.slice b ll cap) := fun y => (y.h.cell (p := ⟨w.heap.size, 5, none⟩) l1).trans (Lib.cell_of_heap G1 5)
  have T0 : ∀ y : Sub W.heap.size W, y.w.cell? ⟨3, 10, none⟩ = some (.string ⟨#[69]⟩) := fun y => (hf.next (unhide BY y)).at10
  obtain ⟨y0, hy0⟩ : ∃ z : Sub W.heap.size W, W = z.w := ⟨⟨W, Below.refl _ _⟩, rfl⟩
  rw [hy0] at hW
  clear l1 l2 vsz hbW hy0
  have PY := hide (fun y : Sub W.heap.size W => unhide P y.w (unhide BY y))
  clear P hf
  by_cases h0 : r < 0
  · have F2 := hide (fun r0 w' u f0 g => unhide FN r0 w' u f0 g false (by rw [beq_eq_false_iff_ne.2 (show r ≠ 0 by omega)]; rfl))
    clear FN PY
    go_enter Tryz.func81, Tryz.ntmps81
    go_wp2_with (first | (go_at_call 90; refine (cntI _ _ _).mono ?_; rintro e w' ⟨rfl, hw'⟩; rw [hw']; clear hw' w'; (try rw [cR]); (try rw [cE])) | (refine wpList_store_row rfl 87 _ _ rfl V.heap.size #[.nilIface, .int .i64 0, .int .i64 0] rfl rfl 87 _ (unhide RY _) szOp rfl (op_one (.inl rfl) 0 0) ?_))
    refine bodyPost_ret (results_row2 (P := Tryz.prog) rfl _ _ V.heap.size 87 #[.nilIface, .int .i64 0, .int .i64 0] (0, 0) _ rfl (setRow_heap _ _ _ _ _ _ (unhide RY _)) Tryz.underlying87 rfl szOp) rfl ?_
    exact unhide F2 _ _ _ _ _ rfl (.inl rfl) (fun h => by cases h) (below_rowG (unhide BY _) (unhide VL))
  by_cases h7 : 0 < r
  · have F2 := hide (fun r0 w' u f0 g => unhide FN r0 w' u f0 g false (by rw [beq_eq_false_iff_ne.2 (show r ≠ 0 by omega)]; rfl))
    clear FN PY
    go_enter Tryz.func81, Tryz.ntmps81
    go_wp2_with (first | (go_at_call 90; refine (cntI _ _ _).mono ?_; rintro e w' ⟨rfl, hw'⟩; rw [hw']; clear hw' w'; (try rw [cR]); (try rw [cE])) | (refine wpList_store_row rfl 87 _ _ rfl V.heap.size #[.nilIface, .int .i64 0, .int .i64 0] rfl rfl 87 _ (unhide RY _) szOp rfl (op_one (.inl rfl) 0 0) ?_))
    refine bodyPost_ret (results_row2 (P := Tryz.prog) rfl _ _ V.heap.size 87 #[.nilIface, .int .i64 0, .int .i64 0] (0, 0) _ rfl (setRow_heap _ _ _ _ _ _ (unhide RY _)) Tryz.underlying87 rfl szOp) rfl ?_
    exact unhide F2 _ _ _ _ _ rfl (.inl rfl) (fun h => by cases h) (below_rowG (unhide BY _) (unhide VL))
  have F2 := hide (fun r0 w' u f0 g => unhide FN r0 w' u f0 g q (by rw [show r = 0 by omega]; rfl))
  clear FN
  obtain ⟨y1, hy1⟩ := Sub.step (unhide HZ) (below_new y0.w (.cells #[.nilIface, .int .i64 10, .int .i64 r] 87))
  have O1 := hide (show y1.w.heap[y0.w.heap.size]? = some (.cells #[.nilIface, .int .i64 10, .int .i64 r] 87 (0, 0)) by rw [← hy1]; exact Array.getElem?_push_size)
  have NO := hide (show V.heap.size ≠ y0.w.heap.size by have := (Array.getElem?_eq_some_iff.1 (unhide RY y0)).1; omega)
  have NA := hide (show V.heap.size ≠ w.heap.size by rw [← hV]; simp)
  have AY := hide (fun y : Sub W.heap.size W => (y.h.block _ (Array.getElem?_eq_some_iff.1 G1).1).trans G1)
  clear G1 G2
  go_enter Tryz.func81, Tryz.ntmps81
  go_wp2_with (first | (go_at_call 90; refine (cntI _ _ _).mono ?_; rintro e w' ⟨rfl, hw'⟩; rw [hw']; clear hw' w'; (try rw [cR]); (try rw [cE])))
  refine (unhide PY y1).mono ?_
  rintro r w2 ⟨v, rfl, hv, hb⟩
  have O2 := hide (row_keep (unhide O1) hb)
  have HV := hide hv.2
  have hi := hv.1
  obtain ⟨y2, rfl⟩ := Sub.step (unhide HZ) hb
  have c0 := Lib.cell_of_heap (unhide O2) 0
  clear hb O1 hv
  rcases hi with rfl | ⟨tt, xx, rfl⟩
  · obtain ⟨y3, hy3⟩ : ∃ z : Sub W.heap.size W, y2.w.setCell ⟨y0.w.heap.size, 0, none⟩ (.nilIface) = z.w := ⟨⟨_, y2.h.setCell (p := ⟨y0.w.heap.size, 0, none⟩) y0.h.size _⟩, rfl⟩
    have fz : y2.w.frozen? ⟨y0.w.heap.size, 0, none⟩ = false := by have := unhide O2; simp [World.frozen?, this]
    have O3 := hide (show y3.w.heap[y0.w.heap.size]? = some (.cells #[.nilIface, .int .i64 10, .int .i64 r] 87 (0, 0)) by rw [← hy3]; exact heap_setCell_same _ _ _ _ _ _ (unhide O2))
    clear O2
    go_wp2_with (first | (refine wpList_load_row rfl 87 _ rfl y0.w.heap.size rfl 87 #[.nilIface, .int .i64 10, .int .i64 r] (0, 0) _ (unhide O3) Tryz.underlying87 rfl (by kernel_rfl) ?_) | (refine wpList_store_row rfl 87 _ _ rfl V.heap.size #[.nilIface, .int .i64 10, .int .i64 r] rfl rfl 87 _ (unhide RY _) szOp rfl (op_one (.inl rfl) 10 r) ?_))
    refine bodyPost_ret (results_row2 (P := Tryz.prog) rfl _ _ V.heap.size 87 #[.nilIface, .int .i64 10, .int .i64 r] (0, 0) _ rfl (setRow_heap _ _ _ _ _ _ (unhide RY _)) Tryz.underlying87 rfl szOp) rfl ?_
    exact unhide F2 _ _ _ _ _ rfl (.inl rfl) (fun h => ⟨unhide HV h, rfl, rfl⟩) (below_rowG (unhide BY y3) (unhide VL))
  · obtain ⟨y3, hy3⟩ : ∃ z : Sub W.heap.size W, y2.w.setCell ⟨y0.w.heap.size, 0, none⟩ (.iface tt xx) = z.w := ⟨⟨_, y2.h.setCell (p := ⟨y0.w.heap.size, 0, none⟩) y0.h.size _⟩, rfl⟩
    have fz : y2.w.frozen? ⟨y0.w.heap.size, 0, none⟩ = false := by have := unhide O2; simp [World.frozen?, this]
    have O3 := hide (show y3.w.heap[y0.w.heap.size]? = some (.cells #[.iface tt xx, .int .i64 10, .int .i64 r] 87 (0, 0)) by rw [← hy3]; exact heap_setCell_same _ _ _ _ _ _ (unhide O2))
    clear O2
    go_wp2_with (first | (refine wpList_load_row rfl 87 _ rfl y0.w.heap.size rfl 87 #[.iface tt xx, .int .i64 10, .int .i64 r] (0, 0) _ (unhide O3) Tryz.underlying87 rfl (by kernel_rfl) ?_) | (refine wpList_store_row rfl 87 _ _ rfl V.heap.size #[.iface tt xx, .int .i64 10, .int .i64 r] rfl rfl 87 _ (unhide RY _) szOp rfl (op_one (.inr ⟨_, _, rfl⟩) 10 r) ?_))
    refine bodyPost_ret (results_row2 (P := Tryz.prog) rfl _ _ V.heap.size 87 #[.iface tt xx, .int .i64 10, .int .i64 r] (0, 0) _ rfl (setRow_heap _ _ _ _ _ _ (unhide RY _)) Tryz.underlying87 rfl szOp) rfl ?_
    exact unhide F2 _ _ _ _ _ rfl (.inr ⟨_, _, rfl⟩) (fun h => ⟨unhide HV h, rfl, rfl⟩) (below_rowG (unhide BY y3) (unhide VL))
set_option maxHeartbeats 4000000 in
theorem opd_11 (r : Int) (e : Ex) (b : Option Addr) (cap : Nat) (w : World) (hr : RdX w 0 e b) (hz : e.sz ≤ 1048576) (ht : TabK w) (hf : TabF w) : Calls Tryz.prog 81 #[.agg ((Ag.mk 11 r e).cs b cap)] w (OpdR ⟨11, r, e⟩ w) := by
  have hsz := sz_is e
  have cR : cntB ⟨#[64, 69]⟩ 82 = false := by decide
  have cE : cntB ⟨#[64, 69]⟩ 69 = true := by decide
  have P := hide (fun w' (h : Below w.heap.size w w') => plnO_any e b cap w' (hr.later h) hz (ht.next h))
  unfold PlnR Ex.cs at P
  have V : agX ⟨11, r, e⟩ = (r == 0 && okF 6 true e) := by unfold agX; rfl
  have U : opU ⟨11, r, e⟩ = tv e := by unfold opU; rfl
  have FN := hide (fun r0 w' u f0 g q (h : (r == 0 && okF 6 true e) = q) (hr : r0 = .returned (.tuple #[.agg #[u, .int .i64 f0, .int .i64 g], .bool q])) (hu : IfV u) (hv : q = true → u = tv e ∧ f0 = 11 ∧ g = r) => opdR_of (w := w) (r := r0) (w' := w') (u := u) (f := f0) (g := g) (V.trans h) hr hu (fun x => by rw [U]; exact hv x))
  clear V U hr ht hsz hz
  generalize OpdR ⟨11, r, e⟩ w = R at *
  generalize okF 6 true e = q at *
  generalize tv e = tve at *
  unfold Ag.cs
  simp only
  generalize e.k = k at *
  generalize e.n = n at *
  generalize e.s = s at *
  generalize e.l.length = ll at *
  have G2 := two_new w (.cells #[.int .i64 11, .int .i64 r, .int .i64 k, .int .i64 n, .string s, .slice b ll cap] 35) (.cells #[.nilIface, .int .i64 0, .int .i64 0] 87)
  have G1 := two_new0 w (.cells #[.int .i64 11, .int .i64 r, .int .i64 k, .int .i64 n, .string s, .slice b ll cap] 35) (.cells #[.nilIface, .int .i64 0, .int .i64 0] 87)
  obtain ⟨V, hV⟩ : ∃ V, w.alloc (.cells #[.int .i64 11, .int .i64 r, .int .i64 k, .int .i64 n, .string s, .slice b ll cap] 35) = V := ⟨_, rfl⟩
  have vsz : w.heap.size + 1 = V.heap.size := by rw [← hV]; simp
  rw [vsz, hV] at G2
  rw [hV] at G1
  obtain ⟨W, hW⟩ : ∃ W, V.alloc (.cells #[.nilIface, .int .i64 0, .int .i64 0] 87) = W := ⟨_, rfl⟩
  rw [hW] at G1 G2
  obtain ⟨G2, hbW⟩ := G2
  have l1 : w.heap.size < W.heap.size := (Array.getElem?_eq_some_iff.1 G1).1
  have l2 : V.heap.size < W.heap.size := (Array.getElem?_eq_some_iff.1 G2).1
  have BY := hide (fun y : Sub W.heap.size W => hbW.trans (y.h.mono hbW.size))
  have RY := hide (fun y : Sub W.heap.size W => (y.h.block _ l2).trans G2)
  have VL := hide (show w.heap.size ≤ V.heap.size by omega)
  have ne := Sub.ne W.heap.size W
  have HZ := hide (Nat.le_refl W.heap.size)
  have E0 : ∀ y : Sub W.heap.size W, y.w.cell? ⟨w.heap.size, 0, none⟩ = some (.int .i64 11) := fun y => (y.h.cell (p := ⟨w.heap.size, 0, none⟩) l1).trans (Lib.cell_of_heap G1 0)
  have E1 : ∀ y : Sub W.heap.size W, y.w.cell? ⟨w.heap.size, 1, none⟩ = some (.int .i64 r) := fun y => (y.h.cell (p := ⟨w.heap.size, 1, none⟩) l1).trans (Lib.cell_of_heap G1 1)
  have E2 : ∀ y : Sub W.heap.size W, y.w.cell? ⟨w.heap.size, 2, none⟩ = some (.int .i64 k) := fun y => (y.h.cell (p := ⟨w.heap.size, 2, none⟩) l1).trans (Lib.cell_of_heap G1 2)
  have E3 : ∀ y : Sub W.heap.size W, y.w.cell? ⟨w.heap.size, 3, none⟩ = some (.int .i64 n) := fun y => (y.h.cell (p := ⟨w.heap.size, 3, none⟩) l1).trans (Lib.cell_of_heap G1 3)
  have E4 : ∀ y : Sub W.heap.size W, y.w.cell? ⟨w.heap.size, 4, none⟩ = some (.string s) := fun y => (y.h.cell (p := ⟨w.heap.size, 4, none⟩) l1).trans (Lib.cell_of_heap G1 4)
  have E5 : ∀ y : Sub W.heap.size W, y.w.cell? ⟨w.heap.size, 5, none⟩ = some (.slice b ll cap) := fun y => (y.h.cell (p := ⟨w.heap.size, 5, none⟩) l1).trans (Lib.cell_of_heap G1 5)
  have T0 : ∀ y : Sub W.heap.size W, y.w.cell? ⟨3, 11, none⟩ = some (.string ⟨#[64, 69]⟩) := fun y => (hf.next (unhide BY y)).at11
  obtain ⟨y0, hy0⟩ : ∃ z : Sub W.heap.size W, W = z.w := ⟨⟨W, Below.refl _ _⟩, rfl⟩
  rw [hy0] at hW
  clear l1 l2 vsz hbW hy0
  have PY := hide (fun y : Sub W.heap.size W => unhide P y.w (unhide BY y))
  clear P hf
  by_cases h0 : r < 0
  · have F2 := hide (fun r0 w' u f0 g => unhide FN r0 w' u f0 g false (by rw [beq_eq_false_iff_ne.2 (show r ≠ 0 by omega)]; rfl))
    clear FN PY
    go_enter Tryz.func81, Tryz.ntmps81
    go_wp2_with (first | (go_at_call 90; refine (cntI _ _ _).mono ?_; rintro e w' ⟨rfl, hw'⟩; rw [hw']; clear hw' w'; (try rw [cR]); (try rw [cE])) | (refine wpList_store_row rfl 87 _ _ rfl V.heap.size #[.nilIface, .int .i64 0, .int .i64 0] rfl rfl 87 _ (unhide RY _) szOp rfl (op_one (.inl rfl) 0 0) ?_))
    refine bodyPost_ret (results_row2 (P := Tryz.prog) rfl _ _ V.heap.size 87 #[.nilIface, .int .i64 0, .int .i64 0] (0, 0) _ rfl (setRow_heap _ _ _ _ _ _ (unhide RY _)) Tryz.underlying87 rfl szOp) rfl ?_
    exact unhide F2 _ _ _ _ _ rfl (.inl rfl) (fun h => by cases h) (below_rowG (unhide BY _) (unhide VL))
  by_cases h7 : 0 < r
  · have F2 := hide (fun r0 w' u f0 g => unhide FN r0 w' u f0 g false (by rw [beq_eq_false_iff_ne.2 (show r ≠ 0 by omega)]; rfl))
    clear FN PY
    go_enter Tryz.func81, Tryz.ntmps81
    go_wp2_with (first | (go_at_call 90; refine (cntI _ _ _).mono ?_; rintro e w' ⟨rfl, hw'⟩; rw [hw']; clear hw' w'; (try rw [cR]); (try rw [cE])) | (refine wpList_store_row rfl 87 _ _ rfl V.heap.size #[.nilIface, .int .i64 0, .int .i64 0] rfl rfl 87 _ (unhide RY _) szOp rfl (op_one (.inl rfl) 0 0) ?_))
    refine bodyPost_ret (results_row2 (P := Tryz.prog) rfl _ _ V.heap.size 87 #[.nilIface, .int .i64 0, .int .i64 0] (0, 0) _ rfl (setRow_heap _ _ _ _ _ _ (unhide RY _)) Tryz.underlying87 rfl szOp) rfl ?_
    exact unhide F2 _ _ _ _ _ rfl (.inl rfl) (fun h => by cases h) (below_rowG (unhide BY _) (unhide VL))
  have F2 := hide (fun r0 w' u f0 g => unhide FN r0 w' u f0 g q (by rw [show r = 0 by omega]; rfl))
  clear FN
  obtain ⟨y1, hy1⟩ := Sub.step (unhide HZ) (below_new y0.w (.cells #[.nilIface, .int .i64 11, .int .i64 r] 87))
  have O1 := hide (show y1.w.heap[y0.w.heap.size]? = some (.cells #[.nilIface, .int .i64 11, .int .i64 r] 87 (0, 0)) by rw [← hy1]; exact Array.getElem?_push_size)
  have NO := hide (show V.heap.size ≠ y0.w.heap.size by have := (Array.getElem?_eq_some_iff.1 (unhide RY y0)).1; omega)
  have NA := hide (show V.heap.size ≠ w.heap.size by rw [← hV]; simp)
  have AY := hide (fun y : Sub W.heap.size W => (y.h.block _ (Array.getElem?_eq_some_iff.1 G1).1).trans G1)
  clear G1 G2
  go_enter Tryz.func81, Tryz.ntmps81
  go_wp2_with (first | (go_at_call 90; refine (cntI _ _ _).mono ?_; rintro e w' ⟨rfl, hw'⟩; rw [hw']; clear hw' w'; (try rw [cR]); (try rw [cE])))
  refine (unhide PY y1).mono ?_
  rintro r w2 ⟨v, rfl, hv, hb⟩
  have O2 := hide (row_keep (unhide O1) hb)
  have HV := hide hv.2
  have hi := hv.1
  obtain ⟨y2, rfl⟩ := Sub.step (unhide HZ) hb
  have c0 := Lib.cell_of_heap (unhide O2) 0
  clear hb O1 hv
  rcases hi with rfl | ⟨tt, xx, rfl⟩
  · obtain ⟨y3, hy3⟩ : ∃ z : Sub W.heap.size W, y2.w.setCell ⟨y0.w.heap.size, 0, none⟩ (.nilIface) = z.w := ⟨⟨_, y2.h.setCell (p := ⟨y0.w.heap.size, 0, none⟩) y0.h.size _⟩, rfl⟩
    have fz : y2.w.frozen? ⟨y0.w.heap.size, 0, none⟩ = false := by have := unhide O2; simp [World.frozen?, this]
    have O3 := hide (show y3.w.heap[y0.w.heap.size]? = some (.cells #[.nilIface, .int .i64 11, .int .i64 r] 87 (0, 0)) by rw [← hy3]; exact heap_setCell_same _ _ _ _ _ _ (unhide O2))
    clear O2
    go_wp2_with (first | (refine wpList_load_row rfl 87 _ rfl y0.w.heap.size rfl 87 #[.nilIface, .int .i64 11, .int .i64 r] (0, 0) _ (unhide O3) Tryz.underlying87 rfl (by kernel_rfl) ?_) | (refine wpList_store_row rfl 87 _ _ rfl V.heap.size #[.nilIface, .int .i64 11, .int .i64 r] rfl rfl 87 _ (unhide RY _) szOp rfl (op_one (.inl rfl) 11 r) ?_))
    refine bodyPost_ret (results_row2 (P := Tryz.prog) rfl _ _ V.heap.size 87 #[.nilIface, .int .i64 11, .int .i64 r] (0, 0) _ rfl (setRow_heap _ _ _ _ _ _ (unhide RY _)) Tryz.underlying87 rfl szOp) rfl ?_
    exact unhide F2 _ _ _ _ _ rfl (.inl rfl) (fun h => ⟨unhide HV h, rfl, rfl⟩) (below_rowG (unhide BY y3) (unhide VL))
  · obtain ⟨y3, hy3⟩ : ∃ z : Sub W.heap.size W, y2.w.setCell ⟨y0.w.heap.size, 0, none⟩ (.iface tt xx) = z.w := ⟨⟨_, y2.h.setCell (p := ⟨y0.w.heap.size, 0, none⟩) y0.h.size _⟩, rfl⟩
    have fz : y2.w.frozen? ⟨y0.w.heap.size, 0, none⟩ = false := by have := unhide O2; simp [World.frozen?, this]
    have O3 := hide (show y3.w.heap[y0.w.heap.size]? = some (.cells #[.iface tt xx, .int .i64 11, .int .i64 r] 87 (0, 0)) by rw [← hy3]; exact heap_setCell_same _ _ _ _ _ _ (unhide O2))
    clear O2
    go_wp2_with (first | (refine wpList_load_row rfl 87 _ rfl y0.w.heap.size rfl 87 #[.iface tt xx, .int .i64 11, .int .i64 r] (0, 0) _ (unhide O3) Tryz.underlying87 rfl (by kernel_rfl) ?_) | (refine wpList_store_row rfl 87 _ _ rfl V.heap.size #[.iface tt xx, .int .i64 11, .int .i64 r] rfl rfl 87 _ (unhide RY _) szOp rfl (op_one (.inr ⟨_, _, rfl⟩) 11 r) ?_))
    refine bodyPost_ret (results_row2 (P := Tryz.prog) rfl _ _ V.heap.size 87 #[.iface tt xx, .int .i64 11, .int .i64 r] (0, 0) _ rfl (setRow_heap _ _ _ _ _ _ (unhide RY _)) Tryz.underlying87 rfl szOp) rfl ?_
    exact unhide F2 _ _ _ _ _ rfl (.inr ⟨_, _, rfl⟩) (fun h => ⟨unhide HV h, rfl, rfl⟩) (below_rowG (unhide BY y3) (unhide VL))
end Go.Proofs.YtmhcbehplhfgfaaGreatDoor

namespace Go.Proofs.YtmhcbehplhfgfaaGreatDoor
open Go.ChangeShapes Go.WideShapes Go.ChangeAt Go.RowKit
set_option linter.unusedVariables false
set_option maxRecDepth 8000
set_option linter.unusedSimpArgs false
/-- What the road of an operand reads: kept words, forms. -/
structure TabA (w : World) : Prop where
  k : TabK w
  f : TabF w
theorem TabA.next {w w' : World} (h : TabA w) (hb : Below w.heap.size w w') : TabA w' := ⟨h.k.next hb, h.f.next hb⟩
theorem opdI_any (a : Ag) (b : Option Addr) (cap : Nat) (w : World) (hr : RdX w 0 a.e b) (hz : a.e.sz ≤ 1048576) (ht : TabA w) : Calls Tryz.prog 81 #[.agg (a.cs b cap)] w (OpdR a w) := by
  obtain ⟨f, r, e⟩ := a
  by_cases h : f < 0 ∨ 11 < f
  · exact opd_no f r e b cap w h
  · have : f = 0 ∨ f = 1 ∨ f = 2 ∨ f = 3 ∨ f = 4 ∨ f = 5 ∨ f = 6 ∨ f = 7 ∨ f = 8 ∨ f = 9 ∨ f = 10 ∨ f = 11 := by omega
    rcases this with rfl | rfl | rfl | rfl | rfl | rfl | rfl | rfl | rfl | rfl | rfl | rfl
    · exact opd_0 r e b cap w hr hz ht.k ht.f
    · exact opd_1 r e b cap w hr hz ht.k ht.f
    · exact opd_2 r e b cap w hr hz ht.k ht.f
    · exact opd_3 r e b cap w hr hz ht.k ht.f
    · exact opd_4 r e b cap w hr hz ht.k ht.f
    · exact opd_5 r e b cap w hr hz ht.k ht.f
    · exact opd_6 r e b cap w hr hz ht.k ht.f
    · exact opd_7 r e b cap w hr hz ht.k ht.f
    · exact opd_8 r e b cap w hr hz ht.k ht.f
    · exact opd_9 r e b cap w hr hz ht.k ht.f
    · exact opd_10 r e b cap w hr hz ht.k ht.f
    · exact opd_11 r e b cap w hr hz ht.k ht.f
end Go.Proofs.YtmhcbehplhfgfaaGreatDoor

namespace Go.Proofs.YtmhcbehplhfgfaaGreatDoor
open Go.ChangeShapes Go.WideShapes Go.ChangeAt Go.RowKit
set_option linter.unusedVariables false
set_option maxRecDepth 8000
set_option linter.unusedSimpArgs false
section
variable {H : Type} {enc : TypeId × Value → H} {P : Program} {w : World} {spare : Nat → Bool}
theorem varsL_3 {n0 n1 n2 : String} {gs : List (DataW H)} {ps : List MemPlace} (h : DataW.TrodVars enc P w spare [n0, n1, n2] gs ps) : ∃ d0 d1 d2, gs = [d0, d1, d2] := by
  cases gs with
  | nil => simp [DataW.TrodVars] at h
  | cons d ds =>
    obtain ⟨g0, t0, cs0, f0, p0, q0, h1, h2, h3, h4, hs, e⟩ := h
    obtain ⟨g1, t1, cs1, f1, d1, p1, g2, t2, cs2, f2, d2, p2, rfl, _⟩ := trodVars_two hs
    exact ⟨d, d1, d2, rfl⟩
theorem varsL_4 {n0 n1 n2 n3 : String} {gs : List (DataW H)} {ps : List MemPlace} (h : DataW.TrodVars enc P w spare [n0, n1, n2, n3] gs ps) : ∃ d0 d1 d2 d3, gs = [d0, d1, d2, d3] := by
  cases gs with
  | nil => simp [DataW.TrodVars] at h
  | cons d ds =>
    obtain ⟨g0, t0, cs0, f0, p0, q0, h1, h2, h3, h4, hs, e⟩ := h
    obtain ⟨d1, d2, d3, rfl⟩ := varsL_3 hs
    exact ⟨d, d1, d2, d3, rfl⟩
theorem varsL_5 {n0 n1 n2 n3 n4 : String} {gs : List (DataW H)} {ps : List MemPlace} (h : DataW.TrodVars enc P w spare [n0, n1, n2, n3, n4] gs ps) : ∃ d0 d1 d2 d3 d4, gs = [d0, d1, d2, d3, d4] := by
  cases gs with
  | nil => simp [DataW.TrodVars] at h
  | cons d ds =>
    obtain ⟨g0, t0, cs0, f0, p0, q0, h1, h2, h3, h4, hs, e⟩ := h
    obtain ⟨d1, d2, d3, d4, rfl⟩ := varsL_4 hs
    exact ⟨d, d1, d2, d3, d4, rfl⟩
end
theorem gFm : Tryz.prog.globalNamed "loop.example/g00329/impl.argForms" = some 3 := by kernel_rfl
theorem tFm : (Tryz.prog.globals[3]?).map (·.type) = some 113 := by kernel_rfl
theorem fmD_eq : (Rows.laid_loop_example_g00329_impl_argForms : DataW Unit) = strData fmL := by kernel_rfl
end Go.Proofs.YtmhcbehplhfgfaaGreatDoor

namespace Go.Proofs.YtmhcbehplhfgfaaGreatDoor
open Go.ChangeShapes Go.WideShapes Go.ChangeAt Go.RowKit
set_option linter.unusedVariables false
set_option maxRecDepth 8000
set_option linter.unusedSimpArgs false
/-- What lines of a kind name. -/
structure Sh where
  nm : Bool
  src : Bool
  dst : Bool
  gn : Int
  fw : Int
  mo : Int
  na : Bool
def Sh.cs (s : Sh) : Array Value := #[.bool s.nm, .bool s.src, .bool s.dst, .int .i64 s.gn, .int .i64 s.fw, .int .i64 s.mo, .bool s.na]
/-- A struct stored into the row made last. -/
theorem storeN {P : Program} {ops : Array Oper} {rest : List Oper} {o : Oper} {a : Act} {w : World} {Q : Exit → Act → World → Prop} (hgd : o.guard = none) (ty : TypeId) (x y : Operand) (ho : o.op = .store ty x y)
    (cells : Array Value) (hx : a.eval x = .pointer (some ⟨w.heap.size, 0, none⟩)) (hy : a.eval y = .agg cells) (old : Array Value) (hi : (P.info? ty).map (·.size) = some cells.size)
    (hold : old.size = cells.size) (h1 : cells.all (·.oneCell') = true) (h : wpList P ops Q rest (a.put o.dst undef) (w.alloc (.cells cells ty))) : wpList P ops Q (o :: rest) a (w.alloc (.cells old ty)) :=
  wpList_store_row hgd ty x y ho w.heap.size cells hx hy ty old (show (w.alloc (.cells old ty)).heap[w.heap.size]? = some (.cells old ty (0, 0)) from Array.getElem?_push_size) hi hold h1 (by rw [World.setRow_alloc_new]; exact h)
def sh0 : Sh := ⟨false, false, false, 0, 0, 0, false⟩
theorem szSh : (Tryz.prog.info? 73).map (·.size) = some 7 := by kernel_rfl
theorem sh_one (a b c d : Bool) (e f g : Int) : (#[.bool a, .bool b, .bool c, .int .i64 e, .int .i64 f, .int .i64 g, .bool d] : Array Value).all (·.oneCell') = true := by simp [Value.oneCell']
theorem srcB_any (op : Int) (w : World) : Calls Tryz.prog 75 #[.int .i64 op] w fun e w' => e = .returned (.bool (inB op 1 6)) ∧ w' = w := by
  go_enter Tryz.func75, Tryz.ntmps75
  go_wp2
  all_goals go_ret
  all_goals (refine ⟨ret_bool ?_, rfl⟩; unfold inB; simp_all <;> omega)
theorem dstB_any (op : Int) (w : World) : Calls Tryz.prog 76 #[.int .i64 op] w fun e w' => e = .returned (.bool (inB op 1 15)) ∧ w' = w := by
  go_enter Tryz.func76, Tryz.ntmps76
  go_wp2
  all_goals go_ret
  all_goals (refine ⟨ret_bool ?_, rfl⟩; unfold inB; simp_all <;> omega)
theorem braB_any (op : Int) (w : World) : Calls Tryz.prog 77 #[.int .i64 op] w fun e w' => e = .returned (.bool (inB op 17 21)) ∧ w' = w := by
  go_enter Tryz.func77, Tryz.ntmps77
  go_wp2
  all_goals go_ret
  all_goals (refine ⟨ret_bool ?_, rfl⟩; unfold inB; simp_all <;> omega)
theorem isoB_any (op : Int) (w : World) : Calls Tryz.prog 78 #[.int .i64 op] w fun e w' => e = .returned (.bool (inB op 1 23)) ∧ w' = w := by
  go_enter Tryz.func78, Tryz.ntmps78
  go_wp2
  all_goals go_ret
  all_goals (refine ⟨ret_bool ?_, rfl⟩; unfold inB; simp_all <;> omega)
def regB (op : Int) : Bool := op == 15 || op == 16
theorem regB_any (op : Int) (w : World) : Calls Tryz.prog 42 #[.int .i64 op] w fun e w' => e = .returned (.bool (regB op)) ∧ w' = w := by
  go_enter Tryz.func42, Tryz.ntmps42
  go_wp2
  all_goals go_ret
  all_goals (refine ⟨ret_bool ?_, rfl⟩; unfold regB; simp_all)
/-- The shape of an instruction's line, by what its Op has. -/
def shP (q1 q2 q3 q4 : Bool) : Sh := ⟨false, q1, q2, if q3 = true then 7 else 0, if q3 = true then 0 else if q4 = true then 1 else 0, if q3 = true then 0 else if q4 = true then 1 else 0, false⟩
set_option maxHeartbeats 4000000 in
theorem shiI_any (op : Int) (w : World) : Calls Tryz.prog 62 #[.int .i64 op] w fun r w' => r = .returned (.tuple #[.agg (shP (inB op 1 6) (inB op 1 15) (regB op) (inB op 17 21 || op == 23)).cs, .bool (inB op 1 23)]) ∧ Below w.heap.size w w' := by
  have C1 := hide (fun w => srcB_any op w)
  have C2 := hide (fun w => dstB_any op w)
  have C3 := hide (fun w => regB_any op w)
  have C4 := hide (fun w => braB_any op w)
  have C5 := hide (fun w => isoB_any op w)
  generalize inB op 1 6 = q1 at *
  generalize inB op 1 15 = q2 at *
  generalize regB op = q3 at *
  generalize inB op 17 21 = q4 at *
  generalize inB op 1 23 = q6 at *
  obtain ⟨V, hV⟩ : ∃ V, w.alloc (.cells #[.bool false, .bool false, .bool false, .int .i64 0, .int .i64 0, .int .i64 0, .bool false] 73) = V := ⟨_, rfl⟩
  have bV : Below w.heap.size w V := by rw [← hV]; exact below_new _ _
  have rV : V.heap[w.heap.size]? = some (.cells #[.bool false, .bool false, .bool false, .int .i64 0, .int .i64 0, .int .i64 0, .bool false] 73 (0, 0)) := by rw [← hV]; exact Array.getElem?_push_size
  have lV : w.heap.size < V.heap.size := (Array.getElem?_eq_some_iff.1 rV).1
  obtain ⟨U, hU⟩ : ∃ U, V.alloc (.cells #[.bool false, .bool q1, .bool q2, .int .i64 0, .int .i64 0, .int .i64 0, .bool false] 73) = U := ⟨_, rfl⟩
  have bU : Below V.heap.size V U := by rw [← hU]; exact below_new _ _
  have rU : U.heap[V.heap.size]? = some (.cells #[.bool false, .bool q1, .bool q2, .int .i64 0, .int .i64 0, .int .i64 0, .bool false] 73 (0, 0)) := by rw [← hU]; exact Array.getElem?_push_size
  have NE := hide (show V.heap.size ≠ w.heap.size by omega)
  cases q3 with
  | true =>
    obtain ⟨X0, hX0⟩ : ∃ X, U.setCell ⟨V.heap.size, 3, none⟩ (.int .i64 7) = X := ⟨_, rfl⟩
    have fX0 : U.frozen? ⟨V.heap.size, 3, none⟩ = false := by simp [World.frozen?, rU]
    have cX0 := Lib.cell_of_heap rU 3
    have bX0 : Below V.heap.size V X0 := by rw [← hX0]; exact bU.setCell (p := ⟨V.heap.size, 3, none⟩) (Nat.le_refl _) _
    have rX0 : X0.heap[V.heap.size]? = some (.cells #[.bool false, .bool q1, .bool q2, .int .i64 7, .int .i64 0, .int .i64 0, .bool false] 73 (0, 0)) := by rw [← hX0]; exact heap_setCell_same _ _ _ _ _ _ rU
    have RZ := hide ((bX0.block _ lV).trans rV)
    have RS := hide rX0
    have BB := hide (bV.trans (bX0.mono bV.size))
    have VV : (shP q1 q2 true (q4 || op == 23)).cs = #[.bool false, .bool q1, .bool q2, .int .i64 7, .int .i64 0, .int .i64 0, .bool false] := rfl
    rw [VV]
    clear VV rV lV bV rU bU rX0 bX0
    go_enter Tryz.func62, Tryz.ntmps62
    go_wp2_with (first | (refine storeN rfl 73 _ _ rfl #[.bool false, .bool q1, .bool q2, .int .i64 0, .int .i64 0, .int .i64 0, .bool false] rfl rfl _ szSh rfl (sh_one _ _ _ _ _ _ _) ?_; rw [hU]) | (go_at_call 75; refine (unhide C1 _).mono ?_; rintro e w' ⟨rfl, hw'⟩; rw [hw']; clear hw' w') | (go_at_call 76; refine (unhide C2 _).mono ?_; rintro e w' ⟨rfl, hw'⟩; rw [hw']; clear hw' w') | (go_at_call 42; refine (unhide C3 _).mono ?_; rintro e w' ⟨rfl, hw'⟩; rw [hw']; clear hw' w') | (go_at_call 77; refine (unhide C4 _).mono ?_; rintro e w' ⟨rfl, hw'⟩; rw [hw']; clear hw' w'))
    have D0 := hide (show X0.drew.heap[V.heap.size]? = some (.cells #[.bool false, .bool q1, .bool q2, .int .i64 7, .int .i64 0, .int .i64 0, .bool false] 73 (0, 0)) from row_keep (unhide RS) below_drew)
    have RD := hide (row_keep (unhide RZ) (below_drew (w := X0)))
    have BD := hide ((unhide BB).trans ((below_drew (w := X0)).mono (unhide BB).size))
    refine wp_region_held_drew (S := fun w' => w'.heap[V.heap.size]? = some (.cells #[.bool false, .bool q1, .bool q2, .int .i64 7, .int .i64 0, .int .i64 0, .bool false] 73 (0, 0))) (by kernel_rfl) (unhide D0) (fun hS => ?_)
    have HS := hide hS
    clear hS RS RZ BB
    generalize X0.drew = Y at *
    refine wpAnyH_take (i := 0) (v := .agg #[.bool false, .bool q1, .bool q2, .int .i64 7, .int .i64 0, .int .i64 0, .bool false]) rfl (by kernel_rfl) (by kernel_rfl) (by kernel_rfl) (fun _ _ _ h => h) (yields_loadG (by rfl) 73 _ rfl V.heap.size rfl 73 #[.bool false, .bool q1, .bool q2, .int .i64 7, .int .i64 0, .int .i64 0, .bool false] _ (fun w h => h) Tryz.underlying73 rfl (by kernel_rfl)) (unhide HS) ?_
    go_simp
    refine wpAnyH_take (i := 1) (v := .int .i64 op) rfl (by kernel_rfl) (by kernel_rfl) (by kernel_rfl) (fun _ _ _ h => h) (Or.inl ⟨by rfl, fun w hc => ?_⟩) (unhide HS) ?_
    · clear hc; go_simp
    go_simp
    refine wpAnyH_ready (rs := [2]) (by kernel_rfl) (by simp) ?_
    refine AllReadyH.cons rfl (fun K2 hK => ?_) AllReadyH.nil
    go_simp
    refine (unhide C5 _).mono ?_
    rintro e w' ⟨rfl, hw'⟩
    rw [hw']
    clear hw' w'
    refine hK.out _ _ (unhide D0) (fun hS => ?_)
    clear HS
    have HS := hide hS
    clear hS hK K2
    refine wpAnyH_ready (rs := [3]) (by kernel_rfl) (by simp) ?_
    refine AllReadyH.cons rfl (fun K2 hK => ?_) AllReadyH.nil
    rw [if_pos (by rfl)]
    refine wp_store_row 73 _ _ rfl w.heap.size #[.bool false, .bool q1, .bool q2, .int .i64 7, .int .i64 0, .int .i64 0, .bool false] rfl rfl 73 _ (unhide RD) szSh rfl (sh_one _ _ _ _ _ _ _) ?_
    refine hK.out _ _ ((setRow_other _ _ _ _ (unhide NE)).trans (unhide D0)) (fun hS => ?_)
    clear HS
    have HS := hide hS
    clear hS hK K2
    refine wpAnyH_take (i := 4) (v := .bool q6) rfl (by kernel_rfl) (by kernel_rfl) (by kernel_rfl) (fun _ _ _ h => h) (Or.inl ⟨by rfl, fun w hc => ?_⟩) (unhide HS) ?_
    · clear hc; go_simp
    go_simp
    refine wpAnyH_done (by kernel_rfl) ?_ _
    clear HS
    go_wp2
    refine bodyPost_ret (results_row2 (P := Tryz.prog) rfl _ _ w.heap.size 73 #[.bool false, .bool q1, .bool q2, .int .i64 7, .int .i64 0, .int .i64 0, .bool false] (0, 0) _ rfl (setRow_heap _ _ _ _ _ _ (unhide RD)) Tryz.underlying73 rfl szSh) rfl ?_
    exact ⟨rfl, below_row (unhide BD)⟩
  | false =>
    cases q4 with
    | true =>
      obtain ⟨X0, hX0⟩ : ∃ X, U.setCell ⟨V.heap.size, 4, none⟩ (.int .i64 1) = X := ⟨_, rfl⟩
      have fX0 : U.frozen? ⟨V.heap.size, 4, none⟩ = false := by simp [World.frozen?, rU]
      have cX0 := Lib.cell_of_heap rU 4
      have bX0 : Below V.heap.size V X0 := by rw [← hX0]; exact bU.setCell (p := ⟨V.heap.size, 4, none⟩) (Nat.le_refl _) _
      have rX0 : X0.heap[V.heap.size]? = some (.cells #[.bool false, .bool q1, .bool q2, .int .i64 0, .int .i64 1, .int .i64 0, .bool false] 73 (0, 0)) := by rw [← hX0]; exact heap_setCell_same _ _ _ _ _ _ rU
      obtain ⟨X1, hX1⟩ : ∃ X, X0.setCell ⟨V.heap.size, 5, none⟩ (.int .i64 1) = X := ⟨_, rfl⟩
      have fX1 : X0.frozen? ⟨V.heap.size, 5, none⟩ = false := by simp [World.frozen?, rX0]
      have cX1 := Lib.cell_of_heap rX0 5
      have bX1 : Below V.heap.size V X1 := by rw [← hX1]; exact bX0.setCell (p := ⟨V.heap.size, 5, none⟩) (Nat.le_refl _) _
      have rX1 : X1.heap[V.heap.size]? = some (.cells #[.bool false, .bool q1, .bool q2, .int .i64 0, .int .i64 1, .int .i64 1, .bool false] 73 (0, 0)) := by rw [← hX1]; exact heap_setCell_same _ _ _ _ _ _ rX0
      have RZ := hide ((bX1.block _ lV).trans rV)
      have RS := hide rX1
      have BB := hide (bV.trans (bX1.mono bV.size))
      have VV : (shP q1 q2 false (true || op == 23)).cs = #[.bool false, .bool q1, .bool q2, .int .i64 0, .int .i64 1, .int .i64 1, .bool false] := rfl
      rw [VV]
      clear VV rV lV bV rU bU rX0 bX0 rX1 bX1
      go_enter Tryz.func62, Tryz.ntmps62
      go_wp2_with (first | (refine storeN rfl 73 _ _ rfl #[.bool false, .bool q1, .bool q2, .int .i64 0, .int .i64 0, .int .i64 0, .bool false] rfl rfl _ szSh rfl (sh_one _ _ _ _ _ _ _) ?_; rw [hU]) | (go_at_call 75; refine (unhide C1 _).mono ?_; rintro e w' ⟨rfl, hw'⟩; rw [hw']; clear hw' w') | (go_at_call 76; refine (unhide C2 _).mono ?_; rintro e w' ⟨rfl, hw'⟩; rw [hw']; clear hw' w') | (go_at_call 42; refine (unhide C3 _).mono ?_; rintro e w' ⟨rfl, hw'⟩; rw [hw']; clear hw' w') | (go_at_call 77; refine (unhide C4 _).mono ?_; rintro e w' ⟨rfl, hw'⟩; rw [hw']; clear hw' w'))
      have D0 := hide (show X1.drew.heap[V.heap.size]? = some (.cells #[.bool false, .bool q1, .bool q2, .int .i64 0, .int .i64 1, .int .i64 1, .bool false] 73 (0, 0)) from row_keep (unhide RS) below_drew)
      have RD := hide (row_keep (unhide RZ) (below_drew (w := X1)))
      have BD := hide ((unhide BB).trans ((below_drew (w := X1)).mono (unhide BB).size))
      refine wp_region_held_drew (S := fun w' => w'.heap[V.heap.size]? = some (.cells #[.bool false, .bool q1, .bool q2, .int .i64 0, .int .i64 1, .int .i64 1, .bool false] 73 (0, 0))) (by kernel_rfl) (unhide D0) (fun hS => ?_)
      have HS := hide hS
      clear hS RS RZ BB
      generalize X1.drew = Y at *
      refine wpAnyH_take (i := 0) (v := .agg #[.bool false, .bool q1, .bool q2, .int .i64 0, .int .i64 1, .int .i64 1, .bool false]) rfl (by kernel_rfl) (by kernel_rfl) (by kernel_rfl) (fun _ _ _ h => h) (yields_loadG (by rfl) 73 _ rfl V.heap.size rfl 73 #[.bool false, .bool q1, .bool q2, .int .i64 0, .int .i64 1, .int .i64 1, .bool false] _ (fun w h => h) Tryz.underlying73 rfl (by kernel_rfl)) (unhide HS) ?_
      go_simp
      refine wpAnyH_take (i := 1) (v := .int .i64 op) rfl (by kernel_rfl) (by kernel_rfl) (by kernel_rfl) (fun _ _ _ h => h) (Or.inl ⟨by rfl, fun w hc => ?_⟩) (unhide HS) ?_
      · clear hc; go_simp
      go_simp
      refine wpAnyH_ready (rs := [2]) (by kernel_rfl) (by simp) ?_
      refine AllReadyH.cons rfl (fun K2 hK => ?_) AllReadyH.nil
      go_simp
      refine (unhide C5 _).mono ?_
      rintro e w' ⟨rfl, hw'⟩
      rw [hw']
      clear hw' w'
      refine hK.out _ _ (unhide D0) (fun hS => ?_)
      clear HS
      have HS := hide hS
      clear hS hK K2
      refine wpAnyH_ready (rs := [3]) (by kernel_rfl) (by simp) ?_
      refine AllReadyH.cons rfl (fun K2 hK => ?_) AllReadyH.nil
      rw [if_pos (by rfl)]
      refine wp_store_row 73 _ _ rfl w.heap.size #[.bool false, .bool q1, .bool q2, .int .i64 0, .int .i64 1, .int .i64 1, .bool false] rfl rfl 73 _ (unhide RD) szSh rfl (sh_one _ _ _ _ _ _ _) ?_
      refine hK.out _ _ ((setRow_other _ _ _ _ (unhide NE)).trans (unhide D0)) (fun hS => ?_)
      clear HS
      have HS := hide hS
      clear hS hK K2
      refine wpAnyH_take (i := 4) (v := .bool q6) rfl (by kernel_rfl) (by kernel_rfl) (by kernel_rfl) (fun _ _ _ h => h) (Or.inl ⟨by rfl, fun w hc => ?_⟩) (unhide HS) ?_
      · clear hc; go_simp
      go_simp
      refine wpAnyH_done (by kernel_rfl) ?_ _
      clear HS
      go_wp2
      refine bodyPost_ret (results_row2 (P := Tryz.prog) rfl _ _ w.heap.size 73 #[.bool false, .bool q1, .bool q2, .int .i64 0, .int .i64 1, .int .i64 1, .bool false] (0, 0) _ rfl (setRow_heap _ _ _ _ _ _ (unhide RD)) Tryz.underlying73 rfl szSh) rfl ?_
      exact ⟨rfl, below_row (unhide BD)⟩
    | false =>
      by_cases h23 : op = 23
      · subst h23
        obtain ⟨X0, hX0⟩ : ∃ X, U.setCell ⟨V.heap.size, 4, none⟩ (.int .i64 1) = X := ⟨_, rfl⟩
        have fX0 : U.frozen? ⟨V.heap.size, 4, none⟩ = false := by simp [World.frozen?, rU]
        have cX0 := Lib.cell_of_heap rU 4
        have bX0 : Below V.heap.size V X0 := by rw [← hX0]; exact bU.setCell (p := ⟨V.heap.size, 4, none⟩) (Nat.le_refl _) _
        have rX0 : X0.heap[V.heap.size]? = some (.cells #[.bool false, .bool q1, .bool q2, .int .i64 0, .int .i64 1, .int .i64 0, .bool false] 73 (0, 0)) := by rw [← hX0]; exact heap_setCell_same _ _ _ _ _ _ rU
        obtain ⟨X1, hX1⟩ : ∃ X, X0.setCell ⟨V.heap.size, 5, none⟩ (.int .i64 1) = X := ⟨_, rfl⟩
        have fX1 : X0.frozen? ⟨V.heap.size, 5, none⟩ = false := by simp [World.frozen?, rX0]
        have cX1 := Lib.cell_of_heap rX0 5
        have bX1 : Below V.heap.size V X1 := by rw [← hX1]; exact bX0.setCell (p := ⟨V.heap.size, 5, none⟩) (Nat.le_refl _) _
        have rX1 : X1.heap[V.heap.size]? = some (.cells #[.bool false, .bool q1, .bool q2, .int .i64 0, .int .i64 1, .int .i64 1, .bool false] 73 (0, 0)) := by rw [← hX1]; exact heap_setCell_same _ _ _ _ _ _ rX0
        have RZ := hide ((bX1.block _ lV).trans rV)
        have RS := hide rX1
        have BB := hide (bV.trans (bX1.mono bV.size))
        have VV : (shP q1 q2 false (false || (23 : Int) == 23)).cs = #[.bool false, .bool q1, .bool q2, .int .i64 0, .int .i64 1, .int .i64 1, .bool false] := rfl
        rw [VV]
        clear VV rV lV bV rU bU rX0 bX0 rX1 bX1
        go_enter Tryz.func62, Tryz.ntmps62
        go_wp2_with (first | (refine storeN rfl 73 _ _ rfl #[.bool false, .bool q1, .bool q2, .int .i64 0, .int .i64 0, .int .i64 0, .bool false] rfl rfl _ szSh rfl (sh_one _ _ _ _ _ _ _) ?_; rw [hU]) | (go_at_call 75; refine (unhide C1 _).mono ?_; rintro e w' ⟨rfl, hw'⟩; rw [hw']; clear hw' w') | (go_at_call 76; refine (unhide C2 _).mono ?_; rintro e w' ⟨rfl, hw'⟩; rw [hw']; clear hw' w') | (go_at_call 42; refine (unhide C3 _).mono ?_; rintro e w' ⟨rfl, hw'⟩; rw [hw']; clear hw' w') | (go_at_call 77; refine (unhide C4 _).mono ?_; rintro e w' ⟨rfl, hw'⟩; rw [hw']; clear hw' w'))
        have D0 := hide (show X1.drew.heap[V.heap.size]? = some (.cells #[.bool false, .bool q1, .bool q2, .int .i64 0, .int .i64 1, .int .i64 1, .bool false] 73 (0, 0)) from row_keep (unhide RS) below_drew)
        have RD := hide (row_keep (unhide RZ) (below_drew (w := X1)))
        have BD := hide ((unhide BB).trans ((below_drew (w := X1)).mono (unhide BB).size))
        refine wp_region_held_drew (S := fun w' => w'.heap[V.heap.size]? = some (.cells #[.bool false, .bool q1, .bool q2, .int .i64 0, .int .i64 1, .int .i64 1, .bool false] 73 (0, 0))) (by kernel_rfl) (unhide D0) (fun hS => ?_)
        have HS := hide hS
        clear hS RS RZ BB
        generalize X1.drew = Y at *
        refine wpAnyH_take (i := 0) (v := .agg #[.bool false, .bool q1, .bool q2, .int .i64 0, .int .i64 1, .int .i64 1, .bool false]) rfl (by kernel_rfl) (by kernel_rfl) (by kernel_rfl) (fun _ _ _ h => h) (yields_loadG (by rfl) 73 _ rfl V.heap.size rfl 73 #[.bool false, .bool q1, .bool q2, .int .i64 0, .int .i64 1, .int .i64 1, .bool false] _ (fun w h => h) Tryz.underlying73 rfl (by kernel_rfl)) (unhide HS) ?_
        go_simp
        refine wpAnyH_take (i := 1) (v := .int .i64 23) rfl (by kernel_rfl) (by kernel_rfl) (by kernel_rfl) (fun _ _ _ h => h) (Or.inl ⟨by rfl, fun w hc => ?_⟩) (unhide HS) ?_
        · clear hc; go_simp
        go_simp
        refine wpAnyH_ready (rs := [2]) (by kernel_rfl) (by simp) ?_
        refine AllReadyH.cons rfl (fun K2 hK => ?_) AllReadyH.nil
        go_simp
        refine (unhide C5 _).mono ?_
        rintro e w' ⟨rfl, hw'⟩
        rw [hw']
        clear hw' w'
        refine hK.out _ _ (unhide D0) (fun hS => ?_)
        clear HS
        have HS := hide hS
        clear hS hK K2
        refine wpAnyH_ready (rs := [3]) (by kernel_rfl) (by simp) ?_
        refine AllReadyH.cons rfl (fun K2 hK => ?_) AllReadyH.nil
        rw [if_pos (by rfl)]
        refine wp_store_row 73 _ _ rfl w.heap.size #[.bool false, .bool q1, .bool q2, .int .i64 0, .int .i64 1, .int .i64 1, .bool false] rfl rfl 73 _ (unhide RD) szSh rfl (sh_one _ _ _ _ _ _ _) ?_
        refine hK.out _ _ ((setRow_other _ _ _ _ (unhide NE)).trans (unhide D0)) (fun hS => ?_)
        clear HS
        have HS := hide hS
        clear hS hK K2
        refine wpAnyH_take (i := 4) (v := .bool q6) rfl (by kernel_rfl) (by kernel_rfl) (by kernel_rfl) (fun _ _ _ h => h) (Or.inl ⟨by rfl, fun w hc => ?_⟩) (unhide HS) ?_
        · clear hc; go_simp
        go_simp
        refine wpAnyH_done (by kernel_rfl) ?_ _
        clear HS
        go_wp2
        refine bodyPost_ret (results_row2 (P := Tryz.prog) rfl _ _ w.heap.size 73 #[.bool false, .bool q1, .bool q2, .int .i64 0, .int .i64 1, .int .i64 1, .bool false] (0, 0) _ rfl (setRow_heap _ _ _ _ _ _ (unhide RD)) Tryz.underlying73 rfl szSh) rfl ?_
        exact ⟨rfl, below_row (unhide BD)⟩
      · have g23 : (op == 23) = false := beq_eq_false_iff_ne.2 h23
        rw [g23]
        have RZ := hide ((bU.block _ lV).trans rV)
        have RS := hide rU
        have BB := hide (bV.trans (bU.mono bV.size))
        have VV : (shP q1 q2 false (false || false)).cs = #[.bool false, .bool q1, .bool q2, .int .i64 0, .int .i64 0, .int .i64 0, .bool false] := rfl
        rw [VV]
        clear VV rV lV bV rU bU
        go_enter Tryz.func62, Tryz.ntmps62
        go_wp2_with (first | (refine storeN rfl 73 _ _ rfl #[.bool false, .bool q1, .bool q2, .int .i64 0, .int .i64 0, .int .i64 0, .bool false] rfl rfl _ szSh rfl (sh_one _ _ _ _ _ _ _) ?_; rw [hU]) | (go_at_call 75; refine (unhide C1 _).mono ?_; rintro e w' ⟨rfl, hw'⟩; rw [hw']; clear hw' w') | (go_at_call 76; refine (unhide C2 _).mono ?_; rintro e w' ⟨rfl, hw'⟩; rw [hw']; clear hw' w') | (go_at_call 42; refine (unhide C3 _).mono ?_; rintro e w' ⟨rfl, hw'⟩; rw [hw']; clear hw' w') | (go_at_call 77; refine (unhide C4 _).mono ?_; rintro e w' ⟨rfl, hw'⟩; rw [hw']; clear hw' w'))
        have D0 := hide (show U.drew.heap[V.heap.size]? = some (.cells #[.bool false, .bool q1, .bool q2, .int .i64 0, .int .i64 0, .int .i64 0, .bool false] 73 (0, 0)) from row_keep (unhide RS) below_drew)
        have RD := hide (row_keep (unhide RZ) (below_drew (w := U)))
        have BD := hide ((unhide BB).trans ((below_drew (w := U)).mono (unhide BB).size))
        refine wp_region_held_drew (S := fun w' => w'.heap[V.heap.size]? = some (.cells #[.bool false, .bool q1, .bool q2, .int .i64 0, .int .i64 0, .int .i64 0, .bool false] 73 (0, 0))) (by kernel_rfl) (unhide D0) (fun hS => ?_)
        have HS := hide hS
        clear hS RS RZ BB
        generalize U.drew = Y at *
        refine wpAnyH_take (i := 0) (v := .agg #[.bool false, .bool q1, .bool q2, .int .i64 0, .int .i64 0, .int .i64 0, .bool false]) rfl (by kernel_rfl) (by kernel_rfl) (by kernel_rfl) (fun _ _ _ h => h) (yields_loadG (by rfl) 73 _ rfl V.heap.size rfl 73 #[.bool false, .bool q1, .bool q2, .int .i64 0, .int .i64 0, .int .i64 0, .bool false] _ (fun w h => h) Tryz.underlying73 rfl (by kernel_rfl)) (unhide HS) ?_
        go_simp
        refine wpAnyH_take (i := 1) (v := .int .i64 op) rfl (by kernel_rfl) (by kernel_rfl) (by kernel_rfl) (fun _ _ _ h => h) (Or.inl ⟨by rfl, fun w hc => ?_⟩) (unhide HS) ?_
        · clear hc; go_simp
        go_simp
        refine wpAnyH_ready (rs := [2]) (by kernel_rfl) (by simp) ?_
        refine AllReadyH.cons rfl (fun K2 hK => ?_) AllReadyH.nil
        go_simp
        refine (unhide C5 _).mono ?_
        rintro e w' ⟨rfl, hw'⟩
        rw [hw']
        clear hw' w'
        refine hK.out _ _ (unhide D0) (fun hS => ?_)
        clear HS
        have HS := hide hS
        clear hS hK K2
        refine wpAnyH_ready (rs := [3]) (by kernel_rfl) (by simp) ?_
        refine AllReadyH.cons rfl (fun K2 hK => ?_) AllReadyH.nil
        rw [if_pos (by rfl)]
        refine wp_store_row 73 _ _ rfl w.heap.size #[.bool false, .bool q1, .bool q2, .int .i64 0, .int .i64 0, .int .i64 0, .bool false] rfl rfl 73 _ (unhide RD) szSh rfl (sh_one _ _ _ _ _ _ _) ?_
        refine hK.out _ _ ((setRow_other _ _ _ _ (unhide NE)).trans (unhide D0)) (fun hS => ?_)
        clear HS
        have HS := hide hS
        clear hS hK K2
        refine wpAnyH_take (i := 4) (v := .bool q6) rfl (by kernel_rfl) (by kernel_rfl) (by kernel_rfl) (fun _ _ _ h => h) (Or.inl ⟨by rfl, fun w hc => ?_⟩) (unhide HS) ?_
        · clear hc; go_simp
        go_simp
        refine wpAnyH_done (by kernel_rfl) ?_ _
        clear HS
        go_wp2
        refine bodyPost_ret (results_row2 (P := Tryz.prog) rfl _ _ w.heap.size 73 #[.bool false, .bool q1, .bool q2, .int .i64 0, .int .i64 0, .int .i64 0, .bool false] (0, 0) _ rfl (setRow_heap _ _ _ _ _ _ (unhide RD)) Tryz.underlying73 rfl szSh) rfl ?_
        exact ⟨rfl, below_row (unhide BD)⟩
/-- The shape of a line, by its kind and its Op. -/
def shX (k op : Int) : Sh :=
  if k = 3 then shP (inB op 1 6) (inB op 1 15) (regB op) (inB op 17 21 || op == 23)
  else if op = 0 then (if k = 1 then ⟨true, false, false, 0, 0, 0, false⟩ else if k = 2 then ⟨true, false, false, 0, 1, 1, false⟩ else if k = 4 then ⟨false, false, false, 0, 1, 6, false⟩ else if k = 5 then ⟨false, false, false, 0, 1, 1, false⟩ else if k = 6 then ⟨true, false, false, 1, 0, 0, false⟩ else if k = 7 then ⟨false, false, false, 0, 1, 6, true⟩ else sh0)
  else sh0
def shB (k op : Int) : Bool := if k = 3 then inB op 1 23 else if op = 0 then inB k 0 8 else false
set_option maxHeartbeats 4000000 in
theorem shpI_any (k op : Int) (w : World) : Calls Tryz.prog 36 #[.int .i64 k, .int .i64 op] w fun r w' => r = .returned (.tuple #[.agg (shX k op).cs, .bool (shB k op)]) ∧ Below w.heap.size w w' := by
  by_cases h3 : k = 3
  · subst h3
    have VX : shX 3 op = shP (inB op 1 6) (inB op 1 15) (regB op) (inB op 17 21 || op == 23) := by unfold shX; rw [if_pos rfl]
    have VB : shB 3 op = inB op 1 23 := by unfold shB; rw [if_pos rfl]
    rw [VX, VB]
    clear VX VB
    have hB := below_new w (.cells #[.bool false, .bool false, .bool false, .int .i64 0, .int .i64 0, .int .i64 0, .bool false] 73)
    have R0 := hide (show (w.alloc (.cells #[.bool false, .bool false, .bool false, .int .i64 0, .int .i64 0, .int .i64 0, .bool false] 73)).heap[w.heap.size]? = some (.cells #[.bool false, .bool false, .bool false, .int .i64 0, .int .i64 0, .int .i64 0, .bool false] 73 (0, 0)) from Array.getElem?_push_size)
    have B0 := hide hB
    have SI := hide (shiI_any op (w.alloc (.cells #[.bool false, .bool false, .bool false, .int .i64 0, .int .i64 0, .int .i64 0, .bool false] 73)))
    clear hB
    unfold Sh.cs at SI ⊢
    generalize shP (inB op 1 6) (inB op 1 15) (regB op) (inB op 17 21 || op == 23) = S at *
    obtain ⟨a1, a2, a3, a4, a5, a6, a7⟩ := S
    simp only at SI ⊢
    generalize inB op 1 23 = q at *
    go_enter Tryz.func36, Tryz.ntmps36
    go_wp2_with fail
    generalize w.alloc (.cells #[.bool false, .bool false, .bool false, .int .i64 0, .int .i64 0, .int .i64 0, .bool false] 73) = W at *
    refine (unhide SI).mono ?_
    rintro r w1 ⟨rfl, hb⟩
    have R1 := hide (row_keep (unhide R0) hb)
    have B1 := hide ((unhide B0).trans (hb.mono (unhide B0).size))
    clear hb R0 B0 SI
    go_wp2_with (first | (refine wpList_store_row rfl 73 _ _ rfl w.heap.size #[.bool a1, .bool a2, .bool a3, .int .i64 a4, .int .i64 a5, .int .i64 a6, .bool a7] rfl rfl 73 _ (unhide R1) szSh rfl (sh_one _ _ _ _ _ _ _) ?_))
    refine bodyPost_ret (results_row2 (P := Tryz.prog) rfl _ _ w.heap.size 73 #[.bool a1, .bool a2, .bool a3, .int .i64 a4, .int .i64 a5, .int .i64 a6, .bool a7] (0, 0) _ rfl (setRow_heap _ _ _ _ _ _ (unhide R1)) Tryz.underlying73 rfl szSh) rfl ?_
    exact ⟨rfl, below_row (unhide B1)⟩
  have g3 : (k == 3) = false := beq_eq_false_iff_ne.2 h3
  by_cases ho : op = 0
  · subst ho
    by_cases e0 : k = 0
    · subst e0
      clear g3 h3
      have VX : (shX 0 0).cs = #[.bool false, .bool false, .bool false, .int .i64 0, .int .i64 0, .int .i64 0, .bool false] := by rfl
      have VB : shB 0 0 = true := by rfl
      rw [VX, VB]
      clear VX VB
      have B0 := hide (below_new w (.cells #[.bool false, .bool false, .bool false, .int .i64 0, .int .i64 0, .int .i64 0, .bool false] 73))
      go_enter Tryz.func36, Tryz.ntmps36
      go_wp2_with (first | (refine storeN rfl 73 _ _ rfl #[.bool false, .bool false, .bool false, .int .i64 0, .int .i64 0, .int .i64 0, .bool false] rfl rfl _ szSh rfl (sh_one _ _ _ _ _ _ _) ?_))
      refine bodyPost_ret (results_row2 (P := Tryz.prog) rfl _ _ w.heap.size 73 #[.bool false, .bool false, .bool false, .int .i64 0, .int .i64 0, .int .i64 0, .bool false] (0, 0) _ rfl Array.getElem?_push_size Tryz.underlying73 rfl szSh) rfl ?_
      exact ⟨rfl, unhide B0⟩
    have g0 : (k == 0) = false := beq_eq_false_iff_ne.2 e0
    by_cases e8 : k = 8
    · subst e8
      clear g3 h3
      have VX : (shX 8 0).cs = #[.bool false, .bool false, .bool false, .int .i64 0, .int .i64 0, .int .i64 0, .bool false] := by rfl
      have VB : shB 8 0 = true := by rfl
      rw [VX, VB]
      clear VX VB
      have B0 := hide (below_new w (.cells #[.bool false, .bool false, .bool false, .int .i64 0, .int .i64 0, .int .i64 0, .bool false] 73))
      go_enter Tryz.func36, Tryz.ntmps36
      go_wp2_with (first | (refine storeN rfl 73 _ _ rfl #[.bool false, .bool false, .bool false, .int .i64 0, .int .i64 0, .int .i64 0, .bool false] rfl rfl _ szSh rfl (sh_one _ _ _ _ _ _ _) ?_))
      refine bodyPost_ret (results_row2 (P := Tryz.prog) rfl _ _ w.heap.size 73 #[.bool false, .bool false, .bool false, .int .i64 0, .int .i64 0, .int .i64 0, .bool false] (0, 0) _ rfl Array.getElem?_push_size Tryz.underlying73 rfl szSh) rfl ?_
      exact ⟨rfl, unhide B0⟩
    have g8 : (k == 8) = false := beq_eq_false_iff_ne.2 e8
    by_cases e1 : k = 1
    · subst e1
      clear g3 h3
      have VX : (shX 1 0).cs = #[.bool true, .bool false, .bool false, .int .i64 0, .int .i64 0, .int .i64 0, .bool false] := by rfl
      have VB : shB 1 0 = true := by rfl
      rw [VX, VB]
      clear VX VB
      have B0 := hide (below_new w (.cells #[.bool true, .bool false, .bool false, .int .i64 0, .int .i64 0, .int .i64 0, .bool false] 73))
      go_enter Tryz.func36, Tryz.ntmps36
      go_wp2_with (first | (refine storeN rfl 73 _ _ rfl #[.bool true, .bool false, .bool false, .int .i64 0, .int .i64 0, .int .i64 0, .bool false] rfl rfl _ szSh rfl (sh_one _ _ _ _ _ _ _) ?_))
      refine bodyPost_ret (results_row2 (P := Tryz.prog) rfl _ _ w.heap.size 73 #[.bool true, .bool false, .bool false, .int .i64 0, .int .i64 0, .int .i64 0, .bool false] (0, 0) _ rfl Array.getElem?_push_size Tryz.underlying73 rfl szSh) rfl ?_
      exact ⟨rfl, unhide B0⟩
    have g1 : (k == 1) = false := beq_eq_false_iff_ne.2 e1
    by_cases e2 : k = 2
    · subst e2
      clear g3 h3
      have VX : (shX 2 0).cs = #[.bool true, .bool false, .bool false, .int .i64 0, .int .i64 1, .int .i64 1, .bool false] := by rfl
      have VB : shB 2 0 = true := by rfl
      rw [VX, VB]
      clear VX VB
      have B0 := hide (below_new w (.cells #[.bool true, .bool false, .bool false, .int .i64 0, .int .i64 1, .int .i64 1, .bool false] 73))
      go_enter Tryz.func36, Tryz.ntmps36
      go_wp2_with (first | (refine storeN rfl 73 _ _ rfl #[.bool true, .bool false, .bool false, .int .i64 0, .int .i64 1, .int .i64 1, .bool false] rfl rfl _ szSh rfl (sh_one _ _ _ _ _ _ _) ?_))
      refine bodyPost_ret (results_row2 (P := Tryz.prog) rfl _ _ w.heap.size 73 #[.bool true, .bool false, .bool false, .int .i64 0, .int .i64 1, .int .i64 1, .bool false] (0, 0) _ rfl Array.getElem?_push_size Tryz.underlying73 rfl szSh) rfl ?_
      exact ⟨rfl, unhide B0⟩
    have g2 : (k == 2) = false := beq_eq_false_iff_ne.2 e2
    by_cases e4 : k = 4
    · subst e4
      clear g3 h3
      have VX : (shX 4 0).cs = #[.bool false, .bool false, .bool false, .int .i64 0, .int .i64 1, .int .i64 6, .bool false] := by rfl
      have VB : shB 4 0 = true := by rfl
      rw [VX, VB]
      clear VX VB
      have B0 := hide (below_new w (.cells #[.bool false, .bool false, .bool false, .int .i64 0, .int .i64 1, .int .i64 6, .bool false] 73))
      go_enter Tryz.func36, Tryz.ntmps36
      go_wp2_with (first | (refine storeN rfl 73 _ _ rfl #[.bool false, .bool false, .bool false, .int .i64 0, .int .i64 1, .int .i64 6, .bool false] rfl rfl _ szSh rfl (sh_one _ _ _ _ _ _ _) ?_))
      refine bodyPost_ret (results_row2 (P := Tryz.prog) rfl _ _ w.heap.size 73 #[.bool false, .bool false, .bool false, .int .i64 0, .int .i64 1, .int .i64 6, .bool false] (0, 0) _ rfl Array.getElem?_push_size Tryz.underlying73 rfl szSh) rfl ?_
      exact ⟨rfl, unhide B0⟩
    have g4 : (k == 4) = false := beq_eq_false_iff_ne.2 e4
    by_cases e5 : k = 5
    · subst e5
      clear g3 h3
      have VX : (shX 5 0).cs = #[.bool false, .bool false, .bool false, .int .i64 0, .int .i64 1, .int .i64 1, .bool false] := by rfl
      have VB : shB 5 0 = true := by rfl
      rw [VX, VB]
      clear VX VB
      have B0 := hide (below_new w (.cells #[.bool false, .bool false, .bool false, .int .i64 0, .int .i64 1, .int .i64 1, .bool false] 73))
      go_enter Tryz.func36, Tryz.ntmps36
      go_wp2_with (first | (refine storeN rfl 73 _ _ rfl #[.bool false, .bool false, .bool false, .int .i64 0, .int .i64 1, .int .i64 1, .bool false] rfl rfl _ szSh rfl (sh_one _ _ _ _ _ _ _) ?_))
      refine bodyPost_ret (results_row2 (P := Tryz.prog) rfl _ _ w.heap.size 73 #[.bool false, .bool false, .bool false, .int .i64 0, .int .i64 1, .int .i64 1, .bool false] (0, 0) _ rfl Array.getElem?_push_size Tryz.underlying73 rfl szSh) rfl ?_
      exact ⟨rfl, unhide B0⟩
    have g5 : (k == 5) = false := beq_eq_false_iff_ne.2 e5
    by_cases e6 : k = 6
    · subst e6
      clear g3 h3
      have VX : (shX 6 0).cs = #[.bool true, .bool false, .bool false, .int .i64 1, .int .i64 0, .int .i64 0, .bool false] := by rfl
      have VB : shB 6 0 = true := by rfl
      rw [VX, VB]
      clear VX VB
      have B0 := hide (below_new w (.cells #[.bool true, .bool false, .bool false, .int .i64 1, .int .i64 0, .int .i64 0, .bool false] 73))
      go_enter Tryz.func36, Tryz.ntmps36
      go_wp2_with (first | (refine storeN rfl 73 _ _ rfl #[.bool true, .bool false, .bool false, .int .i64 1, .int .i64 0, .int .i64 0, .bool false] rfl rfl _ szSh rfl (sh_one _ _ _ _ _ _ _) ?_))
      refine bodyPost_ret (results_row2 (P := Tryz.prog) rfl _ _ w.heap.size 73 #[.bool true, .bool false, .bool false, .int .i64 1, .int .i64 0, .int .i64 0, .bool false] (0, 0) _ rfl Array.getElem?_push_size Tryz.underlying73 rfl szSh) rfl ?_
      exact ⟨rfl, unhide B0⟩
    have g6 : (k == 6) = false := beq_eq_false_iff_ne.2 e6
    by_cases e7 : k = 7
    · subst e7
      clear g3 h3
      have VX : (shX 7 0).cs = #[.bool false, .bool false, .bool false, .int .i64 0, .int .i64 1, .int .i64 6, .bool true] := by rfl
      have VB : shB 7 0 = true := by rfl
      rw [VX, VB]
      clear VX VB
      have B0 := hide (below_new w (.cells #[.bool false, .bool false, .bool false, .int .i64 0, .int .i64 1, .int .i64 6, .bool true] 73))
      go_enter Tryz.func36, Tryz.ntmps36
      go_wp2_with (first | (refine storeN rfl 73 _ _ rfl #[.bool false, .bool false, .bool false, .int .i64 0, .int .i64 1, .int .i64 6, .bool true] rfl rfl _ szSh rfl (sh_one _ _ _ _ _ _ _) ?_))
      refine bodyPost_ret (results_row2 (P := Tryz.prog) rfl _ _ w.heap.size 73 #[.bool false, .bool false, .bool false, .int .i64 0, .int .i64 1, .int .i64 6, .bool true] (0, 0) _ rfl Array.getElem?_push_size Tryz.underlying73 rfl szSh) rfl ?_
      exact ⟨rfl, unhide B0⟩
    have g7 : (k == 7) = false := beq_eq_false_iff_ne.2 e7
    have VX : (shX k 0).cs = #[.bool false, .bool false, .bool false, .int .i64 0, .int .i64 0, .int .i64 0, .bool false] := by unfold shX; rw [if_neg h3, if_pos rfl, if_neg e1, if_neg e2, if_neg e4, if_neg e5, if_neg e6, if_neg e7]; rfl
    have VB : shB k 0 = false := by unfold shB; rw [if_neg h3, if_pos rfl]; exact inB_f k 0 8 (by omega)
    rw [VX, VB]
    clear VX VB
    have B0 := hide (below_new w (.cells #[.bool false, .bool false, .bool false, .int .i64 0, .int .i64 0, .int .i64 0, .bool false] 73))
    go_enter Tryz.func36, Tryz.ntmps36
    go_wp2_with (first | (refine storeN rfl 73 _ _ rfl #[.bool false, .bool false, .bool false, .int .i64 0, .int .i64 0, .int .i64 0, .bool false] rfl rfl _ szSh rfl (sh_one _ _ _ _ _ _ _) ?_))
    refine bodyPost_ret (results_row2 (P := Tryz.prog) rfl _ _ w.heap.size 73 #[.bool false, .bool false, .bool false, .int .i64 0, .int .i64 0, .int .i64 0, .bool false] (0, 0) _ rfl Array.getElem?_push_size Tryz.underlying73 rfl szSh) rfl ?_
    exact ⟨rfl, unhide B0⟩
  have go_ : (op == 0) = false := beq_eq_false_iff_ne.2 ho
  have VX : (shX k op).cs = #[.bool false, .bool false, .bool false, .int .i64 0, .int .i64 0, .int .i64 0, .bool false] := by unfold shX; rw [if_neg h3, if_neg ho]; rfl
  have VB : shB k op = false := by unfold shB; rw [if_neg h3, if_neg ho]
  rw [VX, VB]
  clear VX VB
  have B0 := hide (below_new w (.cells #[.bool false, .bool false, .bool false, .int .i64 0, .int .i64 0, .int .i64 0, .bool false] 73))
  go_enter Tryz.func36, Tryz.ntmps36
  go_wp2_with (first | (refine storeN rfl 73 _ _ rfl #[.bool false, .bool false, .bool false, .int .i64 0, .int .i64 0, .int .i64 0, .bool false] rfl rfl _ szSh rfl (sh_one _ _ _ _ _ _ _) ?_))
  refine bodyPost_ret (results_row2 (P := Tryz.prog) rfl _ _ w.heap.size 73 #[.bool false, .bool false, .bool false, .int .i64 0, .int .i64 0, .int .i64 0, .bool false] (0, 0) _ rfl Array.getElem?_push_size Tryz.underlying73 rfl szSh) rfl ?_
  exact ⟨rfl, unhide B0⟩
/-- Whether a name is there just where it is wanted. -/
def nmX (nm : Bool) (s : ByteArray) : Bool := if nm = true then nameB s else eqS s E0
set_option maxHeartbeats 2000000 in
theorem nmfI_any (S : Sh) (s : ByteArray) (w : World) (hs : s.size ≤ 1099511627776) (ht : TabK w) : Calls Tryz.prog 37 #[.agg S.cs, .string s] w fun r w' => r = .returned (.bool (nmX S.nm s)) ∧ Below w.heap.size w w' := by
  obtain ⟨a1, a2, a3, a4, a5, a6, a7⟩ := S
  unfold Sh.cs
  simp only
  have B0 := hide (below_new w (.cells #[.bool a1, .bool a2, .bool a3, .int .i64 a4, .int .i64 a5, .int .i64 a6, .bool a7] 73))
  have NI := hide (nameI_any s _ hs (ht.next (unhide B0)))
  clear ht
  cases a1 with
  | true =>
    have V : nmX true s = nameB s := rfl
    rw [V]
    clear V
    generalize nameB s = q at *
    go_enter Tryz.func37, Tryz.ntmps37
    go_wp2_with (go_at_call 63; refine (unhide NI).mono ?_; rintro e w' ⟨rfl, hw'⟩; rw [hw']; clear hw' w')
    go_ret
    exact ⟨rfl, unhide B0⟩
  | false =>
    have V : nmX false s = eqS s E0 := rfl
    rw [V]
    clear V
    by_cases he : s = ⟨#[]⟩
    · subst he
      rw [show eqS ⟨#[]⟩ E0 = true from (eqS_iff _ _).2 rfl]
      go_enter Tryz.func37, Tryz.ntmps37
      go_wp2
      go_ret
      exact ⟨rfl, unhide B0⟩
    · obtain ⟨h1, h2⟩ := emp_E s he
      have V : eqS s E0 = false := by simp [eqE, eqE1, *]
      rw [V]
      clear V
      go_enter Tryz.func37, Tryz.ntmps37
      go_wp2
      go_ret
      exact ⟨rfl, unhide B0⟩
set_option maxHeartbeats 2000000 in
theorem nbfI_any (S : Sh) (n : Int) (w : World) : Calls Tryz.prog 38 #[.agg S.cs, .int .i64 n] w fun r w' => r = .returned (.bool (inB n 0 S.gn)) ∧ Below w.heap.size w w' := by
  obtain ⟨a1, a2, a3, a4, a5, a6, a7⟩ := S
  unfold Sh.cs
  simp only
  have B0 := hide (below_new w (.cells #[.bool a1, .bool a2, .bool a3, .int .i64 a4, .int .i64 a5, .int .i64 a6, .bool a7] 73))
  unfold inB
  by_cases h1 : 0 ≤ n
  · rw [decide_eq_true h1, Bool.true_and]
    go_enter Tryz.func38, Tryz.ntmps38
    go_wp2
    go_ret
    exact ⟨rfl, unhide B0⟩
  · rw [decide_eq_false h1, Bool.false_and]
    have h3 : decide (0 ≤ n) = false := decide_eq_false h1
    go_enter Tryz.func38, Tryz.ntmps38
    go_wp2
    go_ret
    exact ⟨rfl, unhide B0⟩
end Go.Proofs.YtmhcbehplhfgfaaGreatDoor

namespace Go.Proofs.YtmhcbehplhfgfaaGreatDoor
open Go.ChangeShapes Go.WideShapes Go.ChangeAt Go.RowKit
set_option linter.unusedVariables false
set_option maxRecDepth 8000
set_option linter.unusedSimpArgs false
/-- What the program holds of an operand. -/
structure Op3 where
  u : Value
  f : Int
  g : Int
def cellsO : List Op3 → List Value
  | [] => []
  | o :: l => o.u :: .int .i64 o.f :: .int .i64 o.g :: cellsO l
theorem cellsO_app (a b : List Op3) : cellsO (a ++ b) = cellsO a ++ cellsO b := by
  induction a with
  | nil => rfl
  | cons x l ih => simp [cellsO, ih]
/-- A row of operands that is owned. -/
def OwnA (w : World) (B : Nat) (v : Value) (l : List Op3) : Prop := w.ownsRow B 87 3 v l.length (cellsO l)
theorem OwnA.later {w w' : World} {B : Nat} {v : Value} {l : List Op3} (h : OwnA w B v l) (hb : Below w.heap.size w w') : OwnA w' B v l := by
  obtain ⟨h1, h2 | ⟨g, cap, cur, e, hg, hh, r⟩⟩ := h
  · exact ⟨h1, .inl h2⟩
  · exact ⟨h1, .inr ⟨g, cap, cur, e, hg, (hb.block g (Array.getElem?_eq_some_iff.1 hh).1).trans hh, r⟩⟩
theorem OwnA.base {w : World} {B B' : Nat} {v : Value} {l : List Op3} (h : OwnA w B v l) (hB : B' ≤ B) : OwnA w B' v l := by
  obtain ⟨h1, h2 | ⟨g, cap, cur, e, hg, r⟩⟩ := h
  · exact ⟨h1, .inl h2⟩
  · exact ⟨h1, .inr ⟨g, cap, cur, e, Nat.le_trans hB hg, r⟩⟩
theorem ownA_none (w : World) (B : Nat) : OwnA w B (.slice none 0 0) [] := ⟨rfl, .inl ⟨rfl, rfl⟩⟩
theorem infoO : (Tryz.prog.info? 87).map (fun i => (i.zero, i.size, i.bytes)) = some (some (.agg #[.nilIface, .int .i64 0, .int .i64 0]), 3, 32) := by kernel_rfl
section
variable {ops : Array Oper} {rest : List Oper} {o : Oper} {a : Act} {Q : Exit → Act → World → Prop} {w w0 : World} {B : Nat} {K : Act → World → Prop}
/-- One operand appended. -/
theorem wp_appO (s x : Operand) (ho : o.op = .call { callee := .builtin .append, args := #[s, x], argTypes := #[49, 49] }) (hB : B ≤ w0.heap.size) (hD : Below B w0 w) {v : Value} {l : List Op3} (hs : a.eval s = v) (hown : OwnA w B v l) (g : Nat) (p : Op3) (hx : a.eval x = .slice (some ⟨g, 0, none⟩) 1 1) (hg : w.heap[g]? = some (.cells #[p.u, .int .i64 p.f, .int .i64 p.g] 87 (0, 0))) (hi : IfV p.u) (hl : l.length ≤ 1000)
    (h : ∀ (v' : Value) (y : Sub B w0), OwnA y.w B v' (l ++ [p]) → K (a.put o.dst v') y.w) : o.wp Tryz.prog a w K Q := by
  obtain ⟨i0, hi0, hz0, hz1, hz2⟩ := info_parts infoO
  have hsz := hD.size
  refine wp_append_own w s x 49 ho B 87 i0 (.agg #[.nilIface, .int .i64 0, .int .i64 0]) 3 32 Tryz.underlying49 hi0 hz0 hz1 hz2 rfl (by decide) v l.length (cellsO l) hs hown ⟨g, 0, none⟩ 1 1 [p.u, .int .i64 p.f, .int .i64 p.g] hx rfl (fun j u hj => by
    have hc := Lib.cell_of_heap hg j
    have e : (#[p.u, .int .i64 p.f, .int .i64 p.g] : Array Value)[j]? = some u := by rw [← hj]; simp
    have ha : (⟨g, 0, none⟩ : Addr).add j = ⟨g, j, none⟩ := by simp [Addr.add]; exact fun h => h.symm
    rw [ha]
    exact hc.trans e) (fun u hu => by
    have hm : u = p.u ∨ u = .int .i64 p.f ∨ u = .int .i64 p.g := by simpa using hu
    rcases hm with rfl | rfl | rfl
    · exact hi.one
    · rfl
    · rfl) (by unfold maxLen; omega) (by omega) (by omega) ?_
  intro v' w' h1 h2 _
  refine h v' ⟨w', hD.grown h2 (Nat.le_trans hB hD.size) (fun g hg => (World.ownsRow.lt hown g hg).1)⟩ ?_
  unfold OwnA
  rw [List.length_append, cellsO_app]
  exact h1
theorem appO (hgd : o.guard = none) (s x : Operand) (ho : o.op = .call { callee := .builtin .append, args := #[s, x], argTypes := #[49, 49] }) (hB : B ≤ w0.heap.size) (hD : Below B w0 w) {v : Value} {l : List Op3} (hs : a.eval s = v) (hown : OwnA w B v l) (g : Nat) (p : Op3) (hx : a.eval x = .slice (some ⟨g, 0, none⟩) 1 1) (hg : w.heap[g]? = some (.cells #[p.u, .int .i64 p.f, .int .i64 p.g] 87 (0, 0))) (hi : IfV p.u) (hl : l.length ≤ 1000)
    (h : ∀ (v' : Value) (y : Sub B w0), OwnA y.w B v' (l ++ [p]) → wpList Tryz.prog ops Q rest (a.put o.dst v') y.w) : wpList Tryz.prog ops Q (o :: rest) a w :=
  wpList_plain hgd fun _ hK => wp_appO s x ho hB hD hs hown g p hx hg hi hl fun v' y h1 => hK _ _ (h v' y h1)
end
/-- What the program holds of an operand that is right. -/
def opP (a : Ag) : Op3 := ⟨opU a, a.f, a.r⟩
/-- Whether an operand is there just where it is wanted. -/
def agW (named : Bool) (a : Ag) : Bool := if named = true then agX a else nonX a
def opsL (named : Bool) (a : Ag) : List Op3 := if named = true then [opP a] else []
/-- What addOperand answers. -/
def AddR (named : Bool) (a : Ag) (l : List Op3) (B : Nat) (w : World) (r : Ending) (w' : World) : Prop := ∃ v' l', r = .returned (.tuple #[v', .bool (agW named a)]) ∧ OwnA w' B v' l' ∧ (agW named a = true → l' = l ++ opsL named a) ∧ Below B w w'
set_option maxHeartbeats 4000000 in
theorem addI_no (l : List Op3) (v : Value) (B : Nat) (a : Ag) (b : Option Addr) (cap : Nat) (w : World) (hB : B ≤ w.heap.size) (hown : OwnA w B v l) (hz : a.e.sz ≤ 1048576) : Calls Tryz.prog 64 #[v, .agg (a.cs b cap), .bool false] w (AddR false a l B w) := by
  have hsz := sz_is a.e
  have hB0 := below_new w (.cells (a.cs b cap) 35)
  have NI := hide (nonI_any a (by omega) (by omega) b cap (w.alloc (.cells (a.cs b cap) 35)))
  have FN := hide (fun (r : Ending) (w' : World) (hr : r = .returned (.tuple #[v, .bool (nonX a)])) (h : Below w.heap.size w w') => (show AddR false a l B w r w' from ⟨v, l, hr, hown.later h, fun _ => (List.append_nil l).symm, h.mono hB⟩))
  have B0 := hide hB0
  clear hB0 hown hsz hz
  generalize AddR false a l B w = R at *
  generalize nonX a = q at *
  unfold Ag.cs at NI B0 ⊢
  go_enter Tryz.func64, Tryz.ntmps64
  go_wp2_with (go_at_call 80; refine (unhide NI).mono ?_; rintro e w1 ⟨rfl, hb1⟩)
  (try go_ret2)
  exact unhide FN _ _ rfl ((unhide B0).trans (hb1.mono (unhide B0).size))
set_option maxHeartbeats 4000000 in
theorem addI_yes (l : List Op3) (v : Value) (B : Nat) (a : Ag) (b : Option Addr) (cap : Nat) (w : World) (hB : B ≤ w.heap.size) (hown : OwnA w B v l) (hl : l.length ≤ 1000) (hr : RdX w 0 a.e b) (hz : a.e.sz ≤ 1048576) (ht : TabA w) : Calls Tryz.prog 64 #[v, .agg (a.cs b cap), .bool true] w (AddR true a l B w) := by
  have hB0 := below_new w (.cells (a.cs b cap) 35)
  have HH := hide (opdI_any a b cap _ (hr.later hB0) hz (ht.next hB0))
  have FN := hide (fun (r : Ending) (w' : World) (v' : Value) (p : Op3) (hr : r = .returned (.tuple #[v', .bool (agX a)])) (ho : OwnA w' B v' (l ++ [p])) (hp : agX a = true → p = opP a) (h : Below B w w') => (show AddR true a l B w r w' from ⟨v', l ++ [p], hr, ho, fun e => by rw [hp e]; rfl, h⟩))
  have O0 := hide (hown.later hB0)
  have B0 := hide hB0
  have HB := hide hB
  clear hB0 hr ht hown hB
  unfold OpdR at HH
  unfold opP at FN
  generalize AddR true a l B w = R at *
  generalize opU a = ou at *
  generalize agX a = q at *
  unfold Ag.cs at HH B0 O0 ⊢
  go_enter Tryz.func64, Tryz.ntmps64
  go_wp2_with fail
  refine (unhide HH).mono ?_
  rintro r w1 ⟨u, f, g, rfl, hv, hb1⟩
  have O1 := hide ((unhide O0).later hb1)
  have B1 := hide ((unhide B0).trans (hb1.mono (unhide B0).size))
  have PV := hide hv.2
  have hi := hv.1
  clear hb1 hv O0 B0 HH
  rcases hi with rfl | ⟨tt, xx, rfl⟩
  · have hb2 := below_new w1 (.cells #[.nilIface, .int .i64 f, .int .i64 g] 87)
    have R1 := hide (show (w1.alloc (.cells #[.nilIface, .int .i64 f, .int .i64 g] 87)).heap[w1.heap.size]? = some (.cells #[.nilIface, .int .i64 f, .int .i64 g] 87 (0, 0)) from Array.getElem?_push_size)
    obtain ⟨X1, hX1⟩ : ∃ X, w1.alloc (.cells #[.nilIface, .int .i64 f, .int .i64 g] 87) = X := ⟨_, rfl⟩
    rw [hX1] at hb2 R1
    have hb3 := below_new X1 (.cells #[.nilIface, .int .i64 f, .int .i64 g] 87)
    have G2 := hide (show (X1.alloc (.cells #[.nilIface, .int .i64 f, .int .i64 g] 87)).heap[X1.heap.size]? = some (.cells #[.nilIface, .int .i64 f, .int .i64 g] 87 (0, 0)) from Array.getElem?_push_size)
    obtain ⟨X2, hX2⟩ : ∃ X, X1.alloc (.cells #[.nilIface, .int .i64 f, .int .i64 g] 87) = X := ⟨_, rfl⟩
    rw [hX2] at hb3 G2
    have O3 := hide (((unhide O1).later hb2).later hb3)
    have D3 := hide (((((unhide B1).trans (hb2.mono (unhide B1).size)).trans (hb3.mono (Nat.le_trans (unhide B1).size hb2.size))).mono (unhide HB)))
    clear hb2 hb3 O1 B1
    go_wp2_with (first | (refine wpList_load_row rfl 87 _ rfl w1.heap.size rfl 87 #[.nilIface, .int .i64 f, .int .i64 g] (0, 0) _ (unhide R1) Tryz.underlying87 rfl (by kernel_rfl) ?_) | (at_builtin; go_must (refine appO rfl _ _ rfl (unhide HB) (unhide D3) rfl (unhide O3) X1.heap.size ⟨.nilIface, f, g⟩ rfl (unhide G2) (.inl rfl) hl ?_; intro v4 y4 hO; have O4 := hide hO; clear hO)))
    (try go_ret2)
    exact unhide FN _ _ _ _ rfl (unhide O4) (fun h => by obtain ⟨h1, h2, h3⟩ := unhide PV h; rw [h1, h2, h3]) y4.h
  · have hb2 := below_new w1 (.cells #[.iface tt xx, .int .i64 f, .int .i64 g] 87)
    have R1 := hide (show (w1.alloc (.cells #[.iface tt xx, .int .i64 f, .int .i64 g] 87)).heap[w1.heap.size]? = some (.cells #[.iface tt xx, .int .i64 f, .int .i64 g] 87 (0, 0)) from Array.getElem?_push_size)
    obtain ⟨X1, hX1⟩ : ∃ X, w1.alloc (.cells #[.iface tt xx, .int .i64 f, .int .i64 g] 87) = X := ⟨_, rfl⟩
    rw [hX1] at hb2 R1
    have hb3 := below_new X1 (.cells #[.iface tt xx, .int .i64 f, .int .i64 g] 87)
    have G2 := hide (show (X1.alloc (.cells #[.iface tt xx, .int .i64 f, .int .i64 g] 87)).heap[X1.heap.size]? = some (.cells #[.iface tt xx, .int .i64 f, .int .i64 g] 87 (0, 0)) from Array.getElem?_push_size)
    obtain ⟨X2, hX2⟩ : ∃ X, X1.alloc (.cells #[.iface tt xx, .int .i64 f, .int .i64 g] 87) = X := ⟨_, rfl⟩
    rw [hX2] at hb3 G2
    have O3 := hide (((unhide O1).later hb2).later hb3)
    have D3 := hide (((((unhide B1).trans (hb2.mono (unhide B1).size)).trans (hb3.mono (Nat.le_trans (unhide B1).size hb2.size))).mono (unhide HB)))
    clear hb2 hb3 O1 B1
    go_wp2_with (first | (refine wpList_load_row rfl 87 _ rfl w1.heap.size rfl 87 #[.iface tt xx, .int .i64 f, .int .i64 g] (0, 0) _ (unhide R1) Tryz.underlying87 rfl (by kernel_rfl) ?_) | (at_builtin; go_must (refine appO rfl _ _ rfl (unhide HB) (unhide D3) rfl (unhide O3) X1.heap.size ⟨.iface tt xx, f, g⟩ rfl (unhide G2) (.inr ⟨_, _, rfl⟩) hl ?_; intro v4 y4 hO; have O4 := hide hO; clear hO)))
    (try go_ret2)
    exact unhide FN _ _ _ _ rfl (unhide O4) (fun h => by obtain ⟨h1, h2, h3⟩ := unhide PV h; rw [h1, h2, h3]) y4.h
end Go.Proofs.YtmhcbehplhfgfaaGreatDoor

namespace Go.Proofs.YtmhcbehplhfgfaaGreatDoor
open Go.ChangeShapes Go.WideShapes Go.ChangeAt Go.RowKit
set_option linter.unusedVariables false
set_option maxRecDepth 8000
set_option linter.unusedSimpArgs false
theorem addI_any (named : Bool) (l : List Op3) (v : Value) (B : Nat) (a : Ag) (b : Option Addr) (cap : Nat) (w : World) (hB : B ≤ w.heap.size) (hown : OwnA w B v l) (hl : l.length ≤ 1000) (hr : RdX w 0 a.e b) (hz : a.e.sz ≤ 1048576) (ht : TabA w) : Calls Tryz.prog 64 #[v, .agg (a.cs b cap), .bool named] w (AddR named a l B w) := by
  cases named
  · exact addI_no l v B a b cap w hB hown hz
  · exact addI_yes l v B a b cap w hB hown hl hr hz ht
/-- What operandsOf answers. -/
def OpsR (q1 q2 : Bool) (x y : Ag) (w : World) (r : Ending) (w' : World) : Prop := ∃ v, r = .returned (.tuple #[v, .bool (agW q1 x && agW q2 y)]) ∧ ((agW q1 x && agW q2 y) = true → OwnA w' w.heap.size v (opsL q1 x ++ opsL q2 y)) ∧ Below w.heap.size w w'
set_option maxHeartbeats 4000000 in
theorem opsI_any (S : Sh) (x y : Ag) (b1 : Option Addr) (c1 : Nat) (b2 : Option Addr) (c2 : Nat) (w : World) (h1 : RdX w 0 x.e b1) (z1 : x.e.sz ≤ 1048576) (h2 : RdX w 0 y.e b2) (z2 : y.e.sz ≤ 1048576) (ht : TabA w) : Calls Tryz.prog 39 #[.agg S.cs, .agg (x.cs b1 c1), .agg (y.cs b2 c2)] w (OpsR S.src S.dst x y w) := by
  obtain ⟨a1, a2, a3, a4, a5, a6, a7⟩ := S
  have FN := hide (fun (r : Ending) (w' : World) (v : Value) (q : Bool) (h : (agW a2 x && agW a3 y) = q) (hr : r = .returned (.tuple #[v, .bool q])) (hv : q = true → OwnA w' w.heap.size v (opsL a2 x ++ opsL a3 y)) (hb : Below w.heap.size w w') => (show OpsR a2 a3 x y w r w' from ⟨v, by rw [h]; exact hr, fun e => hv (h.symm.trans e), hb⟩))
  have P1 := hide (fun w1 (h : Below w.heap.size w w1) => addI_any a2 [] (.slice none 0 0) w1.heap.size x b1 c1 w1 (Nat.le_refl _) (ownA_none _ _) (by simp) (h1.later h) z1 (ht.next h))
  have P2 := hide (fun w1 B v l (h : Below w.heap.size w w1) (hB : B ≤ w1.heap.size) (ho : OwnA w1 B v l) (hl : l.length ≤ 1000) => addI_any a3 l v B y b2 c2 w1 hB ho hl (h2.later h) z2 (ht.next h))
  have OL : (opsL a2 x).length ≤ 1000 := by unfold opsL; split <;> simp
  clear h1 h2 z1 z2 ht
  unfold Sh.cs
  simp only
  generalize OpsR a2 a3 x y w = R at *
  unfold AddR at P1 P2
  generalize agW a2 x = q1 at *
  generalize agW a3 y = q2 at *
  generalize opsL a2 x = L1 at *
  generalize opsL a3 y = L2 at *
  simp only [List.nil_append] at P1
  unfold Ag.cs at P1 P2 ⊢
  generalize x.f = sf at *
  generalize x.r = sr at *
  generalize x.e.k = sk at *
  generalize x.e.n = sn at *
  generalize x.e.s = ss at *
  generalize x.e.l.length = sl at *
  generalize y.f = df at *
  generalize y.r = dr at *
  generalize y.e.k = dk at *
  generalize y.e.n = dn at *
  generalize y.e.s = ds at *
  generalize y.e.l.length = dl at *
  obtain ⟨V1, hV1⟩ : ∃ V, w.alloc (.cells #[.bool a1, .bool a2, .bool a3, .int .i64 a4, .int .i64 a5, .int .i64 a6, .bool a7] 73) = V := ⟨_, rfl⟩
  have bV1 : Below w.heap.size w V1 := by rw [← hV1]; exact below_new _ _
  have rS : V1.heap[w.heap.size]? = some (.cells #[.bool a1, .bool a2, .bool a3, .int .i64 a4, .int .i64 a5, .int .i64 a6, .bool a7] 73 (0, 0)) := by rw [← hV1]; exact Array.getElem?_push_size
  obtain ⟨V2, hV2⟩ : ∃ V, V1.alloc (.cells #[.int .i64 sf, .int .i64 sr, .int .i64 sk, .int .i64 sn, .string ss, .slice b1 sl c1] 35) = V := ⟨_, rfl⟩
  have bV2 : Below V1.heap.size V1 V2 := by rw [← hV2]; exact below_new _ _
  have rA1 : V2.heap[V1.heap.size]? = some (.cells #[.int .i64 sf, .int .i64 sr, .int .i64 sk, .int .i64 sn, .string ss, .slice b1 sl c1] 35 (0, 0)) := by rw [← hV2]; exact Array.getElem?_push_size
  obtain ⟨W, hW⟩ : ∃ V, V2.alloc (.cells #[.int .i64 df, .int .i64 dr, .int .i64 dk, .int .i64 dn, .string ds, .slice b2 dl c2] 35) = V := ⟨_, rfl⟩
  have bW : Below V2.heap.size V2 W := by rw [← hW]; exact below_new _ _
  have rA2 : W.heap[V2.heap.size]? = some (.cells #[.int .i64 df, .int .i64 dr, .int .i64 dk, .int .i64 dn, .string ds, .slice b2 dl c2] 35 (0, 0)) := by rw [← hW]; exact Array.getElem?_push_size
  have rA1 := row_keep rA1 bW
  have rS := row_keep (row_keep rS bV2) bW
  have hbW : Below w.heap.size w W := (bV1.trans (bV2.mono bV1.size)).trans (bW.mono (Nat.le_trans bV1.size bV2.size))
  have lS := (Array.getElem?_eq_some_iff.1 rS).1
  have lA1 := (Array.getElem?_eq_some_iff.1 rA1).1
  have lA2 := (Array.getElem?_eq_some_iff.1 rA2).1
  have BY := hide (fun y : Sub W.heap.size W => hbW.trans (y.h.mono hbW.size))
  have HO := hide (fun (y : Sub W.heap.size W) v l (h : OwnA y.w W.heap.size v l) => h.base hbW.size)
  have Y1 := hide (fun y : Sub W.heap.size W => (y.h.block _ lA1).trans rA1)
  have Y2 := hide (fun y : Sub W.heap.size W => (y.h.block _ lA2).trans rA2)
  have E1 : ∀ y : Sub W.heap.size W, y.w.cell? ⟨w.heap.size, 1, none⟩ = some (.bool a2) := fun y => (y.h.cell (p := ⟨w.heap.size, 1, none⟩) lS).trans (Lib.cell_of_heap rS 1)
  have E2 : ∀ y : Sub W.heap.size W, y.w.cell? ⟨w.heap.size, 2, none⟩ = some (.bool a3) := fun y => (y.h.cell (p := ⟨w.heap.size, 2, none⟩) lS).trans (Lib.cell_of_heap rS 2)
  have ne := Sub.ne W.heap.size W
  have HZ := hide (Nat.le_refl W.heap.size)
  obtain ⟨y0, hy0⟩ : ∃ z : Sub W.heap.size W, W = z.w := ⟨⟨W, Below.refl _ _⟩, rfl⟩
  have P1 := hide (unhide P1 W hbW)
  rw [hy0] at hW
  clear bV1 bV2 bW rS rA1 rA2 lS lA1 lA2 hbW
  go_enter Tryz.func39, Tryz.ntmps39
  go_wp2_with (first | (refine wpList_load_row rfl 35 _ rfl V1.heap.size rfl 35 #[.int .i64 sf, .int .i64 sr, .int .i64 sk, .int .i64 sn, .string ss, .slice b1 sl c1] (0, 0) _ (unhide Y1 _) Tryz.underlying35 rfl (by kernel_rfl) ?_))
  rw [← hy0]
  refine (unhide P1).mono ?_
  rintro r w1 ⟨v1, l1, rfl, hO, hl1, hb1⟩
  obtain ⟨y1, rfl⟩ : ∃ y : Sub W.heap.size W, w1 = y.w := ⟨⟨w1, hb1⟩, rfl⟩
  have O1 := hide hO
  have LL := hide hl1
  clear hb1 hO hl1 P1 hy0
  cases q1 with
  | false =>
    have F2 := hide (fun r w' v => unhide FN r w' v false rfl)
    clear FN P2
    go_wp2
    (try go_ret2)
    exact unhide F2 _ _ _ rfl (fun h => by cases h) (unhide BY y1)
  | true =>
    have ll := unhide LL rfl
    subst ll
    have P3 := hide (unhide P2 y1.w W.heap.size v1 l1 (unhide BY y1) y1.h.size (unhide O1) OL)
    have F2 := hide (fun r w' v => unhide FN r w' v q2 rfl)
    clear FN P2 O1 LL
    go_wp2_with (first | (refine wpList_load_row rfl 35 _ rfl V2.heap.size rfl 35 #[.int .i64 df, .int .i64 dr, .int .i64 dk, .int .i64 dn, .string ds, .slice b2 dl c2] (0, 0) _ (unhide Y2 _) Tryz.underlying35 rfl (by kernel_rfl) ?_))
    refine (unhide P3).mono ?_
    rintro r w2 ⟨v2, l2, rfl, hO, hl2, hb2⟩
    obtain ⟨y2, rfl⟩ : ∃ y : Sub W.heap.size W, w2 = y.w := ⟨⟨w2, y1.h.trans hb2⟩, rfl⟩
    have O2 := hide hO
    have LL := hide hl2
    clear hb2 hO hl2 P3
    go_wp2
    (try go_ret2)
    exact unhide F2 _ _ _ rfl (fun h => by have e := unhide LL h; rw [← e]; exact unhide HO _ _ _ (unhide O2)) (unhide BY y2)
end Go.Proofs.YtmhcbehplhfgfaaGreatDoor
