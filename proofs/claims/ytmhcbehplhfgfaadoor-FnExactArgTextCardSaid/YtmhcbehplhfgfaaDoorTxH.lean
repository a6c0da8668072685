/- Contracts over this seat's translation, laid together; conditions stand as hypotheses of each. -/
import Derived.Test.YtmhcbehplhfgfaaDoorTxA
import Derived.Test.YtmhcbehplhfgfaaDoorTxG
import Derived.OpenVars

namespace Go.Proofs.YtmhcbehplhfgfaaDoor
open Go.ChangeShapes Go.WideShapes Go.ChangeAt Go.RowKit
set_option linter.unusedVariables false
set_option maxRecDepth 8000
set_option linter.unusedSimpArgs false

set_option maxHeartbeats 4000000 in
theorem opd_6 (r : Int) (e : Ex) (b : Option Addr) (cap : Nat) (w : World) (hr : RdX w 0 e b) (hz : e.sz ≤ 1048576) (ht : TabK w) (hf : TabF w) : Calls Tryd.prog 23 #[.agg ((Ag.mk 6 r e).cs b cap)] w (OpdR ⟨6, r, e⟩ w) := by
  have hsz := sz_is e
  have cR : cntB ⟨#[69, 40, 82, 41]⟩ 82 = true := by decide
  have cE : cntB ⟨#[69, 40, 82, 41]⟩ 69 = true := by decide
  have P := hide (fun w' (h : Below w.heap.size w w') => plnO_any e b cap w' (hr.later h) hz (ht.next h))
  unfold PlnR Ex.cs at P
  have V : agX ⟨6, r, e⟩ = (inB r 0 7 && okF 6 true e) := by unfold agX; rfl
  have U : opU ⟨6, r, e⟩ = tv e := by unfold opU; rfl
  have FN := hide (fun r0 w' u f0 g q (h : (inB r 0 7 && okF 6 true e) = q) (hr : r0 = .returned (.tuple #[.agg #[u, .int .i64 f0, .int .i64 g], .bool q])) (hu : IfV u) (hv : q = true → u = tv e ∧ f0 = 6 ∧ g = r) => opdR_of (w := w) (r := r0) (w' := w') (u := u) (f := f0) (g := g) (V.trans h) hr hu (fun x => by rw [U]; exact hv x))
  clear V U hr ht hsz hz
  generalize OpdR ⟨6, r, e⟩ w = R at *
  generalize okF 6 true e = q at *
  generalize tv e = tve at *
  unfold Ag.cs
  simp only
  generalize e.k = k at *
  generalize e.n = n at *
  generalize e.s = s at *
  generalize e.l.length = ll at *
  have G2 := two_new w (.cells #[.int .i64 6, .int .i64 r, .int .i64 k, .int .i64 n, .string s, .slice b ll cap] 33) (.cells #[.nilIface, .int .i64 0, .int .i64 0] 54)
  have G1 := two_new0 w (.cells #[.int .i64 6, .int .i64 r, .int .i64 k, .int .i64 n, .string s, .slice b ll cap] 33) (.cells #[.nilIface, .int .i64 0, .int .i64 0] 54)
  obtain ⟨V, hV⟩ : ∃ V, w.alloc (.cells #[.int .i64 6, .int .i64 r, .int .i64 k, .int .i64 n, .string s, .slice b ll cap] 33) = V := ⟨_, rfl⟩
  have vsz : w.heap.size + 1 = V.heap.size := by rw [← hV]; simp
  rw [vsz, hV] at G2
  rw [hV] at G1
  obtain ⟨W, hW⟩ : ∃ W, V.alloc (.cells #[.nilIface, .int .i64 0, .int .i64 0] 54) = W := ⟨_, rfl⟩
  rw [hW] at G1 G2
  obtain ⟨G2, hbW⟩ := G2
  have l1 : w.heap.size < W.heap.size := (Array.getElem?_eq_some_iff.1 G1).1
  have l2 : V.heap.size < W.heap.size := (Array.getElem?_eq_some_iff.1 G2).1
  have BY := hide (fun y : Sub W.heap.size W => hbW.trans (y.h.mono hbW.size))
  have RY := hide (fun y : Sub W.heap.size W => (y.h.block _ l2).trans G2)
  have VL := hide (show w.heap.size ≤ V.heap.size by omega)
  have ne := Sub.ne W.heap.size W
  have HZ := hide (Nat.le_refl W.heap.size)
  have E0 : ∀ y : Sub W.heap.size W, y.w.cell? ⟨w.heap.size, 0, none⟩ = some (.int .i64 6) := fun y => (y.h.cell (p := ⟨w.heap.size, 0, none⟩) l1).trans (Lib.cell_of_heap G1 0)
  have E1 : ∀ y : Sub W.heap.size W, y.w.cell? ⟨w.heap.size, 1, none⟩ = some (.int .i64 r) := fun y => (y.h.cell (p := ⟨w.heap.size, 1, none⟩) l1).trans (Lib.cell_of_heap G1 1)
  have E2 : ∀ y : Sub W.heap.size W, y.w.cell? ⟨w.heap.size, 2, none⟩ = some (.int .i64 k) := fun y => (y.h.cell (p := ⟨w.heap.size, 2, none⟩) l1).trans (Lib.cell_of_heap G1 2)
  have E3 : ∀ y : Sub W.heap.size W, y.w.cell? ⟨w.heap.size, 3, none⟩ = some (.int .i64 n) := fun y => (y.h.cell (p := ⟨w.heap.size, 3, none⟩) l1).trans (Lib.cell_of_heap G1 3)
  have E4 : ∀ y : Sub W.heap.size W, y.w.cell? ⟨w.heap.size, 4, none⟩ = some (.string s) := fun y => (y.h.cell (p := ⟨w.heap.size, 4, none⟩) l1).trans (Lib.cell_of_heap G1 4)
  have E5 : ∀ y : Sub W.heap.size W, y.w.cell? ⟨w.heap.size, 5, none⟩ = some (.slice b ll cap) := fun y => (y.h.cell (p := ⟨w.heap.size, 5, none⟩) l1).trans (Lib.cell_of_heap G1 5)
  have T0 : ∀ y : Sub W.heap.size W, y.w.cell? ⟨0, 6, none⟩ = some (.string ⟨#[69, 40, 82, 41]⟩) := fun y => (hf.next (unhide BY y)).at6
  obtain ⟨y0, hy0⟩ : ∃ z : Sub W.heap.size W, W = z.w := ⟨⟨W, Below.refl _ _⟩, rfl⟩
  rw [hy0] at hW
  clear l1 l2 vsz hbW hy0
  have PY := hide (fun y : Sub W.heap.size W => unhide P y.w (unhide BY y))
  clear P hf
  by_cases h0 : r < 0
  · have F2 := hide (fun r0 w' u f0 g => unhide FN r0 w' u f0 g false (by rw [inB_f r 0 7 (by omega)]; rfl))
    clear FN PY
    go_enter Tryd.func23, Tryd.ntmps23
    go_wp2_with (first | (go_at_call 39; refine (cntI _ _ _).mono ?_; rintro e w' ⟨rfl, hw'⟩; rw [hw']; clear hw' w'; (try rw [cR]); (try rw [cE])) | (refine wpList_store_row rfl 54 _ _ rfl V.heap.size #[.nilIface, .int .i64 0, .int .i64 0] rfl rfl 54 _ (unhide RY _) szOp rfl (op_one (.inl rfl) 0 0) ?_))
    refine bodyPost_ret (results_row2 (P := Tryd.prog) rfl _ _ V.heap.size 54 #[.nilIface, .int .i64 0, .int .i64 0] (0, 0) _ rfl (setRow_heap _ _ _ _ _ _ (unhide RY _)) Tryd.underlying54 rfl szOp) rfl ?_
    exact unhide F2 _ _ _ _ _ rfl (.inl rfl) (fun h => by cases h) (below_rowG (unhide BY _) (unhide VL))
  by_cases h7 : 7 < r
  · have F2 := hide (fun r0 w' u f0 g => unhide FN r0 w' u f0 g false (by rw [inB_f r 0 7 (by omega)]; rfl))
    clear FN PY
    go_enter Tryd.func23, Tryd.ntmps23
    go_wp2_with (first | (go_at_call 39; refine (cntI _ _ _).mono ?_; rintro e w' ⟨rfl, hw'⟩; rw [hw']; clear hw' w'; (try rw [cR]); (try rw [cE])) | (refine wpList_store_row rfl 54 _ _ rfl V.heap.size #[.nilIface, .int .i64 0, .int .i64 0] rfl rfl 54 _ (unhide RY _) szOp rfl (op_one (.inl rfl) 0 0) ?_))
    refine bodyPost_ret (results_row2 (P := Tryd.prog) rfl _ _ V.heap.size 54 #[.nilIface, .int .i64 0, .int .i64 0] (0, 0) _ rfl (setRow_heap _ _ _ _ _ _ (unhide RY _)) Tryd.underlying54 rfl szOp) rfl ?_
    exact unhide F2 _ _ _ _ _ rfl (.inl rfl) (fun h => by cases h) (below_rowG (unhide BY _) (unhide VL))
  have F2 := hide (fun r0 w' u f0 g => unhide FN r0 w' u f0 g q (by rw [inB_t r 0 7 (by omega) (by omega)]; rfl))
  clear FN
  obtain ⟨y1, hy1⟩ := Sub.step (unhide HZ) (below_new y0.w (.cells #[.nilIface, .int .i64 6, .int .i64 r] 54))
  have O1 := hide (show y1.w.heap[y0.w.heap.size]? = some (.cells #[.nilIface, .int .i64 6, .int .i64 r] 54 (0, 0)) by rw [← hy1]; exact Array.getElem?_push_size)
  have NO := hide (show V.heap.size ≠ y0.w.heap.size by have := (Array.getElem?_eq_some_iff.1 (unhide RY y0)).1; omega)
  have NA := hide (show V.heap.size ≠ w.heap.size by rw [← hV]; simp)
  have AY := hide (fun y : Sub W.heap.size W => (y.h.block _ (Array.getElem?_eq_some_iff.1 G1).1).trans G1)
  clear G1 G2
  go_enter Tryd.func23, Tryd.ntmps23
  go_wp2_with (first | (go_at_call 39; refine (cntI _ _ _).mono ?_; rintro e w' ⟨rfl, hw'⟩; rw [hw']; clear hw' w'; (try rw [cR]); (try rw [cE])))
  refine (unhide PY y1).mono ?_
  rintro r w2 ⟨v, rfl, hv, hb⟩
  have O2 := hide (row_keep (unhide O1) hb)
  have HV := hide hv.2
  have hi := hv.1
  obtain ⟨y2, rfl⟩ := Sub.step (unhide HZ) hb
  have c0 := Lib.cell_of_heap (unhide O2) 0
  clear hb O1 hv
  rcases hi with rfl | ⟨tt, xx, rfl⟩
  · obtain ⟨y3, hy3⟩ : ∃ z : Sub W.heap.size W, y2.w.setCell ⟨y0.w.heap.size, 0, none⟩ (.nilIface) = z.w := ⟨⟨_, y2.h.setCell (p := ⟨y0.w.heap.size, 0, none⟩) y0.h.size _⟩, rfl⟩
    have fz : y2.w.frozen? ⟨y0.w.heap.size, 0, none⟩ = false := by have := unhide O2; simp [World.frozen?, this]
    have O3 := hide (show y3.w.heap[y0.w.heap.size]? = some (.cells #[.nilIface, .int .i64 6, .int .i64 r] 54 (0, 0)) by rw [← hy3]; exact heap_setCell_same _ _ _ _ _ _ (unhide O2))
    clear O2
    go_wp2_with (first | (refine wpList_load_row rfl 54 _ rfl y0.w.heap.size rfl 54 #[.nilIface, .int .i64 6, .int .i64 r] (0, 0) _ (unhide O3) Tryd.underlying54 rfl (by kernel_rfl) ?_) | (refine wpList_store_row rfl 54 _ _ rfl V.heap.size #[.nilIface, .int .i64 6, .int .i64 r] rfl rfl 54 _ (unhide RY _) szOp rfl (op_one (.inl rfl) 6 r) ?_))
    refine bodyPost_ret (results_row2 (P := Tryd.prog) rfl _ _ V.heap.size 54 #[.nilIface, .int .i64 6, .int .i64 r] (0, 0) _ rfl (setRow_heap _ _ _ _ _ _ (unhide RY _)) Tryd.underlying54 rfl szOp) rfl ?_
    exact unhide F2 _ _ _ _ _ rfl (.inl rfl) (fun h => ⟨unhide HV h, rfl, rfl⟩) (below_rowG (unhide BY y3) (unhide VL))
  · obtain ⟨y3, hy3⟩ : ∃ z : Sub W.heap.size W, y2.w.setCell ⟨y0.w.heap.size, 0, none⟩ (.iface tt xx) = z.w := ⟨⟨_, y2.h.setCell (p := ⟨y0.w.heap.size, 0, none⟩) y0.h.size _⟩, rfl⟩
    have fz : y2.w.frozen? ⟨y0.w.heap.size, 0, none⟩ = false := by have := unhide O2; simp [World.frozen?, this]
    have O3 := hide (show y3.w.heap[y0.w.heap.size]? = some (.cells #[.iface tt xx, .int .i64 6, .int .i64 r] 54 (0, 0)) by rw [← hy3]; exact heap_setCell_same _ _ _ _ _ _ (unhide O2))
    clear O2
    go_wp2_with (first | (refine wpList_load_row rfl 54 _ rfl y0.w.heap.size rfl 54 #[.iface tt xx, .int .i64 6, .int .i64 r] (0, 0) _ (unhide O3) Tryd.underlying54 rfl (by kernel_rfl) ?_) | (refine wpList_store_row rfl 54 _ _ rfl V.heap.size #[.iface tt xx, .int .i64 6, .int .i64 r] rfl rfl 54 _ (unhide RY _) szOp rfl (op_one (.inr ⟨_, _, rfl⟩) 6 r) ?_))
    refine bodyPost_ret (results_row2 (P := Tryd.prog) rfl _ _ V.heap.size 54 #[.iface tt xx, .int .i64 6, .int .i64 r] (0, 0) _ rfl (setRow_heap _ _ _ _ _ _ (unhide RY _)) Tryd.underlying54 rfl szOp) rfl ?_
    exact unhide F2 _ _ _ _ _ rfl (.inr ⟨_, _, rfl⟩) (fun h => ⟨unhide HV h, rfl, rfl⟩) (below_rowG (unhide BY y3) (unhide VL))
set_option maxHeartbeats 4000000 in
theorem opd_7 (r : Int) (e : Ex) (b : Option Addr) (cap : Nat) (w : World) (hr : RdX w 0 e b) (hz : e.sz ≤ 1048576) (ht : TabK w) (hf : TabF w) : Calls Tryd.prog 23 #[.agg ((Ag.mk 7 r e).cs b cap)] w (OpdR ⟨7, r, e⟩ w) := by
  have hsz := sz_is e
  have cR : cntB ⟨#[64, 69, 40, 82, 41]⟩ 82 = true := by decide
  have cE : cntB ⟨#[64, 69, 40, 82, 41]⟩ 69 = true := by decide
  have P := hide (fun w' (h : Below w.heap.size w w') => plnO_any e b cap w' (hr.later h) hz (ht.next h))
  unfold PlnR Ex.cs at P
  have V : agX ⟨7, r, e⟩ = (inB r 0 7 && okF 6 true e) := by unfold agX; rfl
  have U : opU ⟨7, r, e⟩ = tv e := by unfold opU; rfl
  have FN := hide (fun r0 w' u f0 g q (h : (inB r 0 7 && okF 6 true e) = q) (hr : r0 = .returned (.tuple #[.agg #[u, .int .i64 f0, .int .i64 g], .bool q])) (hu : IfV u) (hv : q = true → u = tv e ∧ f0 = 7 ∧ g = r) => opdR_of (w := w) (r := r0) (w' := w') (u := u) (f := f0) (g := g) (V.trans h) hr hu (fun x => by rw [U]; exact hv x))
  clear V U hr ht hsz hz
  generalize OpdR ⟨7, r, e⟩ w = R at *
  generalize okF 6 true e = q at *
  generalize tv e = tve at *
  unfold Ag.cs
  simp only
  generalize e.k = k at *
  generalize e.n = n at *
  generalize e.s = s at *
  generalize e.l.length = ll at *
  have G2 := two_new w (.cells #[.int .i64 7, .int .i64 r, .int .i64 k, .int .i64 n, .string s, .slice b ll cap] 33) (.cells #[.nilIface, .int .i64 0, .int .i64 0] 54)
  have G1 := two_new0 w (.cells #[.int .i64 7, .int .i64 r, .int .i64 k, .int .i64 n, .string s, .slice b ll cap] 33) (.cells #[.nilIface, .int .i64 0, .int .i64 0] 54)
  obtain ⟨V, hV⟩ : ∃ V, w.alloc (.cells #[.int .i64 7, .int .i64 r, .int .i64 k, .int .i64 n, .string s, .slice b ll cap] 33) = V := ⟨_, rfl⟩
  have vsz : w.heap.size + 1 = V.heap.size := by rw [← hV]; simp
  rw [vsz, hV] at G2
  rw [hV] at G1
  obtain ⟨W, hW⟩ : ∃ W, V.alloc (.cells #[.nilIface, .int .i64 0, .int .i64 0] 54) = W := ⟨_, rfl⟩
  rw [hW] at G1 G2
  obtain ⟨G2, hbW⟩ := G2
  have l1 : w.heap.size < W.heap.size := (Array.getElem?_eq_some_iff.1 G1).1
  have l2 : V.heap.size < W.heap.size := (Array.getElem?_eq_some_iff.1 G2).1
  have BY := hide (fun y : Sub W.heap.size W => hbW.trans (y.h.mono hbW.size))
  have RY := hide (fun y : Sub W.heap.size W => (y.h.block _ l2).trans G2)
  have VL := hide (show w.heap.size ≤ V.heap.size by omega)
  have ne := Sub.ne W.heap.size W
  have HZ := hide (Nat.le_refl W.heap.size)
  have E0 : ∀ y : Sub W.heap.size W, y.w.cell? ⟨w.heap.size, 0, none⟩ = some (.int .i64 7) := fun y => (y.h.cell (p := ⟨w.heap.size, 0, none⟩) l1).trans (Lib.cell_of_heap G1 0)
  have E1 : ∀ y : Sub W.heap.size W, y.w.cell? ⟨w.heap.size, 1, none⟩ = some (.int .i64 r) := fun y => (y.h.cell (p := ⟨w.heap.size, 1, none⟩) l1).trans (Lib.cell_of_heap G1 1)
  have E2 : ∀ y : Sub W.heap.size W, y.w.cell? ⟨w.heap.size, 2, none⟩ = some (.int .i64 k) := fun y => (y.h.cell (p := ⟨w.heap.size, 2, none⟩) l1).trans (Lib.cell_of_heap G1 2)
  have E3 : ∀ y : Sub W.heap.size W, y.w.cell? ⟨w.heap.size, 3, none⟩ = some (.int .i64 n) := fun y => (y.h.cell (p := ⟨w.heap.size, 3, none⟩) l1).trans (Lib.cell_of_heap G1 3)
  have E4 : ∀ y : Sub W.heap.size W, y.w.cell? ⟨w.heap.size, 4, none⟩ = some (.string s) := fun y => (y.h.cell (p := ⟨w.heap.size, 4, none⟩) l1).trans (Lib.cell_of_heap G1 4)
  have E5 : ∀ y : Sub W.heap.size W, y.w.cell? ⟨w.heap.size, 5, none⟩ = some (.slice b ll cap) := fun y => (y.h.cell (p := ⟨w.heap.size, 5, none⟩) l1).trans (Lib.cell_of_heap G1 5)
  have T0 : ∀ y : Sub W.heap.size W, y.w.cell? ⟨0, 7, none⟩ = some (.string ⟨#[64, 69, 40, 82, 41]⟩) := fun y => (hf.next (unhide BY y)).at7
  obtain ⟨y0, hy0⟩ : ∃ z : Sub W.heap.size W, W = z.w := ⟨⟨W, Below.refl _ _⟩, rfl⟩
  rw [hy0] at hW
  clear l1 l2 vsz hbW hy0
  have PY := hide (fun y : Sub W.heap.size W => unhide P y.w (unhide BY y))
  clear P hf
  by_cases h0 : r < 0
  · have F2 := hide (fun r0 w' u f0 g => unhide FN r0 w' u f0 g false (by rw [inB_f r 0 7 (by omega)]; rfl))
    clear FN PY
    go_enter Tryd.func23, Tryd.ntmps23
    go_wp2_with (first | (go_at_call 39; refine (cntI _ _ _).mono ?_; rintro e w' ⟨rfl, hw'⟩; rw [hw']; clear hw' w'; (try rw [cR]); (try rw [cE])) | (refine wpList_store_row rfl 54 _ _ rfl V.heap.size #[.nilIface, .int .i64 0, .int .i64 0] rfl rfl 54 _ (unhide RY _) szOp rfl (op_one (.inl rfl) 0 0) ?_))
    refine bodyPost_ret (results_row2 (P := Tryd.prog) rfl _ _ V.heap.size 54 #[.nilIface, .int .i64 0, .int .i64 0] (0, 0) _ rfl (setRow_heap _ _ _ _ _ _ (unhide RY _)) Tryd.underlying54 rfl szOp) rfl ?_
    exact unhide F2 _ _ _ _ _ rfl (.inl rfl) (fun h => by cases h) (below_rowG (unhide BY _) (unhide VL))
  by_cases h7 : 7 < r
  · have F2 := hide (fun r0 w' u f0 g => unhide FN r0 w' u f0 g false (by rw [inB_f r 0 7 (by omega)]; rfl))
    clear FN PY
    go_enter Tryd.func23, Tryd.ntmps23
    go_wp2_with (first | (go_at_call 39; refine (cntI _ _ _).mono ?_; rintro e w' ⟨rfl, hw'⟩; rw [hw']; clear hw' w'; (try rw [cR]); (try rw [cE])) | (refine wpList_store_row rfl 54 _ _ rfl V.heap.size #[.nilIface, .int .i64 0, .int .i64 0] rfl rfl 54 _ (unhide RY _) szOp rfl (op_one (.inl rfl) 0 0) ?_))
    refine bodyPost_ret (results_row2 (P := Tryd.prog) rfl _ _ V.heap.size 54 #[.nilIface, .int .i64 0, .int .i64 0] (0, 0) _ rfl (setRow_heap _ _ _ _ _ _ (unhide RY _)) Tryd.underlying54 rfl szOp) rfl ?_
    exact unhide F2 _ _ _ _ _ rfl (.inl rfl) (fun h => by cases h) (below_rowG (unhide BY _) (unhide VL))
  have F2 := hide (fun r0 w' u f0 g => unhide FN r0 w' u f0 g q (by rw [inB_t r 0 7 (by omega) (by omega)]; rfl))
  clear FN
  obtain ⟨y1, hy1⟩ := Sub.step (unhide HZ) (below_new y0.w (.cells #[.nilIface, .int .i64 7, .int .i64 r] 54))
  have O1 := hide (show y1.w.heap[y0.w.heap.size]? = some (.cells #[.nilIface, .int .i64 7, .int .i64 r] 54 (0, 0)) by rw [← hy1]; exact Array.getElem?_push_size)
  have NO := hide (show V.heap.size ≠ y0.w.heap.size by have := (Array.getElem?_eq_some_iff.1 (unhide RY y0)).1; omega)
  have NA := hide (show V.heap.size ≠ w.heap.size by rw [← hV]; simp)
  have AY := hide (fun y : Sub W.heap.size W => (y.h.block _ (Array.getElem?_eq_some_iff.1 G1).1).trans G1)
  clear G1 G2
  go_enter Tryd.func23, Tryd.ntmps23
  go_wp2_with (first | (go_at_call 39; refine (cntI _ _ _).mono ?_; rintro e w' ⟨rfl, hw'⟩; rw [hw']; clear hw' w'; (try rw [cR]); (try rw [cE])))
  refine (unhide PY y1).mono ?_
  rintro r w2 ⟨v, rfl, hv, hb⟩
  have O2 := hide (row_keep (unhide O1) hb)
  have HV := hide hv.2
  have hi := hv.1
  obtain ⟨y2, rfl⟩ := Sub.step (unhide HZ) hb
  have c0 := Lib.cell_of_heap (unhide O2) 0
  clear hb O1 hv
  rcases hi with rfl | ⟨tt, xx, rfl⟩
  · obtain ⟨y3, hy3⟩ : ∃ z : Sub W.heap.size W, y2.w.setCell ⟨y0.w.heap.size, 0, none⟩ (.nilIface) = z.w := ⟨⟨_, y2.h.setCell (p := ⟨y0.w.heap.size, 0, none⟩) y0.h.size _⟩, rfl⟩
    have fz : y2.w.frozen? ⟨y0.w.heap.size, 0, none⟩ = false := by have := unhide O2; simp [World.frozen?, this]
    have O3 := hide (show y3.w.heap[y0.w.heap.size]? = some (.cells #[.nilIface, .int .i64 7, .int .i64 r] 54 (0, 0)) by rw [← hy3]; exact heap_setCell_same _ _ _ _ _ _ (unhide O2))
    clear O2
    go_wp2_with (first | (refine wpList_load_row rfl 54 _ rfl y0.w.heap.size rfl 54 #[.nilIface, .int .i64 7, .int .i64 r] (0, 0) _ (unhide O3) Tryd.underlying54 rfl (by kernel_rfl) ?_) | (refine wpList_store_row rfl 54 _ _ rfl V.heap.size #[.nilIface, .int .i64 7, .int .i64 r] rfl rfl 54 _ (unhide RY _) szOp rfl (op_one (.inl rfl) 7 r) ?_))
    refine bodyPost_ret (results_row2 (P := Tryd.prog) rfl _ _ V.heap.size 54 #[.nilIface, .int .i64 7, .int .i64 r] (0, 0) _ rfl (setRow_heap _ _ _ _ _ _ (unhide RY _)) Tryd.underlying54 rfl szOp) rfl ?_
    exact unhide F2 _ _ _ _ _ rfl (.inl rfl) (fun h => ⟨unhide HV h, rfl, rfl⟩) (below_rowG (unhide BY y3) (unhide VL))
  · obtain ⟨y3, hy3⟩ : ∃ z : Sub W.heap.size W, y2.w.setCell ⟨y0.w.heap.size, 0, none⟩ (.iface tt xx) = z.w := ⟨⟨_, y2.h.setCell (p := ⟨y0.w.heap.size, 0, none⟩) y0.h.size _⟩, rfl⟩
    have fz : y2.w.frozen? ⟨y0.w.heap.size, 0, none⟩ = false := by have := unhide O2; simp [World.frozen?, this]
    have O3 := hide (show y3.w.heap[y0.w.heap.size]? = some (.cells #[.iface tt xx, .int .i64 7, .int .i64 r] 54 (0, 0)) by rw [← hy3]; exact heap_setCell_same _ _ _ _ _ _ (unhide O2))
    clear O2
    go_wp2_with (first | (refine wpList_load_row rfl 54 _ rfl y0.w.heap.size rfl 54 #[.iface tt xx, .int .i64 7, .int .i64 r] (0, 0) _ (unhide O3) Tryd.underlying54 rfl (by kernel_rfl) ?_) | (refine wpList_store_row rfl 54 _ _ rfl V.heap.size #[.iface tt xx, .int .i64 7, .int .i64 r] rfl rfl 54 _ (unhide RY _) szOp rfl (op_one (.inr ⟨_, _, rfl⟩) 7 r) ?_))
    refine bodyPost_ret (results_row2 (P := Tryd.prog) rfl _ _ V.heap.size 54 #[.iface tt xx, .int .i64 7, .int .i64 r] (0, 0) _ rfl (setRow_heap _ _ _ _ _ _ (unhide RY _)) Tryd.underlying54 rfl szOp) rfl ?_
    exact unhide F2 _ _ _ _ _ rfl (.inr ⟨_, _, rfl⟩) (fun h => ⟨unhide HV h, rfl, rfl⟩) (below_rowG (unhide BY y3) (unhide VL))
set_option maxHeartbeats 4000000 in
theorem opd_8 (r : Int) (e : Ex) (b : Option Addr) (cap : Nat) (w : World) (hr : RdX w 0 e b) (hz : e.sz ≤ 1048576) (ht : TabK w) (hf : TabF w) : Calls Tryd.prog 23 #[.agg ((Ag.mk 8 r e).cs b cap)] w (OpdR ⟨8, r, e⟩ w) := by
  have hsz := sz_is e
  have cR : cntB ⟨#[35, 69]⟩ 82 = false := by decide
  have cE : cntB ⟨#[35, 69]⟩ 69 = true := by decide
  have P := hide (fun w' (h : Below w.heap.size w w') => plnO_any e b cap w' (hr.later h) hz (ht.next h))
  unfold PlnR Ex.cs at P
  have V : agX ⟨8, r, e⟩ = (r == 0 && okF 6 true e) := by unfold agX; rfl
  have U : opU ⟨8, r, e⟩ = tv e := by unfold opU; rfl
  have FN := hide (fun r0 w' u f0 g q (h : (r == 0 && okF 6 true e) = q) (hr : r0 = .returned (.tuple #[.agg #[u, .int .i64 f0, .int .i64 g], .bool q])) (hu : IfV u) (hv : q = true → u = tv e ∧ f0 = 8 ∧ g = r) => opdR_of (w := w) (r := r0) (w' := w') (u := u) (f := f0) (g := g) (V.trans h) hr hu (fun x => by rw [U]; exact hv x))
  clear V U hr ht hsz hz
  generalize OpdR ⟨8, r, e⟩ w = R at *
  generalize okF 6 true e = q at *
  generalize tv e = tve at *
  unfold Ag.cs
  simp only
  generalize e.k = k at *
  generalize e.n = n at *
  generalize e.s = s at *
  generalize e.l.length = ll at *
  have G2 := two_new w (.cells #[.int .i64 8, .int .i64 r, .int .i64 k, .int .i64 n, .string s, .slice b ll cap] 33) (.cells #[.nilIface, .int .i64 0, .int .i64 0] 54)
  have G1 := two_new0 w (.cells #[.int .i64 8, .int .i64 r, .int .i64 k, .int .i64 n, .string s, .slice b ll cap] 33) (.cells #[.nilIface, .int .i64 0, .int .i64 0] 54)
  obtain ⟨V, hV⟩ : ∃ V, w.alloc (.cells #[.int .i64 8, .int .i64 r, .int .i64 k, .int .i64 n, .string s, .slice b ll cap] 33) = V := ⟨_, rfl⟩
  have vsz : w.heap.size + 1 = V.heap.size := by rw [← hV]; simp
  rw [vsz, hV] at G2
  rw [hV] at G1
  obtain ⟨W, hW⟩ : ∃ W, V.alloc (.cells #[.nilIface, .int .i64 0, .int .i64 0] 54) = W := ⟨_, rfl⟩
  rw [hW] at G1 G2
  obtain ⟨G2, hbW⟩ := G2
  have l1 : w.heap.size < W.heap.size := (Array.getElem?_eq_some_iff.1 G1).1
  have l2 : V.heap.size < W.heap.size := (Array.getElem?_eq_some_iff.1 G2).1
  have BY := hide (fun y : Sub W.heap.size W => hbW.trans (y.h.mono hbW.size))
  have RY := hide (fun y : Sub W.heap.size W => (y.h.block _ l2).trans G2)
  have VL := hide (show w.heap.size ≤ V.heap.size by omega)
  have ne := Sub.ne W.heap.size W
  have HZ := hide (Nat.le_refl W.heap.size)
  have E0 : ∀ y : Sub W.heap.size W, y.w.cell? ⟨w.heap.size, 0, none⟩ = some (.int .i64 8) := fun y => (y.h.cell (p := ⟨w.heap.size, 0, none⟩) l1).trans (Lib.cell_of_heap G1 0)
  have E1 : ∀ y : Sub W.heap.size W, y.w.cell? ⟨w.heap.size, 1, none⟩ = some (.int .i64 r) := fun y => (y.h.cell (p := ⟨w.heap.size, 1, none⟩) l1).trans (Lib.cell_of_heap G1 1)
  have E2 : ∀ y : Sub W.heap.size W, y.w.cell? ⟨w.heap.size, 2, none⟩ = some (.int .i64 k) := fun y => (y.h.cell (p := ⟨w.heap.size, 2, none⟩) l1).trans (Lib.cell_of_heap G1 2)
  have E3 : ∀ y : Sub W.heap.size W, y.w.cell? ⟨w.heap.size, 3, none⟩ = some (.int .i64 n) := fun y => (y.h.cell (p := ⟨w.heap.size, 3, none⟩) l1).trans (Lib.cell_of_heap G1 3)
  have E4 : ∀ y : Sub W.heap.size W, y.w.cell? ⟨w.heap.size, 4, none⟩ = some (.string s) := fun y => (y.h.cell (p := ⟨w.heap.size, 4, none⟩) l1).trans (Lib.cell_of_heap G1 4)
  have E5 : ∀ y : Sub W.heap.size W, y.w.cell? ⟨w.heap.size, 5, none⟩ = some (.slice b ll cap) := fun y => (y.h.cell (p := ⟨w.heap.size, 5, none⟩) l1).trans (Lib.cell_of_heap G1 5)
  have T0 : ∀ y : Sub W.heap.size W, y.w.cell? ⟨0, 8, none⟩ = some (.string ⟨#[35, 69]⟩) := fun y => (hf.next (unhide BY y)).at8
  obtain ⟨y0, hy0⟩ : ∃ z : Sub W.heap.size W, W = z.w := ⟨⟨W, Below.refl _ _⟩, rfl⟩
  rw [hy0] at hW
  clear l1 l2 vsz hbW hy0
  have PY := hide (fun y : Sub W.heap.size W => unhide P y.w (unhide BY y))
  clear P hf
  by_cases h0 : r < 0
  · have F2 := hide (fun r0 w' u f0 g => unhide FN r0 w' u f0 g false (by rw [beq_eq_false_iff_ne.2 (show r ≠ 0 by omega)]; rfl))
    clear FN PY
    go_enter Tryd.func23, Tryd.ntmps23
    go_wp2_with (first | (go_at_call 39; refine (cntI _ _ _).mono ?_; rintro e w' ⟨rfl, hw'⟩; rw [hw']; clear hw' w'; (try rw [cR]); (try rw [cE])) | (refine wpList_store_row rfl 54 _ _ rfl V.heap.size #[.nilIface, .int .i64 0, .int .i64 0] rfl rfl 54 _ (unhide RY _) szOp rfl (op_one (.inl rfl) 0 0) ?_))
    refine bodyPost_ret (results_row2 (P := Tryd.prog) rfl _ _ V.heap.size 54 #[.nilIface, .int .i64 0, .int .i64 0] (0, 0) _ rfl (setRow_heap _ _ _ _ _ _ (unhide RY _)) Tryd.underlying54 rfl szOp) rfl ?_
    exact unhide F2 _ _ _ _ _ rfl (.inl rfl) (fun h => by cases h) (below_rowG (unhide BY _) (unhide VL))
  by_cases h7 : 0 < r
  · have F2 := hide (fun r0 w' u f0 g => unhide FN r0 w' u f0 g false (by rw [beq_eq_false_iff_ne.2 (show r ≠ 0 by omega)]; rfl))
    clear FN PY
    go_enter Tryd.func23, Tryd.ntmps23
    go_wp2_with (first | (go_at_call 39; refine (cntI _ _ _).mono ?_; rintro e w' ⟨rfl, hw'⟩; rw [hw']; clear hw' w'; (try rw [cR]); (try rw [cE])) | (refine wpList_store_row rfl 54 _ _ rfl V.heap.size #[.nilIface, .int .i64 0, .int .i64 0] rfl rfl 54 _ (unhide RY _) szOp rfl (op_one (.inl rfl) 0 0) ?_))
    refine bodyPost_ret (results_row2 (P := Tryd.prog) rfl _ _ V.heap.size 54 #[.nilIface, .int .i64 0, .int .i64 0] (0, 0) _ rfl (setRow_heap _ _ _ _ _ _ (unhide RY _)) Tryd.underlying54 rfl szOp) rfl ?_
    exact unhide F2 _ _ _ _ _ rfl (.inl rfl) (fun h => by cases h) (below_rowG (unhide BY _) (unhide VL))
  have F2 := hide (fun r0 w' u f0 g => unhide FN r0 w' u f0 g q (by rw [show r = 0 by omega]; rfl))
  clear FN
  obtain ⟨y1, hy1⟩ := Sub.step (unhide HZ) (below_new y0.w (.cells #[.nilIface, .int .i64 8, .int .i64 r] 54))
  have O1 := hide (show y1.w.heap[y0.w.heap.size]? = some (.cells #[.nilIface, .int .i64 8, .int .i64 r] 54 (0, 0)) by rw [← hy1]; exact Array.getElem?_push_size)
  have NO := hide (show V.heap.size ≠ y0.w.heap.size by have := (Array.getElem?_eq_some_iff.1 (unhide RY y0)).1; omega)
  have NA := hide (show V.heap.size ≠ w.heap.size by rw [← hV]; simp)
  have AY := hide (fun y : Sub W.heap.size W => (y.h.block _ (Array.getElem?_eq_some_iff.1 G1).1).trans G1)
  clear G1 G2
  go_enter Tryd.func23, Tryd.ntmps23
  go_wp2_with (first | (go_at_call 39; refine (cntI _ _ _).mono ?_; rintro e w' ⟨rfl, hw'⟩; rw [hw']; clear hw' w'; (try rw [cR]); (try rw [cE])))
  refine (unhide PY y1).mono ?_
  rintro r w2 ⟨v, rfl, hv, hb⟩
  have O2 := hide (row_keep (unhide O1) hb)
  have HV := hide hv.2
  have hi := hv.1
  obtain ⟨y2, rfl⟩ := Sub.step (unhide HZ) hb
  have c0 := Lib.cell_of_heap (unhide O2) 0
  clear hb O1 hv
  rcases hi with rfl | ⟨tt, xx, rfl⟩
  · obtain ⟨y3, hy3⟩ : ∃ z : Sub W.heap.size W, y2.w.setCell ⟨y0.w.heap.size, 0, none⟩ (.nilIface) = z.w := ⟨⟨_, y2.h.setCell (p := ⟨y0.w.heap.size, 0, none⟩) y0.h.size _⟩, rfl⟩
    have fz : y2.w.frozen? ⟨y0.w.heap.size, 0, none⟩ = false := by have := unhide O2; simp [World.frozen?, this]
    have O3 := hide (show y3.w.heap[y0.w.heap.size]? = some (.cells #[.nilIface, .int .i64 8, .int .i64 r] 54 (0, 0)) by rw [← hy3]; exact heap_setCell_same _ _ _ _ _ _ (unhide O2))
    clear O2
    go_wp2_with (first | (refine wpList_load_row rfl 54 _ rfl y0.w.heap.size rfl 54 #[.nilIface, .int .i64 8, .int .i64 r] (0, 0) _ (unhide O3) Tryd.underlying54 rfl (by kernel_rfl) ?_) | (refine wpList_store_row rfl 54 _ _ rfl V.heap.size #[.nilIface, .int .i64 8, .int .i64 r] rfl rfl 54 _ (unhide RY _) szOp rfl (op_one (.inl rfl) 8 r) ?_))
    refine bodyPost_ret (results_row2 (P := Tryd.prog) rfl _ _ V.heap.size 54 #[.nilIface, .int .i64 8, .int .i64 r] (0, 0) _ rfl (setRow_heap _ _ _ _ _ _ (unhide RY _)) Tryd.underlying54 rfl szOp) rfl ?_
    exact unhide F2 _ _ _ _ _ rfl (.inl rfl) (fun h => ⟨unhide HV h, rfl, rfl⟩) (below_rowG (unhide BY y3) (unhide VL))
  · obtain ⟨y3, hy3⟩ : ∃ z : Sub W.heap.size W, y2.w.setCell ⟨y0.w.heap.size, 0, none⟩ (.iface tt xx) = z.w := ⟨⟨_, y2.h.setCell (p := ⟨y0.w.heap.size, 0, none⟩) y0.h.size _⟩, rfl⟩
    have fz : y2.w.frozen? ⟨y0.w.heap.size, 0, none⟩ = false := by have := unhide O2; simp [World.frozen?, this]
    have O3 := hide (show y3.w.heap[y0.w.heap.size]? = some (.cells #[.iface tt xx, .int .i64 8, .int .i64 r] 54 (0, 0)) by rw [← hy3]; exact heap_setCell_same _ _ _ _ _ _ (unhide O2))
    clear O2
    go_wp2_with (first | (refine wpList_load_row rfl 54 _ rfl y0.w.heap.size rfl 54 #[.iface tt xx, .int .i64 8, .int .i64 r] (0, 0) _ (unhide O3) Tryd.underlying54 rfl (by kernel_rfl) ?_) | (refine wpList_store_row rfl 54 _ _ rfl V.heap.size #[.iface tt xx, .int .i64 8, .int .i64 r] rfl rfl 54 _ (unhide RY _) szOp rfl (op_one (.inr ⟨_, _, rfl⟩) 8 r) ?_))
    refine bodyPost_ret (results_row2 (P := Tryd.prog) rfl _ _ V.heap.size 54 #[.iface tt xx, .int .i64 8, .int .i64 r] (0, 0) _ rfl (setRow_heap _ _ _ _ _ _ (unhide RY _)) Tryd.underlying54 rfl szOp) rfl ?_
    exact unhide F2 _ _ _ _ _ rfl (.inr ⟨_, _, rfl⟩) (fun h => ⟨unhide HV h, rfl, rfl⟩) (below_rowG (unhide BY y3) (unhide VL))
set_option maxHeartbeats 4000000 in
theorem opd_9 (r : Int) (e : Ex) (b : Option Addr) (cap : Nat) (w : World) (hr : RdX w 0 e b) (hz : e.sz ≤ 1048576) (ht : TabK w) (hf : TabF w) : Calls Tryd.prog 23 #[.agg ((Ag.mk 9 r e).cs b cap)] w (OpdR ⟨9, r, e⟩ w) := by
  have hsz := sz_is e
  have cR : cntB ⟨#[64, 35, 69]⟩ 82 = false := by decide
  have cE : cntB ⟨#[64, 35, 69]⟩ 69 = true := by decide
  have P := hide (fun w' (h : Below w.heap.size w w') => plnO_any e b cap w' (hr.later h) hz (ht.next h))
  unfold PlnR Ex.cs at P
  have V : agX ⟨9, r, e⟩ = (r == 0 && okF 6 true e) := by unfold agX; rfl
  have U : opU ⟨9, r, e⟩ = tv e := by unfold opU; rfl
  have FN := hide (fun r0 w' u f0 g q (h : (r == 0 && okF 6 true e) = q) (hr : r0 = .returned (.tuple #[.agg #[u, .int .i64 f0, .int .i64 g], .bool q])) (hu : IfV u) (hv : q = true → u = tv e ∧ f0 = 9 ∧ g = r) => opdR_of (w := w) (r := r0) (w' := w') (u := u) (f := f0) (g := g) (V.trans h) hr hu (fun x => by rw [U]; exact hv x))
  clear V U hr ht hsz hz
  generalize OpdR ⟨9, r, e⟩ w = R at *
  generalize okF 6 true e = q at *
  generalize tv e = tve at *
  unfold Ag.cs
  simp only
  generalize e.k = k at *
  generalize e.n = n at *
  generalize e.s = s at *
  generalize e.l.length = ll at *
  have G2 := two_new w (.cells #[.int .i64 9, .int .i64 r, .int .i64 k, .int .i64 n, .string s, .slice b ll cap] 33) (.cells #[.nilIface, .int .i64 0, .int .i64 0] 54)
  have G1 := two_new0 w (.cells #[.int .i64 9, .int .i64 r, .int .i64 k, .int .i64 n, .string s, .slice b ll cap] 33) (.cells #[.nilIface, .int .i64 0, .int .i64 0] 54)
  obtain ⟨V, hV⟩ : ∃ V, w.alloc (.cells #[.int .i64 9, .int .i64 r, .int .i64 k, .int .i64 n, .string s, .slice b ll cap] 33) = V := ⟨_, rfl⟩
  have vsz : w.heap.size + 1 = V.heap.size := by rw [← hV]; simp
  rw [vsz, hV] at G2
  rw [hV] at G1
  obtain ⟨W, hW⟩ : ∃ W, V.alloc (.cells #[.nilIface, .int .i64 0, .int .i64 0] 54) = W := ⟨_, rfl⟩
  rw [hW] at G1 G2
  obtain ⟨G2, hbW⟩ := G2
  have l1 : w.heap.size < W.heap.size := (Array.getElem?_eq_some_iff.1 G1).1
  have l2 : V.heap.size < W.heap.size := (Array.getElem?_eq_some_iff.1 G2).1
  have BY := hide (fun y : Sub W.heap.size W => hbW.trans (y.h.mono hbW.size))
  have RY := hide (fun y : Sub W.heap.size W => (y.h.block _ l2).trans G2)
  have VL := hide (show w.heap.size ≤ V.heap.size by omega)
  have ne := Sub.ne W.heap.size W
  have HZ := hide (Nat.le_refl W.heap.size)
  have E0 : ∀ y : Sub W.heap.size W, y.w.cell? ⟨w.heap.size, 0, none⟩ = some (.int .i64 9) := fun y => (y.h.cell (p := ⟨w.heap.size, 0, none⟩) l1).trans (Lib.cell_of_heap G1 0)
  have E1 : ∀ y : Sub W.heap.size W, y.w.cell? ⟨w.heap.size, 1, none⟩ = some (.int .i64 r) := fun y => (y.h.cell (p := ⟨w.heap.size, 1, none⟩) l1).trans (Lib.cell_of_heap G1 1)
  have E2 : ∀ y : Sub W.heap.size W, y.w.cell? ⟨w.heap.size, 2, none⟩ = some (.int .i64 k) := fun y => (y.h.cell (p := ⟨w.heap.size, 2, none⟩) l1).trans (Lib.cell_of_heap G1 2)
  have E3 : ∀ y : Sub W.heap.size W, y.w.cell? ⟨w.heap.size, 3, none⟩ = some (.int .i64 n) := fun y => (y.h.cell (p := ⟨w.heap.size, 3, none⟩) l1).trans (Lib.cell_of_heap G1 3)
  have E4 : ∀ y : Sub W.heap.size W, y.w.cell? ⟨w.heap.size, 4, none⟩ = some (.string s) := fun y => (y.h.cell (p := ⟨w.heap.size, 4, none⟩) l1).trans (Lib.cell_of_heap G1 4)
  have E5 : ∀ y : Sub W.heap.size W, y.w.cell? ⟨w.heap.size, 5, none⟩ = some (.slice b ll cap) := fun y => (y.h.cell (p := ⟨w.heap.size, 5, none⟩) l1).trans (Lib.cell_of_heap G1 5)
  have T0 : ∀ y : Sub W.heap.size W, y.w.cell? ⟨0, 9, none⟩ = some (.string ⟨#[64, 35, 69]⟩) := fun y => (hf.next (unhide BY y)).at9
  obtain ⟨y0, hy0⟩ : ∃ z : Sub W.heap.size W, W = z.w := ⟨⟨W, Below.refl _ _⟩, rfl⟩
  rw [hy0] at hW
  clear l1 l2 vsz hbW hy0
  have PY := hide (fun y : Sub W.heap.size W => unhide P y.w (unhide BY y))
  clear P hf
  by_cases h0 : r < 0
  · have F2 := hide (fun r0 w' u f0 g => unhide FN r0 w' u f0 g false (by rw [beq_eq_false_iff_ne.2 (show r ≠ 0 by omega)]; rfl))
    clear FN PY
    go_enter Tryd.func23, Tryd.ntmps23
    go_wp2_with (first | (go_at_call 39; refine (cntI _ _ _).mono ?_; rintro e w' ⟨rfl, hw'⟩; rw [hw']; clear hw' w'; (try rw [cR]); (try rw [cE])) | (refine wpList_store_row rfl 54 _ _ rfl V.heap.size #[.nilIface, .int .i64 0, .int .i64 0] rfl rfl 54 _ (unhide RY _) szOp rfl (op_one (.inl rfl) 0 0) ?_))
    refine bodyPost_ret (results_row2 (P := Tryd.prog) rfl _ _ V.heap.size 54 #[.nilIface, .int .i64 0, .int .i64 0] (0, 0) _ rfl (setRow_heap _ _ _ _ _ _ (unhide RY _)) Tryd.underlying54 rfl szOp) rfl ?_
    exact unhide F2 _ _ _ _ _ rfl (.inl rfl) (fun h => by cases h) (below_rowG (unhide BY _) (unhide VL))
  by_cases h7 : 0 < r
  · have F2 := hide (fun r0 w' u f0 g => unhide FN r0 w' u f0 g false (by rw [beq_eq_false_iff_ne.2 (show r ≠ 0 by omega)]; rfl))
    clear FN PY
    go_enter Tryd.func23, Tryd.ntmps23
    go_wp2_with (first | (go_at_call 39; refine (cntI _ _ _).mono ?_; rintro e w' ⟨rfl, hw'⟩; rw [hw']; clear hw' w'; (try rw [cR]); (try rw [cE])) | (refine wpList_store_row rfl 54 _ _ rfl V.heap.size #[.nilIface, .int .i64 0, .int .i64 0] rfl rfl 54 _ (unhide RY _) szOp rfl (op_one (.inl rfl) 0 0) ?_))
    refine bodyPost_ret (results_row2 (P := Tryd.prog) rfl _ _ V.heap.size 54 #[.nilIface, .int .i64 0, .int .i64 0] (0, 0) _ rfl (setRow_heap _ _ _ _ _ _ (unhide RY _)) Tryd.underlying54 rfl szOp) rfl ?_
    exact unhide F2 _ _ _ _ _ rfl (.inl rfl) (fun h => by cases h) (below_rowG (unhide BY _) (unhide VL))
  have F2 := hide (fun r0 w' u f0 g => unhide FN r0 w' u f0 g q (by rw [show r = 0 by omega]; rfl))
  clear FN
  obtain ⟨y1, hy1⟩ := Sub.step (unhide HZ) (below_new y0.w (.cells #[.nilIface, .int .i64 9, .int .i64 r] 54))
  have O1 := hide (show y1.w.heap[y0.w.heap.size]? = some (.cells #[.nilIface, .int .i64 9, .int .i64 r] 54 (0, 0)) by rw [← hy1]; exact Array.getElem?_push_size)
  have NO := hide (show V.heap.size ≠ y0.w.heap.size by have := (Array.getElem?_eq_some_iff.1 (unhide RY y0)).1; omega)
  have NA := hide (show V.heap.size ≠ w.heap.size by rw [← hV]; simp)
  have AY := hide (fun y : Sub W.heap.size W => (y.h.block _ (Array.getElem?_eq_some_iff.1 G1).1).trans G1)
  clear G1 G2
  go_enter Tryd.func23, Tryd.ntmps23
  go_wp2_with (first | (go_at_call 39; refine (cntI _ _ _).mono ?_; rintro e w' ⟨rfl, hw'⟩; rw [hw']; clear hw' w'; (try rw [cR]); (try rw [cE])))
  refine (unhide PY y1).mono ?_
  rintro r w2 ⟨v, rfl, hv, hb⟩
  have O2 := hide (row_keep (unhide O1) hb)
  have HV := hide hv.2
  have hi := hv.1
  obtain ⟨y2, rfl⟩ := Sub.step (unhide HZ) hb
  have c0 := Lib.cell_of_heap (unhide O2) 0
  clear hb O1 hv
  rcases hi with rfl | ⟨tt, xx, rfl⟩
  · obtain ⟨y3, hy3⟩ : ∃ z : Sub W.heap.size W, y2.w.setCell ⟨y0.w.heap.size, 0, none⟩ (.nilIface) = z.w := ⟨⟨_, y2.h.setCell (p := ⟨y0.w.heap.size, 0, none⟩) y0.h.size _⟩, rfl⟩
    have fz : y2.w.frozen? ⟨y0.w.heap.size, 0, none⟩ = false := by have := unhide O2; simp [World.frozen?, this]
    have O3 := hide (show y3.w.heap[y0.w.heap.size]? = some (.cells #[.nilIface, .int .i64 9, .int .i64 r] 54 (0, 0)) by rw [← hy3]; exact heap_setCell_same _ _ _ _ _ _ (unhide O2))
    clear O2
    go_wp2_with (first | (refine wpList_load_row rfl 54 _ rfl y0.w.heap.size rfl 54 #[.nilIface, .int .i64 9, .int .i64 r] (0, 0) _ (unhide O3) Tryd.underlying54 rfl (by kernel_rfl) ?_) | (refine wpList_store_row rfl 54 _ _ rfl V.heap.size #[.nilIface, .int .i64 9, .int .i64 r] rfl rfl 54 _ (unhide RY _) szOp rfl (op_one (.inl rfl) 9 r) ?_))
    refine bodyPost_ret (results_row2 (P := Tryd.prog) rfl _ _ V.heap.size 54 #[.nilIface, .int .i64 9, .int .i64 r] (0, 0) _ rfl (setRow_heap _ _ _ _ _ _ (unhide RY _)) Tryd.underlying54 rfl szOp) rfl ?_
    exact unhide F2 _ _ _ _ _ rfl (.inl rfl) (fun h => ⟨unhide HV h, rfl, rfl⟩) (below_rowG (unhide BY y3) (unhide VL))
  · obtain ⟨y3, hy3⟩ : ∃ z : Sub W.heap.size W, y2.w.setCell ⟨y0.w.heap.size, 0, none⟩ (.iface tt xx) = z.w := ⟨⟨_, y2.h.setCell (p := ⟨y0.w.heap.size, 0, none⟩) y0.h.size _⟩, rfl⟩
    have fz : y2.w.frozen? ⟨y0.w.heap.size, 0, none⟩ = false := by have := unhide O2; simp [World.frozen?, this]
    have O3 := hide (show y3.w.heap[y0.w.heap.size]? = some (.cells #[.iface tt xx, .int .i64 9, .int .i64 r] 54 (0, 0)) by rw [← hy3]; exact heap_setCell_same _ _ _ _ _ _ (unhide O2))
    clear O2
    go_wp2_with (first | (refine wpList_load_row rfl 54 _ rfl y0.w.heap.size rfl 54 #[.iface tt xx, .int .i64 9, .int .i64 r] (0, 0) _ (unhide O3) Tryd.underlying54 rfl (by kernel_rfl) ?_) | (refine wpList_store_row rfl 54 _ _ rfl V.heap.size #[.iface tt xx, .int .i64 9, .int .i64 r] rfl rfl 54 _ (unhide RY _) szOp rfl (op_one (.inr ⟨_, _, rfl⟩) 9 r) ?_))
    refine bodyPost_ret (results_row2 (P := Tryd.prog) rfl _ _ V.heap.size 54 #[.iface tt xx, .int .i64 9, .int .i64 r] (0, 0) _ rfl (setRow_heap _ _ _ _ _ _ (unhide RY _)) Tryd.underlying54 rfl szOp) rfl ?_
    exact unhide F2 _ _ _ _ _ rfl (.inr ⟨_, _, rfl⟩) (fun h => ⟨unhide HV h, rfl, rfl⟩) (below_rowG (unhide BY y3) (unhide VL))
set_option maxHeartbeats 4000000 in
theorem opd_10 (r : Int) (e : Ex) (b : Option Addr) (cap : Nat) (w : World) (hr : RdX w 0 e b) (hz : e.sz ≤ 1048576) (ht : TabK w) (hf : TabF w) : Calls Tryd.prog 23 #[.agg ((Ag.mk 10 r e).cs b cap)] w (OpdR ⟨10, r, e⟩ w) := by
  have hsz := sz_is e
  have cR : cntB ⟨#[69]⟩ 82 = false := by decide
  have cE : cntB ⟨#[69]⟩ 69 = true := by decide
  have P := hide (fun w' (h : Below w.heap.size w w') => plnO_any e b cap w' (hr.later h) hz (ht.next h))
  unfold PlnR Ex.cs at P
  have V : agX ⟨10, r, e⟩ = (r == 0 && okF 6 true e) := by unfold agX; rfl
  have U : opU ⟨10, r, e⟩ = tv e := by unfold opU; rfl
  have FN := hide (fun r0 w' u f0 g q (h : (r == 0 && okF 6 true e) = q) (hr : r0 = .returned (.tuple #[.agg #[u, .int .i64 f0, .int .i64 g], .bool q])) (hu : IfV u) (hv : q = true → u = tv e ∧ f0 = 10 ∧ g = r) => opdR_of (w := w) (r := r0) (w' := w') (u := u) (f := f0) (g := g) (V.trans h) hr hu (fun x => by rw [U]; exact hv x))
  clear V U hr ht hsz hz
  generalize OpdR ⟨10, r, e⟩ w = R at *
  generalize okF 6 true e = q at *
  generalize tv e = tve at *
  unfold Ag.cs
  simp only
  generalize e.k = k at *
  generalize e.n = n at *
  generalize e.s = s at *
  generalize e.l.length = ll at *
  have G2 := two_new w (.cells #[.int .i64 10, .int .i64 r, .int .i64 k, .int .i64 n, .string s, .slice b ll cap] 33) (.cells #[.nilIface, .int .i64 0, .int .i64 0] 54)
  have G1 := two_new0 w (.cells #[.int .i64 10, .int .i64 r, .int .i64 k, .int .i64 n, .string s, .slice b ll cap] 33) (.cells #[.nilIface, .int .i64 0, .int .i64 0] 54)
  obtain ⟨V, hV⟩ : ∃ V, w.alloc (.cells #[.int .i64 10, .int .i64 r, .int .i64 k, .int .i64 n, .string s, .slice b ll cap] 33) = V := ⟨_, rfl⟩
  have vsz : w.heap.size + 1 = V.heap.size := by rw [← hV]; simp
  rw [vsz, hV] at G2
  rw [hV] at G1
  obtain ⟨W, hW⟩ : ∃ W, V.alloc (.cells #[.nilIface, .int .i64 0, .int .i64 0] 54) = W := ⟨_, rfl⟩
  rw [hW] at G1 G2
  obtain ⟨G2, hbW⟩ := G2
  have l1 : w.heap.size < W.heap.size := (Array.getElem?_eq_some_iff.1 G1).1
  have l2 : V.heap.size < W.heap.size := (Array.getElem?_eq_some_iff.1 G2).1
  have BY := hide (fun y : Sub W.heap.size W => hbW.trans (y.h.mono hbW.size))
  have RY := hide (fun y : Sub W.heap.size W => (y.h.block _ l2).trans G2)
  have VL := hide (show w.heap.size ≤ V.heap.size by omega)
  have ne := Sub.ne W.heap.size W
  have HZ := hide (Nat.le_refl W.heap.size)
  have E0 : ∀ y : Sub W.heap.size W, y.w.cell? ⟨w.heap.size, 0, none⟩ = some (.int .i64 10) := fun y => (y.h.cell (p := ⟨w.heap.size, 0, none⟩) l1).trans (Lib.cell_of_heap G1 0)
  have E1 : ∀ y : Sub W.heap.size W, y.w.cell? ⟨w.heap.size, 1, none⟩ = some (.int .i64 r) := fun y => (y.h.cell (p := ⟨w.heap.size, 1, none⟩) l1).trans (Lib.cell_of_heap G1 1)
  have E2 : ∀ y : Sub W.heap.size W, y.w.cell? ⟨w.heap.size, 2, none⟩ = some (.int .i64 k) := fun y => (y.h.cell (p := ⟨w.heap.size, 2, none⟩) l1).trans (Lib.cell_of_heap G1 2)
  have E3 : ∀ y : Sub W.heap.size W, y.w.cell? ⟨w.heap.size, 3, none⟩ = some (.int .i64 n) := fun y => (y.h.cell (p := ⟨w.heap.size, 3, none⟩) l1).trans (Lib.cell_of_heap G1 3)
  have E4 : ∀ y : Sub W.heap.size W, y.w.cell? ⟨w.heap.size, 4, none⟩ = some (.string s) := fun y => (y.h.cell (p := ⟨w.heap.size, 4, none⟩) l1).trans (Lib.cell_of_heap G1 4)
  have E5 : ∀ y : Sub W.heap.size W, y.w.cell? ⟨w.heap.size, 5, none⟩ = some (.slice b ll cap) := fun y => (y.h.cell (p := ⟨w.heap.size, 5, none⟩) l1).trans (Lib.cell_of_heap G1 5)
  have T0 : ∀ y : Sub W.heap.size W, y.w.cell? ⟨0, 10, none⟩ = some (.string ⟨#[69]⟩) := fun y => (hf.next (unhide BY y)).at10
  obtain ⟨y0, hy0⟩ : ∃ z : Sub W.heap.size W, W = z.w := ⟨⟨W, Below.refl _ _⟩, rfl⟩
  rw [hy0] at hW
  clear l1 l2 vsz hbW hy0
  have PY := hide (fun y : Sub W.heap.size W => unhide P y.w (unhide BY y))
  clear P hf
  by_cases h0 : r < 0
  · have F2 := hide (fun r0 w' u f0 g => unhide FN r0 w' u f0 g false (by rw [beq_eq_false_iff_ne.2 (show r ≠ 0 by omega)]; rfl))
    clear FN PY
    go_enter Tryd.func23, Tryd.ntmps23
    go_wp2_with (first | (go_at_call 39; refine (cntI _ _ _).mono ?_; rintro e w' ⟨rfl, hw'⟩; rw [hw']; clear hw' w'; (try rw [cR]); (try rw [cE])) | (refine wpList_store_row rfl 54 _ _ rfl V.heap.size #[.nilIface, .int .i64 0, .int .i64 0] rfl rfl 54 _ (unhide RY _) szOp rfl (op_one (.inl rfl) 0 0) ?_))
    refine bodyPost_ret (results_row2 (P := Tryd.prog) rfl _ _ V.heap.size 54 #[.nilIface, .int .i64 0, .int .i64 0] (0, 0) _ rfl (setRow_heap _ _ _ _ _ _ (unhide RY _)) Tryd.underlying54 rfl szOp) rfl ?_
    exact unhide F2 _ _ _ _ _ rfl (.inl rfl) (fun h => by cases h) (below_rowG (unhide BY _) (unhide VL))
  by_cases h7 : 0 < r
  · have F2 := hide (fun r0 w' u f0 g => unhide FN r0 w' u f0 g false (by rw [beq_eq_false_iff_ne.2 (show r ≠ 0 by omega)]; rfl))
    clear FN PY
    go_enter Tryd.func23, Tryd.ntmps23
    go_wp2_with (first | (go_at_call 39; refine (cntI _ _ _).mono ?_; rintro e w' ⟨rfl, hw'⟩; rw [hw']; clear hw' w'; (try rw [cR]); (try rw [cE])) | (refine wpList_store_row rfl 54 _ _ rfl V.heap.size #[.nilIface, .int .i64 0, .int .i64 0] rfl rfl 54 _ (unhide RY _) szOp rfl (op_one (.inl rfl) 0 0) ?_))
    refine bodyPost_ret (results_row2 (P := Tryd.prog) rfl _ _ V.heap.size 54 #[.nilIface, .int .i64 0, .int .i64 0] (0, 0) _ rfl (setRow_heap _ _ _ _ _ _ (unhide RY _)) Tryd.underlying54 rfl szOp) rfl ?_
    exact unhide F2 _ _ _ _ _ rfl (.inl rfl) (fun h => by cases h) (below_rowG (unhide BY _) (unhide VL))
  have F2 := hide (fun r0 w' u f0 g => unhide FN r0 w' u f0 g q (by rw [show r = 0 by omega]; rfl))
  clear FN
  obtain ⟨y1, hy1⟩ := Sub.step (unhide HZ) (below_new y0.w (.cells #[.nilIface, .int .i64 10, .int .i64 r] 54))
  have O1 := hide (show y1.w.heap[y0.w.heap.size]? = some (.cells #[.nilIface, .int .i64 10, .int .i64 r] 54 (0, 0)) by rw [← hy1]; exact Array.getElem?_push_size)
  have NO := hide (show V.heap.size ≠ y0.w.heap.size by have := (Array.getElem?_eq_some_iff.1 (unhide RY y0)).1; omega)
  have NA := hide (show V.heap.size ≠ w.heap.size by rw [← hV]; simp)
  have AY := hide (fun y : Sub W.heap.size W => (y.h.block _ (Array.getElem?_eq_some_iff.1 G1).1).trans G1)
  clear G1 G2
  go_enter Tryd.func23, Tryd.ntmps23
  go_wp2_with (first | (go_at_call 39; refine (cntI _ _ _).mono ?_; rintro e w' ⟨rfl, hw'⟩; rw [hw']; clear hw' w'; (try rw [cR]); (try rw [cE])))
  refine (unhide PY y1).mono ?_
  rintro r w2 ⟨v, rfl, hv, hb⟩
  have O2 := hide (row_keep (unhide O1) hb)
  have HV := hide hv.2
  have hi := hv.1
  obtain ⟨y2, rfl⟩ := Sub.step (unhide HZ) hb
  have c0 := Lib.cell_of_heap (unhide O2) 0
  clear hb O1 hv
  rcases hi with rfl | ⟨tt, xx, rfl⟩
  · obtain ⟨y3, hy3⟩ : ∃ z : Sub W.heap.size W, y2.w.setCell ⟨y0.w.heap.size, 0, none⟩ (.nilIface) = z.w := ⟨⟨_, y2.h.setCell (p := ⟨y0.w.heap.size, 0, none⟩) y0.h.size _⟩, rfl⟩
    have fz : y2.w.frozen? ⟨y0.w.heap.size, 0, none⟩ = false := by have := unhide O2; simp [World.frozen?, this]
    have O3 := hide (show y3.w.heap[y0.w.heap.size]? = some (.cells #[.nilIface, .int .i64 10, .int .i64 r] 54 (0, 0)) by rw [← hy3]; exact heap_setCell_same _ _ _ _ _ _ (unhide O2))
    clear O2
    go_wp2_with (first | (refine wpList_load_row rfl 54 _ rfl y0.w.heap.size rfl 54 #[.nilIface, .int .i64 10, .int .i64 r] (0, 0) _ (unhide O3) Tryd.underlying54 rfl (by kernel_rfl) ?_) | (refine wpList_store_row rfl 54 _ _ rfl V.heap.size #[.nilIface, .int .i64 10, .int .i64 r] rfl rfl 54 _ (unhide RY _) szOp rfl (op_one (.inl rfl) 10 r) ?_))
    refine bodyPost_ret (results_row2 (P := Tryd.prog) rfl _ _ V.heap.size 54 #[.nilIface, .int .i64 10, .int .i64 r] (0, 0) _ rfl (setRow_heap _ _ _ _ _ _ (unhide RY _)) Tryd.underlying54 rfl szOp) rfl ?_
    exact unhide F2 _ _ _ _ _ rfl (.inl rfl) (fun h => ⟨unhide HV h, rfl, rfl⟩) (below_rowG (unhide BY y3) (unhide VL))
  · obtain ⟨y3, hy3⟩ : ∃ z : Sub W.heap.size W, y2.w.setCell ⟨y0.w.heap.size, 0, none⟩ (.iface tt xx) = z.w := ⟨⟨_, y2.h.setCell (p := ⟨y0.w.heap.size, 0, none⟩) y0.h.size _⟩, rfl⟩
    have fz : y2.w.frozen? ⟨y0.w.heap.size, 0, none⟩ = false := by have := unhide O2; simp [World.frozen?, this]
    have O3 := hide (show y3.w.heap[y0.w.heap.size]? = some (.cells #[.iface tt xx, .int .i64 10, .int .i64 r] 54 (0, 0)) by rw [← hy3]; exact heap_setCell_same _ _ _ _ _ _ (unhide O2))
    clear O2
    go_wp2_with (first | (refine wpList_load_row rfl 54 _ rfl y0.w.heap.size rfl 54 #[.iface tt xx, .int .i64 10, .int .i64 r] (0, 0) _ (unhide O3) Tryd.underlying54 rfl (by kernel_rfl) ?_) | (refine wpList_store_row rfl 54 _ _ rfl V.heap.size #[.iface tt xx, .int .i64 10, .int .i64 r] rfl rfl 54 _ (unhide RY _) szOp rfl (op_one (.inr ⟨_, _, rfl⟩) 10 r) ?_))
    refine bodyPost_ret (results_row2 (P := Tryd.prog) rfl _ _ V.heap.size 54 #[.iface tt xx, .int .i64 10, .int .i64 r] (0, 0) _ rfl (setRow_heap _ _ _ _ _ _ (unhide RY _)) Tryd.underlying54 rfl szOp) rfl ?_
    exact unhide F2 _ _ _ _ _ rfl (.inr ⟨_, _, rfl⟩) (fun h => ⟨unhide HV h, rfl, rfl⟩) (below_rowG (unhide BY y3) (unhide VL))
set_option maxHeartbeats 4000000 in
theorem opd_11 (r : Int) (e : Ex) (b : Option Addr) (cap : Nat) (w : World) (hr : RdX w 0 e b) (hz : e.sz ≤ 1048576) (ht : TabK w) (hf : TabF w) : Calls Tryd.prog 23 #[.agg ((Ag.mk 11 r e).cs b cap)] w (OpdR ⟨11, r, e⟩ w) := by
  have hsz := sz_is e
  have cR : cntB ⟨#[64, 69]⟩ 82 = false := by decide
  have cE : cntB ⟨#[64, 69]⟩ 69 = true := by decide
  have P := hide (fun w' (h : Below w.heap.size w w') => plnO_any e b cap w' (hr.later h) hz (ht.next h))
  unfold PlnR Ex.cs at P
  have V : agX ⟨11, r, e⟩ = (r == 0 && okF 6 true e) := by unfold agX; rfl
  have U : opU ⟨11, r, e⟩ = tv e := by unfold opU; rfl
  have FN := hide (fun r0 w' u f0 g q (h : (r == 0 && okF 6 true e) = q) (hr : r0 = .returned (.tuple #[.agg #[u, .int .i64 f0, .int .i64 g], .bool q])) (hu : IfV u) (hv : q = true → u = tv e ∧ f0 = 11 ∧ g = r) => opdR_of (w := w) (r := r0) (w' := w') (u := u) (f := f0) (g := g) (V.trans h) hr hu (fun x => by rw [U]; exact hv x))
  clear V U hr ht hsz hz
  generalize OpdR ⟨11, r, e⟩ w = R at *
  generalize okF 6 true e = q at *
  generalize tv e = tve at *
  unfold Ag.cs
  simp only
  generalize e.k = k at *
  generalize e.n = n at *
  generalize e.s = s at *
  generalize e.l.length = ll at *
  have G2 := two_new w (.cells #[.int .i64 11, .int .i64 r, .int .i64 k, .int .i64 n, .string s, .slice b ll cap] 33) (.cells #[.nilIface, .int .i64 0, .int .i64 0] 54)
  have G1 := two_new0 w (.cells #[.int .i64 11, .int .i64 r, .int .i64 k, .int .i64 n, .string s, .slice b ll cap] 33) (.cells #[.nilIface, .int .i64 0, .int .i64 0] 54)
  obtain ⟨V, hV⟩ : ∃ V, w.alloc (.cells #[.int .i64 11, .int .i64 r, .int .i64 k, .int .i64 n, .string s, .slice b ll cap] 33) = V := ⟨_, rfl⟩
  have vsz : w.heap.size + 1 = V.heap.size := by rw [← hV]; simp
  rw [vsz, hV] at G2
  rw [hV] at G1
  obtain ⟨W, hW⟩ : ∃ W, V.alloc (.cells #[.nilIface, .int .i64 0, .int .i64 0] 54) = W := ⟨_, rfl⟩
  rw [hW] at G1 G2
  obtain ⟨G2, hbW⟩ := G2
  have l1 : w.heap.size < W.heap.size := (Array.getElem?_eq_some_iff.1 G1).1
  have l2 : V.heap.size < W.heap.size := (Array.getElem?_eq_some_iff.1 G2).1
  have BY := hide (fun y : Sub W.heap.size W => hbW.trans (y.h.mono hbW.size))
  have RY := hide (fun y : Sub W.heap.size W => (y.h.block _ l2).trans G2)
  have VL := hide (show w.heap.size ≤ V.heap.size by omega)
  have ne := Sub.ne W.heap.size W
  have HZ := hide (Nat.le_refl W.heap.size)
  have E0 : ∀ y : Sub W.heap.size W, y.w.cell? ⟨w.heap.size, 0, none⟩ = some (.int .i64 11) := fun y => (y.h.cell (p := ⟨w.heap.size, 0, none⟩) l1).trans (Lib.cell_of_heap G1 0)
  have E1 : ∀ y : Sub W.heap.size W, y.w.cell? ⟨w.heap.size, 1, none⟩ = some (.int .i64 r) := fun y => (y.h.cell (p := ⟨w.heap.size, 1, none⟩) l1).trans (Lib.cell_of_heap G1 1)
  have E2 : ∀ y : Sub W.heap.size W, y.w.cell? ⟨w.heap.size, 2, none⟩ = some (.int .i64 k) := fun y => (y.h.cell (p := ⟨w.heap.size, 2, none⟩) l1).trans (Lib.cell_of_heap G1 2)
  have E3 : ∀ y : Sub W.heap.size W, y.w.cell? ⟨w.heap.size, 3, none⟩ = some (.int .i64 n) := fun y => (y.h.cell (p := ⟨w.heap.size, 3, none⟩) l1).trans (Lib.cell_of_heap G1 3)
  have E4 : ∀ y : Sub W.heap.size W, y.w.cell? ⟨w.heap.size, 4, none⟩ = some (.string s) := fun y => (y.h.cell (p := ⟨w.heap.size, 4, none⟩) l1).trans (Lib.cell_of_heap G1 4)
  have E5 : ∀ y : Sub W.heap.size W, y.w.cell? ⟨w.heap.size, 5, none⟩ = some (.slice b ll cap) := fun y => (y.h.cell (p := ⟨w.heap.size, 5, none⟩) l1).trans (Lib.cell_of_heap G1 5)
  have T0 : ∀ y : Sub W.heap.size W, y.w.cell? ⟨0, 11, none⟩ = some (.string ⟨#[64, 69]⟩) := fun y => (hf.next (unhide BY y)).at11
  obtain ⟨y0, hy0⟩ : ∃ z : Sub W.heap.size W, W = z.w := ⟨⟨W, Below.refl _ _⟩, rfl⟩
  rw [hy0] at hW
  clear l1 l2 vsz hbW hy0
  have PY := hide (fun y : Sub W.heap.size W => unhide P y.w (unhide BY y))
  clear P hf
  by_cases h0 : r < 0
  · have F2 := hide (fun r0 w' u f0 g => unhide FN r0 w' u f0 g false (by rw [beq_eq_false_iff_ne.2 (show r ≠ 0 by omega)]; rfl))
    clear FN PY
    go_enter Tryd.func23, Tryd.ntmps23
    go_wp2_with (first | (go_at_call 39; refine (cntI _ _ _).mono ?_; rintro e w' ⟨rfl, hw'⟩; rw [hw']; clear hw' w'; (try rw [cR]); (try rw [cE])) | (refine wpList_store_row rfl 54 _ _ rfl V.heap.size #[.nilIface, .int .i64 0, .int .i64 0] rfl rfl 54 _ (unhide RY _) szOp rfl (op_one (.inl rfl) 0 0) ?_))
    refine bodyPost_ret (results_row2 (P := Tryd.prog) rfl _ _ V.heap.size 54 #[.nilIface, .int .i64 0, .int .i64 0] (0, 0) _ rfl (setRow_heap _ _ _ _ _ _ (unhide RY _)) Tryd.underlying54 rfl szOp) rfl ?_
    exact unhide F2 _ _ _ _ _ rfl (.inl rfl) (fun h => by cases h) (below_rowG (unhide BY _) (unhide VL))
  by_cases h7 : 0 < r
  · have F2 := hide (fun r0 w' u f0 g => unhide FN r0 w' u f0 g false (by rw [beq_eq_false_iff_ne.2 (show r ≠ 0 by omega)]; rfl))
    clear FN PY
    go_enter Tryd.func23, Tryd.ntmps23
    go_wp2_with (first | (go_at_call 39; refine (cntI _ _ _).mono ?_; rintro e w' ⟨rfl, hw'⟩; rw [hw']; clear hw' w'; (try rw [cR]); (try rw [cE])) | (refine wpList_store_row rfl 54 _ _ rfl V.heap.size #[.nilIface, .int .i64 0, .int .i64 0] rfl rfl 54 _ (unhide RY _) szOp rfl (op_one (.inl rfl) 0 0) ?_))
    refine bodyPost_ret (results_row2 (P := Tryd.prog) rfl _ _ V.heap.size 54 #[.nilIface, .int .i64 0, .int .i64 0] (0, 0) _ rfl (setRow_heap _ _ _ _ _ _ (unhide RY _)) Tryd.underlying54 rfl szOp) rfl ?_
    exact unhide F2 _ _ _ _ _ rfl (.inl rfl) (fun h => by cases h) (below_rowG (unhide BY _) (unhide VL))
  have F2 := hide (fun r0 w' u f0 g => unhide FN r0 w' u f0 g q (by rw [show r = 0 by omega]; rfl))
  clear FN
  obtain ⟨y1, hy1⟩ := Sub.step (unhide HZ) (below_new y0.w (.cells #[.nilIface, .int .i64 11, .int .i64 r] 54))
  have O1 := hide (show y1.w.heap[y0.w.heap.size]? = some (.cells #[.nilIface, .int .i64 11, .int .i64 r] 54 (0, 0)) by rw [← hy1]; exact Array.getElem?_push_size)
  have NO := hide (show V.heap.size ≠ y0.w.heap.size by have := (Array.getElem?_eq_some_iff.1 (unhide RY y0)).1; omega)
  have NA := hide (show V.heap.size ≠ w.heap.size by rw [← hV]; simp)
  have AY := hide (fun y : Sub W.heap.size W => (y.h.block _ (Array.getElem?_eq_some_iff.1 G1).1).trans G1)
  clear G1 G2
  go_enter Tryd.func23, Tryd.ntmps23
  go_wp2_with (first | (go_at_call 39; refine (cntI _ _ _).mono ?_; rintro e w' ⟨rfl, hw'⟩; rw [hw']; clear hw' w'; (try rw [cR]); (try rw [cE])))
  refine (unhide PY y1).mono ?_
  rintro r w2 ⟨v, rfl, hv, hb⟩
  have O2 := hide (row_keep (unhide O1) hb)
  have HV := hide hv.2
  have hi := hv.1
  obtain ⟨y2, rfl⟩ := Sub.step (unhide HZ) hb
  have c0 := Lib.cell_of_heap (unhide O2) 0
  clear hb O1 hv
  rcases hi with rfl | ⟨tt, xx, rfl⟩
  · obtain ⟨y3, hy3⟩ : ∃ z : Sub W.heap.size W, y2.w.setCell ⟨y0.w.heap.size, 0, none⟩ (.nilIface) = z.w := ⟨⟨_, y2.h.setCell (p := ⟨y0.w.heap.size, 0, none⟩) y0.h.size _⟩, rfl⟩
    have fz : y2.w.frozen? ⟨y0.w.heap.size, 0, none⟩ = false := by have := unhide O2; simp [World.frozen?, this]
    have O3 := hide (show y3.w.heap[y0.w.heap.size]? = some (.cells #[.nilIface, .int .i64 11, .int .i64 r] 54 (0, 0)) by rw [← hy3]; exact heap_setCell_same _ _ _ _ _ _ (unhide O2))
    clear O2
    go_wp2_with (first | (refine wpList_load_row rfl 54 _ rfl y0.w.heap.size rfl 54 #[.nilIface, .int .i64 11, .int .i64 r] (0, 0) _ (unhide O3) Tryd.underlying54 rfl (by kernel_rfl) ?_) | (refine wpList_store_row rfl 54 _ _ rfl V.heap.size #[.nilIface, .int .i64 11, .int .i64 r] rfl rfl 54 _ (unhide RY _) szOp rfl (op_one (.inl rfl) 11 r) ?_))
    refine bodyPost_ret (results_row2 (P := Tryd.prog) rfl _ _ V.heap.size 54 #[.nilIface, .int .i64 11, .int .i64 r] (0, 0) _ rfl (setRow_heap _ _ _ _ _ _ (unhide RY _)) Tryd.underlying54 rfl szOp) rfl ?_
    exact unhide F2 _ _ _ _ _ rfl (.inl rfl) (fun h => ⟨unhide HV h, rfl, rfl⟩) (below_rowG (unhide BY y3) (unhide VL))
  · obtain ⟨y3, hy3⟩ : ∃ z : Sub W.heap.size W, y2.w.setCell ⟨y0.w.heap.size, 0, none⟩ (.iface tt xx) = z.w := ⟨⟨_, y2.h.setCell (p := ⟨y0.w.heap.size, 0, none⟩) y0.h.size _⟩, rfl⟩
    have fz : y2.w.frozen? ⟨y0.w.heap.size, 0, none⟩ = false := by have := unhide O2; simp [World.frozen?, this]
    have O3 := hide (show y3.w.heap[y0.w.heap.size]? = some (.cells #[.iface tt xx, .int .i64 11, .int .i64 r] 54 (0, 0)) by rw [← hy3]; exact heap_setCell_same _ _ _ _ _ _ (unhide O2))
    clear O2
    go_wp2_with (first | (refine wpList_load_row rfl 54 _ rfl y0.w.heap.size rfl 54 #[.iface tt xx, .int .i64 11, .int .i64 r] (0, 0) _ (unhide O3) Tryd.underlying54 rfl (by kernel_rfl) ?_) | (refine wpList_store_row rfl 54 _ _ rfl V.heap.size #[.iface tt xx, .int .i64 11, .int .i64 r] rfl rfl 54 _ (unhide RY _) szOp rfl (op_one (.inr ⟨_, _, rfl⟩) 11 r) ?_))
    refine bodyPost_ret (results_row2 (P := Tryd.prog) rfl _ _ V.heap.size 54 #[.iface tt xx, .int .i64 11, .int .i64 r] (0, 0) _ rfl (setRow_heap _ _ _ _ _ _ (unhide RY _)) Tryd.underlying54 rfl szOp) rfl ?_
    exact unhide F2 _ _ _ _ _ rfl (.inr ⟨_, _, rfl⟩) (fun h => ⟨unhide HV h, rfl, rfl⟩) (below_rowG (unhide BY y3) (unhide VL))
end Go.Proofs.YtmhcbehplhfgfaaDoor

namespace Go.Proofs.YtmhcbehplhfgfaaDoor
open Go.ChangeShapes Go.WideShapes Go.ChangeAt Go.RowKit
set_option linter.unusedVariables false
set_option maxRecDepth 8000
set_option linter.unusedSimpArgs false

/-- What the road of an operand reads: kept words, forms. -/
structure TabA (w : World) : Prop where
  k : TabK w
  f : TabF w
theorem TabA.next {w w' : World} (h : TabA w) (hb : Below w.heap.size w w') : TabA w' := ⟨h.k.next hb, h.f.next hb⟩
theorem opdI_any (a : Ag) (b : Option Addr) (cap : Nat) (w : World) (hr : RdX w 0 a.e b) (hz : a.e.sz ≤ 1048576) (ht : TabA w) : Calls Tryd.prog 23 #[.agg (a.cs b cap)] w (OpdR a w) := by
  obtain ⟨f, r, e⟩ := a
  by_cases h : f < 0 ∨ 11 < f
  · exact opd_no f r e b cap w h
  · have : f = 0 ∨ f = 1 ∨ f = 2 ∨ f = 3 ∨ f = 4 ∨ f = 5 ∨ f = 6 ∨ f = 7 ∨ f = 8 ∨ f = 9 ∨ f = 10 ∨ f = 11 := by omega
    rcases this with rfl | rfl | rfl | rfl | rfl | rfl | rfl | rfl | rfl | rfl | rfl | rfl
    · exact opd_0 r e b cap w hr hz ht.k ht.f
    · exact opd_1 r e b cap w hr hz ht.k ht.f
    · exact opd_2 r e b cap w hr hz ht.k ht.f
    · exact opd_3 r e b cap w hr hz ht.k ht.f
    · exact opd_4 r e b cap w hr hz ht.k ht.f
    · exact opd_5 r e b cap w hr hz ht.k ht.f
    · exact opd_6 r e b cap w hr hz ht.k ht.f
    · exact opd_7 r e b cap w hr hz ht.k ht.f
    · exact opd_8 r e b cap w hr hz ht.k ht.f
    · exact opd_9 r e b cap w hr hz ht.k ht.f
    · exact opd_10 r e b cap w hr hz ht.k ht.f
    · exact opd_11 r e b cap w hr hz ht.k ht.f
set_option maxHeartbeats 2000000 in
theorem agI_any (a : Ag) (b : Option Addr) (cap : Nat) (w : World) (hr : RdX w 0 a.e b) (hz : a.e.sz ≤ 1048576) (ht : TabA w) : Calls Tryd.prog 9 #[.agg (a.cs b cap)] w fun r w' => r = .returned (.bool (agX a)) ∧ Below w.heap.size w w' := by
  have B0 := below_new w (.cells (a.cs b cap) 33)
  have HH := hide (opdI_any a b cap _ (hr.later B0) hz (ht.next B0))
  have HB := hide B0
  clear hr B0 ht
  unfold OpdR at HH
  generalize opU a = ou at *
  generalize agX a = q at *
  unfold Ag.cs at HH HB ⊢
  go_enter Tryd.func9, Tryd.ntmps9
  go_wp2_with fail
  refine (unhide HH).mono ?_
  rintro r w1 ⟨u, f, g, rfl, hv, hb1⟩
  have BB := hide ((unhide HB).trans (hb1.mono (unhide HB).size))
  rcases hv.1 with rfl | ⟨tt, xx, rfl⟩
  · clear hb1 HH HB hv
    go_wp2
    go_ret
    exact ⟨rfl, (unhide BB).alloc (unhide BB).size _⟩
  · clear hb1 HH HB hv
    go_wp2
    go_ret
    exact ⟨rfl, (unhide BB).alloc (unhide BB).size _⟩
end Go.Proofs.YtmhcbehplhfgfaaDoor

namespace Go.Proofs.YtmhcbehplhfgfaaDoor
open Go.ChangeShapes Go.WideShapes Go.ChangeAt Go.RowKit
set_option linter.unusedVariables false
set_option maxRecDepth 8000
set_option linter.unusedSimpArgs false

section
variable {H : Type} {enc : TypeId × Value → H} {P : Program} {w : World} {spare : Nat → Bool}
theorem varsL_3 {n0 n1 n2 : String} {gs : List (DataW H)} {ps : List MemPlace} (h : DataW.TrodVars enc P w spare [n0, n1, n2] gs ps) : ∃ d0 d1 d2, gs = [d0, d1, d2] := by
  cases gs with
  | nil => simp [DataW.TrodVars] at h
  | cons d ds =>
    obtain ⟨g0, t0, cs0, f0, p0, q0, h1, h2, h3, h4, hs, e⟩ := h
    obtain ⟨g1, t1, cs1, f1, d1, p1, g2, t2, cs2, f2, d2, p2, rfl, _⟩ := trodVars_two hs
    exact ⟨d, d1, d2, rfl⟩
theorem varsL_4 {n0 n1 n2 n3 : String} {gs : List (DataW H)} {ps : List MemPlace} (h : DataW.TrodVars enc P w spare [n0, n1, n2, n3] gs ps) : ∃ d0 d1 d2 d3, gs = [d0, d1, d2, d3] := by
  cases gs with
  | nil => simp [DataW.TrodVars] at h
  | cons d ds =>
    obtain ⟨g0, t0, cs0, f0, p0, q0, h1, h2, h3, h4, hs, e⟩ := h
    obtain ⟨d1, d2, d3, rfl⟩ := varsL_3 hs
    exact ⟨d, d1, d2, d3, rfl⟩
theorem varsL_5 {n0 n1 n2 n3 n4 : String} {gs : List (DataW H)} {ps : List MemPlace} (h : DataW.TrodVars enc P w spare [n0, n1, n2, n3, n4] gs ps) : ∃ d0 d1 d2 d3 d4, gs = [d0, d1, d2, d3, d4] := by
  cases gs with
  | nil => simp [DataW.TrodVars] at h
  | cons d ds =>
    obtain ⟨g0, t0, cs0, f0, p0, q0, h1, h2, h3, h4, hs, e⟩ := h
    obtain ⟨d1, d2, d3, d4, rfl⟩ := varsL_4 hs
    exact ⟨d, d1, d2, d3, d4, rfl⟩
end
theorem gFm : Tryd.prog.globalNamed "loop.example/g00329/impl.argForms" = some 0 := by kernel_rfl
theorem tFm : (Tryd.prog.globals[0]?).map (·.type) = some 74 := by kernel_rfl
theorem fmD_eq : (Rows.laid_loop_example_g00329_impl_argForms : DataW Unit) = strData fmL := by kernel_rfl
theorem taba_of {W : World} (h : laidMetH Tryd.prog [("loop.example/g00329/impl.opWords", Rows.laid_loop_example_g00329_impl_opWords), ("loop.example/g00329/impl.regWords", Rows.laid_loop_example_g00329_impl_regWords), ("loop.example/g00329/impl.argForms", Rows.laid_loop_example_g00329_impl_argForms)] W) : TabA W := by
  rw [MakeChecks.laidMetH_plain _ _ _ (by kernel_rfl)] at h
  rw [opD_eq, rgD_eq, fmD_eq] at h
  exact ⟨⟨strs_of_head gOp tOp Tryd.underlying147 Tryd.underlying9 (by kernel_rfl) (by kernel_rfl) h, strs_of_head gRg tRg Tryd.underlying119 Tryd.underlying9 (by kernel_rfl) (by kernel_rfl) h.tail⟩, strs_of_head gFm tFm Tryd.underlying74 Tryd.underlying9 (by kernel_rfl) (by kernel_rfl) h.tail.tail⟩
end Go.Proofs.YtmhcbehplhfgfaaDoor
