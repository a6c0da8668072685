/- Contracts over this seat's translation, laid together; conditions stand as hypotheses of each. -/
import Derived.Test.YtmhcbehplhfgfaaGreatDoorTxC
import Derived.Test.YtmhcbehplhfgfaaGreatDoorTxE
import Derived.Test.YtmhcbehplhfgfaaGreatDoorTxF
import Derived.Deep.RegionWith

namespace Go.Proofs.YtmhcbehplhfgfaaGreatDoor
open Go.ChangeShapes Go.WideShapes Go.ChangeAt Go.RowKit
set_option linter.unusedVariables false
set_option maxRecDepth 8000
set_option linter.unusedSimpArgs false
/-- The term that an operand of the program holds. -/
def opU (a : Ag) : Value := if 6 ≤ a.f then tv a.e else .nilIface
/-- What operandOf answers. -/
def OpdR (a : Ag) (w : World) (r : Ending) (w' : World) : Prop := ∃ u f g, r = .returned (.tuple #[.agg #[u, .int .i64 f, .int .i64 g], .bool (agX a)]) ∧ (IfV u ∧ (agX a = true → u = opU a ∧ f = a.f ∧ g = a.r)) ∧ Below w.heap.size w w'
theorem opdR_of {a : Ag} {w : World} {r : Ending} {w' : World} {u : Value} {f g : Int} {q : Bool} (h : agX a = q) (hr : r = .returned (.tuple #[.agg #[u, .int .i64 f, .int .i64 g], .bool q])) (hu : IfV u) (hv : q = true → u = opU a ∧ f = a.f ∧ g = a.r) (hb : Below w.heap.size w w') : OpdR a w r w' := ⟨u, f, g, by rw [h]; exact hr, ⟨hu, fun x => hv (h.symm.trans x)⟩, hb⟩
theorem below_rowG {w w' : World} {B g : Nat} {cs : Array Value} (h : Below B w w') (hg : B ≤ g) : Below B w (w'.setRow g cs) :=
  h.trans ⟨rfl, rfl, rfl, by simp [World.setRow], fun k hk => setRow_other _ _ _ _ (by omega)⟩
theorem szOp : (Tryz.prog.info? 87).map (·.size) = some 3 := by kernel_rfl
theorem op_one {u : Value} (h : IfV u) (f g : Int) : (#[u, .int .i64 f, .int .i64 g] : Array Value).all (·.oneCell') = true := by rcases h with rfl | ⟨t, x, rfl⟩ <;> simp [Value.oneCell']
theorem two_new0 (w : World) (o1 o2 : Obj) : ((w.alloc o1).alloc o2).heap[w.heap.size]? = some o1 := by
  have h : (w.alloc o1).heap[w.heap.size]? = some o1 := Array.getElem?_push_size
  exact ((below_new (w.alloc o1) o2).block _ (Array.getElem?_eq_some_iff.1 h).1).trans h
set_option maxHeartbeats 2000000 in
theorem opd_no (f r : Int) (e : Ex) (b : Option Addr) (cap : Nat) (w : World) (hf : f < 0 ∨ 11 < f) : Calls Tryz.prog 81 #[.agg ((Ag.mk f r e).cs b cap)] w (OpdR ⟨f, r, e⟩ w) := by
  have V := hide (show agX ⟨f, r, e⟩ = false by
    unfold agX
    simp only
    rw [inB_f f 0 5 (by omega), inB_f f 8 11 (by omega), beq_eq_false_iff_ne.2 (show f ≠ 6 by omega), beq_eq_false_iff_ne.2 (show f ≠ 7 by omega)]
    rfl)
  have FN := hide (fun r0 w' u f0 g => opdR_of (w := w) (r := r0) (w' := w') (u := u) (f := f0) (g := g) (unhide V))
  generalize OpdR ⟨f, r, e⟩ w = R at *
  unfold Ag.cs
  simp only
  clear V
  generalize e.k = k at *
  generalize e.n = n at *
  generalize e.s = s at *
  generalize e.l.length = ll at *
  have G2 := two_new w (.cells #[.int .i64 f, .int .i64 r, .int .i64 k, .int .i64 n, .string s, .slice b ll cap] 35) (.cells #[.nilIface, .int .i64 0, .int .i64 0] 87)
  have G1 := two_new0 w (.cells #[.int .i64 f, .int .i64 r, .int .i64 k, .int .i64 n, .string s, .slice b ll cap] 35) (.cells #[.nilIface, .int .i64 0, .int .i64 0] 87)
  obtain ⟨V, hV⟩ : ∃ V, w.alloc (.cells #[.int .i64 f, .int .i64 r, .int .i64 k, .int .i64 n, .string s, .slice b ll cap] 35) = V := ⟨_, rfl⟩
  have vsz : w.heap.size + 1 = V.heap.size := by rw [← hV]; simp
  rw [vsz, hV] at G2
  rw [hV] at G1
  obtain ⟨W, hW⟩ : ∃ W, V.alloc (.cells #[.nilIface, .int .i64 0, .int .i64 0] 87) = W := ⟨_, rfl⟩
  rw [hW] at G1 G2
  obtain ⟨G2, hbW⟩ := G2
  have l1 : w.heap.size < W.heap.size := (Array.getElem?_eq_some_iff.1 G1).1
  have l2 : V.heap.size < W.heap.size := (Array.getElem?_eq_some_iff.1 G2).1
  have BY := hide (fun y : Sub W.heap.size W => hbW.trans (y.h.mono hbW.size))
  have RY := hide (fun y : Sub W.heap.size W => (y.h.block _ l2).trans G2)
  have VL := hide (show w.heap.size ≤ V.heap.size by omega)
  have ne := Sub.ne W.heap.size W
  have HZ := hide (Nat.le_refl W.heap.size)
  have E0 : ∀ y : Sub W.heap.size W, y.w.cell? ⟨w.heap.size, 0, none⟩ = some (.int .i64 f) := fun y => (y.h.cell (p := ⟨w.heap.size, 0, none⟩) l1).trans (Lib.cell_of_heap G1 0)
  have E1 : ∀ y : Sub W.heap.size W, y.w.cell? ⟨w.heap.size, 1, none⟩ = some (.int .i64 r) := fun y => (y.h.cell (p := ⟨w.heap.size, 1, none⟩) l1).trans (Lib.cell_of_heap G1 1)
  have E2 : ∀ y : Sub W.heap.size W, y.w.cell? ⟨w.heap.size, 2, none⟩ = some (.int .i64 k) := fun y => (y.h.cell (p := ⟨w.heap.size, 2, none⟩) l1).trans (Lib.cell_of_heap G1 2)
  have E3 : ∀ y : Sub W.heap.size W, y.w.cell? ⟨w.heap.size, 3, none⟩ = some (.int .i64 n) := fun y => (y.h.cell (p := ⟨w.heap.size, 3, none⟩) l1).trans (Lib.cell_of_heap G1 3)
  have E4 : ∀ y : Sub W.heap.size W, y.w.cell? ⟨w.heap.size, 4, none⟩ = some (.string s) := fun y => (y.h.cell (p := ⟨w.heap.size, 4, none⟩) l1).trans (Lib.cell_of_heap G1 4)
  have E5 : ∀ y : Sub W.heap.size W, y.w.cell? ⟨w.heap.size, 5, none⟩ = some (.slice b ll cap) := fun y => (y.h.cell (p := ⟨w.heap.size, 5, none⟩) l1).trans (Lib.cell_of_heap G1 5)
  obtain ⟨y0, hy0⟩ : ∃ z : Sub W.heap.size W, W = z.w := ⟨⟨W, Below.refl _ _⟩, rfl⟩
  rw [hy0] at hW
  clear l1 l2 vsz hbW hy0
  by_cases h0 : f < 0
  · clear hf
    go_enter Tryz.func81, Tryz.ntmps81
    go_wp2_with (refine wpList_store_row rfl 87 _ _ rfl V.heap.size #[.nilIface, .int .i64 0, .int .i64 0] rfl rfl 87 _ (unhide RY _) szOp rfl (op_one (.inl rfl) 0 0) ?_)
    refine bodyPost_ret (results_row2 (P := Tryz.prog) rfl _ _ V.heap.size 87 #[.nilIface, .int .i64 0, .int .i64 0] (0, 0) _ rfl (setRow_heap _ _ _ _ _ _ (unhide RY _)) Tryz.underlying87 rfl szOp) rfl ?_
    exact unhide FN _ _ _ _ _ rfl (.inl rfl) (fun h => by cases h) (below_rowG (unhide BY _) (unhide VL))
  · have h11 : 11 < f := by omega
    clear hf
    go_enter Tryz.func81, Tryz.ntmps81
    go_wp2_with (refine wpList_store_row rfl 87 _ _ rfl V.heap.size #[.nilIface, .int .i64 0, .int .i64 0] rfl rfl 87 _ (unhide RY _) szOp rfl (op_one (.inl rfl) 0 0) ?_)
    refine bodyPost_ret (results_row2 (P := Tryz.prog) rfl _ _ V.heap.size 87 #[.nilIface, .int .i64 0, .int .i64 0] (0, 0) _ rfl (setRow_heap _ _ _ _ _ _ (unhide RY _)) Tryz.underlying87 rfl szOp) rfl ?_
    exact unhide FN _ _ _ _ _ rfl (.inl rfl) (fun h => by cases h) (below_rowG (unhide BY _) (unhide VL))
set_option maxHeartbeats 4000000 in
theorem opd_0 (r : Int) (e : Ex) (b : Option Addr) (cap : Nat) (w : World) (hr : RdX w 0 e b) (hz : e.sz ≤ 1048576) (ht : TabK w) (hf : TabF w) : Calls Tryz.prog 81 #[.agg ((Ag.mk 0 r e).cs b cap)] w (OpdR ⟨0, r, e⟩ w) := by
  have hsz := sz_is e
  have cR : cntB ⟨#[82]⟩ 82 = true := by decide
  have cE : cntB ⟨#[82]⟩ 69 = false := by decide
  have P := hide (fun w' => zroI e.k e.n e.s e.l.length (by omega) (by omega) b cap w')
  rw [show zroV e.k e.n e.s e.l.length = zroX e from rfl] at P
  have V : agX ⟨0, r, e⟩ = (inB r 0 7 && zroX e) := by unfold agX; rfl
  have U : opU ⟨0, r, e⟩ = .nilIface := by unfold opU; rfl
  have FN := hide (fun r0 w' u f0 g q (h : (inB r 0 7 && zroX e) = q) (hr : r0 = .returned (.tuple #[.agg #[u, .int .i64 f0, .int .i64 g], .bool q])) (hu : IfV u) (hv : q = true → u = .nilIface ∧ f0 = 0 ∧ g = r) => opdR_of (w := w) (r := r0) (w' := w') (u := u) (f := f0) (g := g) (V.trans h) hr hu (fun x => by rw [U]; exact hv x))
  clear V U hr ht hsz hz
  generalize OpdR ⟨0, r, e⟩ w = R at *
  generalize zroX e = q at *
  unfold Ag.cs
  simp only
  generalize e.k = k at *
  generalize e.n = n at *
  generalize e.s = s at *
  generalize e.l.length = ll at *
  have G2 := two_new w (.cells #[.int .i64 0, .int .i64 r, .int .i64 k, .int .i64 n, .string s, .slice b ll cap] 35) (.cells #[.nilIface, .int .i64 0, .int .i64 0] 87)
  have G1 := two_new0 w (.cells #[.int .i64 0, .int .i64 r, .int .i64 k, .int .i64 n, .string s, .slice b ll cap] 35) (.cells #[.nilIface, .int .i64 0, .int .i64 0] 87)
  obtain ⟨V, hV⟩ : ∃ V, w.alloc (.cells #[.int .i64 0, .int .i64 r, .int .i64 k, .int .i64 n, .string s, .slice b ll cap] 35) = V := ⟨_, rfl⟩
  have vsz : w.heap.size + 1 = V.heap.size := by rw [← hV]; simp
  rw [vsz, hV] at G2
  rw [hV] at G1
  obtain ⟨W, hW⟩ : ∃ W, V.alloc (.cells #[.nilIface, .int .i64 0, .int .i64 0] 87) = W := ⟨_, rfl⟩
  rw [hW] at G1 G2
  obtain ⟨G2, hbW⟩ := G2
  have l1 : w.heap.size < W.heap.size := (Array.getElem?_eq_some_iff.1 G1).1
  have l2 : V.heap.size < W.heap.size := (Array.getElem?_eq_some_iff.1 G2).1
  have BY := hide (fun y : Sub W.heap.size W => hbW.trans (y.h.mono hbW.size))
  have RY := hide (fun y : Sub W.heap.size W => (y.h.block _ l2).trans G2)
  have VL := hide (show w.heap.size ≤ V.heap.size by omega)
  have ne := Sub.ne W.heap.size W
  have HZ := hide (Nat.le_refl W.heap.size)
  have E0 : ∀ y : Sub W.heap.size W, y.w.cell? ⟨w.heap.size, 0, none⟩ = some (.int .i64 0) := fun y => (y.h.cell (p := ⟨w.heap.size, 0, none⟩) l1).trans (Lib.cell_of_heap G1 0)
  have E1 : ∀ y : Sub W.heap.size W, y.w.cell? ⟨w.heap.size, 1, none⟩ = some (.int .i64 r) := fun y => (y.h.cell (p := ⟨w.heap.size, 1, none⟩) l1).trans (Lib.cell_of_heap G1 1)
  have E2 : ∀ y : Sub W.heap.size W, y.w.cell? ⟨w.heap.size, 2, none⟩ = some (.int .i64 k) := fun y => (y.h.cell (p := ⟨w.heap.size, 2, none⟩) l1).trans (Lib.cell_of_heap G1 2)
  have E3 : ∀ y : Sub W.heap.size W, y.w.cell? ⟨w.heap.size, 3, none⟩ = some (.int .i64 n) := fun y => (y.h.cell (p := ⟨w.heap.size, 3, none⟩) l1).trans (Lib.cell_of_heap G1 3)
  have E4 : ∀ y : Sub W.heap.size W, y.w.cell? ⟨w.heap.size, 4, none⟩ = some (.string s) := fun y => (y.h.cell (p := ⟨w.heap.size, 4, none⟩) l1).trans (Lib.cell_of_heap G1 4)
  have E5 : ∀ y : Sub W.heap.size W, y.w.cell? ⟨w.heap.size, 5, none⟩ = some (.slice b ll cap) := fun y => (y.h.cell (p := ⟨w.heap.size, 5, none⟩) l1).trans (Lib.cell_of_heap G1 5)
  have T0 : ∀ y : Sub W.heap.size W, y.w.cell? ⟨3, 0, none⟩ = some (.string ⟨#[82]⟩) := fun y => (hf.next (unhide BY y)).at0
  obtain ⟨y0, hy0⟩ : ∃ z : Sub W.heap.size W, W = z.w := ⟨⟨W, Below.refl _ _⟩, rfl⟩
  rw [hy0] at hW
  clear l1 l2 vsz hbW hy0
  have PY := hide (fun y : Sub W.heap.size W => unhide P y.w)
  clear P hf
  by_cases h0 : r < 0
  · have F2 := hide (fun r0 w' u f0 g => unhide FN r0 w' u f0 g false (by rw [inB_f r 0 7 (by omega)]; rfl))
    clear FN PY
    go_enter Tryz.func81, Tryz.ntmps81
    go_wp2_with (first | (go_at_call 90; refine (cntI _ _ _).mono ?_; rintro e w' ⟨rfl, hw'⟩; rw [hw']; clear hw' w'; (try rw [cR]); (try rw [cE])) | (refine wpList_store_row rfl 87 _ _ rfl V.heap.size #[.nilIface, .int .i64 0, .int .i64 0] rfl rfl 87 _ (unhide RY _) szOp rfl (op_one (.inl rfl) 0 0) ?_))
    refine bodyPost_ret (results_row2 (P := Tryz.prog) rfl _ _ V.heap.size 87 #[.nilIface, .int .i64 0, .int .i64 0] (0, 0) _ rfl (setRow_heap _ _ _ _ _ _ (unhide RY _)) Tryz.underlying87 rfl szOp) rfl ?_
    exact unhide F2 _ _ _ _ _ rfl (.inl rfl) (fun h => by cases h) (below_rowG (unhide BY _) (unhide VL))
  by_cases h7 : 7 < r
  · have F2 := hide (fun r0 w' u f0 g => unhide FN r0 w' u f0 g false (by rw [inB_f r 0 7 (by omega)]; rfl))
    clear FN PY
    go_enter Tryz.func81, Tryz.ntmps81
    go_wp2_with (first | (go_at_call 90; refine (cntI _ _ _).mono ?_; rintro e w' ⟨rfl, hw'⟩; rw [hw']; clear hw' w'; (try rw [cR]); (try rw [cE])) | (refine wpList_store_row rfl 87 _ _ rfl V.heap.size #[.nilIface, .int .i64 0, .int .i64 0] rfl rfl 87 _ (unhide RY _) szOp rfl (op_one (.inl rfl) 0 0) ?_))
    refine bodyPost_ret (results_row2 (P := Tryz.prog) rfl _ _ V.heap.size 87 #[.nilIface, .int .i64 0, .int .i64 0] (0, 0) _ rfl (setRow_heap _ _ _ _ _ _ (unhide RY _)) Tryz.underlying87 rfl szOp) rfl ?_
    exact unhide F2 _ _ _ _ _ rfl (.inl rfl) (fun h => by cases h) (below_rowG (unhide BY _) (unhide VL))
  have F2 := hide (fun r0 w' u f0 g => unhide FN r0 w' u f0 g q (by rw [inB_t r 0 7 (by omega) (by omega)]; rfl))
  clear FN
  obtain ⟨y1, hy1⟩ := Sub.step (unhide HZ) (below_new y0.w (.cells #[.nilIface, .int .i64 0, .int .i64 r] 87))
  have O1 := hide (show y1.w.heap[y0.w.heap.size]? = some (.cells #[.nilIface, .int .i64 0, .int .i64 r] 87 (0, 0)) by rw [← hy1]; exact Array.getElem?_push_size)
  have NO := hide (show V.heap.size ≠ y0.w.heap.size by have := (Array.getElem?_eq_some_iff.1 (unhide RY y0)).1; omega)
  have NA := hide (show V.heap.size ≠ w.heap.size by rw [← hV]; simp)
  have AY := hide (fun y : Sub W.heap.size W => (y.h.block _ (Array.getElem?_eq_some_iff.1 G1).1).trans G1)
  clear G1 G2
  go_enter Tryz.func81, Tryz.ntmps81
  go_wp2_with (first | (go_at_call 90; refine (cntI _ _ _).mono ?_; rintro e w' ⟨rfl, hw'⟩; rw [hw']; clear hw' w'; (try rw [cR]); (try rw [cE])))
  obtain ⟨y2, hy2⟩ := Sub.step (unhide HZ) (below_drew (w := y1.w))
  have O2 := hide (show y2.w.heap[y0.w.heap.size]? = some (.cells #[.nilIface, .int .i64 0, .int .i64 r] 87 (0, 0)) by rw [← hy2]; exact row_keep (unhide O1) below_drew)
  have D0 := hide (show (fun w' => w'.heap[w.heap.size]? = some (.cells #[.int .i64 0, .int .i64 r, .int .i64 k, .int .i64 n, .string s, .slice b ll cap] 35 (0, 0)) ∧ w'.heap[y0.w.heap.size]? = some (.cells #[.nilIface, .int .i64 0, .int .i64 r] 87 (0, 0))) y1.w.drew by rw [hy2]; exact ⟨unhide AY y2, unhide O2⟩)
  refine wp_region_held_drew (S := fun w' => w'.heap[w.heap.size]? = some (.cells #[.int .i64 0, .int .i64 r, .int .i64 k, .int .i64 n, .string s, .slice b ll cap] 35 (0, 0)) ∧ w'.heap[y0.w.heap.size]? = some (.cells #[.nilIface, .int .i64 0, .int .i64 r] 87 (0, 0))) (by kernel_rfl) (unhide D0) (fun hS => ?_)
  have HS := hide hS
  clear hS D0 O1
  rw [hy2] at HS ⊢
  refine wpAnyH_take (i := 0) (v := .agg #[.nilIface, .int .i64 0, .int .i64 r]) rfl (by kernel_rfl) (by kernel_rfl) (by kernel_rfl) (fun _ _ _ h => h) (yields_loadG (by rfl) 87 _ rfl y0.w.heap.size rfl 87 #[.nilIface, .int .i64 0, .int .i64 r] _ (fun w h => h.2) Tryz.underlying87 rfl (by kernel_rfl)) (unhide HS) ?_
  go_simp
  refine wpAnyH_take (i := 1) (v := .pointer (some ⟨w.heap.size, 2, none⟩)) rfl (by kernel_rfl) (by kernel_rfl) (by kernel_rfl) (fun _ _ _ h => h) (Or.inl ⟨by rfl, fun w hc => ?_⟩) (unhide HS) ?_
  · clear hc; go_simp
  go_simp
  refine wpAnyH_take (i := 2) (v := .agg #[.int .i64 k, .int .i64 n, .string s, .slice b ll cap]) rfl (by kernel_rfl) (by kernel_rfl) (by kernel_rfl) (fun _ _ _ h => h) (Or.inl ⟨by rfl, fun w hc => ?_⟩) (unhide HS) ?_
  · have q2 := Lib.cell_of_heap hc.1 2; have q3 := Lib.cell_of_heap hc.1 3; have q4 := Lib.cell_of_heap hc.1 4; have q5 := Lib.cell_of_heap hc.1 5; clear hc; go_simp
  go_simp
  refine wpAnyH_ready (rs := [3]) (by kernel_rfl) (by simp) ?_
  refine AllReadyH.cons rfl (fun K2 hK => ?_) AllReadyH.nil
  go_simp
  refine (unhide PY y2).mono ?_
  rintro r w3 ⟨rfl, hb⟩
  have O3 := hide (row_keep (unhide O2) hb)
  obtain ⟨y3, rfl⟩ := Sub.step (unhide HZ) hb
  clear hb O2
  refine hK.out _ _ (⟨unhide AY y3, unhide O3⟩) (fun hS => ?_)
  clear HS
  have HS := hide hS
  clear hS hK K2
  refine wpAnyH_ready (rs := [4]) (by kernel_rfl) (by simp) ?_
  refine AllReadyH.cons rfl (fun K2 hK => ?_) AllReadyH.nil
  rw [if_pos (by rfl)]
  refine wp_store_row 87 _ _ rfl V.heap.size #[.nilIface, .int .i64 0, .int .i64 r] rfl rfl 87 _ (unhide RY y3) szOp rfl (op_one (.inl rfl) 0 r) ?_
  refine hK.out _ _ (⟨(setRow_other _ _ _ _ (unhide NA).symm).trans (unhide AY y3), (setRow_other _ _ _ _ (unhide NO).symm).trans (unhide O3)⟩) (fun hS => ?_)
  clear HS
  have HS := hide hS
  clear hS hK K2
  refine wpAnyH_take (i := 5) (v := .bool q) rfl (by kernel_rfl) (by kernel_rfl) (by kernel_rfl) (fun _ _ _ h => h) (Or.inl ⟨by rfl, fun w hc => ?_⟩) (unhide HS) ?_
  · clear hc; go_simp
  go_simp
  refine wpAnyH_done (by kernel_rfl) ?_ _
  clear HS
  go_wp2
  refine bodyPost_ret (results_row2 (P := Tryz.prog) rfl _ _ V.heap.size 87 #[.nilIface, .int .i64 0, .int .i64 r] (0, 0) _ rfl (setRow_heap _ _ _ _ _ _ (unhide RY _)) Tryz.underlying87 rfl szOp) rfl ?_
  exact unhide F2 _ _ _ _ _ rfl (.inl rfl) (fun _ => ⟨rfl, rfl, rfl⟩) (below_rowG (unhide BY y3) (unhide VL))
set_option maxHeartbeats 4000000 in
theorem opd_1 (r : Int) (e : Ex) (b : Option Addr) (cap : Nat) (w : World) (hr : RdX w 0 e b) (hz : e.sz ≤ 1048576) (ht : TabK w) (hf : TabF w) : Calls Tryz.prog 81 #[.agg ((Ag.mk 1 r e).cs b cap)] w (OpdR ⟨1, r, e⟩ w) := by
  have hsz := sz_is e
  have cR : cntB ⟨#[40, 82, 41]⟩ 82 = true := by decide
  have cE : cntB ⟨#[40, 82, 41]⟩ 69 = false := by decide
  have P := hide (fun w' => zroI e.k e.n e.s e.l.length (by omega) (by omega) b cap w')
  rw [show zroV e.k e.n e.s e.l.length = zroX e from rfl] at P
  have V : agX ⟨1, r, e⟩ = (inB r 0 7 && zroX e) := by unfold agX; rfl
  have U : opU ⟨1, r, e⟩ = .nilIface := by unfold opU; rfl
  have FN := hide (fun r0 w' u f0 g q (h : (inB r 0 7 && zroX e) = q) (hr : r0 = .returned (.tuple #[.agg #[u, .int .i64 f0, .int .i64 g], .bool q])) (hu : IfV u) (hv : q = true → u = .nilIface ∧ f0 = 1 ∧ g = r) => opdR_of (w := w) (r := r0) (w' := w') (u := u) (f := f0) (g := g) (V.trans h) hr hu (fun x => by rw [U]; exact hv x))
  clear V U hr ht hsz hz
  generalize OpdR ⟨1, r, e⟩ w = R at *
  generalize zroX e = q at *
  unfold Ag.cs
  simp only
  generalize e.k = k at *
  generalize e.n = n at *
  generalize e.s = s at *
  generalize e.l.length = ll at *
  have G2 := two_new w (.cells #[.int .i64 1, .int .i64 r, .int .i64 k, .int .i64 n, .string s, .slice b ll cap] 35) (.cells #[.nilIface, .int .i64 0, .int .i64 0] 87)
  have G1 := two_new0 w (.cells #[.int .i64 1, .int .i64 r, .int .i64 k, .int .i64 n, .string s, .slice b ll cap] 35) (.cells #[.nilIface, .int .i64 0, .int .i64 0] 87)
  obtain ⟨V, hV⟩ : ∃ V, w.alloc (.cells #[.int .i64 1, .int .i64 r, .int .i64 k, .int .i64 n, .string s, .slice b ll cap] 35) = V := ⟨_, rfl⟩
  have vsz : w.heap.size + 1 = V.heap.size := by rw [← hV]; simp
  rw [vsz, hV] at G2
  rw [hV] at G1
  obtain ⟨W, hW⟩ : ∃ W, V.alloc (.cells #[.nilIface, .int .i64 0, .int .i64 0] 87) = W := ⟨_, rfl⟩
  rw [hW] at G1 G2
  obtain ⟨G2, hbW⟩ := G2
  have l1 : w.heap.size < W.heap.size := (Array.getElem?_eq_some_iff.1 G1).1
  have l2 : V.heap.size < W.heap.size := (Array.getElem?_eq_some_iff.1 G2).1
  have BY := hide (fun y : Sub W.heap.size W => hbW.trans (y.h.mono hbW.size))
  have RY := hide (fun y : Sub W.heap.size W => (y.h.block _ l2).trans G2)
  have VL := hide (show w.heap.size ≤ V.heap.size by omega)
  have ne := Sub.ne W.heap.size W
  have HZ := hide (Nat.le_refl W.heap.size)
  have E0 : ∀ y : Sub W.heap.size W, y.w.cell? ⟨w.heap.size, 0, none⟩ = some (.int .i64 1) := fun y => (y.h.cell (p := ⟨w.heap.size, 0, none⟩) l1).trans (Lib.cell_of_heap G1 0)
  have E1 : ∀ y : Sub W.heap.size W, y.w.cell? ⟨w.heap.size, 1, none⟩ = some (.int .i64 r) := fun y => (y.h.cell (p := ⟨w.heap.size, 1, none⟩) l1).trans (Lib.cell_of_heap G1 1)
  have E2 : ∀ y : Sub W.heap.size W, y.w.cell? ⟨w.heap.size, 2, none⟩ = some (.int .i64 k) := fun y => (y.h.cell (p := ⟨w.heap.size, 2, none⟩) l1).trans (Lib.cell_of_heap G1 2)
  have E3 : ∀ y : Sub W.heap.size W, y.w.cell? ⟨w.heap.size, 3, none⟩ = some (.int .i64 n) := fun y => (y.h.cell (p := ⟨w.heap.size, 3, none⟩) l1).trans (Lib.cell_of_heap G1 3)
  have E4 : ∀ y : Sub W.heap.size W, y.w.cell? ⟨w.heap.size, 4, none⟩ = some (.string s) := fun y => (y.h.cell (p := ⟨w.heap.size, 4, none⟩) l1).trans (Lib.cell_of_heap G1 4)
  have E5 : ∀ y : Sub W.heap.size W, y.w.cell? ⟨w.heap.size, 5, none⟩ = some (.slice b ll cap) := fun y => (y.h.cell (p := ⟨w.heap.size, 5, none⟩) l1).trans (Lib.cell_of_heap G1 5)
  have T0 : ∀ y : Sub W.heap.size W, y.w.cell? ⟨3, 1, none⟩ = some (.string ⟨#[40, 82, 41]⟩) := fun y => (hf.next (unhide BY y)).at1
  obtain ⟨y0, hy0⟩ : ∃ z : Sub W.heap.size W, W = z.w := ⟨⟨W, Below.refl _ _⟩, rfl⟩
  rw [hy0] at hW
  clear l1 l2 vsz hbW hy0
  have PY := hide (fun y : Sub W.heap.size W => unhide P y.w)
  clear P hf
  by_cases h0 : r < 0
  · have F2 := hide (fun r0 w' u f0 g => unhide FN r0 w' u f0 g false (by rw [inB_f r 0 7 (by omega)]; rfl))
    clear FN PY
    go_enter Tryz.func81, Tryz.ntmps81
    go_wp2_with (first | (go_at_call 90; refine (cntI _ _ _).mono ?_; rintro e w' ⟨rfl, hw'⟩; rw [hw']; clear hw' w'; (try rw [cR]); (try rw [cE])) | (refine wpList_store_row rfl 87 _ _ rfl V.heap.size #[.nilIface, .int .i64 0, .int .i64 0] rfl rfl 87 _ (unhide RY _) szOp rfl (op_one (.inl rfl) 0 0) ?_))
    refine bodyPost_ret (results_row2 (P := Tryz.prog) rfl _ _ V.heap.size 87 #[.nilIface, .int .i64 0, .int .i64 0] (0, 0) _ rfl (setRow_heap _ _ _ _ _ _ (unhide RY _)) Tryz.underlying87 rfl szOp) rfl ?_
    exact unhide F2 _ _ _ _ _ rfl (.inl rfl) (fun h => by cases h) (below_rowG (unhide BY _) (unhide VL))
  by_cases h7 : 7 < r
  · have F2 := hide (fun r0 w' u f0 g => unhide FN r0 w' u f0 g false (by rw [inB_f r 0 7 (by omega)]; rfl))
    clear FN PY
    go_enter Tryz.func81, Tryz.ntmps81
    go_wp2_with (first | (go_at_call 90; refine (cntI _ _ _).mono ?_; rintro e w' ⟨rfl, hw'⟩; rw [hw']; clear hw' w'; (try rw [cR]); (try rw [cE])) | (refine wpList_store_row rfl 87 _ _ rfl V.heap.size #[.nilIface, .int .i64 0, .int .i64 0] rfl rfl 87 _ (unhide RY _) szOp rfl (op_one (.inl rfl) 0 0) ?_))
    refine bodyPost_ret (results_row2 (P := Tryz.prog) rfl _ _ V.heap.size 87 #[.nilIface, .int .i64 0, .int .i64 0] (0, 0) _ rfl (setRow_heap _ _ _ _ _ _ (unhide RY _)) Tryz.underlying87 rfl szOp) rfl ?_
    exact unhide F2 _ _ _ _ _ rfl (.inl rfl) (fun h => by cases h) (below_rowG (unhide BY _) (unhide VL))
  have F2 := hide (fun r0 w' u f0 g => unhide FN r0 w' u f0 g q (by rw [inB_t r 0 7 (by omega) (by omega)]; rfl))
  clear FN
  obtain ⟨y1, hy1⟩ := Sub.step (unhide HZ) (below_new y0.w (.cells #[.nilIface, .int .i64 1, .int .i64 r] 87))
  have O1 := hide (show y1.w.heap[y0.w.heap.size]? = some (.cells #[.nilIface, .int .i64 1, .int .i64 r] 87 (0, 0)) by rw [← hy1]; exact Array.getElem?_push_size)
  have NO := hide (show V.heap.size ≠ y0.w.heap.size by have := (Array.getElem?_eq_some_iff.1 (unhide RY y0)).1; omega)
  have NA := hide (show V.heap.size ≠ w.heap.size by rw [← hV]; simp)
  have AY := hide (fun y : Sub W.heap.size W => (y.h.block _ (Array.getElem?_eq_some_iff.1 G1).1).trans G1)
  clear G1 G2
  go_enter Tryz.func81, Tryz.ntmps81
  go_wp2_with (first | (go_at_call 90; refine (cntI _ _ _).mono ?_; rintro e w' ⟨rfl, hw'⟩; rw [hw']; clear hw' w'; (try rw [cR]); (try rw [cE])))
  obtain ⟨y2, hy2⟩ := Sub.step (unhide HZ) (below_drew (w := y1.w))
  have O2 := hide (show y2.w.heap[y0.w.heap.size]? = some (.cells #[.nilIface, .int .i64 1, .int .i64 r] 87 (0, 0)) by rw [← hy2]; exact row_keep (unhide O1) below_drew)
  have D0 := hide (show (fun w' => w'.heap[w.heap.size]? = some (.cells #[.int .i64 1, .int .i64 r, .int .i64 k, .int .i64 n, .string s, .slice b ll cap] 35 (0, 0)) ∧ w'.heap[y0.w.heap.size]? = some (.cells #[.nilIface, .int .i64 1, .int .i64 r] 87 (0, 0))) y1.w.drew by rw [hy2]; exact ⟨unhide AY y2, unhide O2⟩)
  refine wp_region_held_drew (S := fun w' => w'.heap[w.heap.size]? = some (.cells #[.int .i64 1, .int .i64 r, .int .i64 k, .int .i64 n, .string s, .slice b ll cap] 35 (0, 0)) ∧ w'.heap[y0.w.heap.size]? = some (.cells #[.nilIface, .int .i64 1, .int .i64 r] 87 (0, 0))) (by kernel_rfl) (unhide D0) (fun hS => ?_)
  have HS := hide hS
  clear hS D0 O1
  rw [hy2] at HS ⊢
  refine wpAnyH_take (i := 0) (v := .agg #[.nilIface, .int .i64 1, .int .i64 r]) rfl (by kernel_rfl) (by kernel_rfl) (by kernel_rfl) (fun _ _ _ h => h) (yields_loadG (by rfl) 87 _ rfl y0.w.heap.size rfl 87 #[.nilIface, .int .i64 1, .int .i64 r] _ (fun w h => h.2) Tryz.underlying87 rfl (by kernel_rfl)) (unhide HS) ?_
  go_simp
  refine wpAnyH_take (i := 1) (v := .pointer (some ⟨w.heap.size, 2, none⟩)) rfl (by kernel_rfl) (by kernel_rfl) (by kernel_rfl) (fun _ _ _ h => h) (Or.inl ⟨by rfl, fun w hc => ?_⟩) (unhide HS) ?_
  · clear hc; go_simp
  go_simp
  refine wpAnyH_take (i := 2) (v := .agg #[.int .i64 k, .int .i64 n, .string s, .slice b ll cap]) rfl (by kernel_rfl) (by kernel_rfl) (by kernel_rfl) (fun _ _ _ h => h) (Or.inl ⟨by rfl, fun w hc => ?_⟩) (unhide HS) ?_
  · have q2 := Lib.cell_of_heap hc.1 2; have q3 := Lib.cell_of_heap hc.1 3; have q4 := Lib.cell_of_heap hc.1 4; have q5 := Lib.cell_of_heap hc.1 5; clear hc; go_simp
  go_simp
  refine wpAnyH_ready (rs := [3]) (by kernel_rfl) (by simp) ?_
  refine AllReadyH.cons rfl (fun K2 hK => ?_) AllReadyH.nil
  go_simp
  refine (unhide PY y2).mono ?_
  rintro r w3 ⟨rfl, hb⟩
  have O3 := hide (row_keep (unhide O2) hb)
  obtain ⟨y3, rfl⟩ := Sub.step (unhide HZ) hb
  clear hb O2
  refine hK.out _ _ (⟨unhide AY y3, unhide O3⟩) (fun hS => ?_)
  clear HS
  have HS := hide hS
  clear hS hK K2
  refine wpAnyH_ready (rs := [4]) (by kernel_rfl) (by simp) ?_
  refine AllReadyH.cons rfl (fun K2 hK => ?_) AllReadyH.nil
  rw [if_pos (by rfl)]
  refine wp_store_row 87 _ _ rfl V.heap.size #[.nilIface, .int .i64 1, .int .i64 r] rfl rfl 87 _ (unhide RY y3) szOp rfl (op_one (.inl rfl) 1 r) ?_
  refine hK.out _ _ (⟨(setRow_other _ _ _ _ (unhide NA).symm).trans (unhide AY y3), (setRow_other _ _ _ _ (unhide NO).symm).trans (unhide O3)⟩) (fun hS => ?_)
  clear HS
  have HS := hide hS
  clear hS hK K2
  refine wpAnyH_take (i := 5) (v := .bool q) rfl (by kernel_rfl) (by kernel_rfl) (by kernel_rfl) (fun _ _ _ h => h) (Or.inl ⟨by rfl, fun w hc => ?_⟩) (unhide HS) ?_
  · clear hc; go_simp
  go_simp
  refine wpAnyH_done (by kernel_rfl) ?_ _
  clear HS
  go_wp2
  refine bodyPost_ret (results_row2 (P := Tryz.prog) rfl _ _ V.heap.size 87 #[.nilIface, .int .i64 1, .int .i64 r] (0, 0) _ rfl (setRow_heap _ _ _ _ _ _ (unhide RY _)) Tryz.underlying87 rfl szOp) rfl ?_
  exact unhide F2 _ _ _ _ _ rfl (.inl rfl) (fun _ => ⟨rfl, rfl, rfl⟩) (below_rowG (unhide BY y3) (unhide VL))
set_option maxHeartbeats 4000000 in
theorem opd_2 (r : Int) (e : Ex) (b : Option Addr) (cap : Nat) (w : World) (hr : RdX w 0 e b) (hz : e.sz ≤ 1048576) (ht : TabK w) (hf : TabF w) : Calls Tryz.prog 81 #[.agg ((Ag.mk 2 r e).cs b cap)] w (OpdR ⟨2, r, e⟩ w) := by
  have hsz := sz_is e
  have cR : cntB ⟨#[40, 82, 41, 43]⟩ 82 = true := by decide
  have cE : cntB ⟨#[40, 82, 41, 43]⟩ 69 = false := by decide
  have P := hide (fun w' => zroI e.k e.n e.s e.l.length (by omega) (by omega) b cap w')
  rw [show zroV e.k e.n e.s e.l.length = zroX e from rfl] at P
  have V : agX ⟨2, r, e⟩ = (inB r 0 7 && zroX e) := by unfold agX; rfl
  have U : opU ⟨2, r, e⟩ = .nilIface := by unfold opU; rfl
  have FN := hide (fun r0 w' u f0 g q (h : (inB r 0 7 && zroX e) = q) (hr : r0 = .returned (.tuple #[.agg #[u, .int .i64 f0, .int .i64 g], .bool q])) (hu : IfV u) (hv : q = true → u = .nilIface ∧ f0 = 2 ∧ g = r) => opdR_of (w := w) (r := r0) (w' := w') (u := u) (f := f0) (g := g) (V.trans h) hr hu (fun x => by rw [U]; exact hv x))
  clear V U hr ht hsz hz
  generalize OpdR ⟨2, r, e⟩ w = R at *
  generalize zroX e = q at *
  unfold Ag.cs
  simp only
  generalize e.k = k at *
  generalize e.n = n at *
  generalize e.s = s at *
  generalize e.l.length = ll at *
  have G2 := two_new w (.cells #[.int .i64 2, .int .i64 r, .int .i64 k, .int .i64 n, .string s, .slice b ll cap] 35) (.cells #[.nilIface, .int .i64 0, .int .i64 0] 87)
  have G1 := two_new0 w (.cells #[.int .i64 2, .int .i64 r, .int .i64 k, .int .i64 n, .string s, .slice b ll cap] 35) (.cells #[.nilIface, .int .i64 0, .int .i64 0] 87)
  obtain ⟨V, hV⟩ : ∃ V, w.alloc (.cells #[.int .i64 2, .int .i64 r, .int .i64 k, .int .i64 n, .string s, .slice b ll cap] 35) = V := ⟨_, rfl⟩
  have vsz : w.heap.size + 1 = V.heap.size := by rw [← hV]; simp
  rw [vsz, hV] at G2
  rw [hV] at G1
  obtain ⟨W, hW⟩ : ∃ W, V.alloc (.cells #[.nilIface, .int .i64 0, .int .i64 0] 87) = W := ⟨_, rfl⟩
  rw [hW] at G1 G2
  obtain ⟨G2, hbW⟩ := G2
  have l1 : w.heap.size < W.heap.size := (Array.getElem?_eq_some_iff.1 G1).1
  have l2 : V.heap.size < W.heap.size := (Array.getElem?_eq_some_iff.1 G2).1
  have BY := hide (fun y : Sub W.heap.size W => hbW.trans (y.h.mono hbW.size))
  have RY := hide (fun y : Sub W.heap.size W => (y.h.block _ l2).trans G2)
  have VL := hide (show w.heap.size ≤ V.heap.size by omega)
  have ne := Sub.ne W.heap.size W
  have HZ := hide (Nat.le_refl W.heap.size)
  have E0 : ∀ y : Sub W.heap.size W, y.w.cell? ⟨w.heap.size, 0, none⟩ = some (.int .i64 2) := fun y => (y.h.cell (p := ⟨w.heap.size, 0, none⟩) l1).trans (Lib.cell_of_heap G1 0)
  have E1 : ∀ y : Sub W.heap.size W, y.w.cell? ⟨w.heap.size, 1, none⟩ = some (.int .i64 r) := fun y => (y.h.cell (p := ⟨w.heap.size, 1, none⟩) l1).trans (Lib.cell_of_heap G1 1)
  have E2 : ∀ y : Sub W.heap.size W, y.w.cell? ⟨w.heap.size, 2, none⟩ = some (.int .i64 k) := fun y => (y.h.cell (p := ⟨w.heap.size, 2, none⟩) l1).trans (Lib.cell_of_heap G1 2)
  have E3 : ∀ y : Sub W.heap.size W, y.w.cell? ⟨w.heap.size, 3, none⟩ = some (.int .i64 n) := fun y => (y.h.cell (p := ⟨w.heap.size, 3, none⟩) l1).trans (Lib.cell_of_heap G1 3)
  have E4 : ∀ y : Sub W.heap.size W, y.w.cell? ⟨w.heap.size, 4, none⟩ = some (.string s) := fun y => (y.h.cell (p := ⟨w.heap.size, 4, none⟩) l1).trans (Lib.cell_of_heap G1 4)
  have E5 : ∀ y : Sub W.heap.size W, y.w.cell? ⟨w.heap.size, 5, none⟩ = some (.slice b ll cap) := fun y => (y.h.cell (p := ⟨w.heap.size, 5, none⟩) l1).trans (Lib.cell_of_heap G1 5)
  have T0 : ∀ y : Sub W.heap.size W, y.w.cell? ⟨3, 2, none⟩ = some (.string ⟨#[40, 82, 41, 43]⟩) := fun y => (hf.next (unhide BY y)).at2
  obtain ⟨y0, hy0⟩ : ∃ z : Sub W.heap.size W, W = z.w := ⟨⟨W, Below.refl _ _⟩, rfl⟩
  rw [hy0] at hW
  clear l1 l2 vsz hbW hy0
  have PY := hide (fun y : Sub W.heap.size W => unhide P y.w)
  clear P hf
  by_cases h0 : r < 0
  · have F2 := hide (fun r0 w' u f0 g => unhide FN r0 w' u f0 g false (by rw [inB_f r 0 7 (by omega)]; rfl))
    clear FN PY
    go_enter Tryz.func81, Tryz.ntmps81
    go_wp2_with (first | (go_at_call 90; refine (cntI _ _ _).mono ?_; rintro e w' ⟨rfl, hw'⟩; rw [hw']; clear hw' w'; (try rw [cR]); (try rw [cE])) | (refine wpList_store_row rfl 87 _ _ rfl V.heap.size #[.nilIface, .int .i64 0, .int .i64 0] rfl rfl 87 _ (unhide RY _) szOp rfl (op_one (.inl rfl) 0 0) ?_))
    refine bodyPost_ret (results_row2 (P := Tryz.prog) rfl _ _ V.heap.size 87 #[.nilIface, .int .i64 0, .int .i64 0] (0, 0) _ rfl (setRow_heap _ _ _ _ _ _ (unhide RY _)) Tryz.underlying87 rfl szOp) rfl ?_
    exact unhide F2 _ _ _ _ _ rfl (.inl rfl) (fun h => by cases h) (below_rowG (unhide BY _) (unhide VL))
  by_cases h7 : 7 < r
  · have F2 := hide (fun r0 w' u f0 g => unhide FN r0 w' u f0 g false (by rw [inB_f r 0 7 (by omega)]; rfl))
    clear FN PY
    go_enter Tryz.func81, Tryz.ntmps81
    go_wp2_with (first | (go_at_call 90; refine (cntI _ _ _).mono ?_; rintro e w' ⟨rfl, hw'⟩; rw [hw']; clear hw' w'; (try rw [cR]); (try rw [cE])) | (refine wpList_store_row rfl 87 _ _ rfl V.heap.size #[.nilIface, .int .i64 0, .int .i64 0] rfl rfl 87 _ (unhide RY _) szOp rfl (op_one (.inl rfl) 0 0) ?_))
    refine bodyPost_ret (results_row2 (P := Tryz.prog) rfl _ _ V.heap.size 87 #[.nilIface, .int .i64 0, .int .i64 0] (0, 0) _ rfl (setRow_heap _ _ _ _ _ _ (unhide RY _)) Tryz.underlying87 rfl szOp) rfl ?_
    exact unhide F2 _ _ _ _ _ rfl (.inl rfl) (fun h => by cases h) (below_rowG (unhide BY _) (unhide VL))
  have F2 := hide (fun r0 w' u f0 g => unhide FN r0 w' u f0 g q (by rw [inB_t r 0 7 (by omega) (by omega)]; rfl))
  clear FN
  obtain ⟨y1, hy1⟩ := Sub.step (unhide HZ) (below_new y0.w (.cells #[.nilIface, .int .i64 2, .int .i64 r] 87))
  have O1 := hide (show y1.w.heap[y0.w.heap.size]? = some (.cells #[.nilIface, .int .i64 2, .int .i64 r] 87 (0, 0)) by rw [← hy1]; exact Array.getElem?_push_size)
  have NO := hide (show V.heap.size ≠ y0.w.heap.size by have := (Array.getElem?_eq_some_iff.1 (unhide RY y0)).1; omega)
  have NA := hide (show V.heap.size ≠ w.heap.size by rw [← hV]; simp)
  have AY := hide (fun y : Sub W.heap.size W => (y.h.block _ (Array.getElem?_eq_some_iff.1 G1).1).trans G1)
  clear G1 G2
  go_enter Tryz.func81, Tryz.ntmps81
  go_wp2_with (first | (go_at_call 90; refine (cntI _ _ _).mono ?_; rintro e w' ⟨rfl, hw'⟩; rw [hw']; clear hw' w'; (try rw [cR]); (try rw [cE])))
  obtain ⟨y2, hy2⟩ := Sub.step (unhide HZ) (below_drew (w := y1.w))
  have O2 := hide (show y2.w.heap[y0.w.heap.size]? = some (.cells #[.nilIface, .int .i64 2, .int .i64 r] 87 (0, 0)) by rw [← hy2]; exact row_keep (unhide O1) below_drew)
  have D0 := hide (show (fun w' => w'.heap[w.heap.size]? = some (.cells #[.int .i64 2, .int .i64 r, .int .i64 k, .int .i64 n, .string s, .slice b ll cap] 35 (0, 0)) ∧ w'.heap[y0.w.heap.size]? = some (.cells #[.nilIface, .int .i64 2, .int .i64 r] 87 (0, 0))) y1.w.drew by rw [hy2]; exact ⟨unhide AY y2, unhide O2⟩)
  refine wp_region_held_drew (S := fun w' => w'.heap[w.heap.size]? = some (.cells #[.int .i64 2, .int .i64 r, .int .i64 k, .int .i64 n, .string s, .slice b ll cap] 35 (0, 0)) ∧ w'.heap[y0.w.heap.size]? = some (.cells #[.nilIface, .int .i64 2, .int .i64 r] 87 (0, 0))) (by kernel_rfl) (unhide D0) (fun hS => ?_)
  have HS := hide hS
  clear hS D0 O1
  rw [hy2] at HS ⊢
  refine wpAnyH_take (i := 0) (v := .agg #[.nilIface, .int .i64 2, .int .i64 r]) rfl (by kernel_rfl) (by kernel_rfl) (by kernel_rfl) (fun _ _ _ h => h) (yields_loadG (by rfl) 87 _ rfl y0.w.heap.size rfl 87 #[.nilIface, .int .i64 2, .int .i64 r] _ (fun w h => h.2) Tryz.underlying87 rfl (by kernel_rfl)) (unhide HS) ?_
  go_simp
  refine wpAnyH_take (i := 1) (v := .pointer (some ⟨w.heap.size, 2, none⟩)) rfl (by kernel_rfl) (by kernel_rfl) (by kernel_rfl) (fun _ _ _ h => h) (Or.inl ⟨by rfl, fun w hc => ?_⟩) (unhide HS) ?_
  · clear hc; go_simp
  go_simp
  refine wpAnyH_take (i := 2) (v := .agg #[.int .i64 k, .int .i64 n, .string s, .slice b ll cap]) rfl (by kernel_rfl) (by kernel_rfl) (by kernel_rfl) (fun _ _ _ h => h) (Or.inl ⟨by rfl, fun w hc => ?_⟩) (unhide HS) ?_
  · have q2 := Lib.cell_of_heap hc.1 2; have q3 := Lib.cell_of_heap hc.1 3; have q4 := Lib.cell_of_heap hc.1 4; have q5 := Lib.cell_of_heap hc.1 5; clear hc; go_simp
  go_simp
  refine wpAnyH_ready (rs := [3]) (by kernel_rfl) (by simp) ?_
  refine AllReadyH.cons rfl (fun K2 hK => ?_) AllReadyH.nil
  go_simp
  refine (unhide PY y2).mono ?_
  rintro r w3 ⟨rfl, hb⟩
  have O3 := hide (row_keep (unhide O2) hb)
  obtain ⟨y3, rfl⟩ := Sub.step (unhide HZ) hb
  clear hb O2
  refine hK.out _ _ (⟨unhide AY y3, unhide O3⟩) (fun hS => ?_)
  clear HS
  have HS := hide hS
  clear hS hK K2
  refine wpAnyH_ready (rs := [4]) (by kernel_rfl) (by simp) ?_
  refine AllReadyH.cons rfl (fun K2 hK => ?_) AllReadyH.nil
  rw [if_pos (by rfl)]
  refine wp_store_row 87 _ _ rfl V.heap.size #[.nilIface, .int .i64 2, .int .i64 r] rfl rfl 87 _ (unhide RY y3) szOp rfl (op_one (.inl rfl) 2 r) ?_
  refine hK.out _ _ (⟨(setRow_other _ _ _ _ (unhide NA).symm).trans (unhide AY y3), (setRow_other _ _ _ _ (unhide NO).symm).trans (unhide O3)⟩) (fun hS => ?_)
  clear HS
  have HS := hide hS
  clear hS hK K2
  refine wpAnyH_take (i := 5) (v := .bool q) rfl (by kernel_rfl) (by kernel_rfl) (by kernel_rfl) (fun _ _ _ h => h) (Or.inl ⟨by rfl, fun w hc => ?_⟩) (unhide HS) ?_
  · clear hc; go_simp
  go_simp
  refine wpAnyH_done (by kernel_rfl) ?_ _
  clear HS
  go_wp2
  refine bodyPost_ret (results_row2 (P := Tryz.prog) rfl _ _ V.heap.size 87 #[.nilIface, .int .i64 2, .int .i64 r] (0, 0) _ rfl (setRow_heap _ _ _ _ _ _ (unhide RY _)) Tryz.underlying87 rfl szOp) rfl ?_
  exact unhide F2 _ _ _ _ _ rfl (.inl rfl) (fun _ => ⟨rfl, rfl, rfl⟩) (below_rowG (unhide BY y3) (unhide VL))
set_option maxHeartbeats 4000000 in
theorem opd_3 (r : Int) (e : Ex) (b : Option Addr) (cap : Nat) (w : World) (hr : RdX w 0 e b) (hz : e.sz ≤ 1048576) (ht : TabK w) (hf : TabF w) : Calls Tryz.prog 81 #[.agg ((Ag.mk 3 r e).cs b cap)] w (OpdR ⟨3, r, e⟩ w) := by
  have hsz := sz_is e
  have cR : cntB ⟨#[64, 40, 82, 41, 43]⟩ 82 = true := by decide
  have cE : cntB ⟨#[64, 40, 82, 41, 43]⟩ 69 = false := by decide
  have P := hide (fun w' => zroI e.k e.n e.s e.l.length (by omega) (by omega) b cap w')
  rw [show zroV e.k e.n e.s e.l.length = zroX e from rfl] at P
  have V : agX ⟨3, r, e⟩ = (inB r 0 7 && zroX e) := by unfold agX; rfl
  have U : opU ⟨3, r, e⟩ = .nilIface := by unfold opU; rfl
  have FN := hide (fun r0 w' u f0 g q (h : (inB r 0 7 && zroX e) = q) (hr : r0 = .returned (.tuple #[.agg #[u, .int .i64 f0, .int .i64 g], .bool q])) (hu : IfV u) (hv : q = true → u = .nilIface ∧ f0 = 3 ∧ g = r) => opdR_of (w := w) (r := r0) (w' := w') (u := u) (f := f0) (g := g) (V.trans h) hr hu (fun x => by rw [U]; exact hv x))
  clear V U hr ht hsz hz
  generalize OpdR ⟨3, r, e⟩ w = R at *
  generalize zroX e = q at *
  unfold Ag.cs
  simp only
  generalize e.k = k at *
  generalize e.n = n at *
  generalize e.s = s at *
  generalize e.l.length = ll at *
  have G2 := two_new w (.cells #[.int .i64 3, .int .i64 r, .int .i64 k, .int .i64 n, .string s, .slice b ll cap] 35) (.cells #[.nilIface, .int .i64 0, .int .i64 0] 87)
  have G1 := two_new0 w (.cells #[.int .i64 3, .int .i64 r, .int .i64 k, .int .i64 n, .string s, .slice b ll cap] 35) (.cells #[.nilIface, .int .i64 0, .int .i64 0] 87)
  obtain ⟨V, hV⟩ : ∃ V, w.alloc (.cells #[.int .i64 3, .int .i64 r, .int .i64 k, .int .i64 n, .string s, .slice b ll cap] 35) = V := ⟨_, rfl⟩
  have vsz : w.heap.size + 1 = V.heap.size := by rw [← hV]; simp
  rw [vsz, hV] at G2
  rw [hV] at G1
  obtain ⟨W, hW⟩ : ∃ W, V.alloc (.cells #[.nilIface, .int .i64 0, .int .i64 0] 87) = W := ⟨_, rfl⟩
  rw [hW] at G1 G2
  obtain ⟨G2, hbW⟩ := G2
  have l1 : w.heap.size < W.heap.size := (Array.getElem?_eq_some_iff.1 G1).1
  have l2 : V.heap.size < W.heap.size := (Array.getElem?_eq_some_iff.1 G2).1
  have BY := hide (fun y : Sub W.heap.size W => hbW.trans (y.h.mono hbW.size))
  have RY := hide (fun y : Sub W.heap.size W => (y.h.block _ l2).trans G2)
  have VL := hide (show w.heap.size ≤ V.heap.size by omega)
  have ne := Sub.ne W.heap.size W
  have HZ := hide (Nat.le_refl W.heap.size)
  have E0 : ∀ y : Sub W.heap.size W, y.w.cell? ⟨w.heap.size, 0, none⟩ = some (.int .i64 3) := fun y => (y.h.cell (p := ⟨w.heap.size, 0, none⟩) l1).trans (Lib.cell_of_heap G1 0)
  have E1 : ∀ y : Sub W.heap.size W, y.w.cell? ⟨w.heap.size, 1, none⟩ = some (.int .i64 r) := fun y => (y.h.cell (p := ⟨w.heap.size, 1, none⟩) l1).trans (Lib.cell_of_heap G1 1)
  have E2 : ∀ y : Sub W.heap.size W, y.w.cell? ⟨w.heap.size, 2, none⟩ = some (.int .i64 k) := fun y => (y.h.cell (p := ⟨w.heap.size, 2, none⟩) l1).trans (Lib.cell_of_heap G1 2)
  have E3 : ∀ y : Sub W.heap.size W, y.w.cell? ⟨w.heap.size, 3, none⟩ = some (.int .i64 n) := fun y => (y.h.cell (p := ⟨w.heap.size, 3, none⟩) l1).trans (Lib.cell_of_heap G1 3)
  have E4 : ∀ y : Sub W.heap.size W, y.w.cell? ⟨w.heap.size, 4, none⟩ = some (.string s) := fun y => (y.h.cell (p := ⟨w.heap.size, 4, none⟩) l1).trans (Lib.cell_of_heap G1 4)
  have E5 : ∀ y : Sub W.heap.size W, y.w.cell? ⟨w.heap.size, 5, none⟩ = some (.slice b ll cap) := fun y => (y.h.cell (p := ⟨w.heap.size, 5, none⟩) l1).trans (Lib.cell_of_heap G1 5)
  have T0 : ∀ y : Sub W.heap.size W, y.w.cell? ⟨3, 3, none⟩ = some (.string ⟨#[64, 40, 82, 41, 43]⟩) := fun y => (hf.next (unhide BY y)).at3
  obtain ⟨y0, hy0⟩ : ∃ z : Sub W.heap.size W, W = z.w := ⟨⟨W, Below.refl _ _⟩, rfl⟩
  rw [hy0] at hW
  clear l1 l2 vsz hbW hy0
  have PY := hide (fun y : Sub W.heap.size W => unhide P y.w)
  clear P hf
  by_cases h0 : r < 0
  · have F2 := hide (fun r0 w' u f0 g => unhide FN r0 w' u f0 g false (by rw [inB_f r 0 7 (by omega)]; rfl))
    clear FN PY
    go_enter Tryz.func81, Tryz.ntmps81
    go_wp2_with (first | (go_at_call 90; refine (cntI _ _ _).mono ?_; rintro e w' ⟨rfl, hw'⟩; rw [hw']; clear hw' w'; (try rw [cR]); (try rw [cE])) | (refine wpList_store_row rfl 87 _ _ rfl V.heap.size #[.nilIface, .int .i64 0, .int .i64 0] rfl rfl 87 _ (unhide RY _) szOp rfl (op_one (.inl rfl) 0 0) ?_))
    refine bodyPost_ret (results_row2 (P := Tryz.prog) rfl _ _ V.heap.size 87 #[.nilIface, .int .i64 0, .int .i64 0] (0, 0) _ rfl (setRow_heap _ _ _ _ _ _ (unhide RY _)) Tryz.underlying87 rfl szOp) rfl ?_
    exact unhide F2 _ _ _ _ _ rfl (.inl rfl) (fun h => by cases h) (below_rowG (unhide BY _) (unhide VL))
  by_cases h7 : 7 < r
  · have F2 := hide (fun r0 w' u f0 g => unhide FN r0 w' u f0 g false (by rw [inB_f r 0 7 (by omega)]; rfl))
    clear FN PY
    go_enter Tryz.func81, Tryz.ntmps81
    go_wp2_with (first | (go_at_call 90; refine (cntI _ _ _).mono ?_; rintro e w' ⟨rfl, hw'⟩; rw [hw']; clear hw' w'; (try rw [cR]); (try rw [cE])) | (refine wpList_store_row rfl 87 _ _ rfl V.heap.size #[.nilIface, .int .i64 0, .int .i64 0] rfl rfl 87 _ (unhide RY _) szOp rfl (op_one (.inl rfl) 0 0) ?_))
    refine bodyPost_ret (results_row2 (P := Tryz.prog) rfl _ _ V.heap.size 87 #[.nilIface, .int .i64 0, .int .i64 0] (0, 0) _ rfl (setRow_heap _ _ _ _ _ _ (unhide RY _)) Tryz.underlying87 rfl szOp) rfl ?_
    exact unhide F2 _ _ _ _ _ rfl (.inl rfl) (fun h => by cases h) (below_rowG (unhide BY _) (unhide VL))
  have F2 := hide (fun r0 w' u f0 g => unhide FN r0 w' u f0 g q (by rw [inB_t r 0 7 (by omega) (by omega)]; rfl))
  clear FN
  obtain ⟨y1, hy1⟩ := Sub.step (unhide HZ) (below_new y0.w (.cells #[.nilIface, .int .i64 3, .int .i64 r] 87))
  have O1 := hide (show y1.w.heap[y0.w.heap.size]? = some (.cells #[.nilIface, .int .i64 3, .int .i64 r] 87 (0, 0)) by rw [← hy1]; exact Array.getElem?_push_size)
  have NO := hide (show V.heap.size ≠ y0.w.heap.size by have := (Array.getElem?_eq_some_iff.1 (unhide RY y0)).1; omega)
  have NA := hide (show V.heap.size ≠ w.heap.size by rw [← hV]; simp)
  have AY := hide (fun y : Sub W.heap.size W => (y.h.block _ (Array.getElem?_eq_some_iff.1 G1).1).trans G1)
  clear G1 G2
  go_enter Tryz.func81, Tryz.ntmps81
  go_wp2_with (first | (go_at_call 90; refine (cntI _ _ _).mono ?_; rintro e w' ⟨rfl, hw'⟩; rw [hw']; clear hw' w'; (try rw [cR]); (try rw [cE])))
  obtain ⟨y2, hy2⟩ := Sub.step (unhide HZ) (below_drew (w := y1.w))
  have O2 := hide (show y2.w.heap[y0.w.heap.size]? = some (.cells #[.nilIface, .int .i64 3, .int .i64 r] 87 (0, 0)) by rw [← hy2]; exact row_keep (unhide O1) below_drew)
  have D0 := hide (show (fun w' => w'.heap[w.heap.size]? = some (.cells #[.int .i64 3, .int .i64 r, .int .i64 k, .int .i64 n, .string s, .slice b ll cap] 35 (0, 0)) ∧ w'.heap[y0.w.heap.size]? = some (.cells #[.nilIface, .int .i64 3, .int .i64 r] 87 (0, 0))) y1.w.drew by rw [hy2]; exact ⟨unhide AY y2, unhide O2⟩)
  refine wp_region_held_drew (S := fun w' => w'.heap[w.heap.size]? = some (.cells #[.int .i64 3, .int .i64 r, .int .i64 k, .int .i64 n, .string s, .slice b ll cap] 35 (0, 0)) ∧ w'.heap[y0.w.heap.size]? = some (.cells #[.nilIface, .int .i64 3, .int .i64 r] 87 (0, 0))) (by kernel_rfl) (unhide D0) (fun hS => ?_)
  have HS := hide hS
  clear hS D0 O1
  rw [hy2] at HS ⊢
  refine wpAnyH_take (i := 0) (v := .agg #[.nilIface, .int .i64 3, .int .i64 r]) rfl (by kernel_rfl) (by kernel_rfl) (by kernel_rfl) (fun _ _ _ h => h) (yields_loadG (by rfl) 87 _ rfl y0.w.heap.size rfl 87 #[.nilIface, .int .i64 3, .int .i64 r] _ (fun w h => h.2) Tryz.underlying87 rfl (by kernel_rfl)) (unhide HS) ?_
  go_simp
  refine wpAnyH_take (i := 1) (v := .pointer (some ⟨w.heap.size, 2, none⟩)) rfl (by kernel_rfl) (by kernel_rfl) (by kernel_rfl) (fun _ _ _ h => h) (Or.inl ⟨by rfl, fun w hc => ?_⟩) (unhide HS) ?_
  · clear hc; go_simp
  go_simp
  refine wpAnyH_take (i := 2) (v := .agg #[.int .i64 k, .int .i64 n, .string s, .slice b ll cap]) rfl (by kernel_rfl) (by kernel_rfl) (by kernel_rfl) (fun _ _ _ h => h) (Or.inl ⟨by rfl, fun w hc => ?_⟩) (unhide HS) ?_
  · have q2 := Lib.cell_of_heap hc.1 2; have q3 := Lib.cell_of_heap hc.1 3; have q4 := Lib.cell_of_heap hc.1 4; have q5 := Lib.cell_of_heap hc.1 5; clear hc; go_simp
  go_simp
  refine wpAnyH_ready (rs := [3]) (by kernel_rfl) (by simp) ?_
  refine AllReadyH.cons rfl (fun K2 hK => ?_) AllReadyH.nil
  go_simp
  refine (unhide PY y2).mono ?_
  rintro r w3 ⟨rfl, hb⟩
  have O3 := hide (row_keep (unhide O2) hb)
  obtain ⟨y3, rfl⟩ := Sub.step (unhide HZ) hb
  clear hb O2
  refine hK.out _ _ (⟨unhide AY y3, unhide O3⟩) (fun hS => ?_)
  clear HS
  have HS := hide hS
  clear hS hK K2
  refine wpAnyH_ready (rs := [4]) (by kernel_rfl) (by simp) ?_
  refine AllReadyH.cons rfl (fun K2 hK => ?_) AllReadyH.nil
  rw [if_pos (by rfl)]
  refine wp_store_row 87 _ _ rfl V.heap.size #[.nilIface, .int .i64 3, .int .i64 r] rfl rfl 87 _ (unhide RY y3) szOp rfl (op_one (.inl rfl) 3 r) ?_
  refine hK.out _ _ (⟨(setRow_other _ _ _ _ (unhide NA).symm).trans (unhide AY y3), (setRow_other _ _ _ _ (unhide NO).symm).trans (unhide O3)⟩) (fun hS => ?_)
  clear HS
  have HS := hide hS
  clear hS hK K2
  refine wpAnyH_take (i := 5) (v := .bool q) rfl (by kernel_rfl) (by kernel_rfl) (by kernel_rfl) (fun _ _ _ h => h) (Or.inl ⟨by rfl, fun w hc => ?_⟩) (unhide HS) ?_
  · clear hc; go_simp
  go_simp
  refine wpAnyH_done (by kernel_rfl) ?_ _
  clear HS
  go_wp2
  refine bodyPost_ret (results_row2 (P := Tryz.prog) rfl _ _ V.heap.size 87 #[.nilIface, .int .i64 3, .int .i64 r] (0, 0) _ rfl (setRow_heap _ _ _ _ _ _ (unhide RY _)) Tryz.underlying87 rfl szOp) rfl ?_
  exact unhide F2 _ _ _ _ _ rfl (.inl rfl) (fun _ => ⟨rfl, rfl, rfl⟩) (below_rowG (unhide BY y3) (unhide VL))
set_option maxHeartbeats 4000000 in
theorem opd_4 (r : Int) (e : Ex) (b : Option Addr) (cap : Nat) (w : World) (hr : RdX w 0 e b) (hz : e.sz ≤ 1048576) (ht : TabK w) (hf : TabF w) : Calls Tryz.prog 81 #[.agg ((Ag.mk 4 r e).cs b cap)] w (OpdR ⟨4, r, e⟩ w) := by
  have hsz := sz_is e
  have cR : cntB ⟨#[45, 40, 82, 41]⟩ 82 = true := by decide
  have cE : cntB ⟨#[45, 40, 82, 41]⟩ 69 = false := by decide
  have P := hide (fun w' => zroI e.k e.n e.s e.l.length (by omega) (by omega) b cap w')
  rw [show zroV e.k e.n e.s e.l.length = zroX e from rfl] at P
  have V : agX ⟨4, r, e⟩ = (inB r 0 7 && zroX e) := by unfold agX; rfl
  have U : opU ⟨4, r, e⟩ = .nilIface := by unfold opU; rfl
  have FN := hide (fun r0 w' u f0 g q (h : (inB r 0 7 && zroX e) = q) (hr : r0 = .returned (.tuple #[.agg #[u, .int .i64 f0, .int .i64 g], .bool q])) (hu : IfV u) (hv : q = true → u = .nilIface ∧ f0 = 4 ∧ g = r) => opdR_of (w := w) (r := r0) (w' := w') (u := u) (f := f0) (g := g) (V.trans h) hr hu (fun x => by rw [U]; exact hv x))
  clear V U hr ht hsz hz
  generalize OpdR ⟨4, r, e⟩ w = R at *
  generalize zroX e = q at *
  unfold Ag.cs
  simp only
  generalize e.k = k at *
  generalize e.n = n at *
  generalize e.s = s at *
  generalize e.l.length = ll at *
  have G2 := two_new w (.cells #[.int .i64 4, .int .i64 r, .int .i64 k, .int .i64 n, .string s, .slice b ll cap] 35) (.cells #[.nilIface, .int .i64 0, .int .i64 0] 87)
  have G1 := two_new0 w (.cells #[.int .i64 4, .int .i64 r, .int .i64 k, .int .i64 n, .string s, .slice b ll cap] 35) (.cells #[.nilIface, .int .i64 0, .int .i64 0] 87)
  obtain ⟨V, hV⟩ : ∃ V, w.alloc (.cells #[.int .i64 4, .int .i64 r, .int .i64 k, .int .i64 n, .string s, .slice b ll cap] 35) = V := ⟨_, rfl⟩
  have vsz : w.heap.size + 1 = V.heap.size := by rw [← hV]; simp
  rw [vsz, hV] at G2
  rw [hV] at G1
  obtain ⟨W, hW⟩ : ∃ W, V.alloc (.cells #[.nilIface, .int .i64 0, .int .i64 0] 87) = W := ⟨_, rfl⟩
  rw [hW] at G1 G2
  obtain ⟨G2, hbW⟩ := G2
  have l1 : w.heap.size < W.heap.size := (Array.getElem?_eq_some_iff.1 G1).1
  have l2 : V.heap.size < W.heap.size := (Array.getElem?_eq_some_iff.1 G2).1
  have BY := hide (fun y : Sub W.heap.size W => hbW.trans (y.h.mono hbW.size))
  have RY := hide (fun y : Sub W.heap.size W => (y.h.block _ l2).trans G2)
  have VL := hide (show w.heap.size ≤ V.heap.size by omega)
  have ne := Sub.ne W.heap.size W
  have HZ := hide (Nat.le_refl W.heap.size)
  have E0 : ∀ y : Sub W.heap.size W, y.w.cell? ⟨w.heap.size, 0, none⟩ = some (.int .i64 4) := fun y => (y.h.cell (p := ⟨w.heap.size, 0, none⟩) l1).trans (Lib.cell_of_heap G1 0)
  have E1 : ∀ y : Sub W.heap.size W, y.w.cell? ⟨w.heap.size, 1, none⟩ = some (.int .i64 r) := fun y => (y.h.cell (p := ⟨w.heap.size, 1, none⟩) l1).trans (Lib.cell_of_heap G1 1)
  have E2 : ∀ y : Sub W.heap.size W, y.w.cell? ⟨w.heap.size, 2, none⟩ = some (.int .i64 k) := fun y => (y.h.cell (p := ⟨w.heap.size, 2, none⟩) l1).trans (Lib.cell_of_heap G1 2)
  have E3 : ∀ y : Sub W.heap.size W, y.w.cell? ⟨w.heap.size, 3, none⟩ = some (.int .i64 n) := fun y => (y.h.cell (p := ⟨w.heap.size, 3, none⟩) l1).trans (Lib.cell_of_heap G1 3)
  have E4 : ∀ y : Sub W.heap.size W, y.w.cell? ⟨w.heap.size, 4, none⟩ = some (.string s) := fun y => (y.h.cell (p := ⟨w.heap.size, 4, none⟩) l1).trans (Lib.cell_of_heap G1 4)
  have E5 : ∀ y : Sub W.heap.size W, y.w.cell? ⟨w.heap.size, 5, none⟩ = some (.slice b ll cap) := fun y => (y.h.cell (p := ⟨w.heap.size, 5, none⟩) l1).trans (Lib.cell_of_heap G1 5)
  have T0 : ∀ y : Sub W.heap.size W, y.w.cell? ⟨3, 4, none⟩ = some (.string ⟨#[45, 40, 82, 41]⟩) := fun y => (hf.next (unhide BY y)).at4
  obtain ⟨y0, hy0⟩ : ∃ z : Sub W.heap.size W, W = z.w := ⟨⟨W, Below.refl _ _⟩, rfl⟩
  rw [hy0] at hW
  clear l1 l2 vsz hbW hy0
  have PY := hide (fun y : Sub W.heap.size W => unhide P y.w)
  clear P hf
  by_cases h0 : r < 0
  · have F2 := hide (fun r0 w' u f0 g => unhide FN r0 w' u f0 g false (by rw [inB_f r 0 7 (by omega)]; rfl))
    clear FN PY
    go_enter Tryz.func81, Tryz.ntmps81
    go_wp2_with (first | (go_at_call 90; refine (cntI _ _ _).mono ?_; rintro e w' ⟨rfl, hw'⟩; rw [hw']; clear hw' w'; (try rw [cR]); (try rw [cE])) | (refine wpList_store_row rfl 87 _ _ rfl V.heap.size #[.nilIface, .int .i64 0, .int .i64 0] rfl rfl 87 _ (unhide RY _) szOp rfl (op_one (.inl rfl) 0 0) ?_))
    refine bodyPost_ret (results_row2 (P := Tryz.prog) rfl _ _ V.heap.size 87 #[.nilIface, .int .i64 0, .int .i64 0] (0, 0) _ rfl (setRow_heap _ _ _ _ _ _ (unhide RY _)) Tryz.underlying87 rfl szOp) rfl ?_
    exact unhide F2 _ _ _ _ _ rfl (.inl rfl) (fun h => by cases h) (below_rowG (unhide BY _) (unhide VL))
  by_cases h7 : 7 < r
  · have F2 := hide (fun r0 w' u f0 g => unhide FN r0 w' u f0 g false (by rw [inB_f r 0 7 (by omega)]; rfl))
    clear FN PY
    go_enter Tryz.func81, Tryz.ntmps81
    go_wp2_with (first | (go_at_call 90; refine (cntI _ _ _).mono ?_; rintro e w' ⟨rfl, hw'⟩; rw [hw']; clear hw' w'; (try rw [cR]); (try rw [cE])) | (refine wpList_store_row rfl 87 _ _ rfl V.heap.size #[.nilIface, .int .i64 0, .int .i64 0] rfl rfl 87 _ (unhide RY _) szOp rfl (op_one (.inl rfl) 0 0) ?_))
    refine bodyPost_ret (results_row2 (P := Tryz.prog) rfl _ _ V.heap.size 87 #[.nilIface, .int .i64 0, .int .i64 0] (0, 0) _ rfl (setRow_heap _ _ _ _ _ _ (unhide RY _)) Tryz.underlying87 rfl szOp) rfl ?_
    exact unhide F2 _ _ _ _ _ rfl (.inl rfl) (fun h => by cases h) (below_rowG (unhide BY _) (unhide VL))
  have F2 := hide (fun r0 w' u f0 g => unhide FN r0 w' u f0 g q (by rw [inB_t r 0 7 (by omega) (by omega)]; rfl))
  clear FN
  obtain ⟨y1, hy1⟩ := Sub.step (unhide HZ) (below_new y0.w (.cells #[.nilIface, .int .i64 4, .int .i64 r] 87))
  have O1 := hide (show y1.w.heap[y0.w.heap.size]? = some (.cells #[.nilIface, .int .i64 4, .int .i64 r] 87 (0, 0)) by rw [← hy1]; exact Array.getElem?_push_size)
  have NO := hide (show V.heap.size ≠ y0.w.heap.size by have := (Array.getElem?_eq_some_iff.1 (unhide RY y0)).1; omega)
  have NA := hide (show V.heap.size ≠ w.heap.size by rw [← hV]; simp)
  have AY := hide (fun y : Sub W.heap.size W => (y.h.block _ (Array.getElem?_eq_some_iff.1 G1).1).trans G1)
  clear G1 G2
  go_enter Tryz.func81, Tryz.ntmps81
  go_wp2_with (first | (go_at_call 90; refine (cntI _ _ _).mono ?_; rintro e w' ⟨rfl, hw'⟩; rw [hw']; clear hw' w'; (try rw [cR]); (try rw [cE])))
  obtain ⟨y2, hy2⟩ := Sub.step (unhide HZ) (below_drew (w := y1.w))
  have O2 := hide (show y2.w.heap[y0.w.heap.size]? = some (.cells #[.nilIface, .int .i64 4, .int .i64 r] 87 (0, 0)) by rw [← hy2]; exact row_keep (unhide O1) below_drew)
  have D0 := hide (show (fun w' => w'.heap[w.heap.size]? = some (.cells #[.int .i64 4, .int .i64 r, .int .i64 k, .int .i64 n, .string s, .slice b ll cap] 35 (0, 0)) ∧ w'.heap[y0.w.heap.size]? = some (.cells #[.nilIface, .int .i64 4, .int .i64 r] 87 (0, 0))) y1.w.drew by rw [hy2]; exact ⟨unhide AY y2, unhide O2⟩)
  refine wp_region_held_drew (S := fun w' => w'.heap[w.heap.size]? = some (.cells #[.int .i64 4, .int .i64 r, .int .i64 k, .int .i64 n, .string s, .slice b ll cap] 35 (0, 0)) ∧ w'.heap[y0.w.heap.size]? = some (.cells #[.nilIface, .int .i64 4, .int .i64 r] 87 (0, 0))) (by kernel_rfl) (unhide D0) (fun hS => ?_)
  have HS := hide hS
  clear hS D0 O1
  rw [hy2] at HS ⊢
  refine wpAnyH_take (i := 0) (v := .agg #[.nilIface, .int .i64 4, .int .i64 r]) rfl (by kernel_rfl) (by kernel_rfl) (by kernel_rfl) (fun _ _ _ h => h) (yields_loadG (by rfl) 87 _ rfl y0.w.heap.size rfl 87 #[.nilIface, .int .i64 4, .int .i64 r] _ (fun w h => h.2) Tryz.underlying87 rfl (by kernel_rfl)) (unhide HS) ?_
  go_simp
  refine wpAnyH_take (i := 1) (v := .pointer (some ⟨w.heap.size, 2, none⟩)) rfl (by kernel_rfl) (by kernel_rfl) (by kernel_rfl) (fun _ _ _ h => h) (Or.inl ⟨by rfl, fun w hc => ?_⟩) (unhide HS) ?_
  · clear hc; go_simp
  go_simp
  refine wpAnyH_take (i := 2) (v := .agg #[.int .i64 k, .int .i64 n, .string s, .slice b ll cap]) rfl (by kernel_rfl) (by kernel_rfl) (by kernel_rfl) (fun _ _ _ h => h) (Or.inl ⟨by rfl, fun w hc => ?_⟩) (unhide HS) ?_
  · have q2 := Lib.cell_of_heap hc.1 2; have q3 := Lib.cell_of_heap hc.1 3; have q4 := Lib.cell_of_heap hc.1 4; have q5 := Lib.cell_of_heap hc.1 5; clear hc; go_simp
  go_simp
  refine wpAnyH_ready (rs := [3]) (by kernel_rfl) (by simp) ?_
  refine AllReadyH.cons rfl (fun K2 hK => ?_) AllReadyH.nil
  go_simp
  refine (unhide PY y2).mono ?_
  rintro r w3 ⟨rfl, hb⟩
  have O3 := hide (row_keep (unhide O2) hb)
  obtain ⟨y3, rfl⟩ := Sub.step (unhide HZ) hb
  clear hb O2
  refine hK.out _ _ (⟨unhide AY y3, unhide O3⟩) (fun hS => ?_)
  clear HS
  have HS := hide hS
  clear hS hK K2
  refine wpAnyH_ready (rs := [4]) (by kernel_rfl) (by simp) ?_
  refine AllReadyH.cons rfl (fun K2 hK => ?_) AllReadyH.nil
  rw [if_pos (by rfl)]
  refine wp_store_row 87 _ _ rfl V.heap.size #[.nilIface, .int .i64 4, .int .i64 r] rfl rfl 87 _ (unhide RY y3) szOp rfl (op_one (.inl rfl) 4 r) ?_
  refine hK.out _ _ (⟨(setRow_other _ _ _ _ (unhide NA).symm).trans (unhide AY y3), (setRow_other _ _ _ _ (unhide NO).symm).trans (unhide O3)⟩) (fun hS => ?_)
  clear HS
  have HS := hide hS
  clear hS hK K2
  refine wpAnyH_take (i := 5) (v := .bool q) rfl (by kernel_rfl) (by kernel_rfl) (by kernel_rfl) (fun _ _ _ h => h) (Or.inl ⟨by rfl, fun w hc => ?_⟩) (unhide HS) ?_
  · clear hc; go_simp
  go_simp
  refine wpAnyH_done (by kernel_rfl) ?_ _
  clear HS
  go_wp2
  refine bodyPost_ret (results_row2 (P := Tryz.prog) rfl _ _ V.heap.size 87 #[.nilIface, .int .i64 4, .int .i64 r] (0, 0) _ rfl (setRow_heap _ _ _ _ _ _ (unhide RY _)) Tryz.underlying87 rfl szOp) rfl ?_
  exact unhide F2 _ _ _ _ _ rfl (.inl rfl) (fun _ => ⟨rfl, rfl, rfl⟩) (below_rowG (unhide BY y3) (unhide VL))
set_option maxHeartbeats 4000000 in
theorem opd_5 (r : Int) (e : Ex) (b : Option Addr) (cap : Nat) (w : World) (hr : RdX w 0 e b) (hz : e.sz ≤ 1048576) (ht : TabK w) (hf : TabF w) : Calls Tryz.prog 81 #[.agg ((Ag.mk 5 r e).cs b cap)] w (OpdR ⟨5, r, e⟩ w) := by
  have hsz := sz_is e
  have cR : cntB ⟨#[64, 45, 40, 82, 41]⟩ 82 = true := by decide
  have cE : cntB ⟨#[64, 45, 40, 82, 41]⟩ 69 = false := by decide
  have P := hide (fun w' => zroI e.k e.n e.s e.l.length (by omega) (by omega) b cap w')
  rw [show zroV e.k e.n e.s e.l.length = zroX e from rfl] at P
  have V : agX ⟨5, r, e⟩ = (inB r 0 7 && zroX e) := by unfold agX; rfl
  have U : opU ⟨5, r, e⟩ = .nilIface := by unfold opU; rfl
  have FN := hide (fun r0 w' u f0 g q (h : (inB r 0 7 && zroX e) = q) (hr : r0 = .returned (.tuple #[.agg #[u, .int .i64 f0, .int .i64 g], .bool q])) (hu : IfV u) (hv : q = true → u = .nilIface ∧ f0 = 5 ∧ g = r) => opdR_of (w := w) (r := r0) (w' := w') (u := u) (f := f0) (g := g) (V.trans h) hr hu (fun x => by rw [U]; exact hv x))
  clear V U hr ht hsz hz
  generalize OpdR ⟨5, r, e⟩ w = R at *
  generalize zroX e = q at *
  unfold Ag.cs
  simp only
  generalize e.k = k at *
  generalize e.n = n at *
  generalize e.s = s at *
  generalize e.l.length = ll at *
  have G2 := two_new w (.cells #[.int .i64 5, .int .i64 r, .int .i64 k, .int .i64 n, .string s, .slice b ll cap] 35) (.cells #[.nilIface, .int .i64 0, .int .i64 0] 87)
  have G1 := two_new0 w (.cells #[.int .i64 5, .int .i64 r, .int .i64 k, .int .i64 n, .string s, .slice b ll cap] 35) (.cells #[.nilIface, .int .i64 0, .int .i64 0] 87)
  obtain ⟨V, hV⟩ : ∃ V, w.alloc (.cells #[.int .i64 5, .int .i64 r, .int .i64 k, .int .i64 n, .string s, .slice b ll cap] 35) = V := ⟨_, rfl⟩
  have vsz : w.heap.size + 1 = V.heap.size := by rw [← hV]; simp
  rw [vsz, hV] at G2
  rw [hV] at G1
  obtain ⟨W, hW⟩ : ∃ W, V.alloc (.cells #[.nilIface, .int .i64 0, .int .i64 0] 87) = W := ⟨_, rfl⟩
  rw [hW] at G1 G2
  obtain ⟨G2, hbW⟩ := G2
  have l1 : w.heap.size < W.heap.size := (Array.getElem?_eq_some_iff.1 G1).1
  have l2 : V.heap.size < W.heap.size := (Array.getElem?_eq_some_iff.1 G2).1
  have BY := hide (fun y : Sub W.heap.size W => hbW.trans (y.h.mono hbW.size))
  have RY := hide (fun y : Sub W.heap.size W => (y.h.block _ l2).trans G2)
  have VL := hide (show w.heap.size ≤ V.heap.size by omega)
  have ne := Sub.ne W.heap.size W
  have HZ := hide (Nat.le_refl W.heap.size)
  have E0 : ∀ y : Sub W.heap.size W, y.w.cell? ⟨w.heap.size, 0, none⟩ = some (.int .i64 5) := fun y => (y.h.cell (p := ⟨w.heap.size, 0, none⟩) l1).trans (Lib.cell_of_heap G1 0)
  have E1 : ∀ y : Sub W.heap.size W, y.w.cell? ⟨w.heap.size, 1, none⟩ = some (.int .i64 r) := fun y => (y.h.cell (p := ⟨w.heap.size, 1, none⟩) l1).trans (Lib.cell_of_heap G1 1)
  have E2 : ∀ y : Sub W.heap.size W, y.w.cell? ⟨w.heap.size, 2, none⟩ = some (.int .i64 k) := fun y => (y.h.cell (p := ⟨w.heap.size, 2, none⟩) l1).trans (Lib.cell_of_heap G1 2)
  have E3 : ∀ y : Sub W.heap.size W, y.w.cell? ⟨w.heap.size, 3, none⟩ = some (.int .i64 n) := fun y => (y.h.cell (p := ⟨w.heap.size, 3, none⟩) l1).trans (Lib.cell_of_heap G1 3)
  have E4 : ∀ y : Sub W.heap.size W, y.w.cell? ⟨w.heap.size, 4, none⟩ = some (.string s) := fun y => (y.h.cell (p := ⟨w.heap.size, 4, none⟩) l1).trans (Lib.cell_of_heap G1 4)
  have E5 : ∀ y : Sub W.heap.size W, y.w.cell? ⟨w.heap.size, 5, none⟩ = some (.slice b ll cap) := fun y => (y.h.cell (p := ⟨w.heap.size, 5, none⟩) l1).trans (Lib.cell_of_heap G1 5)
  have T0 : ∀ y : Sub W.heap.size W, y.w.cell? ⟨3, 5, none⟩ = some (.string ⟨#[64, 45, 40, 82, 41]⟩) := fun y => (hf.next (unhide BY y)).at5
  obtain ⟨y0, hy0⟩ : ∃ z : Sub W.heap.size W, W = z.w := ⟨⟨W, Below.refl _ _⟩, rfl⟩
  rw [hy0] at hW
  clear l1 l2 vsz hbW hy0
  have PY := hide (fun y : Sub W.heap.size W => unhide P y.w)
  clear P hf
  by_cases h0 : r < 0
  · have F2 := hide (fun r0 w' u f0 g => unhide FN r0 w' u f0 g false (by rw [inB_f r 0 7 (by omega)]; rfl))
    clear FN PY
    go_enter Tryz.func81, Tryz.ntmps81
    go_wp2_with (first | (go_at_call 90; refine (cntI _ _ _).mono ?_; rintro e w' ⟨rfl, hw'⟩; rw [hw']; clear hw' w'; (try rw [cR]); (try rw [cE])) | (refine wpList_store_row rfl 87 _ _ rfl V.heap.size #[.nilIface, .int .i64 0, .int .i64 0] rfl rfl 87 _ (unhide RY _) szOp rfl (op_one (.inl rfl) 0 0) ?_))
    refine bodyPost_ret (results_row2 (P := Tryz.prog) rfl _ _ V.heap.size 87 #[.nilIface, .int .i64 0, .int .i64 0] (0, 0) _ rfl (setRow_heap _ _ _ _ _ _ (unhide RY _)) Tryz.underlying87 rfl szOp) rfl ?_
    exact unhide F2 _ _ _ _ _ rfl (.inl rfl) (fun h => by cases h) (below_rowG (unhide BY _) (unhide VL))
  by_cases h7 : 7 < r
  · have F2 := hide (fun r0 w' u f0 g => unhide FN r0 w' u f0 g false (by rw [inB_f r 0 7 (by omega)]; rfl))
    clear FN PY
    go_enter Tryz.func81, Tryz.ntmps81
    go_wp2_with (first | (go_at_call 90; refine (cntI _ _ _).mono ?_; rintro e w' ⟨rfl, hw'⟩; rw [hw']; clear hw' w'; (try rw [cR]); (try rw [cE])) | (refine wpList_store_row rfl 87 _ _ rfl V.heap.size #[.nilIface, .int .i64 0, .int .i64 0] rfl rfl 87 _ (unhide RY _) szOp rfl (op_one (.inl rfl) 0 0) ?_))
    refine bodyPost_ret (results_row2 (P := Tryz.prog) rfl _ _ V.heap.size 87 #[.nilIface, .int .i64 0, .int .i64 0] (0, 0) _ rfl (setRow_heap _ _ _ _ _ _ (unhide RY _)) Tryz.underlying87 rfl szOp) rfl ?_
    exact unhide F2 _ _ _ _ _ rfl (.inl rfl) (fun h => by cases h) (below_rowG (unhide BY _) (unhide VL))
  have F2 := hide (fun r0 w' u f0 g => unhide FN r0 w' u f0 g q (by rw [inB_t r 0 7 (by omega) (by omega)]; rfl))
  clear FN
  obtain ⟨y1, hy1⟩ := Sub.step (unhide HZ) (below_new y0.w (.cells #[.nilIface, .int .i64 5, .int .i64 r] 87))
  have O1 := hide (show y1.w.heap[y0.w.heap.size]? = some (.cells #[.nilIface, .int .i64 5, .int .i64 r] 87 (0, 0)) by rw [← hy1]; exact Array.getElem?_push_size)
  have NO := hide (show V.heap.size ≠ y0.w.heap.size by have := (Array.getElem?_eq_some_iff.1 (unhide RY y0)).1; omega)
  have NA := hide (show V.heap.size ≠ w.heap.size by rw [← hV]; simp)
  have AY := hide (fun y : Sub W.heap.size W => (y.h.block _ (Array.getElem?_eq_some_iff.1 G1).1).trans G1)
  clear G1 G2
  go_enter Tryz.func81, Tryz.ntmps81
  go_wp2_with (first | (go_at_call 90; refine (cntI _ _ _).mono ?_; rintro e w' ⟨rfl, hw'⟩; rw [hw']; clear hw' w'; (try rw [cR]); (try rw [cE])))
  obtain ⟨y2, hy2⟩ := Sub.step (unhide HZ) (below_drew (w := y1.w))
  have O2 := hide (show y2.w.heap[y0.w.heap.size]? = some (.cells #[.nilIface, .int .i64 5, .int .i64 r] 87 (0, 0)) by rw [← hy2]; exact row_keep (unhide O1) below_drew)
  have D0 := hide (show (fun w' => w'.heap[w.heap.size]? = some (.cells #[.int .i64 5, .int .i64 r, .int .i64 k, .int .i64 n, .string s, .slice b ll cap] 35 (0, 0)) ∧ w'.heap[y0.w.heap.size]? = some (.cells #[.nilIface, .int .i64 5, .int .i64 r] 87 (0, 0))) y1.w.drew by rw [hy2]; exact ⟨unhide AY y2, unhide O2⟩)
  refine wp_region_held_drew (S := fun w' => w'.heap[w.heap.size]? = some (.cells #[.int .i64 5, .int .i64 r, .int .i64 k, .int .i64 n, .string s, .slice b ll cap] 35 (0, 0)) ∧ w'.heap[y0.w.heap.size]? = some (.cells #[.nilIface, .int .i64 5, .int .i64 r] 87 (0, 0))) (by kernel_rfl) (unhide D0) (fun hS => ?_)
  have HS := hide hS
  clear hS D0 O1
  rw [hy2] at HS ⊢
  refine wpAnyH_take (i := 0) (v := .agg #[.nilIface, .int .i64 5, .int .i64 r]) rfl (by kernel_rfl) (by kernel_rfl) (by kernel_rfl) (fun _ _ _ h => h) (yields_loadG (by rfl) 87 _ rfl y0.w.heap.size rfl 87 #[.nilIface, .int .i64 5, .int .i64 r] _ (fun w h => h.2) Tryz.underlying87 rfl (by kernel_rfl)) (unhide HS) ?_
  go_simp
  refine wpAnyH_take (i := 1) (v := .pointer (some ⟨w.heap.size, 2, none⟩)) rfl (by kernel_rfl) (by kernel_rfl) (by kernel_rfl) (fun _ _ _ h => h) (Or.inl ⟨by rfl, fun w hc => ?_⟩) (unhide HS) ?_
  · clear hc; go_simp
  go_simp
  refine wpAnyH_take (i := 2) (v := .agg #[.int .i64 k, .int .i64 n, .string s, .slice b ll cap]) rfl (by kernel_rfl) (by kernel_rfl) (by kernel_rfl) (fun _ _ _ h => h) (Or.inl ⟨by rfl, fun w hc => ?_⟩) (unhide HS) ?_
  · have q2 := Lib.cell_of_heap hc.1 2; have q3 := Lib.cell_of_heap hc.1 3; have q4 := Lib.cell_of_heap hc.1 4; have q5 := Lib.cell_of_heap hc.1 5; clear hc; go_simp
  go_simp
  refine wpAnyH_ready (rs := [3]) (by kernel_rfl) (by simp) ?_
  refine AllReadyH.cons rfl (fun K2 hK => ?_) AllReadyH.nil
  go_simp
  refine (unhide PY y2).mono ?_
  rintro r w3 ⟨rfl, hb⟩
  have O3 := hide (row_keep (unhide O2) hb)
  obtain ⟨y3, rfl⟩ := Sub.step (unhide HZ) hb
  clear hb O2
  refine hK.out _ _ (⟨unhide AY y3, unhide O3⟩) (fun hS => ?_)
  clear HS
  have HS := hide hS
  clear hS hK K2
  refine wpAnyH_ready (rs := [4]) (by kernel_rfl) (by simp) ?_
  refine AllReadyH.cons rfl (fun K2 hK => ?_) AllReadyH.nil
  rw [if_pos (by rfl)]
  refine wp_store_row 87 _ _ rfl V.heap.size #[.nilIface, .int .i64 5, .int .i64 r] rfl rfl 87 _ (unhide RY y3) szOp rfl (op_one (.inl rfl) 5 r) ?_
  refine hK.out _ _ (⟨(setRow_other _ _ _ _ (unhide NA).symm).trans (unhide AY y3), (setRow_other _ _ _ _ (unhide NO).symm).trans (unhide O3)⟩) (fun hS => ?_)
  clear HS
  have HS := hide hS
  clear hS hK K2
  refine wpAnyH_take (i := 5) (v := .bool q) rfl (by kernel_rfl) (by kernel_rfl) (by kernel_rfl) (fun _ _ _ h => h) (Or.inl ⟨by rfl, fun w hc => ?_⟩) (unhide HS) ?_
  · clear hc; go_simp
  go_simp
  refine wpAnyH_done (by kernel_rfl) ?_ _
  clear HS
  go_wp2
  refine bodyPost_ret (results_row2 (P := Tryz.prog) rfl _ _ V.heap.size 87 #[.nilIface, .int .i64 5, .int .i64 r] (0, 0) _ rfl (setRow_heap _ _ _ _ _ _ (unhide RY _)) Tryz.underlying87 rfl szOp) rfl ?_
  exact unhide F2 _ _ _ _ _ rfl (.inl rfl) (fun _ => ⟨rfl, rfl, rfl⟩) (below_rowG (unhide BY y3) (unhide VL))
end Go.Proofs.YtmhcbehplhfgfaaGreatDoor
