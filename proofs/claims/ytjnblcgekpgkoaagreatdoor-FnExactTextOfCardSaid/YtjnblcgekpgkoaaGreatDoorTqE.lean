/- Contracts over this seat's translation, laid together; conditions stand as hypotheses of each. -/
import Derived.Test.YtjnblcgekpgkoaaGreatDoorTqD
namespace Go.Proofs.YtjnblcgekpgkoaaGreatDoor
open Go.ChangeShapes Go.WideShapes Go.ChangeAt Go.RowKit
set_option maxHeartbeats 16000000
set_option linter.unusedVariables false
set_option maxRecDepth 8000
set_option linter.unusedSimpArgs false
def opU (a : Ag) : Value := if 6 ≤ a.f then tv a.e else .nilIface
def OpdR (a : Ag) (w : World) (r : Ending) (w' : World) : Prop := ∃ u f g, r = .returned (.tuple #[.agg #[u, .int .i64 f, .int .i64 g], .bool (agX a)]) ∧ (IfV u ∧ (agX a = true → u = opU a ∧ f = a.f ∧ g = a.r)) ∧ Below w.heap.size w w'
theorem opdR_of {a : Ag} {w : World} {r : Ending} {w' : World} {u : Value} {f g : Int} {q : Bool} (h : agX a = q) (hr : r = .returned (.tuple #[.agg #[u, .int .i64 f, .int .i64 g], .bool q])) (hu : IfV u) (hv : q = true → u = opU a ∧ f = a.f ∧ g = a.r) (hb : Below w.heap.size w w') : OpdR a w r w' := ⟨u, f, g, by rw [h]; exact hr, ⟨hu, fun x => hv (h.symm.trans x)⟩, hb⟩
theorem below_rowG {w w' : World} {B g : Nat} {cs : Array Value} (h : Below B w w') (hg : B ≤ g) : Below B w (w'.setRow g cs) :=
 h.trans ⟨rfl, rfl, rfl, by simp [World.setRow], fun k hk => setRow_other _ _ _ _ (by omega)⟩
theorem szOp : (Tryz.prog.info? 85).map (·.size) = some 3 := by kernel_rfl
theorem op_one {u : Value} (h : IfV u) (f g : Int) : (#[u, .int .i64 f, .int .i64 g] : Array Value).all (·.oneCell') = true := by rcases h with rfl | ⟨t, x, rfl⟩ <;> simp [Value.oneCell']
theorem two_new0 (w : World) (o1 o2 : Obj) : ((w.alloc o1).alloc o2).heap[w.heap.size]? = some o1 := by
 have h : (w.alloc o1).heap[w.heap.size]? = some o1 := Array.getElem?_push_size
 exact ((below_new (w.alloc o1) o2).block _ (Array.getElem?_eq_some_iff.1 h).1).trans h
theorem opd_no (f r : Int) (e : Ex) (b : Option Addr) (cap : Nat) (w : World) (hf : f < 0 ∨ 11 < f) : Calls Tryz.prog 57 #[.agg ((Ag.mk f r e).cs b cap)] w (OpdR ⟨f, r, e⟩ w) := by
 have V := hide (show agX ⟨f, r, e⟩ = false by
  unfold agX
  simp only
  rw [inB_f f 0 5 (by omega), inB_f f 8 11 (by omega), beq_eq_false_iff_ne.2 (show f ≠ 6 by omega), beq_eq_false_iff_ne.2 (show f ≠ 7 by omega)]
  rfl)
 have FN := hide (fun r0 w' u f0 g => opdR_of (w := w) (r := r0) (w' := w') (u := u) (f := f0) (g := g) (uh V))
 generalize OpdR ⟨f, r, e⟩ w = R at *
 unfold Ag.cs
 simp only
 clear V
 generalize e.k = k at *
 generalize e.n = n at *
 generalize e.s = s at *
 generalize e.l.length = ll at *
 have G2 := two_new w (.cells #[.int .i64 f, .int .i64 r, .int .i64 k, .int .i64 n, .string s, .slice b ll cap] 28) (.cells #[.nilIface, .int .i64 0, .int .i64 0] 85)
 have G1 := two_new0 w (.cells #[.int .i64 f, .int .i64 r, .int .i64 k, .int .i64 n, .string s, .slice b ll cap] 28) (.cells #[.nilIface, .int .i64 0, .int .i64 0] 85)
 obtain ⟨V, hV⟩ : ∃ V, w.alloc (.cells #[.int .i64 f, .int .i64 r, .int .i64 k, .int .i64 n, .string s, .slice b ll cap] 28) = V := ⟨_, rfl⟩
 have vsz : w.heap.size + 1 = V.heap.size := by rw [← hV]; simp
 rw [vsz, hV] at G2
 rw [hV] at G1
 obtain ⟨W, hW⟩ : ∃ W, V.alloc (.cells #[.nilIface, .int .i64 0, .int .i64 0] 85) = W := ⟨_, rfl⟩
 rw [hW] at G1 G2
 obtain ⟨G2, hbW⟩ := G2
 have l1 : w.heap.size < W.heap.size := (Array.getElem?_eq_some_iff.1 G1).1
 have l2 : V.heap.size < W.heap.size := (Array.getElem?_eq_some_iff.1 G2).1
 have BY := hide (fun y : Sub W.heap.size W => hbW.trans (y.h.mono hbW.size))
 have RY := hide (fun y : Sub W.heap.size W => (y.h.block _ l2).trans G2)
 have VL := hide (show w.heap.size ≤ V.heap.size by omega)
 have ne := Sub.ne W.heap.size W
 have HZ := hide (Nat.le_refl W.heap.size)
 have E0 : ∀ y : Sub W.heap.size W, y.w.cell? ⟨w.heap.size, 0, none⟩ = some (.int .i64 f) := fun y => (y.h.cell (p := ⟨w.heap.size, 0, none⟩) l1).trans (Lib.cell_of_heap G1 0)
 have E1 : ∀ y : Sub W.heap.size W, y.w.cell? ⟨w.heap.size, 1, none⟩ = some (.int .i64 r) := fun y => (y.h.cell (p := ⟨w.heap.size, 1, none⟩) l1).trans (Lib.cell_of_heap G1 1)
 have E2 : ∀ y : Sub W.heap.size W, y.w.cell? ⟨w.heap.size, 2, none⟩ = some (.int .i64 k) := fun y => (y.h.cell (p := ⟨w.heap.size, 2, none⟩) l1).trans (Lib.cell_of_heap G1 2)
 have E3 : ∀ y : Sub W.heap.size W, y.w.cell? ⟨w.heap.size, 3, none⟩ = some (.int .i64 n) := fun y => (y.h.cell (p := ⟨w.heap.size, 3, none⟩) l1).trans (Lib.cell_of_heap G1 3)
 have E4 : ∀ y : Sub W.heap.size W, y.w.cell? ⟨w.heap.size, 4, none⟩ = some (.string s) := fun y => (y.h.cell (p := ⟨w.heap.size, 4, none⟩) l1).trans (Lib.cell_of_heap G1 4)
 have E5 : ∀ y : Sub W.heap.size W, y.w.cell? ⟨w.heap.size, 5, none⟩ = some (.slice b ll cap) := fun y => (y.h.cell (p := ⟨w.heap.size, 5, none⟩) l1).trans (Lib.cell_of_heap G1 5)
 obtain ⟨y0, hy0⟩ : ∃ z : Sub W.heap.size W, W = z.w := ⟨⟨W, Below.refl _ _⟩, rfl⟩
 rw [hy0] at hW
 clear l1 l2 vsz hbW hy0
 by_cases h0 : f < 0
 ·
  clear hf
  go_enter Tryz.func57, Tryz.ntmps57
  go_wp2_with (refine wpList_store_row rfl 85 _ _ rfl V.heap.size #[.nilIface, .int .i64 0, .int .i64 0] rfl rfl 85 _ (uh RY _) szOp rfl (op_one (.inl rfl) 0 0) ?_)
  refine bodyPost_ret (results_row2 (P := Tryz.prog) rfl _ _ V.heap.size 85 #[.nilIface, .int .i64 0, .int .i64 0] (0, 0) _ rfl (setRow_heap _ _ _ _ _ _ (uh RY _)) Tryz.underlying85 rfl szOp) rfl ?_
  exact uh FN _ _ _ _ _ rfl (.inl rfl) (fun h => by cases h) (below_rowG (uh BY _) (uh VL))
 ·
  have h11 : 11 < f := by omega
  clear hf
  go_enter Tryz.func57, Tryz.ntmps57
  go_wp2_with (refine wpList_store_row rfl 85 _ _ rfl V.heap.size #[.nilIface, .int .i64 0, .int .i64 0] rfl rfl 85 _ (uh RY _) szOp rfl (op_one (.inl rfl) 0 0) ?_)
  refine bodyPost_ret (results_row2 (P := Tryz.prog) rfl _ _ V.heap.size 85 #[.nilIface, .int .i64 0, .int .i64 0] (0, 0) _ rfl (setRow_heap _ _ _ _ _ _ (uh RY _)) Tryz.underlying85 rfl szOp) rfl ?_
  exact uh FN _ _ _ _ _ rfl (.inl rfl) (fun h => by cases h) (below_rowG (uh BY _) (uh VL))
theorem opd_0 (r : Int) (e : Ex) (b : Option Addr) (cap : Nat) (w : World) (hr : RdX w 0 e b) (hz : e.sz ≤ 1048576) (ht : TabK w) (hf : TabF w) : Calls Tryz.prog 57 #[.agg ((Ag.mk 0 r e).cs b cap)] w (OpdR ⟨0, r, e⟩ w) := by
 have hsz := sz_is e
 have cR : cntB ⟨#[82]⟩ 82 = true := by decide
 have cE : cntB ⟨#[82]⟩ 69 = false := by decide
 have P := hide (fun w' => zroI e.k e.n e.s e.l.length (by omega) (by omega) b cap w')
 rw [show zroV e.k e.n e.s e.l.length = zroX e from rfl] at P
 have V : agX ⟨0, r, e⟩ = (inB r 0 7 && zroX e) := by unfold agX; rfl
 have U : opU ⟨0, r, e⟩ = .nilIface := by unfold opU; rfl
 have FN := hide (fun r0 w' u f0 g q (h : (inB r 0 7 && zroX e) = q) (hr : r0 = .returned (.tuple #[.agg #[u, .int .i64 f0, .int .i64 g], .bool q])) (hu : IfV u) (hv : q = true → u = .nilIface ∧ f0 = 0 ∧ g = r) => opdR_of (w := w) (r := r0) (w' := w') (u := u) (f := f0) (g := g) (V.trans h) hr hu (fun x => by rw [U]; exact hv x))
 clear V U hr ht hsz hz
 generalize OpdR ⟨0, r, e⟩ w = R at *
 generalize zroX e = q at *
 unfold Ag.cs
 simp only
 generalize e.k = k at *
 generalize e.n = n at *
 generalize e.s = s at *
 generalize e.l.length = ll at *
 have G2 := two_new w (.cells #[.int .i64 0, .int .i64 r, .int .i64 k, .int .i64 n, .string s, .slice b ll cap] 28) (.cells #[.nilIface, .int .i64 0, .int .i64 0] 85)
 have G1 := two_new0 w (.cells #[.int .i64 0, .int .i64 r, .int .i64 k, .int .i64 n, .string s, .slice b ll cap] 28) (.cells #[.nilIface, .int .i64 0, .int .i64 0] 85)
 obtain ⟨V, hV⟩ : ∃ V, w.alloc (.cells #[.int .i64 0, .int .i64 r, .int .i64 k, .int .i64 n, .string s, .slice b ll cap] 28) = V := ⟨_, rfl⟩
 have vsz : w.heap.size + 1 = V.heap.size := by rw [← hV]; simp
 rw [vsz, hV] at G2
 rw [hV] at G1
 obtain ⟨W, hW⟩ : ∃ W, V.alloc (.cells #[.nilIface, .int .i64 0, .int .i64 0] 85) = W := ⟨_, rfl⟩
 rw [hW] at G1 G2
 obtain ⟨G2, hbW⟩ := G2
 have l1 : w.heap.size < W.heap.size := (Array.getElem?_eq_some_iff.1 G1).1
 have l2 : V.heap.size < W.heap.size := (Array.getElem?_eq_some_iff.1 G2).1
 have BY := hide (fun y : Sub W.heap.size W => hbW.trans (y.h.mono hbW.size))
 have RY := hide (fun y : Sub W.heap.size W => (y.h.block _ l2).trans G2)
 have VL := hide (show w.heap.size ≤ V.heap.size by omega)
 have ne := Sub.ne W.heap.size W
 have HZ := hide (Nat.le_refl W.heap.size)
 have E0 : ∀ y : Sub W.heap.size W, y.w.cell? ⟨w.heap.size, 0, none⟩ = some (.int .i64 0) := fun y => (y.h.cell (p := ⟨w.heap.size, 0, none⟩) l1).trans (Lib.cell_of_heap G1 0)
 have E1 : ∀ y : Sub W.heap.size W, y.w.cell? ⟨w.heap.size, 1, none⟩ = some (.int .i64 r) := fun y => (y.h.cell (p := ⟨w.heap.size, 1, none⟩) l1).trans (Lib.cell_of_heap G1 1)
 have E2 : ∀ y : Sub W.heap.size W, y.w.cell? ⟨w.heap.size, 2, none⟩ = some (.int .i64 k) := fun y => (y.h.cell (p := ⟨w.heap.size, 2, none⟩) l1).trans (Lib.cell_of_heap G1 2)
 have E3 : ∀ y : Sub W.heap.size W, y.w.cell? ⟨w.heap.size, 3, none⟩ = some (.int .i64 n) := fun y => (y.h.cell (p := ⟨w.heap.size, 3, none⟩) l1).trans (Lib.cell_of_heap G1 3)
 have E4 : ∀ y : Sub W.heap.size W, y.w.cell? ⟨w.heap.size, 4, none⟩ = some (.string s) := fun y => (y.h.cell (p := ⟨w.heap.size, 4, none⟩) l1).trans (Lib.cell_of_heap G1 4)
 have E5 : ∀ y : Sub W.heap.size W, y.w.cell? ⟨w.heap.size, 5, none⟩ = some (.slice b ll cap) := fun y => (y.h.cell (p := ⟨w.heap.size, 5, none⟩) l1).trans (Lib.cell_of_heap G1 5)
 have T0 : ∀ y : Sub W.heap.size W, y.w.cell? ⟨2, 0, none⟩ = some (.string ⟨#[82]⟩) := fun y => (hf.next (uh BY y)).at0
 obtain ⟨y0, hy0⟩ : ∃ z : Sub W.heap.size W, W = z.w := ⟨⟨W, Below.refl _ _⟩, rfl⟩
 rw [hy0] at hW
 clear l1 l2 vsz hbW hy0
 have PY := hide (fun y : Sub W.heap.size W => uh P y.w)
 clear P hf
 by_cases h0 : r < 0
 ·
  have F2 := hide (fun r0 w' u f0 g => uh FN r0 w' u f0 g false (by rw [inB_f r 0 7 (by omega)]; rfl))
  clear FN PY
  go_enter Tryz.func57, Tryz.ntmps57
  go_wp2_with (first | (go_at_call 119; refine (cntI _ _ _).mono ?_; rintro e w' ⟨rfl, hw'⟩; rw [hw']; clear hw' w'; (try rw [cR]); (try rw [cE])) | (refine wpList_store_row rfl 85 _ _ rfl V.heap.size #[.nilIface, .int .i64 0, .int .i64 0] rfl rfl 85 _ (uh RY _) szOp rfl (op_one (.inl rfl) 0 0) ?_))
  refine bodyPost_ret (results_row2 (P := Tryz.prog) rfl _ _ V.heap.size 85 #[.nilIface, .int .i64 0, .int .i64 0] (0, 0) _ rfl (setRow_heap _ _ _ _ _ _ (uh RY _)) Tryz.underlying85 rfl szOp) rfl ?_
  exact uh F2 _ _ _ _ _ rfl (.inl rfl) (fun h => by cases h) (below_rowG (uh BY _) (uh VL))
 by_cases h7 : 7 < r
 ·
  have F2 := hide (fun r0 w' u f0 g => uh FN r0 w' u f0 g false (by rw [inB_f r 0 7 (by omega)]; rfl))
  clear FN PY
  go_enter Tryz.func57, Tryz.ntmps57
  go_wp2_with (first | (go_at_call 119; refine (cntI _ _ _).mono ?_; rintro e w' ⟨rfl, hw'⟩; rw [hw']; clear hw' w'; (try rw [cR]); (try rw [cE])) | (refine wpList_store_row rfl 85 _ _ rfl V.heap.size #[.nilIface, .int .i64 0, .int .i64 0] rfl rfl 85 _ (uh RY _) szOp rfl (op_one (.inl rfl) 0 0) ?_))
  refine bodyPost_ret (results_row2 (P := Tryz.prog) rfl _ _ V.heap.size 85 #[.nilIface, .int .i64 0, .int .i64 0] (0, 0) _ rfl (setRow_heap _ _ _ _ _ _ (uh RY _)) Tryz.underlying85 rfl szOp) rfl ?_
  exact uh F2 _ _ _ _ _ rfl (.inl rfl) (fun h => by cases h) (below_rowG (uh BY _) (uh VL))
 have F2 := hide (fun r0 w' u f0 g => uh FN r0 w' u f0 g q (by rw [inB_t r 0 7 (by omega) (by omega)]; rfl))
 clear FN
 obtain ⟨y1, hy1⟩ := Sub.step (uh HZ) (below_new y0.w (.cells #[.nilIface, .int .i64 0, .int .i64 r] 85))
 have O1 := hide (show y1.w.heap[y0.w.heap.size]? = some (.cells #[.nilIface, .int .i64 0, .int .i64 r] 85 (0, 0)) by rw [← hy1]; exact Array.getElem?_push_size)
 have NO := hide (show V.heap.size ≠ y0.w.heap.size by have := (Array.getElem?_eq_some_iff.1 (uh RY y0)).1; omega)
 have NA := hide (show V.heap.size ≠ w.heap.size by rw [← hV]; simp)
 have AY := hide (fun y : Sub W.heap.size W => (y.h.block _ (Array.getElem?_eq_some_iff.1 G1).1).trans G1)
 clear G1 G2
 go_enter Tryz.func57, Tryz.ntmps57
 go_wp2_with (first | (go_at_call 119; refine (cntI _ _ _).mono ?_; rintro e w' ⟨rfl, hw'⟩; rw [hw']; clear hw' w'; (try rw [cR]); (try rw [cE])))
 obtain ⟨y2, hy2⟩ := Sub.step (uh HZ) (below_drew (w := y1.w))
 have O2 := hide (show y2.w.heap[y0.w.heap.size]? = some (.cells #[.nilIface, .int .i64 0, .int .i64 r] 85 (0, 0)) by rw [← hy2]; exact row_keep (uh O1) below_drew)
 have D0 := hide (show (fun w' => w'.heap[w.heap.size]? = some (.cells #[.int .i64 0, .int .i64 r, .int .i64 k, .int .i64 n, .string s, .slice b ll cap] 28 (0, 0)) ∧ w'.heap[y0.w.heap.size]? = some (.cells #[.nilIface, .int .i64 0, .int .i64 r] 85 (0, 0))) y1.w.drew by rw [hy2]; exact ⟨uh AY y2, uh O2⟩)
 refine wp_region_held_drew (S := fun w' => w'.heap[w.heap.size]? = some (.cells #[.int .i64 0, .int .i64 r, .int .i64 k, .int .i64 n, .string s, .slice b ll cap] 28 (0, 0)) ∧ w'.heap[y0.w.heap.size]? = some (.cells #[.nilIface, .int .i64 0, .int .i64 r] 85 (0, 0))) (by kernel_rfl) (uh D0) (fun hS => ?_)
 have HS := hide hS
 clear hS D0 O1
 rw [hy2] at HS ⊢
 refine tkA 0 (.agg #[.nilIface, .int .i64 0, .int .i64 r]) rfl (yields_loadG (by rfl) 85 _ rfl y0.w.heap.size rfl 85 #[.nilIface, .int .i64 0, .int .i64 r] _ (fun w h => h.2) Tryz.underlying85 rfl (by kernel_rfl)) (uh HS) ?_
 go_simp
 refine tkB 1 (.pointer (some ⟨w.heap.size, 2, none⟩)) rfl (uh HS) ?_
 go_simp
 refine tkA 2 (.agg #[.int .i64 k, .int .i64 n, .string s, .slice b ll cap]) rfl (.inl ⟨by rfl, fun w hc => ?_⟩) (uh HS) ?_
 · have q2 := Lib.cell_of_heap hc.1 2; have q3 := Lib.cell_of_heap hc.1 3; have q4 := Lib.cell_of_heap hc.1 4; have q5 := Lib.cell_of_heap hc.1 5; clear hc; go_simp
 go_simp
 refine wpAnyH_ready (rs := [3]) (by kernel_rfl) (by simp) ?_
 refine AllReadyH.cons rfl (fun K2 hK => ?_) AllReadyH.nil
 go_simp
 refine (uh PY y2).mono ?_
 rintro r w3 ⟨rfl, hb⟩
 have O3 := hide (row_keep (uh O2) hb)
 obtain ⟨y3, rfl⟩ := Sub.step (uh HZ) hb
 clear hb O2
 refine hK.out _ _ (⟨uh AY y3, uh O3⟩) (fun hS => ?_)
 clear HS
 have HS := hide hS
 clear hS hK K2
 refine wpAnyH_ready (rs := [4]) (by kernel_rfl) (by simp) ?_
 refine AllReadyH.cons rfl (fun K2 hK => ?_) AllReadyH.nil
 rw [if_pos (by rfl)]
 refine wp_store_row 85 _ _ rfl V.heap.size #[.nilIface, .int .i64 0, .int .i64 r] rfl rfl 85 _ (uh RY y3) szOp rfl (op_one (.inl rfl) 0 r) ?_
 refine hK.out _ _ (⟨(setRow_other _ _ _ _ (uh NA).symm).trans (uh AY y3), (setRow_other _ _ _ _ (uh NO).symm).trans (uh O3)⟩) (fun hS => ?_)
 clear HS
 have HS := hide hS
 clear hS hK K2
 refine tkB 5 (.bool q) rfl (uh HS) ?_
 go_simp
 refine wpAnyH_done (by kernel_rfl) ?_ _
 clear HS
 go_wp2
 refine bodyPost_ret (results_row2 (P := Tryz.prog) rfl _ _ V.heap.size 85 #[.nilIface, .int .i64 0, .int .i64 r] (0, 0) _ rfl (setRow_heap _ _ _ _ _ _ (uh RY _)) Tryz.underlying85 rfl szOp) rfl ?_
 exact uh F2 _ _ _ _ _ rfl (.inl rfl) (fun _ => ⟨rfl, rfl, rfl⟩) (below_rowG (uh BY y3) (uh VL))
theorem opd_1 (r : Int) (e : Ex) (b : Option Addr) (cap : Nat) (w : World) (hr : RdX w 0 e b) (hz : e.sz ≤ 1048576) (ht : TabK w) (hf : TabF w) : Calls Tryz.prog 57 #[.agg ((Ag.mk 1 r e).cs b cap)] w (OpdR ⟨1, r, e⟩ w) := by
 have hsz := sz_is e
 have cR : cntB ⟨#[40, 82, 41]⟩ 82 = true := by decide
 have cE : cntB ⟨#[40, 82, 41]⟩ 69 = false := by decide
 have P := hide (fun w' => zroI e.k e.n e.s e.l.length (by omega) (by omega) b cap w')
 rw [show zroV e.k e.n e.s e.l.length = zroX e from rfl] at P
 have V : agX ⟨1, r, e⟩ = (inB r 0 7 && zroX e) := by unfold agX; rfl
 have U : opU ⟨1, r, e⟩ = .nilIface := by unfold opU; rfl
 have FN := hide (fun r0 w' u f0 g q (h : (inB r 0 7 && zroX e) = q) (hr : r0 = .returned (.tuple #[.agg #[u, .int .i64 f0, .int .i64 g], .bool q])) (hu : IfV u) (hv : q = true → u = .nilIface ∧ f0 = 1 ∧ g = r) => opdR_of (w := w) (r := r0) (w' := w') (u := u) (f := f0) (g := g) (V.trans h) hr hu (fun x => by rw [U]; exact hv x))
 clear V U hr ht hsz hz
 generalize OpdR ⟨1, r, e⟩ w = R at *
 generalize zroX e = q at *
 unfold Ag.cs
 simp only
 generalize e.k = k at *
 generalize e.n = n at *
 generalize e.s = s at *
 generalize e.l.length = ll at *
 have G2 := two_new w (.cells #[.int .i64 1, .int .i64 r, .int .i64 k, .int .i64 n, .string s, .slice b ll cap] 28) (.cells #[.nilIface, .int .i64 0, .int .i64 0] 85)
 have G1 := two_new0 w (.cells #[.int .i64 1, .int .i64 r, .int .i64 k, .int .i64 n, .string s, .slice b ll cap] 28) (.cells #[.nilIface, .int .i64 0, .int .i64 0] 85)
 obtain ⟨V, hV⟩ : ∃ V, w.alloc (.cells #[.int .i64 1, .int .i64 r, .int .i64 k, .int .i64 n, .string s, .slice b ll cap] 28) = V := ⟨_, rfl⟩
 have vsz : w.heap.size + 1 = V.heap.size := by rw [← hV]; simp
 rw [vsz, hV] at G2
 rw [hV] at G1
 obtain ⟨W, hW⟩ : ∃ W, V.alloc (.cells #[.nilIface, .int .i64 0, .int .i64 0] 85) = W := ⟨_, rfl⟩
 rw [hW] at G1 G2
 obtain ⟨G2, hbW⟩ := G2
 have l1 : w.heap.size < W.heap.size := (Array.getElem?_eq_some_iff.1 G1).1
 have l2 : V.heap.size < W.heap.size := (Array.getElem?_eq_some_iff.1 G2).1
 have BY := hide (fun y : Sub W.heap.size W => hbW.trans (y.h.mono hbW.size))
 have RY := hide (fun y : Sub W.heap.size W => (y.h.block _ l2).trans G2)
 have VL := hide (show w.heap.size ≤ V.heap.size by omega)
 have ne := Sub.ne W.heap.size W
 have HZ := hide (Nat.le_refl W.heap.size)
 have E0 : ∀ y : Sub W.heap.size W, y.w.cell? ⟨w.heap.size, 0, none⟩ = some (.int .i64 1) := fun y => (y.h.cell (p := ⟨w.heap.size, 0, none⟩) l1).trans (Lib.cell_of_heap G1 0)
 have E1 : ∀ y : Sub W.heap.size W, y.w.cell? ⟨w.heap.size, 1, none⟩ = some (.int .i64 r) := fun y => (y.h.cell (p := ⟨w.heap.size, 1, none⟩) l1).trans (Lib.cell_of_heap G1 1)
 have E2 : ∀ y : Sub W.heap.size W, y.w.cell? ⟨w.heap.size, 2, none⟩ = some (.int .i64 k) := fun y => (y.h.cell (p := ⟨w.heap.size, 2, none⟩) l1).trans (Lib.cell_of_heap G1 2)
 have E3 : ∀ y : Sub W.heap.size W, y.w.cell? ⟨w.heap.size, 3, none⟩ = some (.int .i64 n) := fun y => (y.h.cell (p := ⟨w.heap.size, 3, none⟩) l1).trans (Lib.cell_of_heap G1 3)
 have E4 : ∀ y : Sub W.heap.size W, y.w.cell? ⟨w.heap.size, 4, none⟩ = some (.string s) := fun y => (y.h.cell (p := ⟨w.heap.size, 4, none⟩) l1).trans (Lib.cell_of_heap G1 4)
 have E5 : ∀ y : Sub W.heap.size W, y.w.cell? ⟨w.heap.size, 5, none⟩ = some (.slice b ll cap) := fun y => (y.h.cell (p := ⟨w.heap.size, 5, none⟩) l1).trans (Lib.cell_of_heap G1 5)
 have T0 : ∀ y : Sub W.heap.size W, y.w.cell? ⟨2, 1, none⟩ = some (.string ⟨#[40, 82, 41]⟩) := fun y => (hf.next (uh BY y)).at1
 obtain ⟨y0, hy0⟩ : ∃ z : Sub W.heap.size W, W = z.w := ⟨⟨W, Below.refl _ _⟩, rfl⟩
 rw [hy0] at hW
 clear l1 l2 vsz hbW hy0
 have PY := hide (fun y : Sub W.heap.size W => uh P y.w)
 clear P hf
 by_cases h0 : r < 0
 ·
  have F2 := hide (fun r0 w' u f0 g => uh FN r0 w' u f0 g false (by rw [inB_f r 0 7 (by omega)]; rfl))
  clear FN PY
  go_enter Tryz.func57, Tryz.ntmps57
  go_wp2_with (first | (go_at_call 119; refine (cntI _ _ _).mono ?_; rintro e w' ⟨rfl, hw'⟩; rw [hw']; clear hw' w'; (try rw [cR]); (try rw [cE])) | (refine wpList_store_row rfl 85 _ _ rfl V.heap.size #[.nilIface, .int .i64 0, .int .i64 0] rfl rfl 85 _ (uh RY _) szOp rfl (op_one (.inl rfl) 0 0) ?_))
  refine bodyPost_ret (results_row2 (P := Tryz.prog) rfl _ _ V.heap.size 85 #[.nilIface, .int .i64 0, .int .i64 0] (0, 0) _ rfl (setRow_heap _ _ _ _ _ _ (uh RY _)) Tryz.underlying85 rfl szOp) rfl ?_
  exact uh F2 _ _ _ _ _ rfl (.inl rfl) (fun h => by cases h) (below_rowG (uh BY _) (uh VL))
 by_cases h7 : 7 < r
 ·
  have F2 := hide (fun r0 w' u f0 g => uh FN r0 w' u f0 g false (by rw [inB_f r 0 7 (by omega)]; rfl))
  clear FN PY
  go_enter Tryz.func57, Tryz.ntmps57
  go_wp2_with (first | (go_at_call 119; refine (cntI _ _ _).mono ?_; rintro e w' ⟨rfl, hw'⟩; rw [hw']; clear hw' w'; (try rw [cR]); (try rw [cE])) | (refine wpList_store_row rfl 85 _ _ rfl V.heap.size #[.nilIface, .int .i64 0, .int .i64 0] rfl rfl 85 _ (uh RY _) szOp rfl (op_one (.inl rfl) 0 0) ?_))
  refine bodyPost_ret (results_row2 (P := Tryz.prog) rfl _ _ V.heap.size 85 #[.nilIface, .int .i64 0, .int .i64 0] (0, 0) _ rfl (setRow_heap _ _ _ _ _ _ (uh RY _)) Tryz.underlying85 rfl szOp) rfl ?_
  exact uh F2 _ _ _ _ _ rfl (.inl rfl) (fun h => by cases h) (below_rowG (uh BY _) (uh VL))
 have F2 := hide (fun r0 w' u f0 g => uh FN r0 w' u f0 g q (by rw [inB_t r 0 7 (by omega) (by omega)]; rfl))
 clear FN
 obtain ⟨y1, hy1⟩ := Sub.step (uh HZ) (below_new y0.w (.cells #[.nilIface, .int .i64 1, .int .i64 r] 85))
 have O1 := hide (show y1.w.heap[y0.w.heap.size]? = some (.cells #[.nilIface, .int .i64 1, .int .i64 r] 85 (0, 0)) by rw [← hy1]; exact Array.getElem?_push_size)
 have NO := hide (show V.heap.size ≠ y0.w.heap.size by have := (Array.getElem?_eq_some_iff.1 (uh RY y0)).1; omega)
 have NA := hide (show V.heap.size ≠ w.heap.size by rw [← hV]; simp)
 have AY := hide (fun y : Sub W.heap.size W => (y.h.block _ (Array.getElem?_eq_some_iff.1 G1).1).trans G1)
 clear G1 G2
 go_enter Tryz.func57, Tryz.ntmps57
 go_wp2_with (first | (go_at_call 119; refine (cntI _ _ _).mono ?_; rintro e w' ⟨rfl, hw'⟩; rw [hw']; clear hw' w'; (try rw [cR]); (try rw [cE])))
 obtain ⟨y2, hy2⟩ := Sub.step (uh HZ) (below_drew (w := y1.w))
 have O2 := hide (show y2.w.heap[y0.w.heap.size]? = some (.cells #[.nilIface, .int .i64 1, .int .i64 r] 85 (0, 0)) by rw [← hy2]; exact row_keep (uh O1) below_drew)
 have D0 := hide (show (fun w' => w'.heap[w.heap.size]? = some (.cells #[.int .i64 1, .int .i64 r, .int .i64 k, .int .i64 n, .string s, .slice b ll cap] 28 (0, 0)) ∧ w'.heap[y0.w.heap.size]? = some (.cells #[.nilIface, .int .i64 1, .int .i64 r] 85 (0, 0))) y1.w.drew by rw [hy2]; exact ⟨uh AY y2, uh O2⟩)
 refine wp_region_held_drew (S := fun w' => w'.heap[w.heap.size]? = some (.cells #[.int .i64 1, .int .i64 r, .int .i64 k, .int .i64 n, .string s, .slice b ll cap] 28 (0, 0)) ∧ w'.heap[y0.w.heap.size]? = some (.cells #[.nilIface, .int .i64 1, .int .i64 r] 85 (0, 0))) (by kernel_rfl) (uh D0) (fun hS => ?_)
 have HS := hide hS
 clear hS D0 O1
 rw [hy2] at HS ⊢
 refine tkA 0 (.agg #[.nilIface, .int .i64 1, .int .i64 r]) rfl (yields_loadG (by rfl) 85 _ rfl y0.w.heap.size rfl 85 #[.nilIface, .int .i64 1, .int .i64 r] _ (fun w h => h.2) Tryz.underlying85 rfl (by kernel_rfl)) (uh HS) ?_
 go_simp
 refine tkB 1 (.pointer (some ⟨w.heap.size, 2, none⟩)) rfl (uh HS) ?_
 go_simp
 refine tkA 2 (.agg #[.int .i64 k, .int .i64 n, .string s, .slice b ll cap]) rfl (.inl ⟨by rfl, fun w hc => ?_⟩) (uh HS) ?_
 · have q2 := Lib.cell_of_heap hc.1 2; have q3 := Lib.cell_of_heap hc.1 3; have q4 := Lib.cell_of_heap hc.1 4; have q5 := Lib.cell_of_heap hc.1 5; clear hc; go_simp
 go_simp
 refine wpAnyH_ready (rs := [3]) (by kernel_rfl) (by simp) ?_
 refine AllReadyH.cons rfl (fun K2 hK => ?_) AllReadyH.nil
 go_simp
 refine (uh PY y2).mono ?_
 rintro r w3 ⟨rfl, hb⟩
 have O3 := hide (row_keep (uh O2) hb)
 obtain ⟨y3, rfl⟩ := Sub.step (uh HZ) hb
 clear hb O2
 refine hK.out _ _ (⟨uh AY y3, uh O3⟩) (fun hS => ?_)
 clear HS
 have HS := hide hS
 clear hS hK K2
 refine wpAnyH_ready (rs := [4]) (by kernel_rfl) (by simp) ?_
 refine AllReadyH.cons rfl (fun K2 hK => ?_) AllReadyH.nil
 rw [if_pos (by rfl)]
 refine wp_store_row 85 _ _ rfl V.heap.size #[.nilIface, .int .i64 1, .int .i64 r] rfl rfl 85 _ (uh RY y3) szOp rfl (op_one (.inl rfl) 1 r) ?_
 refine hK.out _ _ (⟨(setRow_other _ _ _ _ (uh NA).symm).trans (uh AY y3), (setRow_other _ _ _ _ (uh NO).symm).trans (uh O3)⟩) (fun hS => ?_)
 clear HS
 have HS := hide hS
 clear hS hK K2
 refine tkB 5 (.bool q) rfl (uh HS) ?_
 go_simp
 refine wpAnyH_done (by kernel_rfl) ?_ _
 clear HS
 go_wp2
 refine bodyPost_ret (results_row2 (P := Tryz.prog) rfl _ _ V.heap.size 85 #[.nilIface, .int .i64 1, .int .i64 r] (0, 0) _ rfl (setRow_heap _ _ _ _ _ _ (uh RY _)) Tryz.underlying85 rfl szOp) rfl ?_
 exact uh F2 _ _ _ _ _ rfl (.inl rfl) (fun _ => ⟨rfl, rfl, rfl⟩) (below_rowG (uh BY y3) (uh VL))
theorem opd_2 (r : Int) (e : Ex) (b : Option Addr) (cap : Nat) (w : World) (hr : RdX w 0 e b) (hz : e.sz ≤ 1048576) (ht : TabK w) (hf : TabF w) : Calls Tryz.prog 57 #[.agg ((Ag.mk 2 r e).cs b cap)] w (OpdR ⟨2, r, e⟩ w) := by
 have hsz := sz_is e
 have cR : cntB ⟨#[40, 82, 41, 43]⟩ 82 = true := by decide
 have cE : cntB ⟨#[40, 82, 41, 43]⟩ 69 = false := by decide
 have P := hide (fun w' => zroI e.k e.n e.s e.l.length (by omega) (by omega) b cap w')
 rw [show zroV e.k e.n e.s e.l.length = zroX e from rfl] at P
 have V : agX ⟨2, r, e⟩ = (inB r 0 7 && zroX e) := by unfold agX; rfl
 have U : opU ⟨2, r, e⟩ = .nilIface := by unfold opU; rfl
 have FN := hide (fun r0 w' u f0 g q (h : (inB r 0 7 && zroX e) = q) (hr : r0 = .returned (.tuple #[.agg #[u, .int .i64 f0, .int .i64 g], .bool q])) (hu : IfV u) (hv : q = true → u = .nilIface ∧ f0 = 2 ∧ g = r) => opdR_of (w := w) (r := r0) (w' := w') (u := u) (f := f0) (g := g) (V.trans h) hr hu (fun x => by rw [U]; exact hv x))
 clear V U hr ht hsz hz
 generalize OpdR ⟨2, r, e⟩ w = R at *
 generalize zroX e = q at *
 unfold Ag.cs
 simp only
 generalize e.k = k at *
 generalize e.n = n at *
 generalize e.s = s at *
 generalize e.l.length = ll at *
 have G2 := two_new w (.cells #[.int .i64 2, .int .i64 r, .int .i64 k, .int .i64 n, .string s, .slice b ll cap] 28) (.cells #[.nilIface, .int .i64 0, .int .i64 0] 85)
 have G1 := two_new0 w (.cells #[.int .i64 2, .int .i64 r, .int .i64 k, .int .i64 n, .string s, .slice b ll cap] 28) (.cells #[.nilIface, .int .i64 0, .int .i64 0] 85)
 obtain ⟨V, hV⟩ : ∃ V, w.alloc (.cells #[.int .i64 2, .int .i64 r, .int .i64 k, .int .i64 n, .string s, .slice b ll cap] 28) = V := ⟨_, rfl⟩
 have vsz : w.heap.size + 1 = V.heap.size := by rw [← hV]; simp
 rw [vsz, hV] at G2
 rw [hV] at G1
 obtain ⟨W, hW⟩ : ∃ W, V.alloc (.cells #[.nilIface, .int .i64 0, .int .i64 0] 85) = W := ⟨_, rfl⟩
 rw [hW] at G1 G2
 obtain ⟨G2, hbW⟩ := G2
 have l1 : w.heap.size < W.heap.size := (Array.getElem?_eq_some_iff.1 G1).1
 have l2 : V.heap.size < W.heap.size := (Array.getElem?_eq_some_iff.1 G2).1
 have BY := hide (fun y : Sub W.heap.size W => hbW.trans (y.h.mono hbW.size))
 have RY := hide (fun y : Sub W.heap.size W => (y.h.block _ l2).trans G2)
 have VL := hide (show w.heap.size ≤ V.heap.size by omega)
 have ne := Sub.ne W.heap.size W
 have HZ := hide (Nat.le_refl W.heap.size)
 have E0 : ∀ y : Sub W.heap.size W, y.w.cell? ⟨w.heap.size, 0, none⟩ = some (.int .i64 2) := fun y => (y.h.cell (p := ⟨w.heap.size, 0, none⟩) l1).trans (Lib.cell_of_heap G1 0)
 have E1 : ∀ y : Sub W.heap.size W, y.w.cell? ⟨w.heap.size, 1, none⟩ = some (.int .i64 r) := fun y => (y.h.cell (p := ⟨w.heap.size, 1, none⟩) l1).trans (Lib.cell_of_heap G1 1)
 have E2 : ∀ y : Sub W.heap.size W, y.w.cell? ⟨w.heap.size, 2, none⟩ = some (.int .i64 k) := fun y => (y.h.cell (p := ⟨w.heap.size, 2, none⟩) l1).trans (Lib.cell_of_heap G1 2)
 have E3 : ∀ y : Sub W.heap.size W, y.w.cell? ⟨w.heap.size, 3, none⟩ = some (.int .i64 n) := fun y => (y.h.cell (p := ⟨w.heap.size, 3, none⟩) l1).trans (Lib.cell_of_heap G1 3)
 have E4 : ∀ y : Sub W.heap.size W, y.w.cell? ⟨w.heap.size, 4, none⟩ = some (.string s) := fun y => (y.h.cell (p := ⟨w.heap.size, 4, none⟩) l1).trans (Lib.cell_of_heap G1 4)
 have E5 : ∀ y : Sub W.heap.size W, y.w.cell? ⟨w.heap.size, 5, none⟩ = some (.slice b ll cap) := fun y => (y.h.cell (p := ⟨w.heap.size, 5, none⟩) l1).trans (Lib.cell_of_heap G1 5)
 have T0 : ∀ y : Sub W.heap.size W, y.w.cell? ⟨2, 2, none⟩ = some (.string ⟨#[40, 82, 41, 43]⟩) := fun y => (hf.next (uh BY y)).at2
 obtain ⟨y0, hy0⟩ : ∃ z : Sub W.heap.size W, W = z.w := ⟨⟨W, Below.refl _ _⟩, rfl⟩
 rw [hy0] at hW
 clear l1 l2 vsz hbW hy0
 have PY := hide (fun y : Sub W.heap.size W => uh P y.w)
 clear P hf
 by_cases h0 : r < 0
 ·
  have F2 := hide (fun r0 w' u f0 g => uh FN r0 w' u f0 g false (by rw [inB_f r 0 7 (by omega)]; rfl))
  clear FN PY
  go_enter Tryz.func57, Tryz.ntmps57
  go_wp2_with (first | (go_at_call 119; refine (cntI _ _ _).mono ?_; rintro e w' ⟨rfl, hw'⟩; rw [hw']; clear hw' w'; (try rw [cR]); (try rw [cE])) | (refine wpList_store_row rfl 85 _ _ rfl V.heap.size #[.nilIface, .int .i64 0, .int .i64 0] rfl rfl 85 _ (uh RY _) szOp rfl (op_one (.inl rfl) 0 0) ?_))
  refine bodyPost_ret (results_row2 (P := Tryz.prog) rfl _ _ V.heap.size 85 #[.nilIface, .int .i64 0, .int .i64 0] (0, 0) _ rfl (setRow_heap _ _ _ _ _ _ (uh RY _)) Tryz.underlying85 rfl szOp) rfl ?_
  exact uh F2 _ _ _ _ _ rfl (.inl rfl) (fun h => by cases h) (below_rowG (uh BY _) (uh VL))
 by_cases h7 : 7 < r
 ·
  have F2 := hide (fun r0 w' u f0 g => uh FN r0 w' u f0 g false (by rw [inB_f r 0 7 (by omega)]; rfl))
  clear FN PY
  go_enter Tryz.func57, Tryz.ntmps57
  go_wp2_with (first | (go_at_call 119; refine (cntI _ _ _).mono ?_; rintro e w' ⟨rfl, hw'⟩; rw [hw']; clear hw' w'; (try rw [cR]); (try rw [cE])) | (refine wpList_store_row rfl 85 _ _ rfl V.heap.size #[.nilIface, .int .i64 0, .int .i64 0] rfl rfl 85 _ (uh RY _) szOp rfl (op_one (.inl rfl) 0 0) ?_))
  refine bodyPost_ret (results_row2 (P := Tryz.prog) rfl _ _ V.heap.size 85 #[.nilIface, .int .i64 0, .int .i64 0] (0, 0) _ rfl (setRow_heap _ _ _ _ _ _ (uh RY _)) Tryz.underlying85 rfl szOp) rfl ?_
  exact uh F2 _ _ _ _ _ rfl (.inl rfl) (fun h => by cases h) (below_rowG (uh BY _) (uh VL))
 have F2 := hide (fun r0 w' u f0 g => uh FN r0 w' u f0 g q (by rw [inB_t r 0 7 (by omega) (by omega)]; rfl))
 clear FN
 obtain ⟨y1, hy1⟩ := Sub.step (uh HZ) (below_new y0.w (.cells #[.nilIface, .int .i64 2, .int .i64 r] 85))
 have O1 := hide (show y1.w.heap[y0.w.heap.size]? = some (.cells #[.nilIface, .int .i64 2, .int .i64 r] 85 (0, 0)) by rw [← hy1]; exact Array.getElem?_push_size)
 have NO := hide (show V.heap.size ≠ y0.w.heap.size by have := (Array.getElem?_eq_some_iff.1 (uh RY y0)).1; omega)
 have NA := hide (show V.heap.size ≠ w.heap.size by rw [← hV]; simp)
 have AY := hide (fun y : Sub W.heap.size W => (y.h.block _ (Array.getElem?_eq_some_iff.1 G1).1).trans G1)
 clear G1 G2
 go_enter Tryz.func57, Tryz.ntmps57
 go_wp2_with (first | (go_at_call 119; refine (cntI _ _ _).mono ?_; rintro e w' ⟨rfl, hw'⟩; rw [hw']; clear hw' w'; (try rw [cR]); (try rw [cE])))
 obtain ⟨y2, hy2⟩ := Sub.step (uh HZ) (below_drew (w := y1.w))
 have O2 := hide (show y2.w.heap[y0.w.heap.size]? = some (.cells #[.nilIface, .int .i64 2, .int .i64 r] 85 (0, 0)) by rw [← hy2]; exact row_keep (uh O1) below_drew)
 have D0 := hide (show (fun w' => w'.heap[w.heap.size]? = some (.cells #[.int .i64 2, .int .i64 r, .int .i64 k, .int .i64 n, .string s, .slice b ll cap] 28 (0, 0)) ∧ w'.heap[y0.w.heap.size]? = some (.cells #[.nilIface, .int .i64 2, .int .i64 r] 85 (0, 0))) y1.w.drew by rw [hy2]; exact ⟨uh AY y2, uh O2⟩)
 refine wp_region_held_drew (S := fun w' => w'.heap[w.heap.size]? = some (.cells #[.int .i64 2, .int .i64 r, .int .i64 k, .int .i64 n, .string s, .slice b ll cap] 28 (0, 0)) ∧ w'.heap[y0.w.heap.size]? = some (.cells #[.nilIface, .int .i64 2, .int .i64 r] 85 (0, 0))) (by kernel_rfl) (uh D0) (fun hS => ?_)
 have HS := hide hS
 clear hS D0 O1
 rw [hy2] at HS ⊢
 refine tkA 0 (.agg #[.nilIface, .int .i64 2, .int .i64 r]) rfl (yields_loadG (by rfl) 85 _ rfl y0.w.heap.size rfl 85 #[.nilIface, .int .i64 2, .int .i64 r] _ (fun w h => h.2) Tryz.underlying85 rfl (by kernel_rfl)) (uh HS) ?_
 go_simp
 refine tkB 1 (.pointer (some ⟨w.heap.size, 2, none⟩)) rfl (uh HS) ?_
 go_simp
 refine tkA 2 (.agg #[.int .i64 k, .int .i64 n, .string s, .slice b ll cap]) rfl (.inl ⟨by rfl, fun w hc => ?_⟩) (uh HS) ?_
 · have q2 := Lib.cell_of_heap hc.1 2; have q3 := Lib.cell_of_heap hc.1 3; have q4 := Lib.cell_of_heap hc.1 4; have q5 := Lib.cell_of_heap hc.1 5; clear hc; go_simp
 go_simp
 refine wpAnyH_ready (rs := [3]) (by kernel_rfl) (by simp) ?_
 refine AllReadyH.cons rfl (fun K2 hK => ?_) AllReadyH.nil
 go_simp
 refine (uh PY y2).mono ?_
 rintro r w3 ⟨rfl, hb⟩
 have O3 := hide (row_keep (uh O2) hb)
 obtain ⟨y3, rfl⟩ := Sub.step (uh HZ) hb
 clear hb O2
 refine hK.out _ _ (⟨uh AY y3, uh O3⟩) (fun hS => ?_)
 clear HS
 have HS := hide hS
 clear hS hK K2
 refine wpAnyH_ready (rs := [4]) (by kernel_rfl) (by simp) ?_
 refine AllReadyH.cons rfl (fun K2 hK => ?_) AllReadyH.nil
 rw [if_pos (by rfl)]
 refine wp_store_row 85 _ _ rfl V.heap.size #[.nilIface, .int .i64 2, .int .i64 r] rfl rfl 85 _ (uh RY y3) szOp rfl (op_one (.inl rfl) 2 r) ?_
 refine hK.out _ _ (⟨(setRow_other _ _ _ _ (uh NA).symm).trans (uh AY y3), (setRow_other _ _ _ _ (uh NO).symm).trans (uh O3)⟩) (fun hS => ?_)
 clear HS
 have HS := hide hS
 clear hS hK K2
 refine tkB 5 (.bool q) rfl (uh HS) ?_
 go_simp
 refine wpAnyH_done (by kernel_rfl) ?_ _
 clear HS
 go_wp2
 refine bodyPost_ret (results_row2 (P := Tryz.prog) rfl _ _ V.heap.size 85 #[.nilIface, .int .i64 2, .int .i64 r] (0, 0) _ rfl (setRow_heap _ _ _ _ _ _ (uh RY _)) Tryz.underlying85 rfl szOp) rfl ?_
 exact uh F2 _ _ _ _ _ rfl (.inl rfl) (fun _ => ⟨rfl, rfl, rfl⟩) (below_rowG (uh BY y3) (uh VL))
theorem opd_3 (r : Int) (e : Ex) (b : Option Addr) (cap : Nat) (w : World) (hr : RdX w 0 e b) (hz : e.sz ≤ 1048576) (ht : TabK w) (hf : TabF w) : Calls Tryz.prog 57 #[.agg ((Ag.mk 3 r e).cs b cap)] w (OpdR ⟨3, r, e⟩ w) := by
 have hsz := sz_is e
 have cR : cntB ⟨#[64, 40, 82, 41, 43]⟩ 82 = true := by decide
 have cE : cntB ⟨#[64, 40, 82, 41, 43]⟩ 69 = false := by decide
 have P := hide (fun w' => zroI e.k e.n e.s e.l.length (by omega) (by omega) b cap w')
 rw [show zroV e.k e.n e.s e.l.length = zroX e from rfl] at P
 have V : agX ⟨3, r, e⟩ = (inB r 0 7 && zroX e) := by unfold agX; rfl
 have U : opU ⟨3, r, e⟩ = .nilIface := by unfold opU; rfl
 have FN := hide (fun r0 w' u f0 g q (h : (inB r 0 7 && zroX e) = q) (hr : r0 = .returned (.tuple #[.agg #[u, .int .i64 f0, .int .i64 g], .bool q])) (hu : IfV u) (hv : q = true → u = .nilIface ∧ f0 = 3 ∧ g = r) => opdR_of (w := w) (r := r0) (w' := w') (u := u) (f := f0) (g := g) (V.trans h) hr hu (fun x => by rw [U]; exact hv x))
 clear V U hr ht hsz hz
 generalize OpdR ⟨3, r, e⟩ w = R at *
 generalize zroX e = q at *
 unfold Ag.cs
 simp only
 generalize e.k = k at *
 generalize e.n = n at *
 generalize e.s = s at *
 generalize e.l.length = ll at *
 have G2 := two_new w (.cells #[.int .i64 3, .int .i64 r, .int .i64 k, .int .i64 n, .string s, .slice b ll cap] 28) (.cells #[.nilIface, .int .i64 0, .int .i64 0] 85)
 have G1 := two_new0 w (.cells #[.int .i64 3, .int .i64 r, .int .i64 k, .int .i64 n, .string s, .slice b ll cap] 28) (.cells #[.nilIface, .int .i64 0, .int .i64 0] 85)
 obtain ⟨V, hV⟩ : ∃ V, w.alloc (.cells #[.int .i64 3, .int .i64 r, .int .i64 k, .int .i64 n, .string s, .slice b ll cap] 28) = V := ⟨_, rfl⟩
 have vsz : w.heap.size + 1 = V.heap.size := by rw [← hV]; simp
 rw [vsz, hV] at G2
 rw [hV] at G1
 obtain ⟨W, hW⟩ : ∃ W, V.alloc (.cells #[.nilIface, .int .i64 0, .int .i64 0] 85) = W := ⟨_, rfl⟩
 rw [hW] at G1 G2
 obtain ⟨G2, hbW⟩ := G2
 have l1 : w.heap.size < W.heap.size := (Array.getElem?_eq_some_iff.1 G1).1
 have l2 : V.heap.size < W.heap.size := (Array.getElem?_eq_some_iff.1 G2).1
 have BY := hide (fun y : Sub W.heap.size W => hbW.trans (y.h.mono hbW.size))
 have RY := hide (fun y : Sub W.heap.size W => (y.h.block _ l2).trans G2)
 have VL := hide (show w.heap.size ≤ V.heap.size by omega)
 have ne := Sub.ne W.heap.size W
 have HZ := hide (Nat.le_refl W.heap.size)
 have E0 : ∀ y : Sub W.heap.size W, y.w.cell? ⟨w.heap.size, 0, none⟩ = some (.int .i64 3) := fun y => (y.h.cell (p := ⟨w.heap.size, 0, none⟩) l1).trans (Lib.cell_of_heap G1 0)
 have E1 : ∀ y : Sub W.heap.size W, y.w.cell? ⟨w.heap.size, 1, none⟩ = some (.int .i64 r) := fun y => (y.h.cell (p := ⟨w.heap.size, 1, none⟩) l1).trans (Lib.cell_of_heap G1 1)
 have E2 : ∀ y : Sub W.heap.size W, y.w.cell? ⟨w.heap.size, 2, none⟩ = some (.int .i64 k) := fun y => (y.h.cell (p := ⟨w.heap.size, 2, none⟩) l1).trans (Lib.cell_of_heap G1 2)
 have E3 : ∀ y : Sub W.heap.size W, y.w.cell? ⟨w.heap.size, 3, none⟩ = some (.int .i64 n) := fun y => (y.h.cell (p := ⟨w.heap.size, 3, none⟩) l1).trans (Lib.cell_of_heap G1 3)
 have E4 : ∀ y : Sub W.heap.size W, y.w.cell? ⟨w.heap.size, 4, none⟩ = some (.string s) := fun y => (y.h.cell (p := ⟨w.heap.size, 4, none⟩) l1).trans (Lib.cell_of_heap G1 4)
 have E5 : ∀ y : Sub W.heap.size W, y.w.cell? ⟨w.heap.size, 5, none⟩ = some (.slice b ll cap) := fun y => (y.h.cell (p := ⟨w.heap.size, 5, none⟩) l1).trans (Lib.cell_of_heap G1 5)
 have T0 : ∀ y : Sub W.heap.size W, y.w.cell? ⟨2, 3, none⟩ = some (.string ⟨#[64, 40, 82, 41, 43]⟩) := fun y => (hf.next (uh BY y)).at3
 obtain ⟨y0, hy0⟩ : ∃ z : Sub W.heap.size W, W = z.w := ⟨⟨W, Below.refl _ _⟩, rfl⟩
 rw [hy0] at hW
 clear l1 l2 vsz hbW hy0
 have PY := hide (fun y : Sub W.heap.size W => uh P y.w)
 clear P hf
 by_cases h0 : r < 0
 ·
  have F2 := hide (fun r0 w' u f0 g => uh FN r0 w' u f0 g false (by rw [inB_f r 0 7 (by omega)]; rfl))
  clear FN PY
  go_enter Tryz.func57, Tryz.ntmps57
  go_wp2_with (first | (go_at_call 119; refine (cntI _ _ _).mono ?_; rintro e w' ⟨rfl, hw'⟩; rw [hw']; clear hw' w'; (try rw [cR]); (try rw [cE])) | (refine wpList_store_row rfl 85 _ _ rfl V.heap.size #[.nilIface, .int .i64 0, .int .i64 0] rfl rfl 85 _ (uh RY _) szOp rfl (op_one (.inl rfl) 0 0) ?_))
  refine bodyPost_ret (results_row2 (P := Tryz.prog) rfl _ _ V.heap.size 85 #[.nilIface, .int .i64 0, .int .i64 0] (0, 0) _ rfl (setRow_heap _ _ _ _ _ _ (uh RY _)) Tryz.underlying85 rfl szOp) rfl ?_
  exact uh F2 _ _ _ _ _ rfl (.inl rfl) (fun h => by cases h) (below_rowG (uh BY _) (uh VL))
 by_cases h7 : 7 < r
 ·
  have F2 := hide (fun r0 w' u f0 g => uh FN r0 w' u f0 g false (by rw [inB_f r 0 7 (by omega)]; rfl))
  clear FN PY
  go_enter Tryz.func57, Tryz.ntmps57
  go_wp2_with (first | (go_at_call 119; refine (cntI _ _ _).mono ?_; rintro e w' ⟨rfl, hw'⟩; rw [hw']; clear hw' w'; (try rw [cR]); (try rw [cE])) | (refine wpList_store_row rfl 85 _ _ rfl V.heap.size #[.nilIface, .int .i64 0, .int .i64 0] rfl rfl 85 _ (uh RY _) szOp rfl (op_one (.inl rfl) 0 0) ?_))
  refine bodyPost_ret (results_row2 (P := Tryz.prog) rfl _ _ V.heap.size 85 #[.nilIface, .int .i64 0, .int .i64 0] (0, 0) _ rfl (setRow_heap _ _ _ _ _ _ (uh RY _)) Tryz.underlying85 rfl szOp) rfl ?_
  exact uh F2 _ _ _ _ _ rfl (.inl rfl) (fun h => by cases h) (below_rowG (uh BY _) (uh VL))
 have F2 := hide (fun r0 w' u f0 g => uh FN r0 w' u f0 g q (by rw [inB_t r 0 7 (by omega) (by omega)]; rfl))
 clear FN
 obtain ⟨y1, hy1⟩ := Sub.step (uh HZ) (below_new y0.w (.cells #[.nilIface, .int .i64 3, .int .i64 r] 85))
 have O1 := hide (show y1.w.heap[y0.w.heap.size]? = some (.cells #[.nilIface, .int .i64 3, .int .i64 r] 85 (0, 0)) by rw [← hy1]; exact Array.getElem?_push_size)
 have NO := hide (show V.heap.size ≠ y0.w.heap.size by have := (Array.getElem?_eq_some_iff.1 (uh RY y0)).1; omega)
 have NA := hide (show V.heap.size ≠ w.heap.size by rw [← hV]; simp)
 have AY := hide (fun y : Sub W.heap.size W => (y.h.block _ (Array.getElem?_eq_some_iff.1 G1).1).trans G1)
 clear G1 G2
 go_enter Tryz.func57, Tryz.ntmps57
 go_wp2_with (first | (go_at_call 119; refine (cntI _ _ _).mono ?_; rintro e w' ⟨rfl, hw'⟩; rw [hw']; clear hw' w'; (try rw [cR]); (try rw [cE])))
 obtain ⟨y2, hy2⟩ := Sub.step (uh HZ) (below_drew (w := y1.w))
 have O2 := hide (show y2.w.heap[y0.w.heap.size]? = some (.cells #[.nilIface, .int .i64 3, .int .i64 r] 85 (0, 0)) by rw [← hy2]; exact row_keep (uh O1) below_drew)
 have D0 := hide (show (fun w' => w'.heap[w.heap.size]? = some (.cells #[.int .i64 3, .int .i64 r, .int .i64 k, .int .i64 n, .string s, .slice b ll cap] 28 (0, 0)) ∧ w'.heap[y0.w.heap.size]? = some (.cells #[.nilIface, .int .i64 3, .int .i64 r] 85 (0, 0))) y1.w.drew by rw [hy2]; exact ⟨uh AY y2, uh O2⟩)
 refine wp_region_held_drew (S := fun w' => w'.heap[w.heap.size]? = some (.cells #[.int .i64 3, .int .i64 r, .int .i64 k, .int .i64 n, .string s, .slice b ll cap] 28 (0, 0)) ∧ w'.heap[y0.w.heap.size]? = some (.cells #[.nilIface, .int .i64 3, .int .i64 r] 85 (0, 0))) (by kernel_rfl) (uh D0) (fun hS => ?_)
 have HS := hide hS
 clear hS D0 O1
 rw [hy2] at HS ⊢
 refine tkA 0 (.agg #[.nilIface, .int .i64 3, .int .i64 r]) rfl (yields_loadG (by rfl) 85 _ rfl y0.w.heap.size rfl 85 #[.nilIface, .int .i64 3, .int .i64 r] _ (fun w h => h.2) Tryz.underlying85 rfl (by kernel_rfl)) (uh HS) ?_
 go_simp
 refine tkB 1 (.pointer (some ⟨w.heap.size, 2, none⟩)) rfl (uh HS) ?_
 go_simp
 refine tkA 2 (.agg #[.int .i64 k, .int .i64 n, .string s, .slice b ll cap]) rfl (.inl ⟨by rfl, fun w hc => ?_⟩) (uh HS) ?_
 · have q2 := Lib.cell_of_heap hc.1 2; have q3 := Lib.cell_of_heap hc.1 3; have q4 := Lib.cell_of_heap hc.1 4; have q5 := Lib.cell_of_heap hc.1 5; clear hc; go_simp
 go_simp
 refine wpAnyH_ready (rs := [3]) (by kernel_rfl) (by simp) ?_
 refine AllReadyH.cons rfl (fun K2 hK => ?_) AllReadyH.nil
 go_simp
 refine (uh PY y2).mono ?_
 rintro r w3 ⟨rfl, hb⟩
 have O3 := hide (row_keep (uh O2) hb)
 obtain ⟨y3, rfl⟩ := Sub.step (uh HZ) hb
 clear hb O2
 refine hK.out _ _ (⟨uh AY y3, uh O3⟩) (fun hS => ?_)
 clear HS
 have HS := hide hS
 clear hS hK K2
 refine wpAnyH_ready (rs := [4]) (by kernel_rfl) (by simp) ?_
 refine AllReadyH.cons rfl (fun K2 hK => ?_) AllReadyH.nil
 rw [if_pos (by rfl)]
 refine wp_store_row 85 _ _ rfl V.heap.size #[.nilIface, .int .i64 3, .int .i64 r] rfl rfl 85 _ (uh RY y3) szOp rfl (op_one (.inl rfl) 3 r) ?_
 refine hK.out _ _ (⟨(setRow_other _ _ _ _ (uh NA).symm).trans (uh AY y3), (setRow_other _ _ _ _ (uh NO).symm).trans (uh O3)⟩) (fun hS => ?_)
 clear HS
 have HS := hide hS
 clear hS hK K2
 refine tkB 5 (.bool q) rfl (uh HS) ?_
 go_simp
 refine wpAnyH_done (by kernel_rfl) ?_ _
 clear HS
 go_wp2
 refine bodyPost_ret (results_row2 (P := Tryz.prog) rfl _ _ V.heap.size 85 #[.nilIface, .int .i64 3, .int .i64 r] (0, 0) _ rfl (setRow_heap _ _ _ _ _ _ (uh RY _)) Tryz.underlying85 rfl szOp) rfl ?_
 exact uh F2 _ _ _ _ _ rfl (.inl rfl) (fun _ => ⟨rfl, rfl, rfl⟩) (below_rowG (uh BY y3) (uh VL))
theorem opd_4 (r : Int) (e : Ex) (b : Option Addr) (cap : Nat) (w : World) (hr : RdX w 0 e b) (hz : e.sz ≤ 1048576) (ht : TabK w) (hf : TabF w) : Calls Tryz.prog 57 #[.agg ((Ag.mk 4 r e).cs b cap)] w (OpdR ⟨4, r, e⟩ w) := by
 have hsz := sz_is e
 have cR : cntB ⟨#[45, 40, 82, 41]⟩ 82 = true := by decide
 have cE : cntB ⟨#[45, 40, 82, 41]⟩ 69 = false := by decide
 have P := hide (fun w' => zroI e.k e.n e.s e.l.length (by omega) (by omega) b cap w')
 rw [show zroV e.k e.n e.s e.l.length = zroX e from rfl] at P
 have V : agX ⟨4, r, e⟩ = (inB r 0 7 && zroX e) := by unfold agX; rfl
 have U : opU ⟨4, r, e⟩ = .nilIface := by unfold opU; rfl
 have FN := hide (fun r0 w' u f0 g q (h : (inB r 0 7 && zroX e) = q) (hr : r0 = .returned (.tuple #[.agg #[u, .int .i64 f0, .int .i64 g], .bool q])) (hu : IfV u) (hv : q = true → u = .nilIface ∧ f0 = 4 ∧ g = r) => opdR_of (w := w) (r := r0) (w' := w') (u := u) (f := f0) (g := g) (V.trans h) hr hu (fun x => by rw [U]; exact hv x))
 clear V U hr ht hsz hz
 generalize OpdR ⟨4, r, e⟩ w = R at *
 generalize zroX e = q at *
 unfold Ag.cs
 simp only
 generalize e.k = k at *
 generalize e.n = n at *
 generalize e.s = s at *
 generalize e.l.length = ll at *
 have G2 := two_new w (.cells #[.int .i64 4, .int .i64 r, .int .i64 k, .int .i64 n, .string s, .slice b ll cap] 28) (.cells #[.nilIface, .int .i64 0, .int .i64 0] 85)
 have G1 := two_new0 w (.cells #[.int .i64 4, .int .i64 r, .int .i64 k, .int .i64 n, .string s, .slice b ll cap] 28) (.cells #[.nilIface, .int .i64 0, .int .i64 0] 85)
 obtain ⟨V, hV⟩ : ∃ V, w.alloc (.cells #[.int .i64 4, .int .i64 r, .int .i64 k, .int .i64 n, .string s, .slice b ll cap] 28) = V := ⟨_, rfl⟩
 have vsz : w.heap.size + 1 = V.heap.size := by rw [← hV]; simp
 rw [vsz, hV] at G2
 rw [hV] at G1
 obtain ⟨W, hW⟩ : ∃ W, V.alloc (.cells #[.nilIface, .int .i64 0, .int .i64 0] 85) = W := ⟨_, rfl⟩
 rw [hW] at G1 G2
 obtain ⟨G2, hbW⟩ := G2
 have l1 : w.heap.size < W.heap.size := (Array.getElem?_eq_some_iff.1 G1).1
 have l2 : V.heap.size < W.heap.size := (Array.getElem?_eq_some_iff.1 G2).1
 have BY := hide (fun y : Sub W.heap.size W => hbW.trans (y.h.mono hbW.size))
 have RY := hide (fun y : Sub W.heap.size W => (y.h.block _ l2).trans G2)
 have VL := hide (show w.heap.size ≤ V.heap.size by omega)
 have ne := Sub.ne W.heap.size W
 have HZ := hide (Nat.le_refl W.heap.size)
 have E0 : ∀ y : Sub W.heap.size W, y.w.cell? ⟨w.heap.size, 0, none⟩ = some (.int .i64 4) := fun y => (y.h.cell (p := ⟨w.heap.size, 0, none⟩) l1).trans (Lib.cell_of_heap G1 0)
 have E1 : ∀ y : Sub W.heap.size W, y.w.cell? ⟨w.heap.size, 1, none⟩ = some (.int .i64 r) := fun y => (y.h.cell (p := ⟨w.heap.size, 1, none⟩) l1).trans (Lib.cell_of_heap G1 1)
 have E2 : ∀ y : Sub W.heap.size W, y.w.cell? ⟨w.heap.size, 2, none⟩ = some (.int .i64 k) := fun y => (y.h.cell (p := ⟨w.heap.size, 2, none⟩) l1).trans (Lib.cell_of_heap G1 2)
 have E3 : ∀ y : Sub W.heap.size W, y.w.cell? ⟨w.heap.size, 3, none⟩ = some (.int .i64 n) := fun y => (y.h.cell (p := ⟨w.heap.size, 3, none⟩) l1).trans (Lib.cell_of_heap G1 3)
 have E4 : ∀ y : Sub W.heap.size W, y.w.cell? ⟨w.heap.size, 4, none⟩ = some (.string s) := fun y => (y.h.cell (p := ⟨w.heap.size, 4, none⟩) l1).trans (Lib.cell_of_heap G1 4)
 have E5 : ∀ y : Sub W.heap.size W, y.w.cell? ⟨w.heap.size, 5, none⟩ = some (.slice b ll cap) := fun y => (y.h.cell (p := ⟨w.heap.size, 5, none⟩) l1).trans (Lib.cell_of_heap G1 5)
 have T0 : ∀ y : Sub W.heap.size W, y.w.cell? ⟨2, 4, none⟩ = some (.string ⟨#[45, 40, 82, 41]⟩) := fun y => (hf.next (uh BY y)).at4
 obtain ⟨y0, hy0⟩ : ∃ z : Sub W.heap.size W, W = z.w := ⟨⟨W, Below.refl _ _⟩, rfl⟩
 rw [hy0] at hW
 clear l1 l2 vsz hbW hy0
 have PY := hide (fun y : Sub W.heap.size W => uh P y.w)
 clear P hf
 by_cases h0 : r < 0
 ·
  have F2 := hide (fun r0 w' u f0 g => uh FN r0 w' u f0 g false (by rw [inB_f r 0 7 (by omega)]; rfl))
  clear FN PY
  go_enter Tryz.func57, Tryz.ntmps57
  go_wp2_with (first | (go_at_call 119; refine (cntI _ _ _).mono ?_; rintro e w' ⟨rfl, hw'⟩; rw [hw']; clear hw' w'; (try rw [cR]); (try rw [cE])) | (refine wpList_store_row rfl 85 _ _ rfl V.heap.size #[.nilIface, .int .i64 0, .int .i64 0] rfl rfl 85 _ (uh RY _) szOp rfl (op_one (.inl rfl) 0 0) ?_))
  refine bodyPost_ret (results_row2 (P := Tryz.prog) rfl _ _ V.heap.size 85 #[.nilIface, .int .i64 0, .int .i64 0] (0, 0) _ rfl (setRow_heap _ _ _ _ _ _ (uh RY _)) Tryz.underlying85 rfl szOp) rfl ?_
  exact uh F2 _ _ _ _ _ rfl (.inl rfl) (fun h => by cases h) (below_rowG (uh BY _) (uh VL))
 by_cases h7 : 7 < r
 ·
  have F2 := hide (fun r0 w' u f0 g => uh FN r0 w' u f0 g false (by rw [inB_f r 0 7 (by omega)]; rfl))
  clear FN PY
  go_enter Tryz.func57, Tryz.ntmps57
  go_wp2_with (first | (go_at_call 119; refine (cntI _ _ _).mono ?_; rintro e w' ⟨rfl, hw'⟩; rw [hw']; clear hw' w'; (try rw [cR]); (try rw [cE])) | (refine wpList_store_row rfl 85 _ _ rfl V.heap.size #[.nilIface, .int .i64 0, .int .i64 0] rfl rfl 85 _ (uh RY _) szOp rfl (op_one (.inl rfl) 0 0) ?_))
  refine bodyPost_ret (results_row2 (P := Tryz.prog) rfl _ _ V.heap.size 85 #[.nilIface, .int .i64 0, .int .i64 0] (0, 0) _ rfl (setRow_heap _ _ _ _ _ _ (uh RY _)) Tryz.underlying85 rfl szOp) rfl ?_
  exact uh F2 _ _ _ _ _ rfl (.inl rfl) (fun h => by cases h) (below_rowG (uh BY _) (uh VL))
 have F2 := hide (fun r0 w' u f0 g => uh FN r0 w' u f0 g q (by rw [inB_t r 0 7 (by omega) (by omega)]; rfl))
 clear FN
 obtain ⟨y1, hy1⟩ := Sub.step (uh HZ) (below_new y0.w (.cells #[.nilIface, .int .i64 4, .int .i64 r] 85))
 have O1 := hide (show y1.w.heap[y0.w.heap.size]? = some (.cells #[.nilIface, .int .i64 4, .int .i64 r] 85 (0, 0)) by rw [← hy1]; exact Array.getElem?_push_size)
 have NO := hide (show V.heap.size ≠ y0.w.heap.size by have := (Array.getElem?_eq_some_iff.1 (uh RY y0)).1; omega)
 have NA := hide (show V.heap.size ≠ w.heap.size by rw [← hV]; simp)
 have AY := hide (fun y : Sub W.heap.size W => (y.h.block _ (Array.getElem?_eq_some_iff.1 G1).1).trans G1)
 clear G1 G2
 go_enter Tryz.func57, Tryz.ntmps57
 go_wp2_with (first | (go_at_call 119; refine (cntI _ _ _).mono ?_; rintro e w' ⟨rfl, hw'⟩; rw [hw']; clear hw' w'; (try rw [cR]); (try rw [cE])))
 obtain ⟨y2, hy2⟩ := Sub.step (uh HZ) (below_drew (w := y1.w))
 have O2 := hide (show y2.w.heap[y0.w.heap.size]? = some (.cells #[.nilIface, .int .i64 4, .int .i64 r] 85 (0, 0)) by rw [← hy2]; exact row_keep (uh O1) below_drew)
 have D0 := hide (show (fun w' => w'.heap[w.heap.size]? = some (.cells #[.int .i64 4, .int .i64 r, .int .i64 k, .int .i64 n, .string s, .slice b ll cap] 28 (0, 0)) ∧ w'.heap[y0.w.heap.size]? = some (.cells #[.nilIface, .int .i64 4, .int .i64 r] 85 (0, 0))) y1.w.drew by rw [hy2]; exact ⟨uh AY y2, uh O2⟩)
 refine wp_region_held_drew (S := fun w' => w'.heap[w.heap.size]? = some (.cells #[.int .i64 4, .int .i64 r, .int .i64 k, .int .i64 n, .string s, .slice b ll cap] 28 (0, 0)) ∧ w'.heap[y0.w.heap.size]? = some (.cells #[.nilIface, .int .i64 4, .int .i64 r] 85 (0, 0))) (by kernel_rfl) (uh D0) (fun hS => ?_)
 have HS := hide hS
 clear hS D0 O1
 rw [hy2] at HS ⊢
 refine tkA 0 (.agg #[.nilIface, .int .i64 4, .int .i64 r]) rfl (yields_loadG (by rfl) 85 _ rfl y0.w.heap.size rfl 85 #[.nilIface, .int .i64 4, .int .i64 r] _ (fun w h => h.2) Tryz.underlying85 rfl (by kernel_rfl)) (uh HS) ?_
 go_simp
 refine tkB 1 (.pointer (some ⟨w.heap.size, 2, none⟩)) rfl (uh HS) ?_
 go_simp
 refine tkA 2 (.agg #[.int .i64 k, .int .i64 n, .string s, .slice b ll cap]) rfl (.inl ⟨by rfl, fun w hc => ?_⟩) (uh HS) ?_
 · have q2 := Lib.cell_of_heap hc.1 2; have q3 := Lib.cell_of_heap hc.1 3; have q4 := Lib.cell_of_heap hc.1 4; have q5 := Lib.cell_of_heap hc.1 5; clear hc; go_simp
 go_simp
 refine wpAnyH_ready (rs := [3]) (by kernel_rfl) (by simp) ?_
 refine AllReadyH.cons rfl (fun K2 hK => ?_) AllReadyH.nil
 go_simp
 refine (uh PY y2).mono ?_
 rintro r w3 ⟨rfl, hb⟩
 have O3 := hide (row_keep (uh O2) hb)
 obtain ⟨y3, rfl⟩ := Sub.step (uh HZ) hb
 clear hb O2
 refine hK.out _ _ (⟨uh AY y3, uh O3⟩) (fun hS => ?_)
 clear HS
 have HS := hide hS
 clear hS hK K2
 refine wpAnyH_ready (rs := [4]) (by kernel_rfl) (by simp) ?_
 refine AllReadyH.cons rfl (fun K2 hK => ?_) AllReadyH.nil
 rw [if_pos (by rfl)]
 refine wp_store_row 85 _ _ rfl V.heap.size #[.nilIface, .int .i64 4, .int .i64 r] rfl rfl 85 _ (uh RY y3) szOp rfl (op_one (.inl rfl) 4 r) ?_
 refine hK.out _ _ (⟨(setRow_other _ _ _ _ (uh NA).symm).trans (uh AY y3), (setRow_other _ _ _ _ (uh NO).symm).trans (uh O3)⟩) (fun hS => ?_)
 clear HS
 have HS := hide hS
 clear hS hK K2
 refine tkB 5 (.bool q) rfl (uh HS) ?_
 go_simp
 refine wpAnyH_done (by kernel_rfl) ?_ _
 clear HS
 go_wp2
 refine bodyPost_ret (results_row2 (P := Tryz.prog) rfl _ _ V.heap.size 85 #[.nilIface, .int .i64 4, .int .i64 r] (0, 0) _ rfl (setRow_heap _ _ _ _ _ _ (uh RY _)) Tryz.underlying85 rfl szOp) rfl ?_
 exact uh F2 _ _ _ _ _ rfl (.inl rfl) (fun _ => ⟨rfl, rfl, rfl⟩) (below_rowG (uh BY y3) (uh VL))
theorem opd_5 (r : Int) (e : Ex) (b : Option Addr) (cap : Nat) (w : World) (hr : RdX w 0 e b) (hz : e.sz ≤ 1048576) (ht : TabK w) (hf : TabF w) : Calls Tryz.prog 57 #[.agg ((Ag.mk 5 r e).cs b cap)] w (OpdR ⟨5, r, e⟩ w) := by
 have hsz := sz_is e
 have cR : cntB ⟨#[64, 45, 40, 82, 41]⟩ 82 = true := by decide
 have cE : cntB ⟨#[64, 45, 40, 82, 41]⟩ 69 = false := by decide
 have P := hide (fun w' => zroI e.k e.n e.s e.l.length (by omega) (by omega) b cap w')
 rw [show zroV e.k e.n e.s e.l.length = zroX e from rfl] at P
 have V : agX ⟨5, r, e⟩ = (inB r 0 7 && zroX e) := by unfold agX; rfl
 have U : opU ⟨5, r, e⟩ = .nilIface := by unfold opU; rfl
 have FN := hide (fun r0 w' u f0 g q (h : (inB r 0 7 && zroX e) = q) (hr : r0 = .returned (.tuple #[.agg #[u, .int .i64 f0, .int .i64 g], .bool q])) (hu : IfV u) (hv : q = true → u = .nilIface ∧ f0 = 5 ∧ g = r) => opdR_of (w := w) (r := r0) (w' := w') (u := u) (f := f0) (g := g) (V.trans h) hr hu (fun x => by rw [U]; exact hv x))
 clear V U hr ht hsz hz
 generalize OpdR ⟨5, r, e⟩ w = R at *
 generalize zroX e = q at *
 unfold Ag.cs
 simp only
 generalize e.k = k at *
 generalize e.n = n at *
 generalize e.s = s at *
 generalize e.l.length = ll at *
 have G2 := two_new w (.cells #[.int .i64 5, .int .i64 r, .int .i64 k, .int .i64 n, .string s, .slice b ll cap] 28) (.cells #[.nilIface, .int .i64 0, .int .i64 0] 85)
 have G1 := two_new0 w (.cells #[.int .i64 5, .int .i64 r, .int .i64 k, .int .i64 n, .string s, .slice b ll cap] 28) (.cells #[.nilIface, .int .i64 0, .int .i64 0] 85)
 obtain ⟨V, hV⟩ : ∃ V, w.alloc (.cells #[.int .i64 5, .int .i64 r, .int .i64 k, .int .i64 n, .string s, .slice b ll cap] 28) = V := ⟨_, rfl⟩
 have vsz : w.heap.size + 1 = V.heap.size := by rw [← hV]; simp
 rw [vsz, hV] at G2
 rw [hV] at G1
 obtain ⟨W, hW⟩ : ∃ W, V.alloc (.cells #[.nilIface, .int .i64 0, .int .i64 0] 85) = W := ⟨_, rfl⟩
 rw [hW] at G1 G2
 obtain ⟨G2, hbW⟩ := G2
 have l1 : w.heap.size < W.heap.size := (Array.getElem?_eq_some_iff.1 G1).1
 have l2 : V.heap.size < W.heap.size := (Array.getElem?_eq_some_iff.1 G2).1
 have BY := hide (fun y : Sub W.heap.size W => hbW.trans (y.h.mono hbW.size))
 have RY := hide (fun y : Sub W.heap.size W => (y.h.block _ l2).trans G2)
 have VL := hide (show w.heap.size ≤ V.heap.size by omega)
 have ne := Sub.ne W.heap.size W
 have HZ := hide (Nat.le_refl W.heap.size)
 have E0 : ∀ y : Sub W.heap.size W, y.w.cell? ⟨w.heap.size, 0, none⟩ = some (.int .i64 5) := fun y => (y.h.cell (p := ⟨w.heap.size, 0, none⟩) l1).trans (Lib.cell_of_heap G1 0)
 have E1 : ∀ y : Sub W.heap.size W, y.w.cell? ⟨w.heap.size, 1, none⟩ = some (.int .i64 r) := fun y => (y.h.cell (p := ⟨w.heap.size, 1, none⟩) l1).trans (Lib.cell_of_heap G1 1)
 have E2 : ∀ y : Sub W.heap.size W, y.w.cell? ⟨w.heap.size, 2, none⟩ = some (.int .i64 k) := fun y => (y.h.cell (p := ⟨w.heap.size, 2, none⟩) l1).trans (Lib.cell_of_heap G1 2)
 have E3 : ∀ y : Sub W.heap.size W, y.w.cell? ⟨w.heap.size, 3, none⟩ = some (.int .i64 n) := fun y => (y.h.cell (p := ⟨w.heap.size, 3, none⟩) l1).trans (Lib.cell_of_heap G1 3)
 have E4 : ∀ y : Sub W.heap.size W, y.w.cell? ⟨w.heap.size, 4, none⟩ = some (.string s) := fun y => (y.h.cell (p := ⟨w.heap.size, 4, none⟩) l1).trans (Lib.cell_of_heap G1 4)
 have E5 : ∀ y : Sub W.heap.size W, y.w.cell? ⟨w.heap.size, 5, none⟩ = some (.slice b ll cap) := fun y => (y.h.cell (p := ⟨w.heap.size, 5, none⟩) l1).trans (Lib.cell_of_heap G1 5)
 have T0 : ∀ y : Sub W.heap.size W, y.w.cell? ⟨2, 5, none⟩ = some (.string ⟨#[64, 45, 40, 82, 41]⟩) := fun y => (hf.next (uh BY y)).at5
 obtain ⟨y0, hy0⟩ : ∃ z : Sub W.heap.size W, W = z.w := ⟨⟨W, Below.refl _ _⟩, rfl⟩
 rw [hy0] at hW
 clear l1 l2 vsz hbW hy0
 have PY := hide (fun y : Sub W.heap.size W => uh P y.w)
 clear P hf
 by_cases h0 : r < 0
 ·
  have F2 := hide (fun r0 w' u f0 g => uh FN r0 w' u f0 g false (by rw [inB_f r 0 7 (by omega)]; rfl))
  clear FN PY
  go_enter Tryz.func57, Tryz.ntmps57
  go_wp2_with (first | (go_at_call 119; refine (cntI _ _ _).mono ?_; rintro e w' ⟨rfl, hw'⟩; rw [hw']; clear hw' w'; (try rw [cR]); (try rw [cE])) | (refine wpList_store_row rfl 85 _ _ rfl V.heap.size #[.nilIface, .int .i64 0, .int .i64 0] rfl rfl 85 _ (uh RY _) szOp rfl (op_one (.inl rfl) 0 0) ?_))
  refine bodyPost_ret (results_row2 (P := Tryz.prog) rfl _ _ V.heap.size 85 #[.nilIface, .int .i64 0, .int .i64 0] (0, 0) _ rfl (setRow_heap _ _ _ _ _ _ (uh RY _)) Tryz.underlying85 rfl szOp) rfl ?_
  exact uh F2 _ _ _ _ _ rfl (.inl rfl) (fun h => by cases h) (below_rowG (uh BY _) (uh VL))
 by_cases h7 : 7 < r
 ·
  have F2 := hide (fun r0 w' u f0 g => uh FN r0 w' u f0 g false (by rw [inB_f r 0 7 (by omega)]; rfl))
  clear FN PY
  go_enter Tryz.func57, Tryz.ntmps57
  go_wp2_with (first | (go_at_call 119; refine (cntI _ _ _).mono ?_; rintro e w' ⟨rfl, hw'⟩; rw [hw']; clear hw' w'; (try rw [cR]); (try rw [cE])) | (refine wpList_store_row rfl 85 _ _ rfl V.heap.size #[.nilIface, .int .i64 0, .int .i64 0] rfl rfl 85 _ (uh RY _) szOp rfl (op_one (.inl rfl) 0 0) ?_))
  refine bodyPost_ret (results_row2 (P := Tryz.prog) rfl _ _ V.heap.size 85 #[.nilIface, .int .i64 0, .int .i64 0] (0, 0) _ rfl (setRow_heap _ _ _ _ _ _ (uh RY _)) Tryz.underlying85 rfl szOp) rfl ?_
  exact uh F2 _ _ _ _ _ rfl (.inl rfl) (fun h => by cases h) (below_rowG (uh BY _) (uh VL))
 have F2 := hide (fun r0 w' u f0 g => uh FN r0 w' u f0 g q (by rw [inB_t r 0 7 (by omega) (by omega)]; rfl))
 clear FN
 obtain ⟨y1, hy1⟩ := Sub.step (uh HZ) (below_new y0.w (.cells #[.nilIface, .int .i64 5, .int .i64 r] 85))
 have O1 := hide (show y1.w.heap[y0.w.heap.size]? = some (.cells #[.nilIface, .int .i64 5, .int .i64 r] 85 (0, 0)) by rw [← hy1]; exact Array.getElem?_push_size)
 have NO := hide (show V.heap.size ≠ y0.w.heap.size by have := (Array.getElem?_eq_some_iff.1 (uh RY y0)).1; omega)
 have NA := hide (show V.heap.size ≠ w.heap.size by rw [← hV]; simp)
 have AY := hide (fun y : Sub W.heap.size W => (y.h.block _ (Array.getElem?_eq_some_iff.1 G1).1).trans G1)
 clear G1 G2
 go_enter Tryz.func57, Tryz.ntmps57
 go_wp2_with (first | (go_at_call 119; refine (cntI _ _ _).mono ?_; rintro e w' ⟨rfl, hw'⟩; rw [hw']; clear hw' w'; (try rw [cR]); (try rw [cE])))
 obtain ⟨y2, hy2⟩ := Sub.step (uh HZ) (below_drew (w := y1.w))
 have O2 := hide (show y2.w.heap[y0.w.heap.size]? = some (.cells #[.nilIface, .int .i64 5, .int .i64 r] 85 (0, 0)) by rw [← hy2]; exact row_keep (uh O1) below_drew)
 have D0 := hide (show (fun w' => w'.heap[w.heap.size]? = some (.cells #[.int .i64 5, .int .i64 r, .int .i64 k, .int .i64 n, .string s, .slice b ll cap] 28 (0, 0)) ∧ w'.heap[y0.w.heap.size]? = some (.cells #[.nilIface, .int .i64 5, .int .i64 r] 85 (0, 0))) y1.w.drew by rw [hy2]; exact ⟨uh AY y2, uh O2⟩)
 refine wp_region_held_drew (S := fun w' => w'.heap[w.heap.size]? = some (.cells #[.int .i64 5, .int .i64 r, .int .i64 k, .int .i64 n, .string s, .slice b ll cap] 28 (0, 0)) ∧ w'.heap[y0.w.heap.size]? = some (.cells #[.nilIface, .int .i64 5, .int .i64 r] 85 (0, 0))) (by kernel_rfl) (uh D0) (fun hS => ?_)
 have HS := hide hS
 clear hS D0 O1
 rw [hy2] at HS ⊢
 refine tkA 0 (.agg #[.nilIface, .int .i64 5, .int .i64 r]) rfl (yields_loadG (by rfl) 85 _ rfl y0.w.heap.size rfl 85 #[.nilIface, .int .i64 5, .int .i64 r] _ (fun w h => h.2) Tryz.underlying85 rfl (by kernel_rfl)) (uh HS) ?_
 go_simp
 refine tkB 1 (.pointer (some ⟨w.heap.size, 2, none⟩)) rfl (uh HS) ?_
 go_simp
 refine tkA 2 (.agg #[.int .i64 k, .int .i64 n, .string s, .slice b ll cap]) rfl (.inl ⟨by rfl, fun w hc => ?_⟩) (uh HS) ?_
 · have q2 := Lib.cell_of_heap hc.1 2; have q3 := Lib.cell_of_heap hc.1 3; have q4 := Lib.cell_of_heap hc.1 4; have q5 := Lib.cell_of_heap hc.1 5; clear hc; go_simp
 go_simp
 refine wpAnyH_ready (rs := [3]) (by kernel_rfl) (by simp) ?_
 refine AllReadyH.cons rfl (fun K2 hK => ?_) AllReadyH.nil
 go_simp
 refine (uh PY y2).mono ?_
 rintro r w3 ⟨rfl, hb⟩
 have O3 := hide (row_keep (uh O2) hb)
 obtain ⟨y3, rfl⟩ := Sub.step (uh HZ) hb
 clear hb O2
 refine hK.out _ _ (⟨uh AY y3, uh O3⟩) (fun hS => ?_)
 clear HS
 have HS := hide hS
 clear hS hK K2
 refine wpAnyH_ready (rs := [4]) (by kernel_rfl) (by simp) ?_
 refine AllReadyH.cons rfl (fun K2 hK => ?_) AllReadyH.nil
 rw [if_pos (by rfl)]
 refine wp_store_row 85 _ _ rfl V.heap.size #[.nilIface, .int .i64 5, .int .i64 r] rfl rfl 85 _ (uh RY y3) szOp rfl (op_one (.inl rfl) 5 r) ?_
 refine hK.out _ _ (⟨(setRow_other _ _ _ _ (uh NA).symm).trans (uh AY y3), (setRow_other _ _ _ _ (uh NO).symm).trans (uh O3)⟩) (fun hS => ?_)
 clear HS
 have HS := hide hS
 clear hS hK K2
 refine tkB 5 (.bool q) rfl (uh HS) ?_
 go_simp
 refine wpAnyH_done (by kernel_rfl) ?_ _
 clear HS
 go_wp2
 refine bodyPost_ret (results_row2 (P := Tryz.prog) rfl _ _ V.heap.size 85 #[.nilIface, .int .i64 5, .int .i64 r] (0, 0) _ rfl (setRow_heap _ _ _ _ _ _ (uh RY _)) Tryz.underlying85 rfl szOp) rfl ?_
 exact uh F2 _ _ _ _ _ rfl (.inl rfl) (fun _ => ⟨rfl, rfl, rfl⟩) (below_rowG (uh BY y3) (uh VL))
theorem opd_6 (r : Int) (e : Ex) (b : Option Addr) (cap : Nat) (w : World) (hr : RdX w 0 e b) (hz : e.sz ≤ 1048576) (ht : TabK w) (hf : TabF w) : Calls Tryz.prog 57 #[.agg ((Ag.mk 6 r e).cs b cap)] w (OpdR ⟨6, r, e⟩ w) := by
 have hsz := sz_is e
 have cR : cntB ⟨#[69, 40, 82, 41]⟩ 82 = true := by decide
 have cE : cntB ⟨#[69, 40, 82, 41]⟩ 69 = true := by decide
 have P := hide (fun w' (h : Below w.heap.size w w') => plnO_any e b cap w' (hr.later h) hz (ht.next h))
 unfold PlnR Ex.cs at P
 have V : agX ⟨6, r, e⟩ = (inB r 0 7 && okF 6 true e) := by unfold agX; rfl
 have U : opU ⟨6, r, e⟩ = tv e := by unfold opU; rfl
 have FN := hide (fun r0 w' u f0 g q (h : (inB r 0 7 && okF 6 true e) = q) (hr : r0 = .returned (.tuple #[.agg #[u, .int .i64 f0, .int .i64 g], .bool q])) (hu : IfV u) (hv : q = true → u = tv e ∧ f0 = 6 ∧ g = r) => opdR_of (w := w) (r := r0) (w' := w') (u := u) (f := f0) (g := g) (V.trans h) hr hu (fun x => by rw [U]; exact hv x))
 clear V U hr ht hsz hz
 generalize OpdR ⟨6, r, e⟩ w = R at *
 generalize okF 6 true e = q at *
 generalize tv e = tve at *
 unfold Ag.cs
 simp only
 generalize e.k = k at *
 generalize e.n = n at *
 generalize e.s = s at *
 generalize e.l.length = ll at *
 have G2 := two_new w (.cells #[.int .i64 6, .int .i64 r, .int .i64 k, .int .i64 n, .string s, .slice b ll cap] 28) (.cells #[.nilIface, .int .i64 0, .int .i64 0] 85)
 have G1 := two_new0 w (.cells #[.int .i64 6, .int .i64 r, .int .i64 k, .int .i64 n, .string s, .slice b ll cap] 28) (.cells #[.nilIface, .int .i64 0, .int .i64 0] 85)
 obtain ⟨V, hV⟩ : ∃ V, w.alloc (.cells #[.int .i64 6, .int .i64 r, .int .i64 k, .int .i64 n, .string s, .slice b ll cap] 28) = V := ⟨_, rfl⟩
 have vsz : w.heap.size + 1 = V.heap.size := by rw [← hV]; simp
 rw [vsz, hV] at G2
 rw [hV] at G1
 obtain ⟨W, hW⟩ : ∃ W, V.alloc (.cells #[.nilIface, .int .i64 0, .int .i64 0] 85) = W := ⟨_, rfl⟩
 rw [hW] at G1 G2
 obtain ⟨G2, hbW⟩ := G2
 have l1 : w.heap.size < W.heap.size := (Array.getElem?_eq_some_iff.1 G1).1
 have l2 : V.heap.size < W.heap.size := (Array.getElem?_eq_some_iff.1 G2).1
 have BY := hide (fun y : Sub W.heap.size W => hbW.trans (y.h.mono hbW.size))
 have RY := hide (fun y : Sub W.heap.size W => (y.h.block _ l2).trans G2)
 have VL := hide (show w.heap.size ≤ V.heap.size by omega)
 have ne := Sub.ne W.heap.size W
 have HZ := hide (Nat.le_refl W.heap.size)
 have E0 : ∀ y : Sub W.heap.size W, y.w.cell? ⟨w.heap.size, 0, none⟩ = some (.int .i64 6) := fun y => (y.h.cell (p := ⟨w.heap.size, 0, none⟩) l1).trans (Lib.cell_of_heap G1 0)
 have E1 : ∀ y : Sub W.heap.size W, y.w.cell? ⟨w.heap.size, 1, none⟩ = some (.int .i64 r) := fun y => (y.h.cell (p := ⟨w.heap.size, 1, none⟩) l1).trans (Lib.cell_of_heap G1 1)
 have E2 : ∀ y : Sub W.heap.size W, y.w.cell? ⟨w.heap.size, 2, none⟩ = some (.int .i64 k) := fun y => (y.h.cell (p := ⟨w.heap.size, 2, none⟩) l1).trans (Lib.cell_of_heap G1 2)
 have E3 : ∀ y : Sub W.heap.size W, y.w.cell? ⟨w.heap.size, 3, none⟩ = some (.int .i64 n) := fun y => (y.h.cell (p := ⟨w.heap.size, 3, none⟩) l1).trans (Lib.cell_of_heap G1 3)
 have E4 : ∀ y : Sub W.heap.size W, y.w.cell? ⟨w.heap.size, 4, none⟩ = some (.string s) := fun y => (y.h.cell (p := ⟨w.heap.size, 4, none⟩) l1).trans (Lib.cell_of_heap G1 4)
 have E5 : ∀ y : Sub W.heap.size W, y.w.cell? ⟨w.heap.size, 5, none⟩ = some (.slice b ll cap) := fun y => (y.h.cell (p := ⟨w.heap.size, 5, none⟩) l1).trans (Lib.cell_of_heap G1 5)
 have T0 : ∀ y : Sub W.heap.size W, y.w.cell? ⟨2, 6, none⟩ = some (.string ⟨#[69, 40, 82, 41]⟩) := fun y => (hf.next (uh BY y)).at6
 obtain ⟨y0, hy0⟩ : ∃ z : Sub W.heap.size W, W = z.w := ⟨⟨W, Below.refl _ _⟩, rfl⟩
 rw [hy0] at hW
 clear l1 l2 vsz hbW hy0
 have PY := hide (fun y : Sub W.heap.size W => uh P y.w (uh BY y))
 clear P hf
 by_cases h0 : r < 0
 ·
  have F2 := hide (fun r0 w' u f0 g => uh FN r0 w' u f0 g false (by rw [inB_f r 0 7 (by omega)]; rfl))
  clear FN PY
  go_enter Tryz.func57, Tryz.ntmps57
  go_wp2_with (first | (go_at_call 119; refine (cntI _ _ _).mono ?_; rintro e w' ⟨rfl, hw'⟩; rw [hw']; clear hw' w'; (try rw [cR]); (try rw [cE])) | (refine wpList_store_row rfl 85 _ _ rfl V.heap.size #[.nilIface, .int .i64 0, .int .i64 0] rfl rfl 85 _ (uh RY _) szOp rfl (op_one (.inl rfl) 0 0) ?_))
  refine bodyPost_ret (results_row2 (P := Tryz.prog) rfl _ _ V.heap.size 85 #[.nilIface, .int .i64 0, .int .i64 0] (0, 0) _ rfl (setRow_heap _ _ _ _ _ _ (uh RY _)) Tryz.underlying85 rfl szOp) rfl ?_
  exact uh F2 _ _ _ _ _ rfl (.inl rfl) (fun h => by cases h) (below_rowG (uh BY _) (uh VL))
 by_cases h7 : 7 < r
 ·
  have F2 := hide (fun r0 w' u f0 g => uh FN r0 w' u f0 g false (by rw [inB_f r 0 7 (by omega)]; rfl))
  clear FN PY
  go_enter Tryz.func57, Tryz.ntmps57
  go_wp2_with (first | (go_at_call 119; refine (cntI _ _ _).mono ?_; rintro e w' ⟨rfl, hw'⟩; rw [hw']; clear hw' w'; (try rw [cR]); (try rw [cE])) | (refine wpList_store_row rfl 85 _ _ rfl V.heap.size #[.nilIface, .int .i64 0, .int .i64 0] rfl rfl 85 _ (uh RY _) szOp rfl (op_one (.inl rfl) 0 0) ?_))
  refine bodyPost_ret (results_row2 (P := Tryz.prog) rfl _ _ V.heap.size 85 #[.nilIface, .int .i64 0, .int .i64 0] (0, 0) _ rfl (setRow_heap _ _ _ _ _ _ (uh RY _)) Tryz.underlying85 rfl szOp) rfl ?_
  exact uh F2 _ _ _ _ _ rfl (.inl rfl) (fun h => by cases h) (below_rowG (uh BY _) (uh VL))
 have F2 := hide (fun r0 w' u f0 g => uh FN r0 w' u f0 g q (by rw [inB_t r 0 7 (by omega) (by omega)]; rfl))
 clear FN
 obtain ⟨y1, hy1⟩ := Sub.step (uh HZ) (below_new y0.w (.cells #[.nilIface, .int .i64 6, .int .i64 r] 85))
 have O1 := hide (show y1.w.heap[y0.w.heap.size]? = some (.cells #[.nilIface, .int .i64 6, .int .i64 r] 85 (0, 0)) by rw [← hy1]; exact Array.getElem?_push_size)
 have NO := hide (show V.heap.size ≠ y0.w.heap.size by have := (Array.getElem?_eq_some_iff.1 (uh RY y0)).1; omega)
 have NA := hide (show V.heap.size ≠ w.heap.size by rw [← hV]; simp)
 have AY := hide (fun y : Sub W.heap.size W => (y.h.block _ (Array.getElem?_eq_some_iff.1 G1).1).trans G1)
 clear G1 G2
 go_enter Tryz.func57, Tryz.ntmps57
 go_wp2_with (first | (go_at_call 119; refine (cntI _ _ _).mono ?_; rintro e w' ⟨rfl, hw'⟩; rw [hw']; clear hw' w'; (try rw [cR]); (try rw [cE])))
 refine (uh PY y1).mono ?_
 rintro r w2 ⟨v, rfl, hv, hb⟩
 have O2 := hide (row_keep (uh O1) hb)
 have HV := hide hv.2
 have hi := hv.1
 obtain ⟨y2, rfl⟩ := Sub.step (uh HZ) hb
 have c0 := Lib.cell_of_heap (uh O2) 0
 clear hb O1 hv
 rcases hi with rfl | ⟨tt, xx, rfl⟩
 ·
  obtain ⟨y3, hy3⟩ : ∃ z : Sub W.heap.size W, y2.w.setCell ⟨y0.w.heap.size, 0, none⟩ (.nilIface) = z.w := ⟨⟨_, y2.h.setCell (p := ⟨y0.w.heap.size, 0, none⟩) y0.h.size _⟩, rfl⟩
  have fz : y2.w.frozen? ⟨y0.w.heap.size, 0, none⟩ = false := by have := uh O2; simp [World.frozen?, this]
  have O3 := hide (show y3.w.heap[y0.w.heap.size]? = some (.cells #[.nilIface, .int .i64 6, .int .i64 r] 85 (0, 0)) by rw [← hy3]; exact heap_setCell_same _ _ _ _ _ _ (uh O2))
  clear O2
  go_wp2_with (first | (refine wpList_load_row rfl 85 _ rfl y0.w.heap.size rfl 85 #[.nilIface, .int .i64 6, .int .i64 r] (0, 0) _ (uh O3) Tryz.underlying85 rfl (by kernel_rfl) ?_) | (refine wpList_store_row rfl 85 _ _ rfl V.heap.size #[.nilIface, .int .i64 6, .int .i64 r] rfl rfl 85 _ (uh RY _) szOp rfl (op_one (.inl rfl) 6 r) ?_))
  refine bodyPost_ret (results_row2 (P := Tryz.prog) rfl _ _ V.heap.size 85 #[.nilIface, .int .i64 6, .int .i64 r] (0, 0) _ rfl (setRow_heap _ _ _ _ _ _ (uh RY _)) Tryz.underlying85 rfl szOp) rfl ?_
  exact uh F2 _ _ _ _ _ rfl (.inl rfl) (fun h => ⟨uh HV h, rfl, rfl⟩) (below_rowG (uh BY y3) (uh VL))
 ·
  obtain ⟨y3, hy3⟩ : ∃ z : Sub W.heap.size W, y2.w.setCell ⟨y0.w.heap.size, 0, none⟩ (.iface tt xx) = z.w := ⟨⟨_, y2.h.setCell (p := ⟨y0.w.heap.size, 0, none⟩) y0.h.size _⟩, rfl⟩
  have fz : y2.w.frozen? ⟨y0.w.heap.size, 0, none⟩ = false := by have := uh O2; simp [World.frozen?, this]
  have O3 := hide (show y3.w.heap[y0.w.heap.size]? = some (.cells #[.iface tt xx, .int .i64 6, .int .i64 r] 85 (0, 0)) by rw [← hy3]; exact heap_setCell_same _ _ _ _ _ _ (uh O2))
  clear O2
  go_wp2_with (first | (refine wpList_load_row rfl 85 _ rfl y0.w.heap.size rfl 85 #[.iface tt xx, .int .i64 6, .int .i64 r] (0, 0) _ (uh O3) Tryz.underlying85 rfl (by kernel_rfl) ?_) | (refine wpList_store_row rfl 85 _ _ rfl V.heap.size #[.iface tt xx, .int .i64 6, .int .i64 r] rfl rfl 85 _ (uh RY _) szOp rfl (op_one (.inr ⟨_, _, rfl⟩) 6 r) ?_))
  refine bodyPost_ret (results_row2 (P := Tryz.prog) rfl _ _ V.heap.size 85 #[.iface tt xx, .int .i64 6, .int .i64 r] (0, 0) _ rfl (setRow_heap _ _ _ _ _ _ (uh RY _)) Tryz.underlying85 rfl szOp) rfl ?_
  exact uh F2 _ _ _ _ _ rfl (.inr ⟨_, _, rfl⟩) (fun h => ⟨uh HV h, rfl, rfl⟩) (below_rowG (uh BY y3) (uh VL))
theorem opd_7 (r : Int) (e : Ex) (b : Option Addr) (cap : Nat) (w : World) (hr : RdX w 0 e b) (hz : e.sz ≤ 1048576) (ht : TabK w) (hf : TabF w) : Calls Tryz.prog 57 #[.agg ((Ag.mk 7 r e).cs b cap)] w (OpdR ⟨7, r, e⟩ w) := by
 have hsz := sz_is e
 have cR : cntB ⟨#[64, 69, 40, 82, 41]⟩ 82 = true := by decide
 have cE : cntB ⟨#[64, 69, 40, 82, 41]⟩ 69 = true := by decide
 have P := hide (fun w' (h : Below w.heap.size w w') => plnO_any e b cap w' (hr.later h) hz (ht.next h))
 unfold PlnR Ex.cs at P
 have V : agX ⟨7, r, e⟩ = (inB r 0 7 && okF 6 true e) := by unfold agX; rfl
 have U : opU ⟨7, r, e⟩ = tv e := by unfold opU; rfl
 have FN := hide (fun r0 w' u f0 g q (h : (inB r 0 7 && okF 6 true e) = q) (hr : r0 = .returned (.tuple #[.agg #[u, .int .i64 f0, .int .i64 g], .bool q])) (hu : IfV u) (hv : q = true → u = tv e ∧ f0 = 7 ∧ g = r) => opdR_of (w := w) (r := r0) (w' := w') (u := u) (f := f0) (g := g) (V.trans h) hr hu (fun x => by rw [U]; exact hv x))
 clear V U hr ht hsz hz
 generalize OpdR ⟨7, r, e⟩ w = R at *
 generalize okF 6 true e = q at *
 generalize tv e = tve at *
 unfold Ag.cs
 simp only
 generalize e.k = k at *
 generalize e.n = n at *
 generalize e.s = s at *
 generalize e.l.length = ll at *
 have G2 := two_new w (.cells #[.int .i64 7, .int .i64 r, .int .i64 k, .int .i64 n, .string s, .slice b ll cap] 28) (.cells #[.nilIface, .int .i64 0, .int .i64 0] 85)
 have G1 := two_new0 w (.cells #[.int .i64 7, .int .i64 r, .int .i64 k, .int .i64 n, .string s, .slice b ll cap] 28) (.cells #[.nilIface, .int .i64 0, .int .i64 0] 85)
 obtain ⟨V, hV⟩ : ∃ V, w.alloc (.cells #[.int .i64 7, .int .i64 r, .int .i64 k, .int .i64 n, .string s, .slice b ll cap] 28) = V := ⟨_, rfl⟩
 have vsz : w.heap.size + 1 = V.heap.size := by rw [← hV]; simp
 rw [vsz, hV] at G2
 rw [hV] at G1
 obtain ⟨W, hW⟩ : ∃ W, V.alloc (.cells #[.nilIface, .int .i64 0, .int .i64 0] 85) = W := ⟨_, rfl⟩
 rw [hW] at G1 G2
 obtain ⟨G2, hbW⟩ := G2
 have l1 : w.heap.size < W.heap.size := (Array.getElem?_eq_some_iff.1 G1).1
 have l2 : V.heap.size < W.heap.size := (Array.getElem?_eq_some_iff.1 G2).1
 have BY := hide (fun y : Sub W.heap.size W => hbW.trans (y.h.mono hbW.size))
 have RY := hide (fun y : Sub W.heap.size W => (y.h.block _ l2).trans G2)
 have VL := hide (show w.heap.size ≤ V.heap.size by omega)
 have ne := Sub.ne W.heap.size W
 have HZ := hide (Nat.le_refl W.heap.size)
 have E0 : ∀ y : Sub W.heap.size W, y.w.cell? ⟨w.heap.size, 0, none⟩ = some (.int .i64 7) := fun y => (y.h.cell (p := ⟨w.heap.size, 0, none⟩) l1).trans (Lib.cell_of_heap G1 0)
 have E1 : ∀ y : Sub W.heap.size W, y.w.cell? ⟨w.heap.size, 1, none⟩ = some (.int .i64 r) := fun y => (y.h.cell (p := ⟨w.heap.size, 1, none⟩) l1).trans (Lib.cell_of_heap G1 1)
 have E2 : ∀ y : Sub W.heap.size W, y.w.cell? ⟨w.heap.size, 2, none⟩ = some (.int .i64 k) := fun y => (y.h.cell (p := ⟨w.heap.size, 2, none⟩) l1).trans (Lib.cell_of_heap G1 2)
 have E3 : ∀ y : Sub W.heap.size W, y.w.cell? ⟨w.heap.size, 3, none⟩ = some (.int .i64 n) := fun y => (y.h.cell (p := ⟨w.heap.size, 3, none⟩) l1).trans (Lib.cell_of_heap G1 3)
 have E4 : ∀ y : Sub W.heap.size W, y.w.cell? ⟨w.heap.size, 4, none⟩ = some (.string s) := fun y => (y.h.cell (p := ⟨w.heap.size, 4, none⟩) l1).trans (Lib.cell_of_heap G1 4)
 have E5 : ∀ y : Sub W.heap.size W, y.w.cell? ⟨w.heap.size, 5, none⟩ = some (.slice b ll cap) := fun y => (y.h.cell (p := ⟨w.heap.size, 5, none⟩) l1).trans (Lib.cell_of_heap G1 5)
 have T0 : ∀ y : Sub W.heap.size W, y.w.cell? ⟨2, 7, none⟩ = some (.string ⟨#[64, 69, 40, 82, 41]⟩) := fun y => (hf.next (uh BY y)).at7
 obtain ⟨y0, hy0⟩ : ∃ z : Sub W.heap.size W, W = z.w := ⟨⟨W, Below.refl _ _⟩, rfl⟩
 rw [hy0] at hW
 clear l1 l2 vsz hbW hy0
 have PY := hide (fun y : Sub W.heap.size W => uh P y.w (uh BY y))
 clear P hf
 by_cases h0 : r < 0
 ·
  have F2 := hide (fun r0 w' u f0 g => uh FN r0 w' u f0 g false (by rw [inB_f r 0 7 (by omega)]; rfl))
  clear FN PY
  go_enter Tryz.func57, Tryz.ntmps57
  go_wp2_with (first | (go_at_call 119; refine (cntI _ _ _).mono ?_; rintro e w' ⟨rfl, hw'⟩; rw [hw']; clear hw' w'; (try rw [cR]); (try rw [cE])) | (refine wpList_store_row rfl 85 _ _ rfl V.heap.size #[.nilIface, .int .i64 0, .int .i64 0] rfl rfl 85 _ (uh RY _) szOp rfl (op_one (.inl rfl) 0 0) ?_))
  refine bodyPost_ret (results_row2 (P := Tryz.prog) rfl _ _ V.heap.size 85 #[.nilIface, .int .i64 0, .int .i64 0] (0, 0) _ rfl (setRow_heap _ _ _ _ _ _ (uh RY _)) Tryz.underlying85 rfl szOp) rfl ?_
  exact uh F2 _ _ _ _ _ rfl (.inl rfl) (fun h => by cases h) (below_rowG (uh BY _) (uh VL))
 by_cases h7 : 7 < r
 ·
  have F2 := hide (fun r0 w' u f0 g => uh FN r0 w' u f0 g false (by rw [inB_f r 0 7 (by omega)]; rfl))
  clear FN PY
  go_enter Tryz.func57, Tryz.ntmps57
  go_wp2_with (first | (go_at_call 119; refine (cntI _ _ _).mono ?_; rintro e w' ⟨rfl, hw'⟩; rw [hw']; clear hw' w'; (try rw [cR]); (try rw [cE])) | (refine wpList_store_row rfl 85 _ _ rfl V.heap.size #[.nilIface, .int .i64 0, .int .i64 0] rfl rfl 85 _ (uh RY _) szOp rfl (op_one (.inl rfl) 0 0) ?_))
  refine bodyPost_ret (results_row2 (P := Tryz.prog) rfl _ _ V.heap.size 85 #[.nilIface, .int .i64 0, .int .i64 0] (0, 0) _ rfl (setRow_heap _ _ _ _ _ _ (uh RY _)) Tryz.underlying85 rfl szOp) rfl ?_
  exact uh F2 _ _ _ _ _ rfl (.inl rfl) (fun h => by cases h) (below_rowG (uh BY _) (uh VL))
 have F2 := hide (fun r0 w' u f0 g => uh FN r0 w' u f0 g q (by rw [inB_t r 0 7 (by omega) (by omega)]; rfl))
 clear FN
 obtain ⟨y1, hy1⟩ := Sub.step (uh HZ) (below_new y0.w (.cells #[.nilIface, .int .i64 7, .int .i64 r] 85))
 have O1 := hide (show y1.w.heap[y0.w.heap.size]? = some (.cells #[.nilIface, .int .i64 7, .int .i64 r] 85 (0, 0)) by rw [← hy1]; exact Array.getElem?_push_size)
 have NO := hide (show V.heap.size ≠ y0.w.heap.size by have := (Array.getElem?_eq_some_iff.1 (uh RY y0)).1; omega)
 have NA := hide (show V.heap.size ≠ w.heap.size by rw [← hV]; simp)
 have AY := hide (fun y : Sub W.heap.size W => (y.h.block _ (Array.getElem?_eq_some_iff.1 G1).1).trans G1)
 clear G1 G2
 go_enter Tryz.func57, Tryz.ntmps57
 go_wp2_with (first | (go_at_call 119; refine (cntI _ _ _).mono ?_; rintro e w' ⟨rfl, hw'⟩; rw [hw']; clear hw' w'; (try rw [cR]); (try rw [cE])))
 refine (uh PY y1).mono ?_
 rintro r w2 ⟨v, rfl, hv, hb⟩
 have O2 := hide (row_keep (uh O1) hb)
 have HV := hide hv.2
 have hi := hv.1
 obtain ⟨y2, rfl⟩ := Sub.step (uh HZ) hb
 have c0 := Lib.cell_of_heap (uh O2) 0
 clear hb O1 hv
 rcases hi with rfl | ⟨tt, xx, rfl⟩
 ·
  obtain ⟨y3, hy3⟩ : ∃ z : Sub W.heap.size W, y2.w.setCell ⟨y0.w.heap.size, 0, none⟩ (.nilIface) = z.w := ⟨⟨_, y2.h.setCell (p := ⟨y0.w.heap.size, 0, none⟩) y0.h.size _⟩, rfl⟩
  have fz : y2.w.frozen? ⟨y0.w.heap.size, 0, none⟩ = false := by have := uh O2; simp [World.frozen?, this]
  have O3 := hide (show y3.w.heap[y0.w.heap.size]? = some (.cells #[.nilIface, .int .i64 7, .int .i64 r] 85 (0, 0)) by rw [← hy3]; exact heap_setCell_same _ _ _ _ _ _ (uh O2))
  clear O2
  go_wp2_with (first | (refine wpList_load_row rfl 85 _ rfl y0.w.heap.size rfl 85 #[.nilIface, .int .i64 7, .int .i64 r] (0, 0) _ (uh O3) Tryz.underlying85 rfl (by kernel_rfl) ?_) | (refine wpList_store_row rfl 85 _ _ rfl V.heap.size #[.nilIface, .int .i64 7, .int .i64 r] rfl rfl 85 _ (uh RY _) szOp rfl (op_one (.inl rfl) 7 r) ?_))
  refine bodyPost_ret (results_row2 (P := Tryz.prog) rfl _ _ V.heap.size 85 #[.nilIface, .int .i64 7, .int .i64 r] (0, 0) _ rfl (setRow_heap _ _ _ _ _ _ (uh RY _)) Tryz.underlying85 rfl szOp) rfl ?_
  exact uh F2 _ _ _ _ _ rfl (.inl rfl) (fun h => ⟨uh HV h, rfl, rfl⟩) (below_rowG (uh BY y3) (uh VL))
 ·
  obtain ⟨y3, hy3⟩ : ∃ z : Sub W.heap.size W, y2.w.setCell ⟨y0.w.heap.size, 0, none⟩ (.iface tt xx) = z.w := ⟨⟨_, y2.h.setCell (p := ⟨y0.w.heap.size, 0, none⟩) y0.h.size _⟩, rfl⟩
  have fz : y2.w.frozen? ⟨y0.w.heap.size, 0, none⟩ = false := by have := uh O2; simp [World.frozen?, this]
  have O3 := hide (show y3.w.heap[y0.w.heap.size]? = some (.cells #[.iface tt xx, .int .i64 7, .int .i64 r] 85 (0, 0)) by rw [← hy3]; exact heap_setCell_same _ _ _ _ _ _ (uh O2))
  clear O2
  go_wp2_with (first | (refine wpList_load_row rfl 85 _ rfl y0.w.heap.size rfl 85 #[.iface tt xx, .int .i64 7, .int .i64 r] (0, 0) _ (uh O3) Tryz.underlying85 rfl (by kernel_rfl) ?_) | (refine wpList_store_row rfl 85 _ _ rfl V.heap.size #[.iface tt xx, .int .i64 7, .int .i64 r] rfl rfl 85 _ (uh RY _) szOp rfl (op_one (.inr ⟨_, _, rfl⟩) 7 r) ?_))
  refine bodyPost_ret (results_row2 (P := Tryz.prog) rfl _ _ V.heap.size 85 #[.iface tt xx, .int .i64 7, .int .i64 r] (0, 0) _ rfl (setRow_heap _ _ _ _ _ _ (uh RY _)) Tryz.underlying85 rfl szOp) rfl ?_
  exact uh F2 _ _ _ _ _ rfl (.inr ⟨_, _, rfl⟩) (fun h => ⟨uh HV h, rfl, rfl⟩) (below_rowG (uh BY y3) (uh VL))
theorem opd_8 (r : Int) (e : Ex) (b : Option Addr) (cap : Nat) (w : World) (hr : RdX w 0 e b) (hz : e.sz ≤ 1048576) (ht : TabK w) (hf : TabF w) : Calls Tryz.prog 57 #[.agg ((Ag.mk 8 r e).cs b cap)] w (OpdR ⟨8, r, e⟩ w) := by
 have hsz := sz_is e
 have cR : cntB ⟨#[35, 69]⟩ 82 = false := by decide
 have cE : cntB ⟨#[35, 69]⟩ 69 = true := by decide
 have P := hide (fun w' (h : Below w.heap.size w w') => plnO_any e b cap w' (hr.later h) hz (ht.next h))
 unfold PlnR Ex.cs at P
 have V : agX ⟨8, r, e⟩ = (r == 0 && okF 6 true e) := by unfold agX; rfl
 have U : opU ⟨8, r, e⟩ = tv e := by unfold opU; rfl
 have FN := hide (fun r0 w' u f0 g q (h : (r == 0 && okF 6 true e) = q) (hr : r0 = .returned (.tuple #[.agg #[u, .int .i64 f0, .int .i64 g], .bool q])) (hu : IfV u) (hv : q = true → u = tv e ∧ f0 = 8 ∧ g = r) => opdR_of (w := w) (r := r0) (w' := w') (u := u) (f := f0) (g := g) (V.trans h) hr hu (fun x => by rw [U]; exact hv x))
 clear V U hr ht hsz hz
 generalize OpdR ⟨8, r, e⟩ w = R at *
 generalize okF 6 true e = q at *
 generalize tv e = tve at *
 unfold Ag.cs
 simp only
 generalize e.k = k at *
 generalize e.n = n at *
 generalize e.s = s at *
 generalize e.l.length = ll at *
 have G2 := two_new w (.cells #[.int .i64 8, .int .i64 r, .int .i64 k, .int .i64 n, .string s, .slice b ll cap] 28) (.cells #[.nilIface, .int .i64 0, .int .i64 0] 85)
 have G1 := two_new0 w (.cells #[.int .i64 8, .int .i64 r, .int .i64 k, .int .i64 n, .string s, .slice b ll cap] 28) (.cells #[.nilIface, .int .i64 0, .int .i64 0] 85)
 obtain ⟨V, hV⟩ : ∃ V, w.alloc (.cells #[.int .i64 8, .int .i64 r, .int .i64 k, .int .i64 n, .string s, .slice b ll cap] 28) = V := ⟨_, rfl⟩
 have vsz : w.heap.size + 1 = V.heap.size := by rw [← hV]; simp
 rw [vsz, hV] at G2
 rw [hV] at G1
 obtain ⟨W, hW⟩ : ∃ W, V.alloc (.cells #[.nilIface, .int .i64 0, .int .i64 0] 85) = W := ⟨_, rfl⟩
 rw [hW] at G1 G2
 obtain ⟨G2, hbW⟩ := G2
 have l1 : w.heap.size < W.heap.size := (Array.getElem?_eq_some_iff.1 G1).1
 have l2 : V.heap.size < W.heap.size := (Array.getElem?_eq_some_iff.1 G2).1
 have BY := hide (fun y : Sub W.heap.size W => hbW.trans (y.h.mono hbW.size))
 have RY := hide (fun y : Sub W.heap.size W => (y.h.block _ l2).trans G2)
 have VL := hide (show w.heap.size ≤ V.heap.size by omega)
 have ne := Sub.ne W.heap.size W
 have HZ := hide (Nat.le_refl W.heap.size)
 have E0 : ∀ y : Sub W.heap.size W, y.w.cell? ⟨w.heap.size, 0, none⟩ = some (.int .i64 8) := fun y => (y.h.cell (p := ⟨w.heap.size, 0, none⟩) l1).trans (Lib.cell_of_heap G1 0)
 have E1 : ∀ y : Sub W.heap.size W, y.w.cell? ⟨w.heap.size, 1, none⟩ = some (.int .i64 r) := fun y => (y.h.cell (p := ⟨w.heap.size, 1, none⟩) l1).trans (Lib.cell_of_heap G1 1)
 have E2 : ∀ y : Sub W.heap.size W, y.w.cell? ⟨w.heap.size, 2, none⟩ = some (.int .i64 k) := fun y => (y.h.cell (p := ⟨w.heap.size, 2, none⟩) l1).trans (Lib.cell_of_heap G1 2)
 have E3 : ∀ y : Sub W.heap.size W, y.w.cell? ⟨w.heap.size, 3, none⟩ = some (.int .i64 n) := fun y => (y.h.cell (p := ⟨w.heap.size, 3, none⟩) l1).trans (Lib.cell_of_heap G1 3)
 have E4 : ∀ y : Sub W.heap.size W, y.w.cell? ⟨w.heap.size, 4, none⟩ = some (.string s) := fun y => (y.h.cell (p := ⟨w.heap.size, 4, none⟩) l1).trans (Lib.cell_of_heap G1 4)
 have E5 : ∀ y : Sub W.heap.size W, y.w.cell? ⟨w.heap.size, 5, none⟩ = some (.slice b ll cap) := fun y => (y.h.cell (p := ⟨w.heap.size, 5, none⟩) l1).trans (Lib.cell_of_heap G1 5)
 have T0 : ∀ y : Sub W.heap.size W, y.w.cell? ⟨2, 8, none⟩ = some (.string ⟨#[35, 69]⟩) := fun y => (hf.next (uh BY y)).at8
 obtain ⟨y0, hy0⟩ : ∃ z : Sub W.heap.size W, W = z.w := ⟨⟨W, Below.refl _ _⟩, rfl⟩
 rw [hy0] at hW
 clear l1 l2 vsz hbW hy0
 have PY := hide (fun y : Sub W.heap.size W => uh P y.w (uh BY y))
 clear P hf
 by_cases h0 : r < 0
 ·
  have F2 := hide (fun r0 w' u f0 g => uh FN r0 w' u f0 g false (by rw [beq_eq_false_iff_ne.2 (show r ≠ 0 by omega)]; rfl))
  clear FN PY
  go_enter Tryz.func57, Tryz.ntmps57
  go_wp2_with (first | (go_at_call 119; refine (cntI _ _ _).mono ?_; rintro e w' ⟨rfl, hw'⟩; rw [hw']; clear hw' w'; (try rw [cR]); (try rw [cE])) | (refine wpList_store_row rfl 85 _ _ rfl V.heap.size #[.nilIface, .int .i64 0, .int .i64 0] rfl rfl 85 _ (uh RY _) szOp rfl (op_one (.inl rfl) 0 0) ?_))
  refine bodyPost_ret (results_row2 (P := Tryz.prog) rfl _ _ V.heap.size 85 #[.nilIface, .int .i64 0, .int .i64 0] (0, 0) _ rfl (setRow_heap _ _ _ _ _ _ (uh RY _)) Tryz.underlying85 rfl szOp) rfl ?_
  exact uh F2 _ _ _ _ _ rfl (.inl rfl) (fun h => by cases h) (below_rowG (uh BY _) (uh VL))
 by_cases h7 : 0 < r
 ·
  have F2 := hide (fun r0 w' u f0 g => uh FN r0 w' u f0 g false (by rw [beq_eq_false_iff_ne.2 (show r ≠ 0 by omega)]; rfl))
  clear FN PY
  go_enter Tryz.func57, Tryz.ntmps57
  go_wp2_with (first | (go_at_call 119; refine (cntI _ _ _).mono ?_; rintro e w' ⟨rfl, hw'⟩; rw [hw']; clear hw' w'; (try rw [cR]); (try rw [cE])) | (refine wpList_store_row rfl 85 _ _ rfl V.heap.size #[.nilIface, .int .i64 0, .int .i64 0] rfl rfl 85 _ (uh RY _) szOp rfl (op_one (.inl rfl) 0 0) ?_))
  refine bodyPost_ret (results_row2 (P := Tryz.prog) rfl _ _ V.heap.size 85 #[.nilIface, .int .i64 0, .int .i64 0] (0, 0) _ rfl (setRow_heap _ _ _ _ _ _ (uh RY _)) Tryz.underlying85 rfl szOp) rfl ?_
  exact uh F2 _ _ _ _ _ rfl (.inl rfl) (fun h => by cases h) (below_rowG (uh BY _) (uh VL))
 have F2 := hide (fun r0 w' u f0 g => uh FN r0 w' u f0 g q (by rw [show r = 0 by omega]; rfl))
 clear FN
 obtain ⟨y1, hy1⟩ := Sub.step (uh HZ) (below_new y0.w (.cells #[.nilIface, .int .i64 8, .int .i64 r] 85))
 have O1 := hide (show y1.w.heap[y0.w.heap.size]? = some (.cells #[.nilIface, .int .i64 8, .int .i64 r] 85 (0, 0)) by rw [← hy1]; exact Array.getElem?_push_size)
 have NO := hide (show V.heap.size ≠ y0.w.heap.size by have := (Array.getElem?_eq_some_iff.1 (uh RY y0)).1; omega)
 have NA := hide (show V.heap.size ≠ w.heap.size by rw [← hV]; simp)
 have AY := hide (fun y : Sub W.heap.size W => (y.h.block _ (Array.getElem?_eq_some_iff.1 G1).1).trans G1)
 clear G1 G2
 go_enter Tryz.func57, Tryz.ntmps57
 go_wp2_with (first | (go_at_call 119; refine (cntI _ _ _).mono ?_; rintro e w' ⟨rfl, hw'⟩; rw [hw']; clear hw' w'; (try rw [cR]); (try rw [cE])))
 refine (uh PY y1).mono ?_
 rintro r w2 ⟨v, rfl, hv, hb⟩
 have O2 := hide (row_keep (uh O1) hb)
 have HV := hide hv.2
 have hi := hv.1
 obtain ⟨y2, rfl⟩ := Sub.step (uh HZ) hb
 have c0 := Lib.cell_of_heap (uh O2) 0
 clear hb O1 hv
 rcases hi with rfl | ⟨tt, xx, rfl⟩
 ·
  obtain ⟨y3, hy3⟩ : ∃ z : Sub W.heap.size W, y2.w.setCell ⟨y0.w.heap.size, 0, none⟩ (.nilIface) = z.w := ⟨⟨_, y2.h.setCell (p := ⟨y0.w.heap.size, 0, none⟩) y0.h.size _⟩, rfl⟩
  have fz : y2.w.frozen? ⟨y0.w.heap.size, 0, none⟩ = false := by have := uh O2; simp [World.frozen?, this]
  have O3 := hide (show y3.w.heap[y0.w.heap.size]? = some (.cells #[.nilIface, .int .i64 8, .int .i64 r] 85 (0, 0)) by rw [← hy3]; exact heap_setCell_same _ _ _ _ _ _ (uh O2))
  clear O2
  go_wp2_with (first | (refine wpList_load_row rfl 85 _ rfl y0.w.heap.size rfl 85 #[.nilIface, .int .i64 8, .int .i64 r] (0, 0) _ (uh O3) Tryz.underlying85 rfl (by kernel_rfl) ?_) | (refine wpList_store_row rfl 85 _ _ rfl V.heap.size #[.nilIface, .int .i64 8, .int .i64 r] rfl rfl 85 _ (uh RY _) szOp rfl (op_one (.inl rfl) 8 r) ?_))
  refine bodyPost_ret (results_row2 (P := Tryz.prog) rfl _ _ V.heap.size 85 #[.nilIface, .int .i64 8, .int .i64 r] (0, 0) _ rfl (setRow_heap _ _ _ _ _ _ (uh RY _)) Tryz.underlying85 rfl szOp) rfl ?_
  exact uh F2 _ _ _ _ _ rfl (.inl rfl) (fun h => ⟨uh HV h, rfl, rfl⟩) (below_rowG (uh BY y3) (uh VL))
 ·
  obtain ⟨y3, hy3⟩ : ∃ z : Sub W.heap.size W, y2.w.setCell ⟨y0.w.heap.size, 0, none⟩ (.iface tt xx) = z.w := ⟨⟨_, y2.h.setCell (p := ⟨y0.w.heap.size, 0, none⟩) y0.h.size _⟩, rfl⟩
  have fz : y2.w.frozen? ⟨y0.w.heap.size, 0, none⟩ = false := by have := uh O2; simp [World.frozen?, this]
  have O3 := hide (show y3.w.heap[y0.w.heap.size]? = some (.cells #[.iface tt xx, .int .i64 8, .int .i64 r] 85 (0, 0)) by rw [← hy3]; exact heap_setCell_same _ _ _ _ _ _ (uh O2))
  clear O2
  go_wp2_with (first | (refine wpList_load_row rfl 85 _ rfl y0.w.heap.size rfl 85 #[.iface tt xx, .int .i64 8, .int .i64 r] (0, 0) _ (uh O3) Tryz.underlying85 rfl (by kernel_rfl) ?_) | (refine wpList_store_row rfl 85 _ _ rfl V.heap.size #[.iface tt xx, .int .i64 8, .int .i64 r] rfl rfl 85 _ (uh RY _) szOp rfl (op_one (.inr ⟨_, _, rfl⟩) 8 r) ?_))
  refine bodyPost_ret (results_row2 (P := Tryz.prog) rfl _ _ V.heap.size 85 #[.iface tt xx, .int .i64 8, .int .i64 r] (0, 0) _ rfl (setRow_heap _ _ _ _ _ _ (uh RY _)) Tryz.underlying85 rfl szOp) rfl ?_
  exact uh F2 _ _ _ _ _ rfl (.inr ⟨_, _, rfl⟩) (fun h => ⟨uh HV h, rfl, rfl⟩) (below_rowG (uh BY y3) (uh VL))
theorem opd_9 (r : Int) (e : Ex) (b : Option Addr) (cap : Nat) (w : World) (hr : RdX w 0 e b) (hz : e.sz ≤ 1048576) (ht : TabK w) (hf : TabF w) : Calls Tryz.prog 57 #[.agg ((Ag.mk 9 r e).cs b cap)] w (OpdR ⟨9, r, e⟩ w) := by
 have hsz := sz_is e
 have cR : cntB ⟨#[64, 35, 69]⟩ 82 = false := by decide
 have cE : cntB ⟨#[64, 35, 69]⟩ 69 = true := by decide
 have P := hide (fun w' (h : Below w.heap.size w w') => plnO_any e b cap w' (hr.later h) hz (ht.next h))
 unfold PlnR Ex.cs at P
 have V : agX ⟨9, r, e⟩ = (r == 0 && okF 6 true e) := by unfold agX; rfl
 have U : opU ⟨9, r, e⟩ = tv e := by unfold opU; rfl
 have FN := hide (fun r0 w' u f0 g q (h : (r == 0 && okF 6 true e) = q) (hr : r0 = .returned (.tuple #[.agg #[u, .int .i64 f0, .int .i64 g], .bool q])) (hu : IfV u) (hv : q = true → u = tv e ∧ f0 = 9 ∧ g = r) => opdR_of (w := w) (r := r0) (w' := w') (u := u) (f := f0) (g := g) (V.trans h) hr hu (fun x => by rw [U]; exact hv x))
 clear V U hr ht hsz hz
 generalize OpdR ⟨9, r, e⟩ w = R at *
 generalize okF 6 true e = q at *
 generalize tv e = tve at *
 unfold Ag.cs
 simp only
 generalize e.k = k at *
 generalize e.n = n at *
 generalize e.s = s at *
 generalize e.l.length = ll at *
 have G2 := two_new w (.cells #[.int .i64 9, .int .i64 r, .int .i64 k, .int .i64 n, .string s, .slice b ll cap] 28) (.cells #[.nilIface, .int .i64 0, .int .i64 0] 85)
 have G1 := two_new0 w (.cells #[.int .i64 9, .int .i64 r, .int .i64 k, .int .i64 n, .string s, .slice b ll cap] 28) (.cells #[.nilIface, .int .i64 0, .int .i64 0] 85)
 obtain ⟨V, hV⟩ : ∃ V, w.alloc (.cells #[.int .i64 9, .int .i64 r, .int .i64 k, .int .i64 n, .string s, .slice b ll cap] 28) = V := ⟨_, rfl⟩
 have vsz : w.heap.size + 1 = V.heap.size := by rw [← hV]; simp
 rw [vsz, hV] at G2
 rw [hV] at G1
 obtain ⟨W, hW⟩ : ∃ W, V.alloc (.cells #[.nilIface, .int .i64 0, .int .i64 0] 85) = W := ⟨_, rfl⟩
 rw [hW] at G1 G2
 obtain ⟨G2, hbW⟩ := G2
 have l1 : w.heap.size < W.heap.size := (Array.getElem?_eq_some_iff.1 G1).1
 have l2 : V.heap.size < W.heap.size := (Array.getElem?_eq_some_iff.1 G2).1
 have BY := hide (fun y : Sub W.heap.size W => hbW.trans (y.h.mono hbW.size))
 have RY := hide (fun y : Sub W.heap.size W => (y.h.block _ l2).trans G2)
 have VL := hide (show w.heap.size ≤ V.heap.size by omega)
 have ne := Sub.ne W.heap.size W
 have HZ := hide (Nat.le_refl W.heap.size)
 have E0 : ∀ y : Sub W.heap.size W, y.w.cell? ⟨w.heap.size, 0, none⟩ = some (.int .i64 9) := fun y => (y.h.cell (p := ⟨w.heap.size, 0, none⟩) l1).trans (Lib.cell_of_heap G1 0)
 have E1 : ∀ y : Sub W.heap.size W, y.w.cell? ⟨w.heap.size, 1, none⟩ = some (.int .i64 r) := fun y => (y.h.cell (p := ⟨w.heap.size, 1, none⟩) l1).trans (Lib.cell_of_heap G1 1)
 have E2 : ∀ y : Sub W.heap.size W, y.w.cell? ⟨w.heap.size, 2, none⟩ = some (.int .i64 k) := fun y => (y.h.cell (p := ⟨w.heap.size, 2, none⟩) l1).trans (Lib.cell_of_heap G1 2)
 have E3 : ∀ y : Sub W.heap.size W, y.w.cell? ⟨w.heap.size, 3, none⟩ = some (.int .i64 n) := fun y => (y.h.cell (p := ⟨w.heap.size, 3, none⟩) l1).trans (Lib.cell_of_heap G1 3)
 have E4 : ∀ y : Sub W.heap.size W, y.w.cell? ⟨w.heap.size, 4, none⟩ = some (.string s) := fun y => (y.h.cell (p := ⟨w.heap.size, 4, none⟩) l1).trans (Lib.cell_of_heap G1 4)
 have E5 : ∀ y : Sub W.heap.size W, y.w.cell? ⟨w.heap.size, 5, none⟩ = some (.slice b ll cap) := fun y => (y.h.cell (p := ⟨w.heap.size, 5, none⟩) l1).trans (Lib.cell_of_heap G1 5)
 have T0 : ∀ y : Sub W.heap.size W, y.w.cell? ⟨2, 9, none⟩ = some (.string ⟨#[64, 35, 69]⟩) := fun y => (hf.next (uh BY y)).at9
 obtain ⟨y0, hy0⟩ : ∃ z : Sub W.heap.size W, W = z.w := ⟨⟨W, Below.refl _ _⟩, rfl⟩
 rw [hy0] at hW
 clear l1 l2 vsz hbW hy0
 have PY := hide (fun y : Sub W.heap.size W => uh P y.w (uh BY y))
 clear P hf
 by_cases h0 : r < 0
 ·
  have F2 := hide (fun r0 w' u f0 g => uh FN r0 w' u f0 g false (by rw [beq_eq_false_iff_ne.2 (show r ≠ 0 by omega)]; rfl))
  clear FN PY
  go_enter Tryz.func57, Tryz.ntmps57
  go_wp2_with (first | (go_at_call 119; refine (cntI _ _ _).mono ?_; rintro e w' ⟨rfl, hw'⟩; rw [hw']; clear hw' w'; (try rw [cR]); (try rw [cE])) | (refine wpList_store_row rfl 85 _ _ rfl V.heap.size #[.nilIface, .int .i64 0, .int .i64 0] rfl rfl 85 _ (uh RY _) szOp rfl (op_one (.inl rfl) 0 0) ?_))
  refine bodyPost_ret (results_row2 (P := Tryz.prog) rfl _ _ V.heap.size 85 #[.nilIface, .int .i64 0, .int .i64 0] (0, 0) _ rfl (setRow_heap _ _ _ _ _ _ (uh RY _)) Tryz.underlying85 rfl szOp) rfl ?_
  exact uh F2 _ _ _ _ _ rfl (.inl rfl) (fun h => by cases h) (below_rowG (uh BY _) (uh VL))
 by_cases h7 : 0 < r
 ·
  have F2 := hide (fun r0 w' u f0 g => uh FN r0 w' u f0 g false (by rw [beq_eq_false_iff_ne.2 (show r ≠ 0 by omega)]; rfl))
  clear FN PY
  go_enter Tryz.func57, Tryz.ntmps57
  go_wp2_with (first | (go_at_call 119; refine (cntI _ _ _).mono ?_; rintro e w' ⟨rfl, hw'⟩; rw [hw']; clear hw' w'; (try rw [cR]); (try rw [cE])) | (refine wpList_store_row rfl 85 _ _ rfl V.heap.size #[.nilIface, .int .i64 0, .int .i64 0] rfl rfl 85 _ (uh RY _) szOp rfl (op_one (.inl rfl) 0 0) ?_))
  refine bodyPost_ret (results_row2 (P := Tryz.prog) rfl _ _ V.heap.size 85 #[.nilIface, .int .i64 0, .int .i64 0] (0, 0) _ rfl (setRow_heap _ _ _ _ _ _ (uh RY _)) Tryz.underlying85 rfl szOp) rfl ?_
  exact uh F2 _ _ _ _ _ rfl (.inl rfl) (fun h => by cases h) (below_rowG (uh BY _) (uh VL))
 have F2 := hide (fun r0 w' u f0 g => uh FN r0 w' u f0 g q (by rw [show r = 0 by omega]; rfl))
 clear FN
 obtain ⟨y1, hy1⟩ := Sub.step (uh HZ) (below_new y0.w (.cells #[.nilIface, .int .i64 9, .int .i64 r] 85))
 have O1 := hide (show y1.w.heap[y0.w.heap.size]? = some (.cells #[.nilIface, .int .i64 9, .int .i64 r] 85 (0, 0)) by rw [← hy1]; exact Array.getElem?_push_size)
 have NO := hide (show V.heap.size ≠ y0.w.heap.size by have := (Array.getElem?_eq_some_iff.1 (uh RY y0)).1; omega)
 have NA := hide (show V.heap.size ≠ w.heap.size by rw [← hV]; simp)
 have AY := hide (fun y : Sub W.heap.size W => (y.h.block _ (Array.getElem?_eq_some_iff.1 G1).1).trans G1)
 clear G1 G2
 go_enter Tryz.func57, Tryz.ntmps57
 go_wp2_with (first | (go_at_call 119; refine (cntI _ _ _).mono ?_; rintro e w' ⟨rfl, hw'⟩; rw [hw']; clear hw' w'; (try rw [cR]); (try rw [cE])))
 refine (uh PY y1).mono ?_
 rintro r w2 ⟨v, rfl, hv, hb⟩
 have O2 := hide (row_keep (uh O1) hb)
 have HV := hide hv.2
 have hi := hv.1
 obtain ⟨y2, rfl⟩ := Sub.step (uh HZ) hb
 have c0 := Lib.cell_of_heap (uh O2) 0
 clear hb O1 hv
 rcases hi with rfl | ⟨tt, xx, rfl⟩
 ·
  obtain ⟨y3, hy3⟩ : ∃ z : Sub W.heap.size W, y2.w.setCell ⟨y0.w.heap.size, 0, none⟩ (.nilIface) = z.w := ⟨⟨_, y2.h.setCell (p := ⟨y0.w.heap.size, 0, none⟩) y0.h.size _⟩, rfl⟩
  have fz : y2.w.frozen? ⟨y0.w.heap.size, 0, none⟩ = false := by have := uh O2; simp [World.frozen?, this]
  have O3 := hide (show y3.w.heap[y0.w.heap.size]? = some (.cells #[.nilIface, .int .i64 9, .int .i64 r] 85 (0, 0)) by rw [← hy3]; exact heap_setCell_same _ _ _ _ _ _ (uh O2))
  clear O2
  go_wp2_with (first | (refine wpList_load_row rfl 85 _ rfl y0.w.heap.size rfl 85 #[.nilIface, .int .i64 9, .int .i64 r] (0, 0) _ (uh O3) Tryz.underlying85 rfl (by kernel_rfl) ?_) | (refine wpList_store_row rfl 85 _ _ rfl V.heap.size #[.nilIface, .int .i64 9, .int .i64 r] rfl rfl 85 _ (uh RY _) szOp rfl (op_one (.inl rfl) 9 r) ?_))
  refine bodyPost_ret (results_row2 (P := Tryz.prog) rfl _ _ V.heap.size 85 #[.nilIface, .int .i64 9, .int .i64 r] (0, 0) _ rfl (setRow_heap _ _ _ _ _ _ (uh RY _)) Tryz.underlying85 rfl szOp) rfl ?_
  exact uh F2 _ _ _ _ _ rfl (.inl rfl) (fun h => ⟨uh HV h, rfl, rfl⟩) (below_rowG (uh BY y3) (uh VL))
 ·
  obtain ⟨y3, hy3⟩ : ∃ z : Sub W.heap.size W, y2.w.setCell ⟨y0.w.heap.size, 0, none⟩ (.iface tt xx) = z.w := ⟨⟨_, y2.h.setCell (p := ⟨y0.w.heap.size, 0, none⟩) y0.h.size _⟩, rfl⟩
  have fz : y2.w.frozen? ⟨y0.w.heap.size, 0, none⟩ = false := by have := uh O2; simp [World.frozen?, this]
  have O3 := hide (show y3.w.heap[y0.w.heap.size]? = some (.cells #[.iface tt xx, .int .i64 9, .int .i64 r] 85 (0, 0)) by rw [← hy3]; exact heap_setCell_same _ _ _ _ _ _ (uh O2))
  clear O2
  go_wp2_with (first | (refine wpList_load_row rfl 85 _ rfl y0.w.heap.size rfl 85 #[.iface tt xx, .int .i64 9, .int .i64 r] (0, 0) _ (uh O3) Tryz.underlying85 rfl (by kernel_rfl) ?_) | (refine wpList_store_row rfl 85 _ _ rfl V.heap.size #[.iface tt xx, .int .i64 9, .int .i64 r] rfl rfl 85 _ (uh RY _) szOp rfl (op_one (.inr ⟨_, _, rfl⟩) 9 r) ?_))
  refine bodyPost_ret (results_row2 (P := Tryz.prog) rfl _ _ V.heap.size 85 #[.iface tt xx, .int .i64 9, .int .i64 r] (0, 0) _ rfl (setRow_heap _ _ _ _ _ _ (uh RY _)) Tryz.underlying85 rfl szOp) rfl ?_
  exact uh F2 _ _ _ _ _ rfl (.inr ⟨_, _, rfl⟩) (fun h => ⟨uh HV h, rfl, rfl⟩) (below_rowG (uh BY y3) (uh VL))
theorem opd_10 (r : Int) (e : Ex) (b : Option Addr) (cap : Nat) (w : World) (hr : RdX w 0 e b) (hz : e.sz ≤ 1048576) (ht : TabK w) (hf : TabF w) : Calls Tryz.prog 57 #[.agg ((Ag.mk 10 r e).cs b cap)] w (OpdR ⟨10, r, e⟩ w) := by
 have hsz := sz_is e
 have cR : cntB ⟨#[69]⟩ 82 = false := by decide
 have cE : cntB ⟨#[69]⟩ 69 = true := by decide
 have P := hide (fun w' (h : Below w.heap.size w w') => plnO_any e b cap w' (hr.later h) hz (ht.next h))
 unfold PlnR Ex.cs at P
 have V : agX ⟨10, r, e⟩ = (r == 0 && okF 6 true e) := by unfold agX; rfl
 have U : opU ⟨10, r, e⟩ = tv e := by unfold opU; rfl
 have FN := hide (fun r0 w' u f0 g q (h : (r == 0 && okF 6 true e) = q) (hr : r0 = .returned (.tuple #[.agg #[u, .int .i64 f0, .int .i64 g], .bool q])) (hu : IfV u) (hv : q = true → u = tv e ∧ f0 = 10 ∧ g = r) => opdR_of (w := w) (r := r0) (w' := w') (u := u) (f := f0) (g := g) (V.trans h) hr hu (fun x => by rw [U]; exact hv x))
 clear V U hr ht hsz hz
 generalize OpdR ⟨10, r, e⟩ w = R at *
 generalize okF 6 true e = q at *
 generalize tv e = tve at *
 unfold Ag.cs
 simp only
 generalize e.k = k at *
 generalize e.n = n at *
 generalize e.s = s at *
 generalize e.l.length = ll at *
 have G2 := two_new w (.cells #[.int .i64 10, .int .i64 r, .int .i64 k, .int .i64 n, .string s, .slice b ll cap] 28) (.cells #[.nilIface, .int .i64 0, .int .i64 0] 85)
 have G1 := two_new0 w (.cells #[.int .i64 10, .int .i64 r, .int .i64 k, .int .i64 n, .string s, .slice b ll cap] 28) (.cells #[.nilIface, .int .i64 0, .int .i64 0] 85)
 obtain ⟨V, hV⟩ : ∃ V, w.alloc (.cells #[.int .i64 10, .int .i64 r, .int .i64 k, .int .i64 n, .string s, .slice b ll cap] 28) = V := ⟨_, rfl⟩
 have vsz : w.heap.size + 1 = V.heap.size := by rw [← hV]; simp
 rw [vsz, hV] at G2
 rw [hV] at G1
 obtain ⟨W, hW⟩ : ∃ W, V.alloc (.cells #[.nilIface, .int .i64 0, .int .i64 0] 85) = W := ⟨_, rfl⟩
 rw [hW] at G1 G2
 obtain ⟨G2, hbW⟩ := G2
 have l1 : w.heap.size < W.heap.size := (Array.getElem?_eq_some_iff.1 G1).1
 have l2 : V.heap.size < W.heap.size := (Array.getElem?_eq_some_iff.1 G2).1
 have BY := hide (fun y : Sub W.heap.size W => hbW.trans (y.h.mono hbW.size))
 have RY := hide (fun y : Sub W.heap.size W => (y.h.block _ l2).trans G2)
 have VL := hide (show w.heap.size ≤ V.heap.size by omega)
 have ne := Sub.ne W.heap.size W
 have HZ := hide (Nat.le_refl W.heap.size)
 have E0 : ∀ y : Sub W.heap.size W, y.w.cell? ⟨w.heap.size, 0, none⟩ = some (.int .i64 10) := fun y => (y.h.cell (p := ⟨w.heap.size, 0, none⟩) l1).trans (Lib.cell_of_heap G1 0)
 have E1 : ∀ y : Sub W.heap.size W, y.w.cell? ⟨w.heap.size, 1, none⟩ = some (.int .i64 r) := fun y => (y.h.cell (p := ⟨w.heap.size, 1, none⟩) l1).trans (Lib.cell_of_heap G1 1)
 have E2 : ∀ y : Sub W.heap.size W, y.w.cell? ⟨w.heap.size, 2, none⟩ = some (.int .i64 k) := fun y => (y.h.cell (p := ⟨w.heap.size, 2, none⟩) l1).trans (Lib.cell_of_heap G1 2)
 have E3 : ∀ y : Sub W.heap.size W, y.w.cell? ⟨w.heap.size, 3, none⟩ = some (.int .i64 n) := fun y => (y.h.cell (p := ⟨w.heap.size, 3, none⟩) l1).trans (Lib.cell_of_heap G1 3)
 have E4 : ∀ y : Sub W.heap.size W, y.w.cell? ⟨w.heap.size, 4, none⟩ = some (.string s) := fun y => (y.h.cell (p := ⟨w.heap.size, 4, none⟩) l1).trans (Lib.cell_of_heap G1 4)
 have E5 : ∀ y : Sub W.heap.size W, y.w.cell? ⟨w.heap.size, 5, none⟩ = some (.slice b ll cap) := fun y => (y.h.cell (p := ⟨w.heap.size, 5, none⟩) l1).trans (Lib.cell_of_heap G1 5)
 have T0 : ∀ y : Sub W.heap.size W, y.w.cell? ⟨2, 10, none⟩ = some (.string ⟨#[69]⟩) := fun y => (hf.next (uh BY y)).at10
 obtain ⟨y0, hy0⟩ : ∃ z : Sub W.heap.size W, W = z.w := ⟨⟨W, Below.refl _ _⟩, rfl⟩
 rw [hy0] at hW
 clear l1 l2 vsz hbW hy0
 have PY := hide (fun y : Sub W.heap.size W => uh P y.w (uh BY y))
 clear P hf
 by_cases h0 : r < 0
 ·
  have F2 := hide (fun r0 w' u f0 g => uh FN r0 w' u f0 g false (by rw [beq_eq_false_iff_ne.2 (show r ≠ 0 by omega)]; rfl))
  clear FN PY
  go_enter Tryz.func57, Tryz.ntmps57
  go_wp2_with (first | (go_at_call 119; refine (cntI _ _ _).mono ?_; rintro e w' ⟨rfl, hw'⟩; rw [hw']; clear hw' w'; (try rw [cR]); (try rw [cE])) | (refine wpList_store_row rfl 85 _ _ rfl V.heap.size #[.nilIface, .int .i64 0, .int .i64 0] rfl rfl 85 _ (uh RY _) szOp rfl (op_one (.inl rfl) 0 0) ?_))
  refine bodyPost_ret (results_row2 (P := Tryz.prog) rfl _ _ V.heap.size 85 #[.nilIface, .int .i64 0, .int .i64 0] (0, 0) _ rfl (setRow_heap _ _ _ _ _ _ (uh RY _)) Tryz.underlying85 rfl szOp) rfl ?_
  exact uh F2 _ _ _ _ _ rfl (.inl rfl) (fun h => by cases h) (below_rowG (uh BY _) (uh VL))
 by_cases h7 : 0 < r
 ·
  have F2 := hide (fun r0 w' u f0 g => uh FN r0 w' u f0 g false (by rw [beq_eq_false_iff_ne.2 (show r ≠ 0 by omega)]; rfl))
  clear FN PY
  go_enter Tryz.func57, Tryz.ntmps57
  go_wp2_with (first | (go_at_call 119; refine (cntI _ _ _).mono ?_; rintro e w' ⟨rfl, hw'⟩; rw [hw']; clear hw' w'; (try rw [cR]); (try rw [cE])) | (refine wpList_store_row rfl 85 _ _ rfl V.heap.size #[.nilIface, .int .i64 0, .int .i64 0] rfl rfl 85 _ (uh RY _) szOp rfl (op_one (.inl rfl) 0 0) ?_))
  refine bodyPost_ret (results_row2 (P := Tryz.prog) rfl _ _ V.heap.size 85 #[.nilIface, .int .i64 0, .int .i64 0] (0, 0) _ rfl (setRow_heap _ _ _ _ _ _ (uh RY _)) Tryz.underlying85 rfl szOp) rfl ?_
  exact uh F2 _ _ _ _ _ rfl (.inl rfl) (fun h => by cases h) (below_rowG (uh BY _) (uh VL))
 have F2 := hide (fun r0 w' u f0 g => uh FN r0 w' u f0 g q (by rw [show r = 0 by omega]; rfl))
 clear FN
 obtain ⟨y1, hy1⟩ := Sub.step (uh HZ) (below_new y0.w (.cells #[.nilIface, .int .i64 10, .int .i64 r] 85))
 have O1 := hide (show y1.w.heap[y0.w.heap.size]? = some (.cells #[.nilIface, .int .i64 10, .int .i64 r] 85 (0, 0)) by rw [← hy1]; exact Array.getElem?_push_size)
 have NO := hide (show V.heap.size ≠ y0.w.heap.size by have := (Array.getElem?_eq_some_iff.1 (uh RY y0)).1; omega)
 have NA := hide (show V.heap.size ≠ w.heap.size by rw [← hV]; simp)
 have AY := hide (fun y : Sub W.heap.size W => (y.h.block _ (Array.getElem?_eq_some_iff.1 G1).1).trans G1)
 clear G1 G2
 go_enter Tryz.func57, Tryz.ntmps57
 go_wp2_with (first | (go_at_call 119; refine (cntI _ _ _).mono ?_; rintro e w' ⟨rfl, hw'⟩; rw [hw']; clear hw' w'; (try rw [cR]); (try rw [cE])))
 refine (uh PY y1).mono ?_
 rintro r w2 ⟨v, rfl, hv, hb⟩
 have O2 := hide (row_keep (uh O1) hb)
 have HV := hide hv.2
 have hi := hv.1
 obtain ⟨y2, rfl⟩ := Sub.step (uh HZ) hb
 have c0 := Lib.cell_of_heap (uh O2) 0
 clear hb O1 hv
 rcases hi with rfl | ⟨tt, xx, rfl⟩
 ·
  obtain ⟨y3, hy3⟩ : ∃ z : Sub W.heap.size W, y2.w.setCell ⟨y0.w.heap.size, 0, none⟩ (.nilIface) = z.w := ⟨⟨_, y2.h.setCell (p := ⟨y0.w.heap.size, 0, none⟩) y0.h.size _⟩, rfl⟩
  have fz : y2.w.frozen? ⟨y0.w.heap.size, 0, none⟩ = false := by have := uh O2; simp [World.frozen?, this]
  have O3 := hide (show y3.w.heap[y0.w.heap.size]? = some (.cells #[.nilIface, .int .i64 10, .int .i64 r] 85 (0, 0)) by rw [← hy3]; exact heap_setCell_same _ _ _ _ _ _ (uh O2))
  clear O2
  go_wp2_with (first | (refine wpList_load_row rfl 85 _ rfl y0.w.heap.size rfl 85 #[.nilIface, .int .i64 10, .int .i64 r] (0, 0) _ (uh O3) Tryz.underlying85 rfl (by kernel_rfl) ?_) | (refine wpList_store_row rfl 85 _ _ rfl V.heap.size #[.nilIface, .int .i64 10, .int .i64 r] rfl rfl 85 _ (uh RY _) szOp rfl (op_one (.inl rfl) 10 r) ?_))
  refine bodyPost_ret (results_row2 (P := Tryz.prog) rfl _ _ V.heap.size 85 #[.nilIface, .int .i64 10, .int .i64 r] (0, 0) _ rfl (setRow_heap _ _ _ _ _ _ (uh RY _)) Tryz.underlying85 rfl szOp) rfl ?_
  exact uh F2 _ _ _ _ _ rfl (.inl rfl) (fun h => ⟨uh HV h, rfl, rfl⟩) (below_rowG (uh BY y3) (uh VL))
 ·
  obtain ⟨y3, hy3⟩ : ∃ z : Sub W.heap.size W, y2.w.setCell ⟨y0.w.heap.size, 0, none⟩ (.iface tt xx) = z.w := ⟨⟨_, y2.h.setCell (p := ⟨y0.w.heap.size, 0, none⟩) y0.h.size _⟩, rfl⟩
  have fz : y2.w.frozen? ⟨y0.w.heap.size, 0, none⟩ = false := by have := uh O2; simp [World.frozen?, this]
  have O3 := hide (show y3.w.heap[y0.w.heap.size]? = some (.cells #[.iface tt xx, .int .i64 10, .int .i64 r] 85 (0, 0)) by rw [← hy3]; exact heap_setCell_same _ _ _ _ _ _ (uh O2))
  clear O2
  go_wp2_with (first | (refine wpList_load_row rfl 85 _ rfl y0.w.heap.size rfl 85 #[.iface tt xx, .int .i64 10, .int .i64 r] (0, 0) _ (uh O3) Tryz.underlying85 rfl (by kernel_rfl) ?_) | (refine wpList_store_row rfl 85 _ _ rfl V.heap.size #[.iface tt xx, .int .i64 10, .int .i64 r] rfl rfl 85 _ (uh RY _) szOp rfl (op_one (.inr ⟨_, _, rfl⟩) 10 r) ?_))
  refine bodyPost_ret (results_row2 (P := Tryz.prog) rfl _ _ V.heap.size 85 #[.iface tt xx, .int .i64 10, .int .i64 r] (0, 0) _ rfl (setRow_heap _ _ _ _ _ _ (uh RY _)) Tryz.underlying85 rfl szOp) rfl ?_
  exact uh F2 _ _ _ _ _ rfl (.inr ⟨_, _, rfl⟩) (fun h => ⟨uh HV h, rfl, rfl⟩) (below_rowG (uh BY y3) (uh VL))
theorem opd_11 (r : Int) (e : Ex) (b : Option Addr) (cap : Nat) (w : World) (hr : RdX w 0 e b) (hz : e.sz ≤ 1048576) (ht : TabK w) (hf : TabF w) : Calls Tryz.prog 57 #[.agg ((Ag.mk 11 r e).cs b cap)] w (OpdR ⟨11, r, e⟩ w) := by
 have hsz := sz_is e
 have cR : cntB ⟨#[64, 69]⟩ 82 = false := by decide
 have cE : cntB ⟨#[64, 69]⟩ 69 = true := by decide
 have P := hide (fun w' (h : Below w.heap.size w w') => plnO_any e b cap w' (hr.later h) hz (ht.next h))
 unfold PlnR Ex.cs at P
 have V : agX ⟨11, r, e⟩ = (r == 0 && okF 6 true e) := by unfold agX; rfl
 have U : opU ⟨11, r, e⟩ = tv e := by unfold opU; rfl
 have FN := hide (fun r0 w' u f0 g q (h : (r == 0 && okF 6 true e) = q) (hr : r0 = .returned (.tuple #[.agg #[u, .int .i64 f0, .int .i64 g], .bool q])) (hu : IfV u) (hv : q = true → u = tv e ∧ f0 = 11 ∧ g = r) => opdR_of (w := w) (r := r0) (w' := w') (u := u) (f := f0) (g := g) (V.trans h) hr hu (fun x => by rw [U]; exact hv x))
 clear V U hr ht hsz hz
 generalize OpdR ⟨11, r, e⟩ w = R at *
 generalize okF 6 true e = q at *
 generalize tv e = tve at *
 unfold Ag.cs
 simp only
 generalize e.k = k at *
 generalize e.n = n at *
 generalize e.s = s at *
 generalize e.l.length = ll at *
 have G2 := two_new w (.cells #[.int .i64 11, .int .i64 r, .int .i64 k, .int .i64 n, .string s, .slice b ll cap] 28) (.cells #[.nilIface, .int .i64 0, .int .i64 0] 85)
 have G1 := two_new0 w (.cells #[.int .i64 11, .int .i64 r, .int .i64 k, .int .i64 n, .string s, .slice b ll cap] 28) (.cells #[.nilIface, .int .i64 0, .int .i64 0] 85)
 obtain ⟨V, hV⟩ : ∃ V, w.alloc (.cells #[.int .i64 11, .int .i64 r, .int .i64 k, .int .i64 n, .string s, .slice b ll cap] 28) = V := ⟨_, rfl⟩
 have vsz : w.heap.size + 1 = V.heap.size := by rw [← hV]; simp
 rw [vsz, hV] at G2
 rw [hV] at G1
 obtain ⟨W, hW⟩ : ∃ W, V.alloc (.cells #[.nilIface, .int .i64 0, .int .i64 0] 85) = W := ⟨_, rfl⟩
 rw [hW] at G1 G2
 obtain ⟨G2, hbW⟩ := G2
 have l1 : w.heap.size < W.heap.size := (Array.getElem?_eq_some_iff.1 G1).1
 have l2 : V.heap.size < W.heap.size := (Array.getElem?_eq_some_iff.1 G2).1
 have BY := hide (fun y : Sub W.heap.size W => hbW.trans (y.h.mono hbW.size))
 have RY := hide (fun y : Sub W.heap.size W => (y.h.block _ l2).trans G2)
 have VL := hide (show w.heap.size ≤ V.heap.size by omega)
 have ne := Sub.ne W.heap.size W
 have HZ := hide (Nat.le_refl W.heap.size)
 have E0 : ∀ y : Sub W.heap.size W, y.w.cell? ⟨w.heap.size, 0, none⟩ = some (.int .i64 11) := fun y => (y.h.cell (p := ⟨w.heap.size, 0, none⟩) l1).trans (Lib.cell_of_heap G1 0)
 have E1 : ∀ y : Sub W.heap.size W, y.w.cell? ⟨w.heap.size, 1, none⟩ = some (.int .i64 r) := fun y => (y.h.cell (p := ⟨w.heap.size, 1, none⟩) l1).trans (Lib.cell_of_heap G1 1)
 have E2 : ∀ y : Sub W.heap.size W, y.w.cell? ⟨w.heap.size, 2, none⟩ = some (.int .i64 k) := fun y => (y.h.cell (p := ⟨w.heap.size, 2, none⟩) l1).trans (Lib.cell_of_heap G1 2)
 have E3 : ∀ y : Sub W.heap.size W, y.w.cell? ⟨w.heap.size, 3, none⟩ = some (.int .i64 n) := fun y => (y.h.cell (p := ⟨w.heap.size, 3, none⟩) l1).trans (Lib.cell_of_heap G1 3)
 have E4 : ∀ y : Sub W.heap.size W, y.w.cell? ⟨w.heap.size, 4, none⟩ = some (.string s) := fun y => (y.h.cell (p := ⟨w.heap.size, 4, none⟩) l1).trans (Lib.cell_of_heap G1 4)
 have E5 : ∀ y : Sub W.heap.size W, y.w.cell? ⟨w.heap.size, 5, none⟩ = some (.slice b ll cap) := fun y => (y.h.cell (p := ⟨w.heap.size, 5, none⟩) l1).trans (Lib.cell_of_heap G1 5)
 have T0 : ∀ y : Sub W.heap.size W, y.w.cell? ⟨2, 11, none⟩ = some (.string ⟨#[64, 69]⟩) := fun y => (hf.next (uh BY y)).at11
 obtain ⟨y0, hy0⟩ : ∃ z : Sub W.heap.size W, W = z.w := ⟨⟨W, Below.refl _ _⟩, rfl⟩
 rw [hy0] at hW
 clear l1 l2 vsz hbW hy0
 have PY := hide (fun y : Sub W.heap.size W => uh P y.w (uh BY y))
 clear P hf
 by_cases h0 : r < 0
 ·
  have F2 := hide (fun r0 w' u f0 g => uh FN r0 w' u f0 g false (by rw [beq_eq_false_iff_ne.2 (show r ≠ 0 by omega)]; rfl))
  clear FN PY
  go_enter Tryz.func57, Tryz.ntmps57
  go_wp2_with (first | (go_at_call 119; refine (cntI _ _ _).mono ?_; rintro e w' ⟨rfl, hw'⟩; rw [hw']; clear hw' w'; (try rw [cR]); (try rw [cE])) | (refine wpList_store_row rfl 85 _ _ rfl V.heap.size #[.nilIface, .int .i64 0, .int .i64 0] rfl rfl 85 _ (uh RY _) szOp rfl (op_one (.inl rfl) 0 0) ?_))
  refine bodyPost_ret (results_row2 (P := Tryz.prog) rfl _ _ V.heap.size 85 #[.nilIface, .int .i64 0, .int .i64 0] (0, 0) _ rfl (setRow_heap _ _ _ _ _ _ (uh RY _)) Tryz.underlying85 rfl szOp) rfl ?_
  exact uh F2 _ _ _ _ _ rfl (.inl rfl) (fun h => by cases h) (below_rowG (uh BY _) (uh VL))
 by_cases h7 : 0 < r
 ·
  have F2 := hide (fun r0 w' u f0 g => uh FN r0 w' u f0 g false (by rw [beq_eq_false_iff_ne.2 (show r ≠ 0 by omega)]; rfl))
  clear FN PY
  go_enter Tryz.func57, Tryz.ntmps57
  go_wp2_with (first | (go_at_call 119; refine (cntI _ _ _).mono ?_; rintro e w' ⟨rfl, hw'⟩; rw [hw']; clear hw' w'; (try rw [cR]); (try rw [cE])) | (refine wpList_store_row rfl 85 _ _ rfl V.heap.size #[.nilIface, .int .i64 0, .int .i64 0] rfl rfl 85 _ (uh RY _) szOp rfl (op_one (.inl rfl) 0 0) ?_))
  refine bodyPost_ret (results_row2 (P := Tryz.prog) rfl _ _ V.heap.size 85 #[.nilIface, .int .i64 0, .int .i64 0] (0, 0) _ rfl (setRow_heap _ _ _ _ _ _ (uh RY _)) Tryz.underlying85 rfl szOp) rfl ?_
  exact uh F2 _ _ _ _ _ rfl (.inl rfl) (fun h => by cases h) (below_rowG (uh BY _) (uh VL))
 have F2 := hide (fun r0 w' u f0 g => uh FN r0 w' u f0 g q (by rw [show r = 0 by omega]; rfl))
 clear FN
 obtain ⟨y1, hy1⟩ := Sub.step (uh HZ) (below_new y0.w (.cells #[.nilIface, .int .i64 11, .int .i64 r] 85))
 have O1 := hide (show y1.w.heap[y0.w.heap.size]? = some (.cells #[.nilIface, .int .i64 11, .int .i64 r] 85 (0, 0)) by rw [← hy1]; exact Array.getElem?_push_size)
 have NO := hide (show V.heap.size ≠ y0.w.heap.size by have := (Array.getElem?_eq_some_iff.1 (uh RY y0)).1; omega)
 have NA := hide (show V.heap.size ≠ w.heap.size by rw [← hV]; simp)
 have AY := hide (fun y : Sub W.heap.size W => (y.h.block _ (Array.getElem?_eq_some_iff.1 G1).1).trans G1)
 clear G1 G2
 go_enter Tryz.func57, Tryz.ntmps57
 go_wp2_with (first | (go_at_call 119; refine (cntI _ _ _).mono ?_; rintro e w' ⟨rfl, hw'⟩; rw [hw']; clear hw' w'; (try rw [cR]); (try rw [cE])))
 refine (uh PY y1).mono ?_
 rintro r w2 ⟨v, rfl, hv, hb⟩
 have O2 := hide (row_keep (uh O1) hb)
 have HV := hide hv.2
 have hi := hv.1
 obtain ⟨y2, rfl⟩ := Sub.step (uh HZ) hb
 have c0 := Lib.cell_of_heap (uh O2) 0
 clear hb O1 hv
 rcases hi with rfl | ⟨tt, xx, rfl⟩
 ·
  obtain ⟨y3, hy3⟩ : ∃ z : Sub W.heap.size W, y2.w.setCell ⟨y0.w.heap.size, 0, none⟩ (.nilIface) = z.w := ⟨⟨_, y2.h.setCell (p := ⟨y0.w.heap.size, 0, none⟩) y0.h.size _⟩, rfl⟩
  have fz : y2.w.frozen? ⟨y0.w.heap.size, 0, none⟩ = false := by have := uh O2; simp [World.frozen?, this]
  have O3 := hide (show y3.w.heap[y0.w.heap.size]? = some (.cells #[.nilIface, .int .i64 11, .int .i64 r] 85 (0, 0)) by rw [← hy3]; exact heap_setCell_same _ _ _ _ _ _ (uh O2))
  clear O2
  go_wp2_with (first | (refine wpList_load_row rfl 85 _ rfl y0.w.heap.size rfl 85 #[.nilIface, .int .i64 11, .int .i64 r] (0, 0) _ (uh O3) Tryz.underlying85 rfl (by kernel_rfl) ?_) | (refine wpList_store_row rfl 85 _ _ rfl V.heap.size #[.nilIface, .int .i64 11, .int .i64 r] rfl rfl 85 _ (uh RY _) szOp rfl (op_one (.inl rfl) 11 r) ?_))
  refine bodyPost_ret (results_row2 (P := Tryz.prog) rfl _ _ V.heap.size 85 #[.nilIface, .int .i64 11, .int .i64 r] (0, 0) _ rfl (setRow_heap _ _ _ _ _ _ (uh RY _)) Tryz.underlying85 rfl szOp) rfl ?_
  exact uh F2 _ _ _ _ _ rfl (.inl rfl) (fun h => ⟨uh HV h, rfl, rfl⟩) (below_rowG (uh BY y3) (uh VL))
 ·
  obtain ⟨y3, hy3⟩ : ∃ z : Sub W.heap.size W, y2.w.setCell ⟨y0.w.heap.size, 0, none⟩ (.iface tt xx) = z.w := ⟨⟨_, y2.h.setCell (p := ⟨y0.w.heap.size, 0, none⟩) y0.h.size _⟩, rfl⟩
  have fz : y2.w.frozen? ⟨y0.w.heap.size, 0, none⟩ = false := by have := uh O2; simp [World.frozen?, this]
  have O3 := hide (show y3.w.heap[y0.w.heap.size]? = some (.cells #[.iface tt xx, .int .i64 11, .int .i64 r] 85 (0, 0)) by rw [← hy3]; exact heap_setCell_same _ _ _ _ _ _ (uh O2))
  clear O2
  go_wp2_with (first | (refine wpList_load_row rfl 85 _ rfl y0.w.heap.size rfl 85 #[.iface tt xx, .int .i64 11, .int .i64 r] (0, 0) _ (uh O3) Tryz.underlying85 rfl (by kernel_rfl) ?_) | (refine wpList_store_row rfl 85 _ _ rfl V.heap.size #[.iface tt xx, .int .i64 11, .int .i64 r] rfl rfl 85 _ (uh RY _) szOp rfl (op_one (.inr ⟨_, _, rfl⟩) 11 r) ?_))
  refine bodyPost_ret (results_row2 (P := Tryz.prog) rfl _ _ V.heap.size 85 #[.iface tt xx, .int .i64 11, .int .i64 r] (0, 0) _ rfl (setRow_heap _ _ _ _ _ _ (uh RY _)) Tryz.underlying85 rfl szOp) rfl ?_
  exact uh F2 _ _ _ _ _ rfl (.inr ⟨_, _, rfl⟩) (fun h => ⟨uh HV h, rfl, rfl⟩) (below_rowG (uh BY y3) (uh VL))
structure TabA (w : World) : Prop where
 k : TabK w
 f : TabF w
theorem TabA.next {w w' : World} (h : TabA w) (hb : Below w.heap.size w w') : TabA w' := ⟨h.k.next hb, h.f.next hb⟩
theorem opdI_any (a : Ag) (b : Option Addr) (cap : Nat) (w : World) (hr : RdX w 0 a.e b) (hz : a.e.sz ≤ 1048576) (ht : TabA w) : Calls Tryz.prog 57 #[.agg (a.cs b cap)] w (OpdR a w) := by
 obtain ⟨f, r, e⟩ := a
 by_cases h : f < 0 ∨ 11 < f
 · exact opd_no f r e b cap w h
 ·
  have : f = 0 ∨ f = 1 ∨ f = 2 ∨ f = 3 ∨ f = 4 ∨ f = 5 ∨ f = 6 ∨ f = 7 ∨ f = 8 ∨ f = 9 ∨ f = 10 ∨ f = 11 := by omega
  rcases this with rfl | rfl | rfl | rfl | rfl | rfl | rfl | rfl | rfl | rfl | rfl | rfl
  · exact opd_0 r e b cap w hr hz ht.k ht.f
  · exact opd_1 r e b cap w hr hz ht.k ht.f
  · exact opd_2 r e b cap w hr hz ht.k ht.f
  · exact opd_3 r e b cap w hr hz ht.k ht.f
  · exact opd_4 r e b cap w hr hz ht.k ht.f
  · exact opd_5 r e b cap w hr hz ht.k ht.f
  · exact opd_6 r e b cap w hr hz ht.k ht.f
  · exact opd_7 r e b cap w hr hz ht.k ht.f
  · exact opd_8 r e b cap w hr hz ht.k ht.f
  · exact opd_9 r e b cap w hr hz ht.k ht.f
  · exact opd_10 r e b cap w hr hz ht.k ht.f
  · exact opd_11 r e b cap w hr hz ht.k ht.f
structure Sh where
 nm : Bool
 src : Bool
 dst : Bool
 gn : Int
 fw : Int
 mo : Int
 na : Bool
def Sh.cs (s : Sh) : Array Value := #[.bool s.nm, .bool s.src, .bool s.dst, .int .i64 s.gn, .int .i64 s.fw, .int .i64 s.mo, .bool s.na]
theorem storeN {P : Program} {ops : Array Oper} {rest : List Oper} {o : Oper} {a : Act} {w : World} {Q : Exit → Act → World → Prop} (hgd : o.guard = none) (ty : TypeId) (x y : Operand) (ho : o.op = .store ty x y)
  (cells : Array Value) (hx : a.eval x = .pointer (some ⟨w.heap.size, 0, none⟩)) (hy : a.eval y = .agg cells) (old : Array Value) (hi : (P.info? ty).map (·.size) = some cells.size)
  (hold : old.size = cells.size) (h1 : cells.all (·.oneCell') = true) (h : wpList P ops Q rest (a.put o.dst undef) (w.alloc (.cells cells ty))) : wpList P ops Q (o :: rest) a (w.alloc (.cells old ty)) :=
 wpList_store_row hgd ty x y ho w.heap.size cells hx hy ty old (show (w.alloc (.cells old ty)).heap[w.heap.size]? = some (.cells old ty (0, 0)) from Array.getElem?_push_size) hi hold h1 (by rw [World.setRow_alloc_new]; exact h)
def sh0 : Sh := ⟨false, false, false, 0, 0, 0, false⟩
theorem szSh : (Tryz.prog.info? 129).map (·.size) = some 7 := by kernel_rfl
theorem sh_one (a b c d : Bool) (e f g : Int) : (#[.bool a, .bool b, .bool c, .int .i64 e, .int .i64 f, .int .i64 g, .bool d] : Array Value).all (·.oneCell') = true := by simp [Value.oneCell']
theorem srcB_any (op : Int) (w : World) : Calls Tryz.prog 191 #[.int .i64 op] w fun e w' => e = .returned (.bool (inB op 1 6)) ∧ w' = w := by
 go_enter Tryz.func191, Tryz.ntmps191
 go_wp2
 all_goals go_ret
 all_goals (refine ⟨ret_bool ?_, rfl⟩; unfold inB; simp_all <;> omega)
theorem dstB_any (op : Int) (w : World) : Calls Tryz.prog 192 #[.int .i64 op] w fun e w' => e = .returned (.bool (inB op 1 15)) ∧ w' = w := by
 go_enter Tryz.func192, Tryz.ntmps192
 go_wp2
 all_goals go_ret
 all_goals (refine ⟨ret_bool ?_, rfl⟩; unfold inB; simp_all <;> omega)
theorem braB_any (op : Int) (w : World) : Calls Tryz.prog 193 #[.int .i64 op] w fun e w' => e = .returned (.bool (inB op 17 21)) ∧ w' = w := by
 go_enter Tryz.func193, Tryz.ntmps193
 go_wp2
 all_goals go_ret
 all_goals (refine ⟨ret_bool ?_, rfl⟩; unfold inB; simp_all <;> omega)
theorem isoB_any (op : Int) (w : World) : Calls Tryz.prog 194 #[.int .i64 op] w fun e w' => e = .returned (.bool (inB op 1 23)) ∧ w' = w := by
 go_enter Tryz.func194, Tryz.ntmps194
 go_wp2
 all_goals go_ret
 all_goals (refine ⟨ret_bool ?_, rfl⟩; unfold inB; simp_all <;> omega)
def regB (op : Int) : Bool := op == 15 || op == 16
theorem regB_any (op : Int) (w : World) : Calls Tryz.prog 102 #[.int .i64 op] w fun e w' => e = .returned (.bool (regB op)) ∧ w' = w := by
 go_enter Tryz.func102, Tryz.ntmps102
 go_wp2
 all_goals go_ret
 all_goals (refine ⟨ret_bool ?_, rfl⟩; unfold regB; simp_all)
def shP (q1 q2 q3 q4 : Bool) : Sh := ⟨false, q1, q2, if q3 = true then 7 else 0, if q3 = true then 0 else if q4 = true then 1 else 0, if q3 = true then 0 else if q4 = true then 1 else 0, false⟩
theorem shiI_any (op : Int) (w : World) : Calls Tryz.prog 149 #[.int .i64 op] w fun r w' => r = .returned (.tuple #[.agg (shP (inB op 1 6) (inB op 1 15) (regB op) (inB op 17 21 || op == 23)).cs, .bool (inB op 1 23)]) ∧ Below w.heap.size w w' := by
 have C1 := hide (fun w => srcB_any op w)
 have C2 := hide (fun w => dstB_any op w)
 have C3 := hide (fun w => regB_any op w)
 have C4 := hide (fun w => braB_any op w)
 have C5 := hide (fun w => isoB_any op w)
 generalize inB op 1 6 = q1 at *
 generalize inB op 1 15 = q2 at *
 generalize regB op = q3 at *
 generalize inB op 17 21 = q4 at *
 generalize inB op 1 23 = q6 at *
 obtain ⟨V, hV⟩ : ∃ V, w.alloc (.cells #[.bool false, .bool false, .bool false, .int .i64 0, .int .i64 0, .int .i64 0, .bool false] 129) = V := ⟨_, rfl⟩
 have bV : Below w.heap.size w V := by rw [← hV]; exact below_new _ _
 have rV : V.heap[w.heap.size]? = some (.cells #[.bool false, .bool false, .bool false, .int .i64 0, .int .i64 0, .int .i64 0, .bool false] 129 (0, 0)) := by rw [← hV]; exact Array.getElem?_push_size
 have lV : w.heap.size < V.heap.size := (Array.getElem?_eq_some_iff.1 rV).1
 obtain ⟨U, hU⟩ : ∃ U, V.alloc (.cells #[.bool false, .bool q1, .bool q2, .int .i64 0, .int .i64 0, .int .i64 0, .bool false] 129) = U := ⟨_, rfl⟩
 have bU : Below V.heap.size V U := by rw [← hU]; exact below_new _ _
 have rU : U.heap[V.heap.size]? = some (.cells #[.bool false, .bool q1, .bool q2, .int .i64 0, .int .i64 0, .int .i64 0, .bool false] 129 (0, 0)) := by rw [← hU]; exact Array.getElem?_push_size
 have NE := hide (show V.heap.size ≠ w.heap.size by omega)
 cases q3 with
 | true =>
  obtain ⟨X0, hX0⟩ : ∃ X, U.setCell ⟨V.heap.size, 3, none⟩ (.int .i64 7) = X := ⟨_, rfl⟩
  have fX0 : U.frozen? ⟨V.heap.size, 3, none⟩ = false := by simp [World.frozen?, rU]
  have cX0 := Lib.cell_of_heap rU 3
  have bX0 : Below V.heap.size V X0 := by rw [← hX0]; exact bU.setCell (p := ⟨V.heap.size, 3, none⟩) (Nat.le_refl _) _
  have rX0 : X0.heap[V.heap.size]? = some (.cells #[.bool false, .bool q1, .bool q2, .int .i64 7, .int .i64 0, .int .i64 0, .bool false] 129 (0, 0)) := by rw [← hX0]; exact heap_setCell_same _ _ _ _ _ _ rU
  have RZ := hide ((bX0.block _ lV).trans rV)
  have RS := hide rX0
  have BB := hide (bV.trans (bX0.mono bV.size))
  have VV : (shP q1 q2 true (q4 || op == 23)).cs = #[.bool false, .bool q1, .bool q2, .int .i64 7, .int .i64 0, .int .i64 0, .bool false] := rfl
  rw [VV]
  clear VV rV lV bV rU bU rX0 bX0
  go_enter Tryz.func149, Tryz.ntmps149
  go_wp2_with (first | (refine storeN rfl 129 _ _ rfl #[.bool false, .bool q1, .bool q2, .int .i64 0, .int .i64 0, .int .i64 0, .bool false] rfl rfl _ szSh rfl (sh_one _ _ _ _ _ _ _) ?_; rw [hU]) | (go_at_call 191; refine (uh C1 _).mono ?_; rintro e w' ⟨rfl, hw'⟩; rw [hw']; clear hw' w') | (go_at_call 192; refine (uh C2 _).mono ?_; rintro e w' ⟨rfl, hw'⟩; rw [hw']; clear hw' w') | (go_at_call 102; refine (uh C3 _).mono ?_; rintro e w' ⟨rfl, hw'⟩; rw [hw']; clear hw' w') | (go_at_call 193; refine (uh C4 _).mono ?_; rintro e w' ⟨rfl, hw'⟩; rw [hw']; clear hw' w'))
  have D0 := hide (show X0.drew.heap[V.heap.size]? = some (.cells #[.bool false, .bool q1, .bool q2, .int .i64 7, .int .i64 0, .int .i64 0, .bool false] 129 (0, 0)) from row_keep (uh RS) below_drew)
  have RD := hide (row_keep (uh RZ) (below_drew (w := X0)))
  have BD := hide ((uh BB).trans ((below_drew (w := X0)).mono (uh BB).size))
  refine wp_region_held_drew (S := fun w' => w'.heap[V.heap.size]? = some (.cells #[.bool false, .bool q1, .bool q2, .int .i64 7, .int .i64 0, .int .i64 0, .bool false] 129 (0, 0))) (by kernel_rfl) (uh D0) (fun hS => ?_)
  have HS := hide hS
  clear hS RS RZ BB
  generalize X0.drew = Y at *
  refine tkA 0 (.agg #[.bool false, .bool q1, .bool q2, .int .i64 7, .int .i64 0, .int .i64 0, .bool false]) rfl (yields_loadG (by rfl) 129 _ rfl V.heap.size rfl 129 #[.bool false, .bool q1, .bool q2, .int .i64 7, .int .i64 0, .int .i64 0, .bool false] _ (fun w h => h) Tryz.underlying129 rfl (by kernel_rfl)) (uh HS) ?_
  go_simp
  refine tkB 1 (.int .i64 op) rfl (uh HS) ?_
  go_simp
  refine wpAnyH_ready (rs := [2]) (by kernel_rfl) (by simp) ?_
  refine AllReadyH.cons rfl (fun K2 hK => ?_) AllReadyH.nil
  go_simp
  refine (uh C5 _).mono ?_
  rintro e w' ⟨rfl, hw'⟩
  rw [hw']
  clear hw' w'
  refine hK.out _ _ (uh D0) (fun hS => ?_)
  clear HS
  have HS := hide hS
  clear hS hK K2
  refine wpAnyH_ready (rs := [3]) (by kernel_rfl) (by simp) ?_
  refine AllReadyH.cons rfl (fun K2 hK => ?_) AllReadyH.nil
  rw [if_pos (by rfl)]
  refine wp_store_row 129 _ _ rfl w.heap.size #[.bool false, .bool q1, .bool q2, .int .i64 7, .int .i64 0, .int .i64 0, .bool false] rfl rfl 129 _ (uh RD) szSh rfl (sh_one _ _ _ _ _ _ _) ?_
  refine hK.out _ _ ((setRow_other _ _ _ _ (uh NE)).trans (uh D0)) (fun hS => ?_)
  clear HS
  have HS := hide hS
  clear hS hK K2
  refine tkB 4 (.bool q6) rfl (uh HS) ?_
  go_simp
  refine wpAnyH_done (by kernel_rfl) ?_ _
  clear HS
  go_wp2
  refine bodyPost_ret (results_row2 (P := Tryz.prog) rfl _ _ w.heap.size 129 #[.bool false, .bool q1, .bool q2, .int .i64 7, .int .i64 0, .int .i64 0, .bool false] (0, 0) _ rfl (setRow_heap _ _ _ _ _ _ (uh RD)) Tryz.underlying129 rfl szSh) rfl ?_
  exact ⟨rfl, below_row (uh BD)⟩
 | false =>
  cases q4 with
  | true =>
   obtain ⟨X0, hX0⟩ : ∃ X, U.setCell ⟨V.heap.size, 4, none⟩ (.int .i64 1) = X := ⟨_, rfl⟩
   have fX0 : U.frozen? ⟨V.heap.size, 4, none⟩ = false := by simp [World.frozen?, rU]
   have cX0 := Lib.cell_of_heap rU 4
   have bX0 : Below V.heap.size V X0 := by rw [← hX0]; exact bU.setCell (p := ⟨V.heap.size, 4, none⟩) (Nat.le_refl _) _
   have rX0 : X0.heap[V.heap.size]? = some (.cells #[.bool false, .bool q1, .bool q2, .int .i64 0, .int .i64 1, .int .i64 0, .bool false] 129 (0, 0)) := by rw [← hX0]; exact heap_setCell_same _ _ _ _ _ _ rU
   obtain ⟨X1, hX1⟩ : ∃ X, X0.setCell ⟨V.heap.size, 5, none⟩ (.int .i64 1) = X := ⟨_, rfl⟩
   have fX1 : X0.frozen? ⟨V.heap.size, 5, none⟩ = false := by simp [World.frozen?, rX0]
   have cX1 := Lib.cell_of_heap rX0 5
   have bX1 : Below V.heap.size V X1 := by rw [← hX1]; exact bX0.setCell (p := ⟨V.heap.size, 5, none⟩) (Nat.le_refl _) _
   have rX1 : X1.heap[V.heap.size]? = some (.cells #[.bool false, .bool q1, .bool q2, .int .i64 0, .int .i64 1, .int .i64 1, .bool false] 129 (0, 0)) := by rw [← hX1]; exact heap_setCell_same _ _ _ _ _ _ rX0
   have RZ := hide ((bX1.block _ lV).trans rV)
   have RS := hide rX1
   have BB := hide (bV.trans (bX1.mono bV.size))
   have VV : (shP q1 q2 false (true || op == 23)).cs = #[.bool false, .bool q1, .bool q2, .int .i64 0, .int .i64 1, .int .i64 1, .bool false] := rfl
   rw [VV]
   clear VV rV lV bV rU bU rX0 bX0 rX1 bX1
   go_enter Tryz.func149, Tryz.ntmps149
   go_wp2_with (first | (refine storeN rfl 129 _ _ rfl #[.bool false, .bool q1, .bool q2, .int .i64 0, .int .i64 0, .int .i64 0, .bool false] rfl rfl _ szSh rfl (sh_one _ _ _ _ _ _ _) ?_; rw [hU]) | (go_at_call 191; refine (uh C1 _).mono ?_; rintro e w' ⟨rfl, hw'⟩; rw [hw']; clear hw' w') | (go_at_call 192; refine (uh C2 _).mono ?_; rintro e w' ⟨rfl, hw'⟩; rw [hw']; clear hw' w') | (go_at_call 102; refine (uh C3 _).mono ?_; rintro e w' ⟨rfl, hw'⟩; rw [hw']; clear hw' w') | (go_at_call 193; refine (uh C4 _).mono ?_; rintro e w' ⟨rfl, hw'⟩; rw [hw']; clear hw' w'))
   have D0 := hide (show X1.drew.heap[V.heap.size]? = some (.cells #[.bool false, .bool q1, .bool q2, .int .i64 0, .int .i64 1, .int .i64 1, .bool false] 129 (0, 0)) from row_keep (uh RS) below_drew)
   have RD := hide (row_keep (uh RZ) (below_drew (w := X1)))
   have BD := hide ((uh BB).trans ((below_drew (w := X1)).mono (uh BB).size))
   refine wp_region_held_drew (S := fun w' => w'.heap[V.heap.size]? = some (.cells #[.bool false, .bool q1, .bool q2, .int .i64 0, .int .i64 1, .int .i64 1, .bool false] 129 (0, 0))) (by kernel_rfl) (uh D0) (fun hS => ?_)
   have HS := hide hS
   clear hS RS RZ BB
   generalize X1.drew = Y at *
   refine tkA 0 (.agg #[.bool false, .bool q1, .bool q2, .int .i64 0, .int .i64 1, .int .i64 1, .bool false]) rfl (yields_loadG (by rfl) 129 _ rfl V.heap.size rfl 129 #[.bool false, .bool q1, .bool q2, .int .i64 0, .int .i64 1, .int .i64 1, .bool false] _ (fun w h => h) Tryz.underlying129 rfl (by kernel_rfl)) (uh HS) ?_
   go_simp
   refine tkB 1 (.int .i64 op) rfl (uh HS) ?_
   go_simp
   refine wpAnyH_ready (rs := [2]) (by kernel_rfl) (by simp) ?_
   refine AllReadyH.cons rfl (fun K2 hK => ?_) AllReadyH.nil
   go_simp
   refine (uh C5 _).mono ?_
   rintro e w' ⟨rfl, hw'⟩
   rw [hw']
   clear hw' w'
   refine hK.out _ _ (uh D0) (fun hS => ?_)
   clear HS
   have HS := hide hS
   clear hS hK K2
   refine wpAnyH_ready (rs := [3]) (by kernel_rfl) (by simp) ?_
   refine AllReadyH.cons rfl (fun K2 hK => ?_) AllReadyH.nil
   rw [if_pos (by rfl)]
   refine wp_store_row 129 _ _ rfl w.heap.size #[.bool false, .bool q1, .bool q2, .int .i64 0, .int .i64 1, .int .i64 1, .bool false] rfl rfl 129 _ (uh RD) szSh rfl (sh_one _ _ _ _ _ _ _) ?_
   refine hK.out _ _ ((setRow_other _ _ _ _ (uh NE)).trans (uh D0)) (fun hS => ?_)
   clear HS
   have HS := hide hS
   clear hS hK K2
   refine tkB 4 (.bool q6) rfl (uh HS) ?_
   go_simp
   refine wpAnyH_done (by kernel_rfl) ?_ _
   clear HS
   go_wp2
   refine bodyPost_ret (results_row2 (P := Tryz.prog) rfl _ _ w.heap.size 129 #[.bool false, .bool q1, .bool q2, .int .i64 0, .int .i64 1, .int .i64 1, .bool false] (0, 0) _ rfl (setRow_heap _ _ _ _ _ _ (uh RD)) Tryz.underlying129 rfl szSh) rfl ?_
   exact ⟨rfl, below_row (uh BD)⟩
  | false =>
   by_cases h23 : op = 23
   ·
    subst h23
    obtain ⟨X0, hX0⟩ : ∃ X, U.setCell ⟨V.heap.size, 4, none⟩ (.int .i64 1) = X := ⟨_, rfl⟩
    have fX0 : U.frozen? ⟨V.heap.size, 4, none⟩ = false := by simp [World.frozen?, rU]
    have cX0 := Lib.cell_of_heap rU 4
    have bX0 : Below V.heap.size V X0 := by rw [← hX0]; exact bU.setCell (p := ⟨V.heap.size, 4, none⟩) (Nat.le_refl _) _
    have rX0 : X0.heap[V.heap.size]? = some (.cells #[.bool false, .bool q1, .bool q2, .int .i64 0, .int .i64 1, .int .i64 0, .bool false] 129 (0, 0)) := by rw [← hX0]; exact heap_setCell_same _ _ _ _ _ _ rU
    obtain ⟨X1, hX1⟩ : ∃ X, X0.setCell ⟨V.heap.size, 5, none⟩ (.int .i64 1) = X := ⟨_, rfl⟩
    have fX1 : X0.frozen? ⟨V.heap.size, 5, none⟩ = false := by simp [World.frozen?, rX0]
    have cX1 := Lib.cell_of_heap rX0 5
    have bX1 : Below V.heap.size V X1 := by rw [← hX1]; exact bX0.setCell (p := ⟨V.heap.size, 5, none⟩) (Nat.le_refl _) _
    have rX1 : X1.heap[V.heap.size]? = some (.cells #[.bool false, .bool q1, .bool q2, .int .i64 0, .int .i64 1, .int .i64 1, .bool false] 129 (0, 0)) := by rw [← hX1]; exact heap_setCell_same _ _ _ _ _ _ rX0
    have RZ := hide ((bX1.block _ lV).trans rV)
    have RS := hide rX1
    have BB := hide (bV.trans (bX1.mono bV.size))
    have VV : (shP q1 q2 false (false || (23 : Int) == 23)).cs = #[.bool false, .bool q1, .bool q2, .int .i64 0, .int .i64 1, .int .i64 1, .bool false] := rfl
    rw [VV]
    clear VV rV lV bV rU bU rX0 bX0 rX1 bX1
    go_enter Tryz.func149, Tryz.ntmps149
    go_wp2_with (first | (refine storeN rfl 129 _ _ rfl #[.bool false, .bool q1, .bool q2, .int .i64 0, .int .i64 0, .int .i64 0, .bool false] rfl rfl _ szSh rfl (sh_one _ _ _ _ _ _ _) ?_; rw [hU]) | (go_at_call 191; refine (uh C1 _).mono ?_; rintro e w' ⟨rfl, hw'⟩; rw [hw']; clear hw' w') | (go_at_call 192; refine (uh C2 _).mono ?_; rintro e w' ⟨rfl, hw'⟩; rw [hw']; clear hw' w') | (go_at_call 102; refine (uh C3 _).mono ?_; rintro e w' ⟨rfl, hw'⟩; rw [hw']; clear hw' w') | (go_at_call 193; refine (uh C4 _).mono ?_; rintro e w' ⟨rfl, hw'⟩; rw [hw']; clear hw' w'))
    have D0 := hide (show X1.drew.heap[V.heap.size]? = some (.cells #[.bool false, .bool q1, .bool q2, .int .i64 0, .int .i64 1, .int .i64 1, .bool false] 129 (0, 0)) from row_keep (uh RS) below_drew)
    have RD := hide (row_keep (uh RZ) (below_drew (w := X1)))
    have BD := hide ((uh BB).trans ((below_drew (w := X1)).mono (uh BB).size))
    refine wp_region_held_drew (S := fun w' => w'.heap[V.heap.size]? = some (.cells #[.bool false, .bool q1, .bool q2, .int .i64 0, .int .i64 1, .int .i64 1, .bool false] 129 (0, 0))) (by kernel_rfl) (uh D0) (fun hS => ?_)
    have HS := hide hS
    clear hS RS RZ BB
    generalize X1.drew = Y at *
    refine tkA 0 (.agg #[.bool false, .bool q1, .bool q2, .int .i64 0, .int .i64 1, .int .i64 1, .bool false]) rfl (yields_loadG (by rfl) 129 _ rfl V.heap.size rfl 129 #[.bool false, .bool q1, .bool q2, .int .i64 0, .int .i64 1, .int .i64 1, .bool false] _ (fun w h => h) Tryz.underlying129 rfl (by kernel_rfl)) (uh HS) ?_
    go_simp
    refine tkB 1 (.int .i64 23) rfl (uh HS) ?_
    go_simp
    refine wpAnyH_ready (rs := [2]) (by kernel_rfl) (by simp) ?_
    refine AllReadyH.cons rfl (fun K2 hK => ?_) AllReadyH.nil
    go_simp
    refine (uh C5 _).mono ?_
    rintro e w' ⟨rfl, hw'⟩
    rw [hw']
    clear hw' w'
    refine hK.out _ _ (uh D0) (fun hS => ?_)
    clear HS
    have HS := hide hS
    clear hS hK K2
    refine wpAnyH_ready (rs := [3]) (by kernel_rfl) (by simp) ?_
    refine AllReadyH.cons rfl (fun K2 hK => ?_) AllReadyH.nil
    rw [if_pos (by rfl)]
    refine wp_store_row 129 _ _ rfl w.heap.size #[.bool false, .bool q1, .bool q2, .int .i64 0, .int .i64 1, .int .i64 1, .bool false] rfl rfl 129 _ (uh RD) szSh rfl (sh_one _ _ _ _ _ _ _) ?_
    refine hK.out _ _ ((setRow_other _ _ _ _ (uh NE)).trans (uh D0)) (fun hS => ?_)
    clear HS
    have HS := hide hS
    clear hS hK K2
    refine tkB 4 (.bool q6) rfl (uh HS) ?_
    go_simp
    refine wpAnyH_done (by kernel_rfl) ?_ _
    clear HS
    go_wp2
    refine bodyPost_ret (results_row2 (P := Tryz.prog) rfl _ _ w.heap.size 129 #[.bool false, .bool q1, .bool q2, .int .i64 0, .int .i64 1, .int .i64 1, .bool false] (0, 0) _ rfl (setRow_heap _ _ _ _ _ _ (uh RD)) Tryz.underlying129 rfl szSh) rfl ?_
    exact ⟨rfl, below_row (uh BD)⟩
   ·
    have g23 : (op == 23) = false := beq_eq_false_iff_ne.2 h23
    rw [g23]
    have RZ := hide ((bU.block _ lV).trans rV)
    have RS := hide rU
    have BB := hide (bV.trans (bU.mono bV.size))
    have VV : (shP q1 q2 false (false || false)).cs = #[.bool false, .bool q1, .bool q2, .int .i64 0, .int .i64 0, .int .i64 0, .bool false] := rfl
    rw [VV]
    clear VV rV lV bV rU bU
    go_enter Tryz.func149, Tryz.ntmps149
    go_wp2_with (first | (refine storeN rfl 129 _ _ rfl #[.bool false, .bool q1, .bool q2, .int .i64 0, .int .i64 0, .int .i64 0, .bool false] rfl rfl _ szSh rfl (sh_one _ _ _ _ _ _ _) ?_; rw [hU]) | (go_at_call 191; refine (uh C1 _).mono ?_; rintro e w' ⟨rfl, hw'⟩; rw [hw']; clear hw' w') | (go_at_call 192; refine (uh C2 _).mono ?_; rintro e w' ⟨rfl, hw'⟩; rw [hw']; clear hw' w') | (go_at_call 102; refine (uh C3 _).mono ?_; rintro e w' ⟨rfl, hw'⟩; rw [hw']; clear hw' w') | (go_at_call 193; refine (uh C4 _).mono ?_; rintro e w' ⟨rfl, hw'⟩; rw [hw']; clear hw' w'))
    have D0 := hide (show U.drew.heap[V.heap.size]? = some (.cells #[.bool false, .bool q1, .bool q2, .int .i64 0, .int .i64 0, .int .i64 0, .bool false] 129 (0, 0)) from row_keep (uh RS) below_drew)
    have RD := hide (row_keep (uh RZ) (below_drew (w := U)))
    have BD := hide ((uh BB).trans ((below_drew (w := U)).mono (uh BB).size))
    refine wp_region_held_drew (S := fun w' => w'.heap[V.heap.size]? = some (.cells #[.bool false, .bool q1, .bool q2, .int .i64 0, .int .i64 0, .int .i64 0, .bool false] 129 (0, 0))) (by kernel_rfl) (uh D0) (fun hS => ?_)
    have HS := hide hS
    clear hS RS RZ BB
    generalize U.drew = Y at *
    refine tkA 0 (.agg #[.bool false, .bool q1, .bool q2, .int .i64 0, .int .i64 0, .int .i64 0, .bool false]) rfl (yields_loadG (by rfl) 129 _ rfl V.heap.size rfl 129 #[.bool false, .bool q1, .bool q2, .int .i64 0, .int .i64 0, .int .i64 0, .bool false] _ (fun w h => h) Tryz.underlying129 rfl (by kernel_rfl)) (uh HS) ?_
    go_simp
    refine tkB 1 (.int .i64 op) rfl (uh HS) ?_
    go_simp
    refine wpAnyH_ready (rs := [2]) (by kernel_rfl) (by simp) ?_
    refine AllReadyH.cons rfl (fun K2 hK => ?_) AllReadyH.nil
    go_simp
    refine (uh C5 _).mono ?_
    rintro e w' ⟨rfl, hw'⟩
    rw [hw']
    clear hw' w'
    refine hK.out _ _ (uh D0) (fun hS => ?_)
    clear HS
    have HS := hide hS
    clear hS hK K2
    refine wpAnyH_ready (rs := [3]) (by kernel_rfl) (by simp) ?_
    refine AllReadyH.cons rfl (fun K2 hK => ?_) AllReadyH.nil
    rw [if_pos (by rfl)]
    refine wp_store_row 129 _ _ rfl w.heap.size #[.bool false, .bool q1, .bool q2, .int .i64 0, .int .i64 0, .int .i64 0, .bool false] rfl rfl 129 _ (uh RD) szSh rfl (sh_one _ _ _ _ _ _ _) ?_
    refine hK.out _ _ ((setRow_other _ _ _ _ (uh NE)).trans (uh D0)) (fun hS => ?_)
    clear HS
    have HS := hide hS
    clear hS hK K2
    refine tkB 4 (.bool q6) rfl (uh HS) ?_
    go_simp
    refine wpAnyH_done (by kernel_rfl) ?_ _
    clear HS
    go_wp2
    refine bodyPost_ret (results_row2 (P := Tryz.prog) rfl _ _ w.heap.size 129 #[.bool false, .bool q1, .bool q2, .int .i64 0, .int .i64 0, .int .i64 0, .bool false] (0, 0) _ rfl (setRow_heap _ _ _ _ _ _ (uh RD)) Tryz.underlying129 rfl szSh) rfl ?_
    exact ⟨rfl, below_row (uh BD)⟩
def shX (k op : Int) : Sh :=
 if k = 3 then shP (inB op 1 6) (inB op 1 15) (regB op) (inB op 17 21 || op == 23)
 else if op = 0 then (if k = 1 then ⟨true, false, false, 0, 0, 0, false⟩ else if k = 2 then ⟨true, false, false, 0, 1, 1, false⟩ else if k = 4 then ⟨false, false, false, 0, 1, 6, false⟩ else if k = 5 then ⟨false, false, false, 0, 1, 1, false⟩ else if k = 6 then ⟨true, false, false, 1, 0, 0, false⟩ else if k = 7 then ⟨false, false, false, 0, 1, 6, true⟩ else sh0)
 else sh0
def shB (k op : Int) : Bool := if k = 3 then inB op 1 23 else if op = 0 then inB k 0 8 else false
theorem shpI_any (k op : Int) (w : World) : Calls Tryz.prog 97 #[.int .i64 k, .int .i64 op] w fun r w' => r = .returned (.tuple #[.agg (shX k op).cs, .bool (shB k op)]) ∧ Below w.heap.size w w' := by
 by_cases h3 : k = 3
 ·
  subst h3
  have VX : shX 3 op = shP (inB op 1 6) (inB op 1 15) (regB op) (inB op 17 21 || op == 23) := by unfold shX; rw [if_pos rfl]
  have VB : shB 3 op = inB op 1 23 := by unfold shB; rw [if_pos rfl]
  rw [VX, VB]
  clear VX VB
  have hB := below_new w (.cells #[.bool false, .bool false, .bool false, .int .i64 0, .int .i64 0, .int .i64 0, .bool false] 129)
  have R0 := hide (show (w.alloc (.cells #[.bool false, .bool false, .bool false, .int .i64 0, .int .i64 0, .int .i64 0, .bool false] 129)).heap[w.heap.size]? = some (.cells #[.bool false, .bool false, .bool false, .int .i64 0, .int .i64 0, .int .i64 0, .bool false] 129 (0, 0)) from Array.getElem?_push_size)
  have B0 := hide hB
  have SI := hide (shiI_any op (w.alloc (.cells #[.bool false, .bool false, .bool false, .int .i64 0, .int .i64 0, .int .i64 0, .bool false] 129)))
  clear hB
  unfold Sh.cs at SI ⊢
  generalize shP (inB op 1 6) (inB op 1 15) (regB op) (inB op 17 21 || op == 23) = S at *
  obtain ⟨a1, a2, a3, a4, a5, a6, a7⟩ := S
  simp only at SI ⊢
  generalize inB op 1 23 = q at *
  go_enter Tryz.func97, Tryz.ntmps97
  go_wp2_with fail
  generalize w.alloc (.cells #[.bool false, .bool false, .bool false, .int .i64 0, .int .i64 0, .int .i64 0, .bool false] 129) = W at *
  refine (uh SI).mono ?_
  rintro r w1 ⟨rfl, hb⟩
  have R1 := hide (row_keep (uh R0) hb)
  have B1 := hide ((uh B0).trans (hb.mono (uh B0).size))
  clear hb R0 B0 SI
  go_wp2_with (first | (refine wpList_store_row rfl 129 _ _ rfl w.heap.size #[.bool a1, .bool a2, .bool a3, .int .i64 a4, .int .i64 a5, .int .i64 a6, .bool a7] rfl rfl 129 _ (uh R1) szSh rfl (sh_one _ _ _ _ _ _ _) ?_))
  refine bodyPost_ret (results_row2 (P := Tryz.prog) rfl _ _ w.heap.size 129 #[.bool a1, .bool a2, .bool a3, .int .i64 a4, .int .i64 a5, .int .i64 a6, .bool a7] (0, 0) _ rfl (setRow_heap _ _ _ _ _ _ (uh R1)) Tryz.underlying129 rfl szSh) rfl ?_
  exact ⟨rfl, below_row (uh B1)⟩
 have g3 : (k == 3) = false := beq_eq_false_iff_ne.2 h3
 by_cases ho : op = 0
 ·
  subst ho
  by_cases e0 : k = 0
  ·
   subst e0
   clear g3 h3
   have VX : (shX 0 0).cs = #[.bool false, .bool false, .bool false, .int .i64 0, .int .i64 0, .int .i64 0, .bool false] := by rfl
   have VB : shB 0 0 = true := by rfl
   rw [VX, VB]
   clear VX VB
   have B0 := hide (below_new w (.cells #[.bool false, .bool false, .bool false, .int .i64 0, .int .i64 0, .int .i64 0, .bool false] 129))
   go_enter Tryz.func97, Tryz.ntmps97
   go_wp2_with (first | (refine storeN rfl 129 _ _ rfl #[.bool false, .bool false, .bool false, .int .i64 0, .int .i64 0, .int .i64 0, .bool false] rfl rfl _ szSh rfl (sh_one _ _ _ _ _ _ _) ?_))
   refine bodyPost_ret (results_row2 (P := Tryz.prog) rfl _ _ w.heap.size 129 #[.bool false, .bool false, .bool false, .int .i64 0, .int .i64 0, .int .i64 0, .bool false] (0, 0) _ rfl Array.getElem?_push_size Tryz.underlying129 rfl szSh) rfl ?_
   exact ⟨rfl, uh B0⟩
  have g0 : (k == 0) = false := beq_eq_false_iff_ne.2 e0
  by_cases e8 : k = 8
  ·
   subst e8
   clear g3 h3
   have VX : (shX 8 0).cs = #[.bool false, .bool false, .bool false, .int .i64 0, .int .i64 0, .int .i64 0, .bool false] := by rfl
   have VB : shB 8 0 = true := by rfl
   rw [VX, VB]
   clear VX VB
   have B0 := hide (below_new w (.cells #[.bool false, .bool false, .bool false, .int .i64 0, .int .i64 0, .int .i64 0, .bool false] 129))
   go_enter Tryz.func97, Tryz.ntmps97
   go_wp2_with (first | (refine storeN rfl 129 _ _ rfl #[.bool false, .bool false, .bool false, .int .i64 0, .int .i64 0, .int .i64 0, .bool false] rfl rfl _ szSh rfl (sh_one _ _ _ _ _ _ _) ?_))
   refine bodyPost_ret (results_row2 (P := Tryz.prog) rfl _ _ w.heap.size 129 #[.bool false, .bool false, .bool false, .int .i64 0, .int .i64 0, .int .i64 0, .bool false] (0, 0) _ rfl Array.getElem?_push_size Tryz.underlying129 rfl szSh) rfl ?_
   exact ⟨rfl, uh B0⟩
  have g8 : (k == 8) = false := beq_eq_false_iff_ne.2 e8
  by_cases e1 : k = 1
  ·
   subst e1
   clear g3 h3
   have VX : (shX 1 0).cs = #[.bool true, .bool false, .bool false, .int .i64 0, .int .i64 0, .int .i64 0, .bool false] := by rfl
   have VB : shB 1 0 = true := by rfl
   rw [VX, VB]
   clear VX VB
   have B0 := hide (below_new w (.cells #[.bool true, .bool false, .bool false, .int .i64 0, .int .i64 0, .int .i64 0, .bool false] 129))
   go_enter Tryz.func97, Tryz.ntmps97
   go_wp2_with (first | (refine storeN rfl 129 _ _ rfl #[.bool true, .bool false, .bool false, .int .i64 0, .int .i64 0, .int .i64 0, .bool false] rfl rfl _ szSh rfl (sh_one _ _ _ _ _ _ _) ?_))
   refine bodyPost_ret (results_row2 (P := Tryz.prog) rfl _ _ w.heap.size 129 #[.bool true, .bool false, .bool false, .int .i64 0, .int .i64 0, .int .i64 0, .bool false] (0, 0) _ rfl Array.getElem?_push_size Tryz.underlying129 rfl szSh) rfl ?_
   exact ⟨rfl, uh B0⟩
  have g1 : (k == 1) = false := beq_eq_false_iff_ne.2 e1
  by_cases e2 : k = 2
  ·
   subst e2
   clear g3 h3
   have VX : (shX 2 0).cs = #[.bool true, .bool false, .bool false, .int .i64 0, .int .i64 1, .int .i64 1, .bool false] := by rfl
   have VB : shB 2 0 = true := by rfl
   rw [VX, VB]
   clear VX VB
   have B0 := hide (below_new w (.cells #[.bool true, .bool false, .bool false, .int .i64 0, .int .i64 1, .int .i64 1, .bool false] 129))
   go_enter Tryz.func97, Tryz.ntmps97
   go_wp2_with (first | (refine storeN rfl 129 _ _ rfl #[.bool true, .bool false, .bool false, .int .i64 0, .int .i64 1, .int .i64 1, .bool false] rfl rfl _ szSh rfl (sh_one _ _ _ _ _ _ _) ?_))
   refine bodyPost_ret (results_row2 (P := Tryz.prog) rfl _ _ w.heap.size 129 #[.bool true, .bool false, .bool false, .int .i64 0, .int .i64 1, .int .i64 1, .bool false] (0, 0) _ rfl Array.getElem?_push_size Tryz.underlying129 rfl szSh) rfl ?_
   exact ⟨rfl, uh B0⟩
  have g2 : (k == 2) = false := beq_eq_false_iff_ne.2 e2
  by_cases e4 : k = 4
  ·
   subst e4
   clear g3 h3
   have VX : (shX 4 0).cs = #[.bool false, .bool false, .bool false, .int .i64 0, .int .i64 1, .int .i64 6, .bool false] := by rfl
   have VB : shB 4 0 = true := by rfl
   rw [VX, VB]
   clear VX VB
   have B0 := hide (below_new w (.cells #[.bool false, .bool false, .bool false, .int .i64 0, .int .i64 1, .int .i64 6, .bool false] 129))
   go_enter Tryz.func97, Tryz.ntmps97
   go_wp2_with (first | (refine storeN rfl 129 _ _ rfl #[.bool false, .bool false, .bool false, .int .i64 0, .int .i64 1, .int .i64 6, .bool false] rfl rfl _ szSh rfl (sh_one _ _ _ _ _ _ _) ?_))
   refine bodyPost_ret (results_row2 (P := Tryz.prog) rfl _ _ w.heap.size 129 #[.bool false, .bool false, .bool false, .int .i64 0, .int .i64 1, .int .i64 6, .bool false] (0, 0) _ rfl Array.getElem?_push_size Tryz.underlying129 rfl szSh) rfl ?_
   exact ⟨rfl, uh B0⟩
  have g4 : (k == 4) = false := beq_eq_false_iff_ne.2 e4
  by_cases e5 : k = 5
  ·
   subst e5
   clear g3 h3
   have VX : (shX 5 0).cs = #[.bool false, .bool false, .bool false, .int .i64 0, .int .i64 1, .int .i64 1, .bool false] := by rfl
   have VB : shB 5 0 = true := by rfl
   rw [VX, VB]
   clear VX VB
   have B0 := hide (below_new w (.cells #[.bool false, .bool false, .bool false, .int .i64 0, .int .i64 1, .int .i64 1, .bool false] 129))
   go_enter Tryz.func97, Tryz.ntmps97
   go_wp2_with (first | (refine storeN rfl 129 _ _ rfl #[.bool false, .bool false, .bool false, .int .i64 0, .int .i64 1, .int .i64 1, .bool false] rfl rfl _ szSh rfl (sh_one _ _ _ _ _ _ _) ?_))
   refine bodyPost_ret (results_row2 (P := Tryz.prog) rfl _ _ w.heap.size 129 #[.bool false, .bool false, .bool false, .int .i64 0, .int .i64 1, .int .i64 1, .bool false] (0, 0) _ rfl Array.getElem?_push_size Tryz.underlying129 rfl szSh) rfl ?_
   exact ⟨rfl, uh B0⟩
  have g5 : (k == 5) = false := beq_eq_false_iff_ne.2 e5
  by_cases e6 : k = 6
  ·
   subst e6
   clear g3 h3
   have VX : (shX 6 0).cs = #[.bool true, .bool false, .bool false, .int .i64 1, .int .i64 0, .int .i64 0, .bool false] := by rfl
   have VB : shB 6 0 = true := by rfl
   rw [VX, VB]
   clear VX VB
   have B0 := hide (below_new w (.cells #[.bool true, .bool false, .bool false, .int .i64 1, .int .i64 0, .int .i64 0, .bool false] 129))
   go_enter Tryz.func97, Tryz.ntmps97
   go_wp2_with (first | (refine storeN rfl 129 _ _ rfl #[.bool true, .bool false, .bool false, .int .i64 1, .int .i64 0, .int .i64 0, .bool false] rfl rfl _ szSh rfl (sh_one _ _ _ _ _ _ _) ?_))
   refine bodyPost_ret (results_row2 (P := Tryz.prog) rfl _ _ w.heap.size 129 #[.bool true, .bool false, .bool false, .int .i64 1, .int .i64 0, .int .i64 0, .bool false] (0, 0) _ rfl Array.getElem?_push_size Tryz.underlying129 rfl szSh) rfl ?_
   exact ⟨rfl, uh B0⟩
  have g6 : (k == 6) = false := beq_eq_false_iff_ne.2 e6
  by_cases e7 : k = 7
  ·
   subst e7
   clear g3 h3
   have VX : (shX 7 0).cs = #[.bool false, .bool false, .bool false, .int .i64 0, .int .i64 1, .int .i64 6, .bool true] := by rfl
   have VB : shB 7 0 = true := by rfl
   rw [VX, VB]
   clear VX VB
   have B0 := hide (below_new w (.cells #[.bool false, .bool false, .bool false, .int .i64 0, .int .i64 1, .int .i64 6, .bool true] 129))
   go_enter Tryz.func97, Tryz.ntmps97
   go_wp2_with (first | (refine storeN rfl 129 _ _ rfl #[.bool false, .bool false, .bool false, .int .i64 0, .int .i64 1, .int .i64 6, .bool true] rfl rfl _ szSh rfl (sh_one _ _ _ _ _ _ _) ?_))
   refine bodyPost_ret (results_row2 (P := Tryz.prog) rfl _ _ w.heap.size 129 #[.bool false, .bool false, .bool false, .int .i64 0, .int .i64 1, .int .i64 6, .bool true] (0, 0) _ rfl Array.getElem?_push_size Tryz.underlying129 rfl szSh) rfl ?_
   exact ⟨rfl, uh B0⟩
  have g7 : (k == 7) = false := beq_eq_false_iff_ne.2 e7
  have VX : (shX k 0).cs = #[.bool false, .bool false, .bool false, .int .i64 0, .int .i64 0, .int .i64 0, .bool false] := by unfold shX; rw [if_neg h3, if_pos rfl, if_neg e1, if_neg e2, if_neg e4, if_neg e5, if_neg e6, if_neg e7]; rfl
  have VB : shB k 0 = false := by unfold shB; rw [if_neg h3, if_pos rfl]; exact inB_f k 0 8 (by omega)
  rw [VX, VB]
  clear VX VB
  have B0 := hide (below_new w (.cells #[.bool false, .bool false, .bool false, .int .i64 0, .int .i64 0, .int .i64 0, .bool false] 129))
  go_enter Tryz.func97, Tryz.ntmps97
  go_wp2_with (first | (refine storeN rfl 129 _ _ rfl #[.bool false, .bool false, .bool false, .int .i64 0, .int .i64 0, .int .i64 0, .bool false] rfl rfl _ szSh rfl (sh_one _ _ _ _ _ _ _) ?_))
  refine bodyPost_ret (results_row2 (P := Tryz.prog) rfl _ _ w.heap.size 129 #[.bool false, .bool false, .bool false, .int .i64 0, .int .i64 0, .int .i64 0, .bool false] (0, 0) _ rfl Array.getElem?_push_size Tryz.underlying129 rfl szSh) rfl ?_
  exact ⟨rfl, uh B0⟩
 have go_ : (op == 0) = false := beq_eq_false_iff_ne.2 ho
 have VX : (shX k op).cs = #[.bool false, .bool false, .bool false, .int .i64 0, .int .i64 0, .int .i64 0, .bool false] := by unfold shX; rw [if_neg h3, if_neg ho]; rfl
 have VB : shB k op = false := by unfold shB; rw [if_neg h3, if_neg ho]
 rw [VX, VB]
 clear VX VB
 have B0 := hide (below_new w (.cells #[.bool false, .bool false, .bool false, .int .i64 0, .int .i64 0, .int .i64 0, .bool false] 129))
 go_enter Tryz.func97, Tryz.ntmps97
 go_wp2_with (first | (refine storeN rfl 129 _ _ rfl #[.bool false, .bool false, .bool false, .int .i64 0, .int .i64 0, .int .i64 0, .bool false] rfl rfl _ szSh rfl (sh_one _ _ _ _ _ _ _) ?_))
 refine bodyPost_ret (results_row2 (P := Tryz.prog) rfl _ _ w.heap.size 129 #[.bool false, .bool false, .bool false, .int .i64 0, .int .i64 0, .int .i64 0, .bool false] (0, 0) _ rfl Array.getElem?_push_size Tryz.underlying129 rfl szSh) rfl ?_
 exact ⟨rfl, uh B0⟩
def nmX (nm : Bool) (s : ByteArray) : Bool := if nm = true then nameB s else eqS s E0
theorem nmfI_any (S : Sh) (s : ByteArray) (w : World) (hs : s.size ≤ 1099511627776) (ht : TabK w) : Calls Tryz.prog 98 #[.agg S.cs, .string s] w fun r w' => r = .returned (.bool (nmX S.nm s)) ∧ Below w.heap.size w w' := by
 obtain ⟨a1, a2, a3, a4, a5, a6, a7⟩ := S
 unfold Sh.cs
 simp only
 have B0 := hide (below_new w (.cells #[.bool a1, .bool a2, .bool a3, .int .i64 a4, .int .i64 a5, .int .i64 a6, .bool a7] 129))
 have NI := hide (nameI_any s _ hs (ht.next (uh B0)))
 clear ht
 cases a1 with
 | true =>
  have V : nmX true s = nameB s := rfl
  rw [V]
  clear V
  generalize nameB s = q at *
  go_enter Tryz.func98, Tryz.ntmps98
  go_wp2_with (go_at_call 131; refine (uh NI).mono ?_; rintro e w' ⟨rfl, hw'⟩; rw [hw']; clear hw' w')
  go_ret
  exact ⟨rfl, uh B0⟩
 | false =>
  have V : nmX false s = eqS s E0 := rfl
  rw [V]
  clear V
  by_cases he : s = ⟨#[]⟩
  ·
   subst he
   rw [show eqS ⟨#[]⟩ E0 = true from (eqS_iff _ _).2 rfl]
   go_enter Tryz.func98, Tryz.ntmps98
   go_wp2
   go_ret
   exact ⟨rfl, uh B0⟩
  ·
   obtain ⟨h1, h2⟩ := emp_E s he
   have V : eqS s E0 = false := by simp [eqE, eqE1, *]
   rw [V]
   clear V
   go_enter Tryz.func98, Tryz.ntmps98
   go_wp2
   go_ret
   exact ⟨rfl, uh B0⟩
theorem nbfI_any (S : Sh) (n : Int) (w : World) : Calls Tryz.prog 99 #[.agg S.cs, .int .i64 n] w fun r w' => r = .returned (.bool (inB n 0 S.gn)) ∧ Below w.heap.size w w' := by
 obtain ⟨a1, a2, a3, a4, a5, a6, a7⟩ := S
 unfold Sh.cs
 simp only
 have B0 := hide (below_new w (.cells #[.bool a1, .bool a2, .bool a3, .int .i64 a4, .int .i64 a5, .int .i64 a6, .bool a7] 129))
 unfold inB
 by_cases h1 : 0 ≤ n
 ·
  rw [decide_eq_true h1, Bool.true_and]
  go_enter Tryz.func99, Tryz.ntmps99
  go_wp2
  go_ret
  exact ⟨rfl, uh B0⟩
 ·
  rw [decide_eq_false h1, Bool.false_and]
  have h3 : decide (0 ≤ n) = false := decide_eq_false h1
  go_enter Tryz.func99, Tryz.ntmps99
  go_wp2
  go_ret
  exact ⟨rfl, uh B0⟩
section
structure Op3 where
 u : Value
 f : Int
 g : Int
def cellsO : List Op3 → List Value
 | [] => []
 | o :: l => o.u :: .int .i64 o.f :: .int .i64 o.g :: cellsO l
theorem cellsO_app (a b : List Op3) : cellsO (a ++ b) = cellsO a ++ cellsO b := by
 induction a with
 | nil => rfl
 | cons x l ih => simp [cellsO, ih]
def OwnA (w : World) (B : Nat) (v : Value) (l : List Op3) : Prop := w.ownsRow B 85 3 v l.length (cellsO l)
theorem OwnA.later {w w' : World} {B : Nat} {v : Value} {l : List Op3} (h : OwnA w B v l) (hb : Below w.heap.size w w') : OwnA w' B v l := by
 obtain ⟨h1, h2 | ⟨g, cap, cur, e, hg, hh, r⟩⟩ := h
 · exact ⟨h1, .inl h2⟩
 · exact ⟨h1, .inr ⟨g, cap, cur, e, hg, (hb.block g (Array.getElem?_eq_some_iff.1 hh).1).trans hh, r⟩⟩
theorem OwnA.base {w : World} {B B' : Nat} {v : Value} {l : List Op3} (h : OwnA w B v l) (hB : B' ≤ B) : OwnA w B' v l := by
 obtain ⟨h1, h2 | ⟨g, cap, cur, e, hg, r⟩⟩ := h
 · exact ⟨h1, .inl h2⟩
 · exact ⟨h1, .inr ⟨g, cap, cur, e, Nat.le_trans hB hg, r⟩⟩
theorem ownA_none (w : World) (B : Nat) : OwnA w B (.slice none 0 0) [] := ⟨rfl, .inl ⟨rfl, rfl⟩⟩
theorem infoO : (Tryz.prog.info? 85).map (fun i => (i.zero, i.size, i.bytes)) = some (some (.agg #[.nilIface, .int .i64 0, .int .i64 0]), 3, 32) := by kernel_rfl
section
variable {ops : Array Oper} {rest : List Oper} {o : Oper} {a : Act} {Q : Exit → Act → World → Prop} {w w0 : World} {B : Nat} {K : Act → World → Prop}
theorem wp_appO (s x : Operand) (ho : o.op = .call { callee := .builtin .append, args := #[s, x], argTypes := #[61, 61] }) (hB : B ≤ w0.heap.size) (hD : Below B w0 w) {v : Value} {l : List Op3} (hs : a.eval s = v) (hown : OwnA w B v l) (g : Nat) (p : Op3) (hx : a.eval x = .slice (some ⟨g, 0, none⟩) 1 1) (hg : w.heap[g]? = some (.cells #[p.u, .int .i64 p.f, .int .i64 p.g] 85 (0, 0))) (hi : IfV p.u) (hl : l.length ≤ 1000)
  (h : ∀ (v' : Value) (y : Sub B w0), OwnA y.w B v' (l ++ [p]) → K (a.put o.dst v') y.w) : o.wp Tryz.prog a w K Q := by
 obtain ⟨i0, hi0, hz0, hz1, hz2⟩ := info_parts infoO
 have hsz := hD.size
 refine wp_append_own w s x 61 ho B 85 i0 (.agg #[.nilIface, .int .i64 0, .int .i64 0]) 3 32 Tryz.underlying61 hi0 hz0 hz1 hz2 rfl (by decide) v l.length (cellsO l) hs hown ⟨g, 0, none⟩ 1 1 [p.u, .int .i64 p.f, .int .i64 p.g] hx rfl (fun j u hj => by
  have hc := Lib.cell_of_heap hg j
  have e : (#[p.u, .int .i64 p.f, .int .i64 p.g] : Array Value)[j]? = some u := by rw [← hj]; simp
  have ha : (⟨g, 0, none⟩ : Addr).add j = ⟨g, j, none⟩ := by simp [Addr.add]; exact fun h => h.symm
  rw [ha]
  exact hc.trans e) (fun u hu => by
  have hm : u = p.u ∨ u = .int .i64 p.f ∨ u = .int .i64 p.g := by simpa using hu
  rcases hm with rfl | rfl | rfl
  · exact hi.one
  · rfl
  · rfl) (by unfold maxLen; omega) (by omega) (by omega) ?_
 intro v' w' h1 h2 _
 refine h v' ⟨w', hD.grown h2 (Nat.le_trans hB hD.size) (fun g hg => (World.ownsRow.lt hown g hg).1)⟩ ?_
 unfold OwnA
 rw [List.length_append, cellsO_app]
 exact h1
theorem appO (hgd : o.guard = none) (s x : Operand) (ho : o.op = .call { callee := .builtin .append, args := #[s, x], argTypes := #[61, 61] }) (hB : B ≤ w0.heap.size) (hD : Below B w0 w) {v : Value} {l : List Op3} (hs : a.eval s = v) (hown : OwnA w B v l) (g : Nat) (p : Op3) (hx : a.eval x = .slice (some ⟨g, 0, none⟩) 1 1) (hg : w.heap[g]? = some (.cells #[p.u, .int .i64 p.f, .int .i64 p.g] 85 (0, 0))) (hi : IfV p.u) (hl : l.length ≤ 1000)
  (h : ∀ (v' : Value) (y : Sub B w0), OwnA y.w B v' (l ++ [p]) → wpList Tryz.prog ops Q rest (a.put o.dst v') y.w) : wpList Tryz.prog ops Q (o :: rest) a w :=
 wpList_plain hgd fun _ hK => wp_appO s x ho hB hD hs hown g p hx hg hi hl fun v' y h1 => hK _ _ (h v' y h1)
end
def opP (a : Ag) : Op3 := ⟨opU a, a.f, a.r⟩
def agW (named : Bool) (a : Ag) : Bool := if named = true then agX a else nonX a
def opsL (named : Bool) (a : Ag) : List Op3 := if named = true then [opP a] else []
def AddR (named : Bool) (a : Ag) (l : List Op3) (B : Nat) (w : World) (r : Ending) (w' : World) : Prop := ∃ v' l', r = .returned (.tuple #[v', .bool (agW named a)]) ∧ OwnA w' B v' l' ∧ (agW named a = true → l' = l ++ opsL named a) ∧ Below B w w'
theorem addI_no (l : List Op3) (v : Value) (B : Nat) (a : Ag) (b : Option Addr) (cap : Nat) (w : World) (hB : B ≤ w.heap.size) (hown : OwnA w B v l) (hz : a.e.sz ≤ 1048576) : Calls Tryz.prog 150 #[v, .agg (a.cs b cap), .bool false] w (AddR false a l B w) := by
 have hsz := sz_is a.e
 have hB0 := below_new w (.cells (a.cs b cap) 28)
 have NI := hide (nonI_any a (by omega) (by omega) b cap (w.alloc (.cells (a.cs b cap) 28)))
 have FN := hide (fun (r : Ending) (w' : World) (hr : r = .returned (.tuple #[v, .bool (nonX a)])) (h : Below w.heap.size w w') => (show AddR false a l B w r w' from ⟨v, l, hr, hown.later h, fun _ => (List.append_nil l).symm, h.mono hB⟩))
 have B0 := hide hB0
 clear hB0 hown hsz hz
 generalize AddR false a l B w = R at *
 generalize nonX a = q at *
 unfold Ag.cs at NI B0 ⊢
 go_enter Tryz.func150, Tryz.ntmps150
 go_wp2_with (go_at_call 195; refine (uh NI).mono ?_; rintro e w1 ⟨rfl, hb1⟩)
 (try go_ret2)
 exact uh FN _ _ rfl ((uh B0).trans (hb1.mono (uh B0).size))
theorem addI_yes (l : List Op3) (v : Value) (B : Nat) (a : Ag) (b : Option Addr) (cap : Nat) (w : World) (hB : B ≤ w.heap.size) (hown : OwnA w B v l) (hl : l.length ≤ 1000) (hr : RdX w 0 a.e b) (hz : a.e.sz ≤ 1048576) (ht : TabA w) : Calls Tryz.prog 150 #[v, .agg (a.cs b cap), .bool true] w (AddR true a l B w) := by
 have hB0 := below_new w (.cells (a.cs b cap) 28)
 have HH := hide (opdI_any a b cap _ (hr.later hB0) hz (ht.next hB0))
 have FN := hide (fun (r : Ending) (w' : World) (v' : Value) (p : Op3) (hr : r = .returned (.tuple #[v', .bool (agX a)])) (ho : OwnA w' B v' (l ++ [p])) (hp : agX a = true → p = opP a) (h : Below B w w') => (show AddR true a l B w r w' from ⟨v', l ++ [p], hr, ho, fun e => by rw [hp e]; rfl, h⟩))
 have O0 := hide (hown.later hB0)
 have B0 := hide hB0
 have HB := hide hB
 clear hB0 hr ht hown hB
 unfold OpdR at HH
 unfold opP at FN
 generalize AddR true a l B w = R at *
 generalize opU a = ou at *
 generalize agX a = q at *
 unfold Ag.cs at HH B0 O0 ⊢
 go_enter Tryz.func150, Tryz.ntmps150
 go_wp2_with fail
 refine (uh HH).mono ?_
 rintro r w1 ⟨u, f, g, rfl, hv, hb1⟩
 have O1 := hide ((uh O0).later hb1)
 have B1 := hide ((uh B0).trans (hb1.mono (uh B0).size))
 have PV := hide hv.2
 have hi := hv.1
 clear hb1 hv O0 B0 HH
 rcases hi with rfl | ⟨tt, xx, rfl⟩
 ·
  have hb2 := below_new w1 (.cells #[.nilIface, .int .i64 f, .int .i64 g] 85)
  have R1 := hide (show (w1.alloc (.cells #[.nilIface, .int .i64 f, .int .i64 g] 85)).heap[w1.heap.size]? = some (.cells #[.nilIface, .int .i64 f, .int .i64 g] 85 (0, 0)) from Array.getElem?_push_size)
  obtain ⟨X1, hX1⟩ : ∃ X, w1.alloc (.cells #[.nilIface, .int .i64 f, .int .i64 g] 85) = X := ⟨_, rfl⟩
  rw [hX1] at hb2 R1
  have hb3 := below_new X1 (.cells #[.nilIface, .int .i64 f, .int .i64 g] 85)
  have G2 := hide (show (X1.alloc (.cells #[.nilIface, .int .i64 f, .int .i64 g] 85)).heap[X1.heap.size]? = some (.cells #[.nilIface, .int .i64 f, .int .i64 g] 85 (0, 0)) from Array.getElem?_push_size)
  obtain ⟨X2, hX2⟩ : ∃ X, X1.alloc (.cells #[.nilIface, .int .i64 f, .int .i64 g] 85) = X := ⟨_, rfl⟩
  rw [hX2] at hb3 G2
  have O3 := hide (((uh O1).later hb2).later hb3)
  have D3 := hide (((((uh B1).trans (hb2.mono (uh B1).size)).trans (hb3.mono (Nat.le_trans (uh B1).size hb2.size))).mono (uh HB)))
  clear hb2 hb3 O1 B1
  go_wp2_with (first | (refine wpList_load_row rfl 85 _ rfl w1.heap.size rfl 85 #[.nilIface, .int .i64 f, .int .i64 g] (0, 0) _ (uh R1) Tryz.underlying85 rfl (by kernel_rfl) ?_) | (at_builtin; go_must (refine appO rfl _ _ rfl (uh HB) (uh D3) rfl (uh O3) X1.heap.size ⟨.nilIface, f, g⟩ rfl (uh G2) (.inl rfl) hl ?_; intro v4 y4 hO; have O4 := hide hO; clear hO)))
  (try go_ret2)
  exact uh FN _ _ _ _ rfl (uh O4) (fun h => by obtain ⟨h1, h2, h3⟩ := uh PV h; rw [h1, h2, h3]) y4.h
 ·
  have hb2 := below_new w1 (.cells #[.iface tt xx, .int .i64 f, .int .i64 g] 85)
  have R1 := hide (show (w1.alloc (.cells #[.iface tt xx, .int .i64 f, .int .i64 g] 85)).heap[w1.heap.size]? = some (.cells #[.iface tt xx, .int .i64 f, .int .i64 g] 85 (0, 0)) from Array.getElem?_push_size)
  obtain ⟨X1, hX1⟩ : ∃ X, w1.alloc (.cells #[.iface tt xx, .int .i64 f, .int .i64 g] 85) = X := ⟨_, rfl⟩
  rw [hX1] at hb2 R1
  have hb3 := below_new X1 (.cells #[.iface tt xx, .int .i64 f, .int .i64 g] 85)
  have G2 := hide (show (X1.alloc (.cells #[.iface tt xx, .int .i64 f, .int .i64 g] 85)).heap[X1.heap.size]? = some (.cells #[.iface tt xx, .int .i64 f, .int .i64 g] 85 (0, 0)) from Array.getElem?_push_size)
  obtain ⟨X2, hX2⟩ : ∃ X, X1.alloc (.cells #[.iface tt xx, .int .i64 f, .int .i64 g] 85) = X := ⟨_, rfl⟩
  rw [hX2] at hb3 G2
  have O3 := hide (((uh O1).later hb2).later hb3)
  have D3 := hide (((((uh B1).trans (hb2.mono (uh B1).size)).trans (hb3.mono (Nat.le_trans (uh B1).size hb2.size))).mono (uh HB)))
  clear hb2 hb3 O1 B1
  go_wp2_with (first | (refine wpList_load_row rfl 85 _ rfl w1.heap.size rfl 85 #[.iface tt xx, .int .i64 f, .int .i64 g] (0, 0) _ (uh R1) Tryz.underlying85 rfl (by kernel_rfl) ?_) | (at_builtin; go_must (refine appO rfl _ _ rfl (uh HB) (uh D3) rfl (uh O3) X1.heap.size ⟨.iface tt xx, f, g⟩ rfl (uh G2) (.inr ⟨_, _, rfl⟩) hl ?_; intro v4 y4 hO; have O4 := hide hO; clear hO)))
  (try go_ret2)
  exact uh FN _ _ _ _ rfl (uh O4) (fun h => by obtain ⟨h1, h2, h3⟩ := uh PV h; rw [h1, h2, h3]) y4.h
end
theorem addI_any (named : Bool) (l : List Op3) (v : Value) (B : Nat) (a : Ag) (b : Option Addr) (cap : Nat) (w : World) (hB : B ≤ w.heap.size) (hown : OwnA w B v l) (hl : l.length ≤ 1000) (hr : RdX w 0 a.e b) (hz : a.e.sz ≤ 1048576) (ht : TabA w) : Calls Tryz.prog 150 #[v, .agg (a.cs b cap), .bool named] w (AddR named a l B w) := by
 cases named
 · exact addI_no l v B a b cap w hB hown hz
 · exact addI_yes l v B a b cap w hB hown hl hr hz ht
def OpsR (q1 q2 : Bool) (x y : Ag) (w : World) (r : Ending) (w' : World) : Prop := ∃ v, r = .returned (.tuple #[v, .bool (agW q1 x && agW q2 y)]) ∧ ((agW q1 x && agW q2 y) = true → OwnA w' w.heap.size v (opsL q1 x ++ opsL q2 y)) ∧ Below w.heap.size w w'
theorem opsI_any (S : Sh) (x y : Ag) (b1 : Option Addr) (c1 : Nat) (b2 : Option Addr) (c2 : Nat) (w : World) (h1 : RdX w 0 x.e b1) (z1 : x.e.sz ≤ 1048576) (h2 : RdX w 0 y.e b2) (z2 : y.e.sz ≤ 1048576) (ht : TabA w) : Calls Tryz.prog 100 #[.agg S.cs, .agg (x.cs b1 c1), .agg (y.cs b2 c2)] w (OpsR S.src S.dst x y w) := by
 obtain ⟨a1, a2, a3, a4, a5, a6, a7⟩ := S
 have FN := hide (fun (r : Ending) (w' : World) (v : Value) (q : Bool) (h : (agW a2 x && agW a3 y) = q) (hr : r = .returned (.tuple #[v, .bool q])) (hv : q = true → OwnA w' w.heap.size v (opsL a2 x ++ opsL a3 y)) (hb : Below w.heap.size w w') => (show OpsR a2 a3 x y w r w' from ⟨v, by rw [h]; exact hr, fun e => hv (h.symm.trans e), hb⟩))
 have P1 := hide (fun w1 (h : Below w.heap.size w w1) => addI_any a2 [] (.slice none 0 0) w1.heap.size x b1 c1 w1 (Nat.le_refl _) (ownA_none _ _) (by simp) (h1.later h) z1 (ht.next h))
 have P2 := hide (fun w1 B v l (h : Below w.heap.size w w1) (hB : B ≤ w1.heap.size) (ho : OwnA w1 B v l) (hl : l.length ≤ 1000) => addI_any a3 l v B y b2 c2 w1 hB ho hl (h2.later h) z2 (ht.next h))
 have OL : (opsL a2 x).length ≤ 1000 := by unfold opsL; split <;> simp
 clear h1 h2 z1 z2 ht
 unfold Sh.cs
 simp only
 generalize OpsR a2 a3 x y w = R at *
 unfold AddR at P1 P2
 generalize agW a2 x = q1 at *
 generalize agW a3 y = q2 at *
 generalize opsL a2 x = L1 at *
 generalize opsL a3 y = L2 at *
 simp only [List.nil_append] at P1
 unfold Ag.cs at P1 P2 ⊢
 generalize x.f = sf at *
 generalize x.r = sr at *
 generalize x.e.k = sk at *
 generalize x.e.n = sn at *
 generalize x.e.s = ss at *
 generalize x.e.l.length = sl at *
 generalize y.f = df at *
 generalize y.r = dr at *
 generalize y.e.k = dk at *
 generalize y.e.n = dn at *
 generalize y.e.s = ds at *
 generalize y.e.l.length = dl at *
 obtain ⟨V1, hV1⟩ : ∃ V, w.alloc (.cells #[.bool a1, .bool a2, .bool a3, .int .i64 a4, .int .i64 a5, .int .i64 a6, .bool a7] 129) = V := ⟨_, rfl⟩
 have bV1 : Below w.heap.size w V1 := by rw [← hV1]; exact below_new _ _
 have rS : V1.heap[w.heap.size]? = some (.cells #[.bool a1, .bool a2, .bool a3, .int .i64 a4, .int .i64 a5, .int .i64 a6, .bool a7] 129 (0, 0)) := by rw [← hV1]; exact Array.getElem?_push_size
 obtain ⟨V2, hV2⟩ : ∃ V, V1.alloc (.cells #[.int .i64 sf, .int .i64 sr, .int .i64 sk, .int .i64 sn, .string ss, .slice b1 sl c1] 28) = V := ⟨_, rfl⟩
 have bV2 : Below V1.heap.size V1 V2 := by rw [← hV2]; exact below_new _ _
 have rA1 : V2.heap[V1.heap.size]? = some (.cells #[.int .i64 sf, .int .i64 sr, .int .i64 sk, .int .i64 sn, .string ss, .slice b1 sl c1] 28 (0, 0)) := by rw [← hV2]; exact Array.getElem?_push_size
 obtain ⟨W, hW⟩ : ∃ V, V2.alloc (.cells #[.int .i64 df, .int .i64 dr, .int .i64 dk, .int .i64 dn, .string ds, .slice b2 dl c2] 28) = V := ⟨_, rfl⟩
 have bW : Below V2.heap.size V2 W := by rw [← hW]; exact below_new _ _
 have rA2 : W.heap[V2.heap.size]? = some (.cells #[.int .i64 df, .int .i64 dr, .int .i64 dk, .int .i64 dn, .string ds, .slice b2 dl c2] 28 (0, 0)) := by rw [← hW]; exact Array.getElem?_push_size
 have rA1 := row_keep rA1 bW
 have rS := row_keep (row_keep rS bV2) bW
 have hbW : Below w.heap.size w W := (bV1.trans (bV2.mono bV1.size)).trans (bW.mono (Nat.le_trans bV1.size bV2.size))
 have lS := (Array.getElem?_eq_some_iff.1 rS).1
 have lA1 := (Array.getElem?_eq_some_iff.1 rA1).1
 have lA2 := (Array.getElem?_eq_some_iff.1 rA2).1
 have BY := hide (fun y : Sub W.heap.size W => hbW.trans (y.h.mono hbW.size))
 have HO := hide (fun (y : Sub W.heap.size W) v l (h : OwnA y.w W.heap.size v l) => h.base hbW.size)
 have Y1 := hide (fun y : Sub W.heap.size W => (y.h.block _ lA1).trans rA1)
 have Y2 := hide (fun y : Sub W.heap.size W => (y.h.block _ lA2).trans rA2)
 have E1 : ∀ y : Sub W.heap.size W, y.w.cell? ⟨w.heap.size, 1, none⟩ = some (.bool a2) := fun y => (y.h.cell (p := ⟨w.heap.size, 1, none⟩) lS).trans (Lib.cell_of_heap rS 1)
 have E2 : ∀ y : Sub W.heap.size W, y.w.cell? ⟨w.heap.size, 2, none⟩ = some (.bool a3) := fun y => (y.h.cell (p := ⟨w.heap.size, 2, none⟩) lS).trans (Lib.cell_of_heap rS 2)
 have ne := Sub.ne W.heap.size W
 have HZ := hide (Nat.le_refl W.heap.size)
 obtain ⟨y0, hy0⟩ : ∃ z : Sub W.heap.size W, W = z.w := ⟨⟨W, Below.refl _ _⟩, rfl⟩
 have P1 := hide (uh P1 W hbW)
 rw [hy0] at hW
 clear bV1 bV2 bW rS rA1 rA2 lS lA1 lA2 hbW
 go_enter Tryz.func100, Tryz.ntmps100
 go_wp2_with (first | (refine wpList_load_row rfl 28 _ rfl V1.heap.size rfl 28 #[.int .i64 sf, .int .i64 sr, .int .i64 sk, .int .i64 sn, .string ss, .slice b1 sl c1] (0, 0) _ (uh Y1 _) Tryz.underlying28 rfl (by kernel_rfl) ?_))
 rw [← hy0]
 refine (uh P1).mono ?_
 rintro r w1 ⟨v1, l1, rfl, hO, hl1, hb1⟩
 obtain ⟨y1, rfl⟩ : ∃ y : Sub W.heap.size W, w1 = y.w := ⟨⟨w1, hb1⟩, rfl⟩
 have O1 := hide hO
 have LL := hide hl1
 clear hb1 hO hl1 P1 hy0
 cases q1 with
 | false =>
  have F2 := hide (fun r w' v => uh FN r w' v false rfl)
  clear FN P2
  go_wp2
  (try go_ret2)
  exact uh F2 _ _ _ rfl (fun h => by cases h) (uh BY y1)
 | true =>
  have ll := uh LL rfl
  subst ll
  have P3 := hide (uh P2 y1.w W.heap.size v1 l1 (uh BY y1) y1.h.size (uh O1) OL)
  have F2 := hide (fun r w' v => uh FN r w' v q2 rfl)
  clear FN P2 O1 LL
  go_wp2_with (first | (refine wpList_load_row rfl 28 _ rfl V2.heap.size rfl 28 #[.int .i64 df, .int .i64 dr, .int .i64 dk, .int .i64 dn, .string ds, .slice b2 dl c2] (0, 0) _ (uh Y2 _) Tryz.underlying28 rfl (by kernel_rfl) ?_))
  refine (uh P3).mono ?_
  rintro r w2 ⟨v2, l2, rfl, hO, hl2, hb2⟩
  obtain ⟨y2, rfl⟩ : ∃ y : Sub W.heap.size W, w2 = y.w := ⟨⟨w2, y1.h.trans hb2⟩, rfl⟩
  have O2 := hide hO
  have LL := hide hl2
  clear hb2 hO hl2 P3
  go_wp2
  (try go_ret2)
  exact uh F2 _ _ _ rfl (fun h => by have e := uh LL h; rw [← e]; exact uh HO _ _ _ (uh O2)) (uh BY y2)
section
theorem infTm : (Tryz.prog.info? 83).map (fun i => (i.zero, i.size, i.bytes)) = some (some .nilIface, 1, 16) := by kernel_rfl
def OwnV (w : World) (B : Nat) (v : Value) (l : List Value) : Prop := w.ownsRow B 83 1 v l.length l
theorem OwnV.later {w w' : World} {B : Nat} {v : Value} {l : List Value} (h : OwnV w B v l) (hb : Below w.heap.size w w') : OwnV w' B v l := by
 obtain ⟨h1, h2 | ⟨g, cap, cur, e, hg, hh, r⟩⟩ := h
 · exact ⟨h1, .inl h2⟩
 · exact ⟨h1, .inr ⟨g, cap, cur, e, hg, (hb.block g (Array.getElem?_eq_some_iff.1 hh).1).trans hh, r⟩⟩
theorem OwnV.base {w : World} {B B' : Nat} {v : Value} {l : List Value} (h : OwnV w B v l) (hB : B' ≤ B) : OwnV w B' v l := by
 obtain ⟨h1, h2 | ⟨g, cap, cur, e, hg, r⟩⟩ := h
 · exact ⟨h1, .inl h2⟩
 · exact ⟨h1, .inr ⟨g, cap, cur, e, Nat.le_trans hB hg, r⟩⟩
theorem ownV_none (w : World) (B : Nat) : OwnV w B (.slice none 0 0) [] := ⟨rfl, .inl ⟨rfl, rfl⟩⟩
section
variable {ops : Array Oper} {rest : List Oper} {o : Oper} {a : Act} {Q : Exit → Act → World → Prop} {w w0 : World} {B : Nat} {K : Act → World → Prop}
theorem wp_appV (s x : Operand) (ho : o.op = .call { callee := .builtin .append, args := #[s, x], argTypes := #[62, 62] }) (hB : B ≤ w0.heap.size) (hD : Below B w0 w) {v : Value} {l : List Value} (hs : a.eval s = v) (hown : OwnV w B v l) (g : Nat) (p : Value) (hx : a.eval x = .slice (some ⟨g, 0, none⟩) 1 1) (hg : w.heap[g]? = some (.cells #[p] 83 (0, 0))) (hi : IfV p) (hl : l.length ≤ 1048576)
  (h : ∀ (v' : Value) (y : Sub B w0), OwnV y.w B v' (l ++ [p]) → K (a.put o.dst v') y.w) : o.wp Tryz.prog a w K Q := by
 obtain ⟨i0, hi0, hz0, hz1, hz2⟩ := info_parts infTm
 have hsz := hD.size
 refine wp_append_own w s x 62 ho B 83 i0 .nilIface 1 16 Tryz.underlying62 hi0 hz0 hz1 hz2 rfl (by decide) v l.length l hs hown ⟨g, 0, none⟩ 1 1 [p] hx rfl (fun j u hj => by
  have hc := Lib.cell_of_heap hg j
  have e : (#[p] : Array Value)[j]? = some u := by rw [← hj]; simp
  have ha : (⟨g, 0, none⟩ : Addr).add j = ⟨g, j, none⟩ := by simp [Addr.add]; exact fun h => h.symm
  rw [ha]
  exact hc.trans e) (fun u hu => by rw [List.mem_singleton.1 hu]; exact hi.one) (by unfold maxLen; omega) (by omega) (by omega) ?_
 intro v' w' h1 h2 _
 refine h v' ⟨w', hD.grown h2 (Nat.le_trans hB hD.size) (fun g hg => (World.ownsRow.lt hown g hg).1)⟩ ?_
 unfold OwnV
 rw [List.length_append]
 exact h1
theorem appV (hgd : o.guard = none) (s x : Operand) (ho : o.op = .call { callee := .builtin .append, args := #[s, x], argTypes := #[62, 62] }) (hB : B ≤ w0.heap.size) (hD : Below B w0 w) {v : Value} {l : List Value} (hs : a.eval s = v) (hown : OwnV w B v l) (g : Nat) (p : Value) (hx : a.eval x = .slice (some ⟨g, 0, none⟩) 1 1) (hg : w.heap[g]? = some (.cells #[p] 83 (0, 0))) (hi : IfV p) (hl : l.length ≤ 1048576)
  (h : ∀ (v' : Value) (y : Sub B w0), OwnV y.w B v' (l ++ [p]) → wpList Tryz.prog ops Q rest (a.put o.dst v') y.w) : wpList Tryz.prog ops Q (o :: rest) a w :=
 wpList_plain hgd fun _ hK => wp_appV s x ho hB hD hs hown g p hx hg hi hl fun v' y h1 => hK _ _ (h v' y h1)
end
def tmF (na : Bool) (e : Ex) : Bool := okF 6 true e && (!na || e.k == 2)
theorem tmF_take {na : Bool} {l : List Ex} {k : Nat} (h : k < l.length) : (l.take (k + 1)).all (tmF na) = ((l.take k).all (tmF na) && tmF na (xAt l k)) := by
 rw [List.take_succ_eq_append_getElem h, List.all_append]
 simp [xAt, List.getD_eq_getElem?_getD, h]
theorem tmF_no {na : Bool} {l : List Ex} {k : Nat} (h : k < l.length) (hk : tmF na (xAt l k) = false) : l.all (tmF na) = false := by
 cases hq : l.all (tmF na) with
 | false => rfl
 | true =>
  have := List.all_eq_true.1 hq (xAt l k) (by simp [xAt, List.getD_eq_getElem?_getD, h])
  rw [hk] at this
  cases this
theorem tvJ_take {l : List Ex} {k : Nat} (h : k < l.length) : (l.take (k + 1)).map tv = (l.take k).map tv ++ [tv (xAt l k)] := by
 rw [List.take_succ_eq_append_getElem h, List.map_append]
 simp [xAt, List.getD_eq_getElem?_getD, h]
def tmX (S : Sh) (l : List Ex) : Bool := inB l.length S.fw S.mo && l.all (tmF S.na)
def TmsR (S : Sh) (l : List Ex) (w : World) (r : Ending) (w' : World) : Prop := ∃ v, r = .returned (.tuple #[v, .bool (tmX S l)]) ∧ (tmX S l = true → OwnV w' w.heap.size v (l.map tv)) ∧ Below w.heap.size w w'
theorem ptmI_any (S : Sh) (l : List Ex) (b : Option Addr) (n cap : Nat) (w : World) (hn : l.length = n) (hm : n ≤ 1048576) (hz : ∀ i, i < n → (xAt l i).sz ≤ 1048576) (hr : RdX w 0 ⟨0, 0, E0, l⟩ b) (ht : TabK w) : Calls Tryz.prog 101 #[.agg S.cs, .slice b n cap] w (TmsR S l w) := by
 obtain ⟨a1, a2, a3, a4, a5, a6, a7⟩ := S
 have FN := hide (fun (r : Ending) (w' : World) (v : Value) (q : Bool) (h0 : (inB (n : Int) a5 a6 && l.all (tmF a7)) = q) (h : r = .returned (.tuple #[v, .bool q])) (h1 : q = true → OwnV w' w.heap.size v (l.map tv)) (h2 : Below w.heap.size w w') => (show TmsR ⟨a1, a2, a3, a4, a5, a6, a7⟩ l w r w' from ⟨v, by rw [h, ← h0, ← hn]; rfl, fun e => h1 (by rw [← h0, ← hn]; exact e), h2⟩))
 unfold Sh.cs
 simp only
 obtain ⟨W, hW⟩ : ∃ W, w.alloc (.cells #[.bool a1, .bool a2, .bool a3, .int .i64 a4, .int .i64 a5, .int .i64 a6, .bool a7] 129) = W := ⟨_, rfl⟩
 have hbW : Below w.heap.size w W := by rw [← hW]; exact below_new _ _
 have rS : W.heap[w.heap.size]? = some (.cells #[.bool a1, .bool a2, .bool a3, .int .i64 a4, .int .i64 a5, .int .i64 a6, .bool a7] 129 (0, 0)) := by rw [← hW]; exact Array.getElem?_push_size
 have lS := (Array.getElem?_eq_some_iff.1 rS).1
 have BY := hide (fun y : Sub W.heap.size W => hbW.trans (y.h.mono hbW.size))
 have HO := hide (fun (y : Sub W.heap.size W) v l (h : OwnV y.w W.heap.size v l) => h.base hbW.size)
 have E4 : ∀ y : Sub W.heap.size W, y.w.cell? ⟨w.heap.size, 4, none⟩ = some (.int .i64 a5) := fun y => (y.h.cell (p := ⟨w.heap.size, 4, none⟩) lS).trans (Lib.cell_of_heap rS 4)
 have E5 : ∀ y : Sub W.heap.size W, y.w.cell? ⟨w.heap.size, 5, none⟩ = some (.int .i64 a6) := fun y => (y.h.cell (p := ⟨w.heap.size, 5, none⟩) lS).trans (Lib.cell_of_heap rS 5)
 have E6 : ∀ y : Sub W.heap.size W, y.w.cell? ⟨w.heap.size, 6, none⟩ = some (.bool a7) := fun y => (y.h.cell (p := ⟨w.heap.size, 6, none⟩) lS).trans (Lib.cell_of_heap rS 6)
 have ne := Sub.ne W.heap.size W
 have HZ := hide (Nat.le_refl W.heap.size)
 have TM := hide (fun i (hi : i < n) (c : Option Addr) (cp : Nat) (y : Sub W.heap.size W) (h : RdX y.w 0 (xAt l i) c) => plnO_any (xAt l i) c cp y.w h (hz i hi) (ht.next (uh BY y)))
 unfold PlnR at TM
 have KD := hide (fun i (h : okF 6 true (xAt l i) = true) (w : World) => kindI_any (plain_ok 6 _ h) w)
 have RD := hide (fun i (h : i < n) => rd_at (hr.later hbW) (i := i) (by show i < l.length; omega))
 have OT := hide (fun k (h : k < n) => tmF_take (na := a7) (l := l) (k := k) (by omega))
 have ON := hide (fun k (h : k < n) => tmF_no (na := a7) (l := l) (k := k) (by omega))
 have TT := hide (fun k (h : k < n) => tvJ_take (l := l) (k := k) (by omega))
 have EN := hide (show l.take n = l by rw [← hn, List.take_length])
 obtain ⟨y0, hy0⟩ : ∃ z : Sub W.heap.size W, W = z.w := ⟨⟨W, Below.refl _ _⟩, rfl⟩
 rw [hy0] at hW
 generalize TmsR ⟨a1, a2, a3, a4, a5, a6, a7⟩ l w = R at *
 clear hr hz ht hn hbW rS lS hy0
 by_cases hlo : (n : Int) < a5
 ·
  have F2 := hide (fun r w' v => uh FN r w' v false (by rw [inB_f (n : Int) a5 a6 (by omega)]; rfl))
  clear FN TM KD RD OT ON TT EN
  go_enter Tryz.func101, Tryz.ntmps101
  go_wp2
  (try go_ret2)
  exact uh F2 _ _ _ rfl (fun h => by cases h) (uh BY y0)
 by_cases hhi : a6 < (n : Int)
 ·
  have F2 := hide (fun r w' v => uh FN r w' v false (by rw [inB_f (n : Int) a5 a6 (by omega)]; rfl))
  clear FN TM KD RD OT ON TT EN
  go_enter Tryz.func101, Tryz.ntmps101
  go_wp2
  (try go_ret2)
  exact uh F2 _ _ _ rfl (fun h => by cases h) (uh BY y0)
 have F2 := hide (fun r w' v q (h : l.all (tmF a7) = q) => uh FN r w' v q (by rw [inB_t (n : Int) a5 a6 (by omega) (by omega)]; exact h))
 clear FN
 have g1 : decide ((n : Int) < a5) = false := decide_eq_false hlo
 have g2 : decide (a6 < (n : Int)) = false := decide_eq_false hhi
 go_enter Tryz.func101, Tryz.ntmps101
 go_wp2
 go_loopw [6, 25] (fun v i wr => ∃ (k : Nat) (z : Sub W.heap.size W), k ≤ n ∧ i = .int .i64 k ∧ (l.take k).all (tmF a7) = true ∧ OwnV z.w W.heap.size v ((l.take k).map tv) ∧ wr = z.w) (fun _ i _ => n - (intOf i).toNat)
 case atStart => exact ⟨0, y0, Nat.zero_le _, rfl, by simp, ownV_none _ _, rfl⟩
 case round =>
  obtain ⟨k, z, hk, rfl, hok, hown, rfl⟩ := hrel
  by_cases hlt : k < n
  ·
   obtain ⟨p, po, rfl, hp, o1⟩ := uh RD k hlt
   obtain ⟨e0, e1, e2, c, cp, e3, e4⟩ := o1
   have c0 := (z.h.cell (p := ⟨p, po + k * 4, none⟩) hp).trans e0
   have c1 := (z.h.cell (p := ⟨p, po + k * 4 + 1, none⟩) hp).trans e1
   have c2 := (z.h.cell (p := ⟨p, po + k * 4 + 2, none⟩) hp).trans e2
   have c3 := (z.h.cell (p := ⟨p, po + k * 4 + 3, none⟩) hp).trans e3
   have T1 := hide (uh OT k hlt)
   have T2 := hide (uh TT k hlt)
   have T3 := hide (uh ON k hlt)
   have T4 := hide (show tmF a7 (xAt l k) = (okF 6 true (xAt l k) && (!a7 || (xAt l k).k == 2)) from rfl)
   have X0 := hide (fun y : Sub W.heap.size W => e4.later y.h)
   have TK := hide (fun y : Sub W.heap.size W => uh TM k hlt c cp y (uh X0 y))
   have K0 := hide (uh KD k)
   have OK := hide hok
   have OW := hide hown
   unfold Ex.cs at TK
   have hkn : ¬ ((n : Int) ≤ (k : Int)) := by omega
   clear e0 e1 e2 e3 e4 hok hown hp X0
   obtain ⟨tt, xx, ett⟩ := tv_if (xAt l k)
   rw [ett] at TK T2 K0
   clear ett
   generalize (xAt l k).k = ek at *
   generalize (xAt l k).n = en at *
   generalize (xAt l k).s = es at *
   generalize (xAt l k).l.length = el at *
   have hb1 := below_new z.w (.cells #[.int .i64 ek, .int .i64 en, .string es, .slice c el cp] 26)
   obtain ⟨z1, hz1⟩ := Sub.step (uh HZ) hb1
   have G1 := hide (show z1.w.heap[z.w.heap.size]? = some (.cells #[.int .i64 ek, .int .i64 en, .string es, .slice c el cp] 26 (0, 0)) by rw [← hz1]; exact Array.getElem?_push_size)
   have O1 := hide (show OwnV z1.w W.heap.size u6 ((l.take k).map tv) by rw [← hz1]; exact (uh OW).later hb1)
   have C1 := hide (uh TK z1)
   clear hb1 TK OW
   go_wp2_with (refine wpList_load_row rfl 26 _ rfl z.w.heap.size rfl 26 #[.int .i64 ek, .int .i64 en, .string es, .slice c el cp] (0, 0) _ (uh G1) Tryz.underlying26 rfl (by kernel_rfl) ?_)
   refine (uh C1).mono ?_
   rintro r w2 ⟨tk, rfl, htk, hb2⟩
   have O2 := hide ((uh O1).later hb2)
   obtain ⟨z2, rfl⟩ := Sub.step (uh HZ) hb2
   have HT := hide htk.2
   clear htk hb2 O1 C1 G1 c0 c1 c2 c3 hz1
   generalize hq : okF 6 true (xAt l k) = q at *
   cases q with
   | false =>
    have F := hide (uh T3 (by rw [uh T4]; rfl))
    clear T1 T2 T3 T4 K0 HT
    go_wp2
    (first | go_ret2 | go_ret | skip)
    exact uh F2 _ _ _ false (uh F) rfl (fun h => by cases h) (uh BY z2)
   | true =>
    have etk := uh HT rfl
    subst etk
    have K1 := hide (uh K0 rfl)
    clear HT K0
    cases a7 with
    | false =>
     have E1 := hide (show (l.take (k + 1)).all (tmF false) = true by rw [uh T1, uh OK, uh T4]; rfl)
     clear T1 T3 T4 OK
     have hb3 := below_new z2.w (.cells #[.iface tt xx] 83)
     obtain ⟨z3, hz3⟩ := Sub.step (uh HZ) hb3
     have O3 := hide (show OwnV z3.w W.heap.size u6 ((l.take k).map tv) by rw [← hz3]; exact (uh O2).later hb3)
     have G3 := hide (show z3.w.heap[z2.w.heap.size]? = some (.cells #[.iface tt xx] 83 (0, 0)) by rw [← hz3]; exact Array.getElem?_push_size)
     have LN := hide (show ((l.take k).map tv).length ≤ 1048576 by simp; omega)
     clear hb3 O2
     go_wp2_with (first | (go_at_call 151; refine (uh K1 _).mono ?_; rintro r w' ⟨rfl, hw'⟩; rw [hw']; clear hw' w') | (at_builtin; go_must (refine appV rfl _ _ rfl (uh HZ) z3.h rfl (uh O3) z2.w.heap.size (.iface tt xx) rfl (uh G3) (.inr ⟨_, _, rfl⟩) (uh LN) ?_; intro v4 z4 hO; have O4 := hide hO; clear hO)))
     go_roundw
     case rel => exact ⟨k + 1, z4, by omega, by go_num, uh E1, by rw [uh T2]; exact uh O4, rfl⟩
     case measure => simp [intOf]; omega
    | true =>
     by_cases h2 : ek = 2
     ·
      subst h2
      have E1 := hide (show (l.take (k + 1)).all (tmF true) = true by rw [uh T1, uh OK, uh T4]; rfl)
      clear T1 T3 T4 OK
      have hb3 := below_new z2.w (.cells #[.iface tt xx] 83)
      obtain ⟨z3, hz3⟩ := Sub.step (uh HZ) hb3
      have O3 := hide (show OwnV z3.w W.heap.size u6 ((l.take k).map tv) by rw [← hz3]; exact (uh O2).later hb3)
      have G3 := hide (show z3.w.heap[z2.w.heap.size]? = some (.cells #[.iface tt xx] 83 (0, 0)) by rw [← hz3]; exact Array.getElem?_push_size)
      have LN := hide (show ((l.take k).map tv).length ≤ 1048576 by simp; omega)
      clear hb3 O2
      go_wp2_with (first | (go_at_call 151; refine (uh K1 _).mono ?_; rintro r w' ⟨rfl, hw'⟩; rw [hw']; clear hw' w') | (at_builtin; go_must (refine appV rfl _ _ rfl (uh HZ) z3.h rfl (uh O3) z2.w.heap.size (.iface tt xx) rfl (uh G3) (.inr ⟨_, _, rfl⟩) (uh LN) ?_; intro v4 z4 hO; have O4 := hide hO; clear hO)))
      go_roundw
      case rel => exact ⟨k + 1, z4, by omega, by go_num, uh E1, by rw [uh T2]; exact uh O4, rfl⟩
      case measure => simp [intOf]; omega
     ·
      have g2 : (ek == 2) = false := beq_eq_false_iff_ne.2 h2
      have F := hide (uh T3 (by rw [uh T4, g2]; rfl))
      clear T1 T2 T3 T4 OK
      go_wp2_with (go_at_call 151; refine (uh K1 _).mono ?_; rintro r w' ⟨rfl, hw'⟩; rw [hw']; clear hw' w')
      (first | go_ret2 | go_ret | skip)
      exact uh F2 _ _ _ false (uh F) rfl (fun h => by cases h) (uh BY z2)
  ·
   obtain rfl : k = n := by omega
   rw [uh EN] at hok hown
   have OW := hide hown
   have OK := hide hok
   clear hok hown
   go_wp2
   (first | go_ret2 | go_ret | skip)
   exact uh F2 _ _ _ true (uh OK) rfl (fun _ => uh HO _ _ _ (uh OW)) (uh BY z)
end
def stX (x : Ln) : Bool := shB x.k x.op && (nmX (shX x.k x.op).nm x.s && (inB x.n 0 (shX x.k x.op).gn && ((agW (shX x.k x.op).src x.src && agW (shX x.k x.op).dst x.dst) && tmX (shX x.k x.op) x.l)))
theorem n00 (n : Int) : inB n 0 0 = (n == 0) := by
 by_cases h : n = 0
 · subst h; rfl
 · rw [inB_f n 0 0 (by omega), beq_eq_false_iff_ne.2 h]
theorem len00 (l : List Ex) : inB (l.length : Int) 0 0 = (l.length == 0) := by
 by_cases h : l.length = 0
 · rw [h]; rfl
 · rw [inB_f _ 0 0 (by omega), beq_eq_false_iff_ne.2 h]
theorem len11 (l : List Ex) : inB (l.length : Int) 1 1 = (l.length == 1) := by
 by_cases h : l.length = 1
 · rw [h]; rfl
 · rw [inB_f _ 1 1 (by omega), beq_eq_false_iff_ne.2 h]
theorem tmF_f : tmF false = okF 6 true := by
 funext e
 unfold tmF
 simp
theorem tmF_t : tmF true = nmF := by
 funext e
 unfold tmF nmF
 simp
theorem t00 (na : Bool) (l : List Ex) : (inB (l.length : Int) 0 0 && l.all (tmF na)) = (l.length == 0) := by
 rw [len00]
 cases l with
 | nil => rfl
 | cons a l => rfl
theorem tm_00 (a b c na : Bool) (g : Int) (l : List Ex) : tmX ⟨a, b, c, g, 0, 0, na⟩ l = (l.length == 0) := t00 na l
theorem tm_11 (a b c : Bool) (g : Int) (l : List Ex) : tmX ⟨a, b, c, g, 1, 1, false⟩ l = (l.length == 1 && l.all (okF 6 true)) := by
 unfold tmX
 simp only
 rw [len11, tmF_f]
theorem tm_16 (a b c : Bool) (g : Int) (l : List Ex) : tmX ⟨a, b, c, g, 1, 6, false⟩ l = (inB l.length 1 6 && l.all (okF 6 true)) := by
 unfold tmX
 simp only
 rw [tmF_f]
theorem tm_16n (a b c : Bool) (g : Int) (l : List Ex) : tmX ⟨a, b, c, g, 1, 6, true⟩ l = nmsX l := by
 unfold tmX nmsX
 simp only
 rw [tmF_t, Bool.and_comm]
theorem stX_of {x : Ln} {S : Sh} {q : Bool} (h : shX x.k x.op = S) (hq : shB x.k x.op = q) : stX x = (q && (nmX S.nm x.s && (inB x.n 0 S.gn && ((agW S.src x.src && agW S.dst x.dst) && tmX S x.l)))) := by
 unfold stX
 rw [h, hq]
theorem st_eq (x : Ln) : stX x = lnX x := by
 obtain ⟨k, s, op, src, dst, n, l⟩ := x
 by_cases hk : k = 3
 ·
  subst hk
  by_cases h : 1 ≤ op ∧ op ≤ 6
  ·
   have f1 : inB op 1 6 = true := inB_t _ _ _ (by omega) (by omega)
   have f2 : inB op 1 15 = true := inB_t _ _ _ (by omega) (by omega)
   have f3 : inB op 7 14 = false := inB_f _ _ _ (by omega)
   have f4 : inB op 17 21 = false := inB_f _ _ _ (by omega)
   have f5 : inB op 1 23 = true := inB_t _ _ _ (by omega) (by omega)
   have e1 : (op == 15) = false := beq_eq_false_iff_ne.2 (by omega)
   have e2 : (op == 16) = false := beq_eq_false_iff_ne.2 (by omega)
   have e3 : (op == 22) = false := beq_eq_false_iff_ne.2 (by omega)
   have e4 : (op == 23) = false := beq_eq_false_iff_ne.2 (by omega)
   have R : regB op = false := by unfold regB; rw [e1, e2]; rfl
   have hX : shX 3 op = ⟨false, true, true, 0, 0, 0, false⟩ := by unfold shX; rw [if_pos rfl, R, f1, f2, f4, e4]; rfl
   have hB : shB 3 op = true := by unfold shB; rw [if_pos rfl, f5]
   rw [stX_of (x := Ln.mk 3 s op src dst n l) hX hB]
   simp only [nmX, agW, if_true, Bool.false_eq_true, if_false, Bool.true_and]
   rw [n00, tm_00]
   show _ = lnV 3 s op (nonX src) (nonX dst) n l.length (nameB s) (l.all (okF 6 true)) (nmsX l) (insV op (nonX src) (nonX dst) (agX src) (agX dst) n l.length (l.all (okF 6 true)))
   unfold lnV insV
   simp only [f1, f2, f3, f4, f5, e1, e2, e3, e4, Bool.false_eq_true, if_false, if_true, Bool.or_false, Bool.false_or, Bool.true_or, Bool.or_true, beq_self_eq_true, Bool.not_true, Bool.not_false]
   generalize eqS s E0 = b0
   generalize (n == 0) = b1
   generalize (l.length == 0) = b2
   generalize agX src = b3
   generalize agX dst = b4
   cases b0 <;> cases b1 <;> cases b2 <;> cases b3 <;> cases b4 <;> rfl
  by_cases h : 7 ≤ op ∧ op ≤ 14
  ·
   have f1 : inB op 1 6 = false := inB_f _ _ _ (by omega)
   have f2 : inB op 1 15 = true := inB_t _ _ _ (by omega) (by omega)
   have f3 : inB op 7 14 = true := inB_t _ _ _ (by omega) (by omega)
   have f4 : inB op 17 21 = false := inB_f _ _ _ (by omega)
   have f5 : inB op 1 23 = true := inB_t _ _ _ (by omega) (by omega)
   have e1 : (op == 15) = false := beq_eq_false_iff_ne.2 (by omega)
   have e2 : (op == 16) = false := beq_eq_false_iff_ne.2 (by omega)
   have e3 : (op == 22) = false := beq_eq_false_iff_ne.2 (by omega)
   have e4 : (op == 23) = false := beq_eq_false_iff_ne.2 (by omega)
   have R : regB op = false := by unfold regB; rw [e1, e2]; rfl
   have hX : shX 3 op = ⟨false, false, true, 0, 0, 0, false⟩ := by unfold shX; rw [if_pos rfl, R, f1, f2, f4, e4]; rfl
   have hB : shB 3 op = true := by unfold shB; rw [if_pos rfl, f5]
   rw [stX_of (x := Ln.mk 3 s op src dst n l) hX hB]
   simp only [nmX, agW, if_true, Bool.false_eq_true, if_false, Bool.true_and]
   rw [n00, tm_00]
   show _ = lnV 3 s op (nonX src) (nonX dst) n l.length (nameB s) (l.all (okF 6 true)) (nmsX l) (insV op (nonX src) (nonX dst) (agX src) (agX dst) n l.length (l.all (okF 6 true)))
   unfold lnV insV
   simp only [f1, f2, f3, f4, f5, e1, e2, e3, e4, Bool.false_eq_true, if_false, if_true, Bool.or_false, Bool.false_or, Bool.true_or, Bool.or_true, beq_self_eq_true, Bool.not_true, Bool.not_false]
   generalize eqS s E0 = b0
   generalize (n == 0) = b1
   generalize (l.length == 0) = b2
   generalize nonX src = b3
   generalize agX dst = b4
   cases b0 <;> cases b1 <;> cases b2 <;> cases b3 <;> cases b4 <;> rfl
  by_cases h : op = 15
  ·
   have f1 : inB op 1 6 = false := inB_f _ _ _ (by omega)
   have f2 : inB op 1 15 = true := inB_t _ _ _ (by omega) (by omega)
   have f3 : inB op 7 14 = false := inB_f _ _ _ (by omega)
   have f4 : inB op 17 21 = false := inB_f _ _ _ (by omega)
   have f5 : inB op 1 23 = true := inB_t _ _ _ (by omega) (by omega)
   have e1 : (op == 15) = true := by rw [h]; rfl
   have e2 : (op == 16) = false := beq_eq_false_iff_ne.2 (by omega)
   have e3 : (op == 22) = false := beq_eq_false_iff_ne.2 (by omega)
   have e4 : (op == 23) = false := beq_eq_false_iff_ne.2 (by omega)
   have R : regB op = true := by unfold regB; rw [e1, e2]; rfl
   have hX : shX 3 op = ⟨false, false, true, 7, 0, 0, false⟩ := by unfold shX; rw [if_pos rfl, R, f1, f2, f4, e4]; rfl
   have hB : shB 3 op = true := by unfold shB; rw [if_pos rfl, f5]
   rw [stX_of (x := Ln.mk 3 s op src dst n l) hX hB]
   simp only [nmX, agW, if_true, Bool.false_eq_true, if_false, Bool.true_and]
   rw [tm_00]
   show _ = lnV 3 s op (nonX src) (nonX dst) n l.length (nameB s) (l.all (okF 6 true)) (nmsX l) (insV op (nonX src) (nonX dst) (agX src) (agX dst) n l.length (l.all (okF 6 true)))
   unfold lnV insV
   simp only [f1, f2, f3, f4, f5, e1, e2, e3, e4, Bool.false_eq_true, if_false, if_true, Bool.or_false, Bool.false_or, Bool.true_or, Bool.or_true, beq_self_eq_true, Bool.not_true, Bool.not_false]
   generalize eqS s E0 = b0
   generalize inB n 0 7 = b1
   generalize (l.length == 0) = b2
   generalize nonX src = b3
   generalize agX dst = b4
   cases b0 <;> cases b1 <;> cases b2 <;> cases b3 <;> cases b4 <;> rfl
  by_cases h : op = 16
  ·
   have f1 : inB op 1 6 = false := inB_f _ _ _ (by omega)
   have f2 : inB op 1 15 = false := inB_f _ _ _ (by omega)
   have f3 : inB op 7 14 = false := inB_f _ _ _ (by omega)
   have f4 : inB op 17 21 = false := inB_f _ _ _ (by omega)
   have f5 : inB op 1 23 = true := inB_t _ _ _ (by omega) (by omega)
   have e1 : (op == 15) = false := beq_eq_false_iff_ne.2 (by omega)
   have e2 : (op == 16) = true := by rw [h]; rfl
   have e3 : (op == 22) = false := beq_eq_false_iff_ne.2 (by omega)
   have e4 : (op == 23) = false := beq_eq_false_iff_ne.2 (by omega)
   have R : regB op = true := by unfold regB; rw [e1, e2]; rfl
   have hX : shX 3 op = ⟨false, false, false, 7, 0, 0, false⟩ := by unfold shX; rw [if_pos rfl, R, f1, f2, f4, e4]; rfl
   have hB : shB 3 op = true := by unfold shB; rw [if_pos rfl, f5]
   rw [stX_of (x := Ln.mk 3 s op src dst n l) hX hB]
   simp only [nmX, agW, if_true, Bool.false_eq_true, if_false, Bool.true_and]
   rw [tm_00]
   show _ = lnV 3 s op (nonX src) (nonX dst) n l.length (nameB s) (l.all (okF 6 true)) (nmsX l) (insV op (nonX src) (nonX dst) (agX src) (agX dst) n l.length (l.all (okF 6 true)))
   unfold lnV insV
   simp only [f1, f2, f3, f4, f5, e1, e2, e3, e4, Bool.false_eq_true, if_false, if_true, Bool.or_false, Bool.false_or, Bool.true_or, Bool.or_true, beq_self_eq_true, Bool.not_true, Bool.not_false]
   generalize eqS s E0 = b0
   generalize inB n 0 7 = b1
   generalize (l.length == 0) = b2
   generalize nonX src = b3
   generalize nonX dst = b4
   cases b0 <;> cases b1 <;> cases b2 <;> cases b3 <;> cases b4 <;> rfl
  by_cases h : 17 ≤ op ∧ op ≤ 21
  ·
   have f1 : inB op 1 6 = false := inB_f _ _ _ (by omega)
   have f2 : inB op 1 15 = false := inB_f _ _ _ (by omega)
   have f3 : inB op 7 14 = false := inB_f _ _ _ (by omega)
   have f4 : inB op 17 21 = true := inB_t _ _ _ (by omega) (by omega)
   have f5 : inB op 1 23 = true := inB_t _ _ _ (by omega) (by omega)
   have e1 : (op == 15) = false := beq_eq_false_iff_ne.2 (by omega)
   have e2 : (op == 16) = false := beq_eq_false_iff_ne.2 (by omega)
   have e3 : (op == 22) = false := beq_eq_false_iff_ne.2 (by omega)
   have e4 : (op == 23) = false := beq_eq_false_iff_ne.2 (by omega)
   have R : regB op = false := by unfold regB; rw [e1, e2]; rfl
   have hX : shX 3 op = ⟨false, false, false, 0, 1, 1, false⟩ := by unfold shX; rw [if_pos rfl, R, f1, f2, f4, e4]; rfl
   have hB : shB 3 op = true := by unfold shB; rw [if_pos rfl, f5]
   rw [stX_of (x := Ln.mk 3 s op src dst n l) hX hB]
   simp only [nmX, agW, if_true, Bool.false_eq_true, if_false, Bool.true_and]
   rw [n00, tm_11]
   show _ = lnV 3 s op (nonX src) (nonX dst) n l.length (nameB s) (l.all (okF 6 true)) (nmsX l) (insV op (nonX src) (nonX dst) (agX src) (agX dst) n l.length (l.all (okF 6 true)))
   unfold lnV insV
   simp only [f1, f2, f3, f4, f5, e1, e2, e3, e4, Bool.false_eq_true, if_false, if_true, Bool.or_false, Bool.false_or, Bool.true_or, Bool.or_true, beq_self_eq_true, Bool.not_true, Bool.not_false]
   generalize eqS s E0 = b0
   generalize (n == 0) = b1
   generalize (l.length == 1) = b2
   generalize l.all (okF 6 true) = b3
   generalize nonX src = b4
   generalize nonX dst = b5
   cases b0 <;> cases b1 <;> cases b2 <;> cases b3 <;> cases b4 <;> cases b5 <;> rfl
  by_cases h : op = 22
  ·
   have f1 : inB op 1 6 = false := inB_f _ _ _ (by omega)
   have f2 : inB op 1 15 = false := inB_f _ _ _ (by omega)
   have f3 : inB op 7 14 = false := inB_f _ _ _ (by omega)
   have f4 : inB op 17 21 = false := inB_f _ _ _ (by omega)
   have f5 : inB op 1 23 = true := inB_t _ _ _ (by omega) (by omega)
   have e1 : (op == 15) = false := beq_eq_false_iff_ne.2 (by omega)
   have e2 : (op == 16) = false := beq_eq_false_iff_ne.2 (by omega)
   have e3 : (op == 22) = true := by rw [h]; rfl
   have e4 : (op == 23) = false := beq_eq_false_iff_ne.2 (by omega)
   have R : regB op = false := by unfold regB; rw [e1, e2]; rfl
   have hX : shX 3 op = ⟨false, false, false, 0, 0, 0, false⟩ := by unfold shX; rw [if_pos rfl, R, f1, f2, f4, e4]; rfl
   have hB : shB 3 op = true := by unfold shB; rw [if_pos rfl, f5]
   rw [stX_of (x := Ln.mk 3 s op src dst n l) hX hB]
   simp only [nmX, agW, if_true, Bool.false_eq_true, if_false, Bool.true_and]
   rw [n00, tm_00]
   show _ = lnV 3 s op (nonX src) (nonX dst) n l.length (nameB s) (l.all (okF 6 true)) (nmsX l) (insV op (nonX src) (nonX dst) (agX src) (agX dst) n l.length (l.all (okF 6 true)))
   unfold lnV insV
   simp only [f1, f2, f3, f4, f5, e1, e2, e3, e4, Bool.false_eq_true, if_false, if_true, Bool.or_false, Bool.false_or, Bool.true_or, Bool.or_true, beq_self_eq_true, Bool.not_true, Bool.not_false]
   generalize eqS s E0 = b0
   generalize (n == 0) = b1
   generalize (l.length == 0) = b2
   generalize nonX src = b3
   generalize nonX dst = b4
   cases b0 <;> cases b1 <;> cases b2 <;> cases b3 <;> cases b4 <;> rfl
  by_cases h : op = 23
  ·
   have f1 : inB op 1 6 = false := inB_f _ _ _ (by omega)
   have f2 : inB op 1 15 = false := inB_f _ _ _ (by omega)
   have f3 : inB op 7 14 = false := inB_f _ _ _ (by omega)
   have f4 : inB op 17 21 = false := inB_f _ _ _ (by omega)
   have f5 : inB op 1 23 = true := inB_t _ _ _ (by omega) (by omega)
   have e1 : (op == 15) = false := beq_eq_false_iff_ne.2 (by omega)
   have e2 : (op == 16) = false := beq_eq_false_iff_ne.2 (by omega)
   have e3 : (op == 22) = false := beq_eq_false_iff_ne.2 (by omega)
   have e4 : (op == 23) = true := by rw [h]; rfl
   have R : regB op = false := by unfold regB; rw [e1, e2]; rfl
   have hX : shX 3 op = ⟨false, false, false, 0, 1, 1, false⟩ := by unfold shX; rw [if_pos rfl, R, f1, f2, f4, e4]; rfl
   have hB : shB 3 op = true := by unfold shB; rw [if_pos rfl, f5]
   rw [stX_of (x := Ln.mk 3 s op src dst n l) hX hB]
   simp only [nmX, agW, if_true, Bool.false_eq_true, if_false, Bool.true_and]
   rw [n00, tm_11]
   show _ = lnV 3 s op (nonX src) (nonX dst) n l.length (nameB s) (l.all (okF 6 true)) (nmsX l) (insV op (nonX src) (nonX dst) (agX src) (agX dst) n l.length (l.all (okF 6 true)))
   unfold lnV insV
   simp only [f1, f2, f3, f4, f5, e1, e2, e3, e4, Bool.false_eq_true, if_false, if_true, Bool.or_false, Bool.false_or, Bool.true_or, Bool.or_true, beq_self_eq_true, Bool.not_true, Bool.not_false]
   generalize eqS s E0 = b0
   generalize (n == 0) = b1
   generalize (l.length == 1) = b2
   generalize l.all (okF 6 true) = b3
   generalize nonX src = b4
   generalize nonX dst = b5
   cases b0 <;> cases b1 <;> cases b2 <;> cases b3 <;> cases b4 <;> cases b5 <;> rfl
  have f1 : inB op 1 6 = false := inB_f _ _ _ (by omega)
  have f2 : inB op 1 15 = false := inB_f _ _ _ (by omega)
  have f3 : inB op 7 14 = false := inB_f _ _ _ (by omega)
  have f4 : inB op 17 21 = false := inB_f _ _ _ (by omega)
  have f5 : inB op 1 23 = false := inB_f _ _ _ (by omega)
  have e1 : (op == 15) = false := beq_eq_false_iff_ne.2 (by omega)
  have e2 : (op == 16) = false := beq_eq_false_iff_ne.2 (by omega)
  have e3 : (op == 22) = false := beq_eq_false_iff_ne.2 (by omega)
  have e4 : (op == 23) = false := beq_eq_false_iff_ne.2 (by omega)
  have hB : shB 3 op = false := by unfold shB; rw [if_pos rfl, f5]
  rw [stX_of (x := Ln.mk 3 s op src dst n l) rfl hB, Bool.false_and]
  show _ = lnV 3 s op (nonX src) (nonX dst) n l.length (nameB s) (l.all (okF 6 true)) (nmsX l) (insV op (nonX src) (nonX dst) (agX src) (agX dst) n l.length (l.all (okF 6 true)))
  unfold lnV insV
  simp only [f1, f2, f3, f4, f5, e1, e2, e3, e4, Bool.false_eq_true, if_false, if_true, Bool.or_false, beq_self_eq_true]
  generalize eqS s E0 = b0
  generalize nonX src = b1
  generalize nonX dst = b2
  cases b0 <;> cases b1 <;> cases b2 <;> rfl
 by_cases ho : op = 0
 ·
  subst ho
  by_cases h0 : k = 0
  ·
   subst h0
   have hX : shX 0 0 = ⟨false, false, false, 0, 0, 0, false⟩ := rfl
   have hB : shB 0 0 = true := rfl
   have g0 : ((0 : Int) == 0) = true := by decide
   have g1 : ((0 : Int) == 1) = false := by decide
   have g2 : ((0 : Int) == 2) = false := by decide
   have g3 : ((0 : Int) == 3) = false := by decide
   have g4 : ((0 : Int) == 4) = false := by decide
   have g5 : ((0 : Int) == 5) = false := by decide
   have g6 : ((0 : Int) == 6) = false := by decide
   have g7 : ((0 : Int) == 7) = false := by decide
   have g8 : ((0 : Int) == 8) = false := by decide
   rw [stX_of (x := Ln.mk 0 s 0 src dst n l) hX hB]
   simp only [nmX, agW, if_true, Bool.false_eq_true, if_false, Bool.true_and]
   rw [n00, tm_00]
   show _ = lnV 0 s 0 (nonX src) (nonX dst) n l.length (nameB s) (l.all (okF 6 true)) (nmsX l) (insV 0 (nonX src) (nonX dst) (agX src) (agX dst) n l.length (l.all (okF 6 true)))
   unfold lnV insV
   simp only [g0, g1, g2, g3, g4, g5, g6, g7, g8, Bool.false_eq_true, if_false, if_true, Bool.or_false, Bool.false_or, Bool.true_or, Bool.or_true, beq_self_eq_true, Bool.not_true, Bool.not_false]
   generalize eqS s E0 = b0
   generalize (n == 0) = b1
   generalize (l.length == 0) = b2
   generalize nonX src = b3
   generalize nonX dst = b4
   cases b0 <;> cases b1 <;> cases b2 <;> cases b3 <;> cases b4 <;> rfl
  by_cases h8 : k = 8
  ·
   subst h8
   have hX : shX 8 0 = ⟨false, false, false, 0, 0, 0, false⟩ := rfl
   have hB : shB 8 0 = true := rfl
   have g0 : ((8 : Int) == 0) = false := by decide
   have g1 : ((8 : Int) == 1) = false := by decide
   have g2 : ((8 : Int) == 2) = false := by decide
   have g3 : ((8 : Int) == 3) = false := by decide
   have g4 : ((8 : Int) == 4) = false := by decide
   have g5 : ((8 : Int) == 5) = false := by decide
   have g6 : ((8 : Int) == 6) = false := by decide
   have g7 : ((8 : Int) == 7) = false := by decide
   have g8 : ((8 : Int) == 8) = true := by decide
   rw [stX_of (x := Ln.mk 8 s 0 src dst n l) hX hB]
   simp only [nmX, agW, if_true, Bool.false_eq_true, if_false, Bool.true_and]
   rw [n00, tm_00]
   show _ = lnV 8 s 0 (nonX src) (nonX dst) n l.length (nameB s) (l.all (okF 6 true)) (nmsX l) (insV 0 (nonX src) (nonX dst) (agX src) (agX dst) n l.length (l.all (okF 6 true)))
   unfold lnV insV
   simp only [g0, g1, g2, g3, g4, g5, g6, g7, g8, Bool.false_eq_true, if_false, if_true, Bool.or_false, Bool.false_or, Bool.true_or, Bool.or_true, beq_self_eq_true, Bool.not_true, Bool.not_false]
   generalize eqS s E0 = b0
   generalize (n == 0) = b1
   generalize (l.length == 0) = b2
   generalize nonX src = b3
   generalize nonX dst = b4
   cases b0 <;> cases b1 <;> cases b2 <;> cases b3 <;> cases b4 <;> rfl
  by_cases h1 : k = 1
  ·
   subst h1
   have hX : shX 1 0 = ⟨true, false, false, 0, 0, 0, false⟩ := rfl
   have hB : shB 1 0 = true := rfl
   have g0 : ((1 : Int) == 0) = false := by decide
   have g1 : ((1 : Int) == 1) = true := by decide
   have g2 : ((1 : Int) == 2) = false := by decide
   have g3 : ((1 : Int) == 3) = false := by decide
   have g4 : ((1 : Int) == 4) = false := by decide
   have g5 : ((1 : Int) == 5) = false := by decide
   have g6 : ((1 : Int) == 6) = false := by decide
   have g7 : ((1 : Int) == 7) = false := by decide
   have g8 : ((1 : Int) == 8) = false := by decide
   rw [stX_of (x := Ln.mk 1 s 0 src dst n l) hX hB]
   simp only [nmX, agW, if_true, Bool.false_eq_true, if_false, Bool.true_and]
   rw [n00, tm_00]
   show _ = lnV 1 s 0 (nonX src) (nonX dst) n l.length (nameB s) (l.all (okF 6 true)) (nmsX l) (insV 0 (nonX src) (nonX dst) (agX src) (agX dst) n l.length (l.all (okF 6 true)))
   unfold lnV insV
   simp only [g0, g1, g2, g3, g4, g5, g6, g7, g8, Bool.false_eq_true, if_false, if_true, Bool.or_false, Bool.false_or, Bool.true_or, Bool.or_true, beq_self_eq_true, Bool.not_true, Bool.not_false]
   generalize nameB s = b0
   generalize (n == 0) = b1
   generalize (l.length == 0) = b2
   generalize nonX src = b3
   generalize nonX dst = b4
   cases b0 <;> cases b1 <;> cases b2 <;> cases b3 <;> cases b4 <;> rfl
  by_cases h2 : k = 2
  ·
   subst h2
   have hX : shX 2 0 = ⟨true, false, false, 0, 1, 1, false⟩ := rfl
   have hB : shB 2 0 = true := rfl
   have g0 : ((2 : Int) == 0) = false := by decide
   have g1 : ((2 : Int) == 1) = false := by decide
   have g2 : ((2 : Int) == 2) = true := by decide
   have g3 : ((2 : Int) == 3) = false := by decide
   have g4 : ((2 : Int) == 4) = false := by decide
   have g5 : ((2 : Int) == 5) = false := by decide
   have g6 : ((2 : Int) == 6) = false := by decide
   have g7 : ((2 : Int) == 7) = false := by decide
   have g8 : ((2 : Int) == 8) = false := by decide
   rw [stX_of (x := Ln.mk 2 s 0 src dst n l) hX hB]
   simp only [nmX, agW, if_true, Bool.false_eq_true, if_false, Bool.true_and]
   rw [n00, tm_11]
   show _ = lnV 2 s 0 (nonX src) (nonX dst) n l.length (nameB s) (l.all (okF 6 true)) (nmsX l) (insV 0 (nonX src) (nonX dst) (agX src) (agX dst) n l.length (l.all (okF 6 true)))
   unfold lnV insV
   simp only [g0, g1, g2, g3, g4, g5, g6, g7, g8, Bool.false_eq_true, if_false, if_true, Bool.or_false, Bool.false_or, Bool.true_or, Bool.or_true, beq_self_eq_true, Bool.not_true, Bool.not_false]
   generalize nameB s = b0
   generalize (n == 0) = b1
   generalize (l.length == 1) = b2
   generalize l.all (okF 6 true) = b3
   generalize nonX src = b4
   generalize nonX dst = b5
   cases b0 <;> cases b1 <;> cases b2 <;> cases b3 <;> cases b4 <;> cases b5 <;> rfl
  by_cases h4 : k = 4
  ·
   subst h4
   have hX : shX 4 0 = ⟨false, false, false, 0, 1, 6, false⟩ := rfl
   have hB : shB 4 0 = true := rfl
   have g0 : ((4 : Int) == 0) = false := by decide
   have g1 : ((4 : Int) == 1) = false := by decide
   have g2 : ((4 : Int) == 2) = false := by decide
   have g3 : ((4 : Int) == 3) = false := by decide
   have g4 : ((4 : Int) == 4) = true := by decide
   have g5 : ((4 : Int) == 5) = false := by decide
   have g6 : ((4 : Int) == 6) = false := by decide
   have g7 : ((4 : Int) == 7) = false := by decide
   have g8 : ((4 : Int) == 8) = false := by decide
   rw [stX_of (x := Ln.mk 4 s 0 src dst n l) hX hB]
   simp only [nmX, agW, if_true, Bool.false_eq_true, if_false, Bool.true_and]
   rw [n00, tm_16]
   show _ = lnV 4 s 0 (nonX src) (nonX dst) n l.length (nameB s) (l.all (okF 6 true)) (nmsX l) (insV 0 (nonX src) (nonX dst) (agX src) (agX dst) n l.length (l.all (okF 6 true)))
   unfold lnV insV
   simp only [g0, g1, g2, g3, g4, g5, g6, g7, g8, Bool.false_eq_true, if_false, if_true, Bool.or_false, Bool.false_or, Bool.true_or, Bool.or_true, beq_self_eq_true, Bool.not_true, Bool.not_false]
   generalize eqS s E0 = b0
   generalize (n == 0) = b1
   generalize inB l.length 1 6 = b2
   generalize l.all (okF 6 true) = b3
   generalize nonX src = b4
   generalize nonX dst = b5
   cases b0 <;> cases b1 <;> cases b2 <;> cases b3 <;> cases b4 <;> cases b5 <;> rfl
  by_cases h5 : k = 5
  ·
   subst h5
   have hX : shX 5 0 = ⟨false, false, false, 0, 1, 1, false⟩ := rfl
   have hB : shB 5 0 = true := rfl
   have g0 : ((5 : Int) == 0) = false := by decide
   have g1 : ((5 : Int) == 1) = false := by decide
   have g2 : ((5 : Int) == 2) = false := by decide
   have g3 : ((5 : Int) == 3) = false := by decide
   have g4 : ((5 : Int) == 4) = false := by decide
   have g5 : ((5 : Int) == 5) = true := by decide
   have g6 : ((5 : Int) == 6) = false := by decide
   have g7 : ((5 : Int) == 7) = false := by decide
   have g8 : ((5 : Int) == 8) = false := by decide
   rw [stX_of (x := Ln.mk 5 s 0 src dst n l) hX hB]
   simp only [nmX, agW, if_true, Bool.false_eq_true, if_false, Bool.true_and]
   rw [n00, tm_11]
   show _ = lnV 5 s 0 (nonX src) (nonX dst) n l.length (nameB s) (l.all (okF 6 true)) (nmsX l) (insV 0 (nonX src) (nonX dst) (agX src) (agX dst) n l.length (l.all (okF 6 true)))
   unfold lnV insV
   simp only [g0, g1, g2, g3, g4, g5, g6, g7, g8, Bool.false_eq_true, if_false, if_true, Bool.or_false, Bool.false_or, Bool.true_or, Bool.or_true, beq_self_eq_true, Bool.not_true, Bool.not_false]
   generalize eqS s E0 = b0
   generalize (n == 0) = b1
   generalize (l.length == 1) = b2
   generalize l.all (okF 6 true) = b3
   generalize nonX src = b4
   generalize nonX dst = b5
   cases b0 <;> cases b1 <;> cases b2 <;> cases b3 <;> cases b4 <;> cases b5 <;> rfl
  by_cases h6 : k = 6
  ·
   subst h6
   have hX : shX 6 0 = ⟨true, false, false, 1, 0, 0, false⟩ := rfl
   have hB : shB 6 0 = true := rfl
   have g0 : ((6 : Int) == 0) = false := by decide
   have g1 : ((6 : Int) == 1) = false := by decide
   have g2 : ((6 : Int) == 2) = false := by decide
   have g3 : ((6 : Int) == 3) = false := by decide
   have g4 : ((6 : Int) == 4) = false := by decide
   have g5 : ((6 : Int) == 5) = false := by decide
   have g6 : ((6 : Int) == 6) = true := by decide
   have g7 : ((6 : Int) == 7) = false := by decide
   have g8 : ((6 : Int) == 8) = false := by decide
   rw [stX_of (x := Ln.mk 6 s 0 src dst n l) hX hB]
   simp only [nmX, agW, if_true, Bool.false_eq_true, if_false, Bool.true_and]
   rw [tm_00]
   show _ = lnV 6 s 0 (nonX src) (nonX dst) n l.length (nameB s) (l.all (okF 6 true)) (nmsX l) (insV 0 (nonX src) (nonX dst) (agX src) (agX dst) n l.length (l.all (okF 6 true)))
   unfold lnV insV
   simp only [g0, g1, g2, g3, g4, g5, g6, g7, g8, Bool.false_eq_true, if_false, if_true, Bool.or_false, Bool.false_or, Bool.true_or, Bool.or_true, beq_self_eq_true, Bool.not_true, Bool.not_false]
   generalize nameB s = b0
   generalize inB n 0 1 = b1
   generalize (l.length == 0) = b2
   generalize nonX src = b3
   generalize nonX dst = b4
   cases b0 <;> cases b1 <;> cases b2 <;> cases b3 <;> cases b4 <;> rfl
  by_cases h7 : k = 7
  ·
   subst h7
   have hX : shX 7 0 = ⟨false, false, false, 0, 1, 6, true⟩ := rfl
   have hB : shB 7 0 = true := rfl
   have g0 : ((7 : Int) == 0) = false := by decide
   have g1 : ((7 : Int) == 1) = false := by decide
   have g2 : ((7 : Int) == 2) = false := by decide
   have g3 : ((7 : Int) == 3) = false := by decide
   have g4 : ((7 : Int) == 4) = false := by decide
   have g5 : ((7 : Int) == 5) = false := by decide
   have g6 : ((7 : Int) == 6) = false := by decide
   have g7 : ((7 : Int) == 7) = true := by decide
   have g8 : ((7 : Int) == 8) = false := by decide
   rw [stX_of (x := Ln.mk 7 s 0 src dst n l) hX hB]
   simp only [nmX, agW, if_true, Bool.false_eq_true, if_false, Bool.true_and]
   rw [n00, tm_16n]
   show _ = lnV 7 s 0 (nonX src) (nonX dst) n l.length (nameB s) (l.all (okF 6 true)) (nmsX l) (insV 0 (nonX src) (nonX dst) (agX src) (agX dst) n l.length (l.all (okF 6 true)))
   unfold lnV insV
   simp only [g0, g1, g2, g3, g4, g5, g6, g7, g8, Bool.false_eq_true, if_false, if_true, Bool.or_false, Bool.false_or, Bool.true_or, Bool.or_true, beq_self_eq_true, Bool.not_true, Bool.not_false]
   generalize eqS s E0 = b0
   generalize (n == 0) = b1
   generalize nmsX l = b2
   generalize nonX src = b3
   generalize nonX dst = b4
   cases b0 <;> cases b1 <;> cases b2 <;> cases b3 <;> cases b4 <;> rfl
  have hB : shB k 0 = false := by unfold shB; rw [if_neg hk, if_pos rfl]; exact inB_f _ _ _ (by omega)
  have g0 : (k == 0) = false := beq_eq_false_iff_ne.2 h0
  have g1 : (k == 1) = false := beq_eq_false_iff_ne.2 h1
  have g2 : (k == 2) = false := beq_eq_false_iff_ne.2 h2
  have g3 : (k == 3) = false := beq_eq_false_iff_ne.2 hk
  have g4 : (k == 4) = false := beq_eq_false_iff_ne.2 h4
  have g5 : (k == 5) = false := beq_eq_false_iff_ne.2 h5
  have g6 : (k == 6) = false := beq_eq_false_iff_ne.2 h6
  have g7 : (k == 7) = false := beq_eq_false_iff_ne.2 h7
  have g8 : (k == 8) = false := beq_eq_false_iff_ne.2 h8
  rw [stX_of (x := Ln.mk k s 0 src dst n l) rfl hB, Bool.false_and]
  show _ = lnV k s 0 (nonX src) (nonX dst) n l.length (nameB s) (l.all (okF 6 true)) (nmsX l) (insX ⟨k, s, 0, src, dst, n, l⟩)
  unfold lnV
  simp only [g0, g1, g2, g3, g4, g5, g6, g7, g8, Bool.false_eq_true, if_false, Bool.or_false]
  generalize nonX src = b1
  generalize nonX dst = b2
  cases b1 <;> cases b2 <;> rfl
 have hB : shB k op = false := by unfold shB; rw [if_neg hk, if_neg ho]
 have g3 : (k == 3) = false := beq_eq_false_iff_ne.2 hk
 have g0 : (op == 0) = false := beq_eq_false_iff_ne.2 ho
 rw [stX_of (x := Ln.mk k s op src dst n l) rfl hB, Bool.false_and]
 show _ = lnV k s op (nonX src) (nonX dst) n l.length (nameB s) (l.all (okF 6 true)) (nmsX l) (insX ⟨k, s, op, src, dst, n, l⟩)
 unfold lnV
 simp only [g0, g3, Bool.false_eq_true, if_false, Bool.not_false, Bool.true_or, if_true]
theorem szMt : (Tryz.prog.info? 64).map (·.size) = some 6 := by kernel_rfl
theorem mt_one (k : Int) (s : ByteArray) (op n : Int) (a : Option Addr) (i j : Nat) (b : Option Addr) (u v : Nat) : (#[.int .i64 k, .string s, .int .i64 op, .int .i64 n, .slice a i j, .slice b u v] : Array Value).all (·.oneCell') = true := by simp [Value.oneCell']
theorem OwnA.slice {w : World} {B : Nat} {v : Value} {l : List Op3} (h : OwnA w B v l) : ∃ a c, v = .slice a l.length c := by
 obtain ⟨_, ⟨h1, h2⟩ | ⟨g, cap, cur, rfl, hg, hh, hn, hm, r⟩⟩ := h
 · exact ⟨none, 0, by rw [h1, h2]⟩
 · exact ⟨_, _, rfl⟩
theorem OwnV.slice {w : World} {B : Nat} {v : Value} {l : List Value} (h : OwnV w B v l) : ∃ a c, v = .slice a l.length c := by
 obtain ⟨_, ⟨h1, h2⟩ | ⟨g, cap, cur, rfl, hg, hh, hn, hm, r⟩⟩ := h
 · exact ⟨none, 0, by rw [h1, h2]⟩
 · exact ⟨_, _, rfl⟩
theorem ownA_row {w : World} {B g : Nat} {v : Value} {l : List Op3} {cs old : Array Value} {ty : TypeId} (h : OwnA w B v l) (hg : w.heap[g]? = some (.cells old ty (0, 0))) (hne : ty ≠ 85) : OwnA (w.setRow g cs) B v l := by
 obtain ⟨h1, h2 | ⟨g', cap, cur, e, hg', hh, r⟩⟩ := h
 · exact ⟨h1, .inl h2⟩
 ·
  refine ⟨h1, .inr ⟨g', cap, cur, e, hg', (setRow_other _ _ _ _ ?_).trans hh, r⟩⟩
  intro hq
  rw [hq, hg] at hh
  injection hh with hh
  injection hh with _ hh
  exact hne hh
theorem ownV_row {w : World} {B g : Nat} {v : Value} {l : List Value} {cs old : Array Value} {ty : TypeId} (h : OwnV w B v l) (hg : w.heap[g]? = some (.cells old ty (0, 0))) (hne : ty ≠ 83) : OwnV (w.setRow g cs) B v l := by
 obtain ⟨h1, h2 | ⟨g', cap, cur, e, hg', hh, r⟩⟩ := h
 · exact ⟨h1, .inl h2⟩
 ·
  refine ⟨h1, .inr ⟨g', cap, cur, e, hg', (setRow_other _ _ _ _ ?_).trans hh, r⟩⟩
  intro hq
  rw [hq, hg] at hh
  injection hh with hh
  injection hh with _ hh
  exact hne hh
structure Mt where
 k : Int
 s : ByteArray
 op : Int
 n : Int
 a : Option Addr
 an : Nat
 ac : Nat
 t : Option Addr
 tn : Nat
 tc : Nat
def Mt.cs (m : Mt) : Array Value := #[.int .i64 m.k, .string m.s, .int .i64 m.op, .int .i64 m.n, .slice m.a m.an m.ac, .slice m.t m.tn m.tc]
def lnO (x : Ln) : List Op3 := opsL (shX x.k x.op).src x.src ++ opsL (shX x.k x.op).dst x.dst
structure RdM (w : World) (B : Nat) (x : Ln) (m : Mt) : Prop where
 k : m.k = x.k
 s : m.s = x.s
 op : m.op = x.op
 n : m.n = x.n
 a : OwnA w B (.slice m.a m.an m.ac) (lnO x)
 t : OwnV w B (.slice m.t m.tn m.tc) (x.l.map tv)
def StR (x : Ln) (w : World) (r : Ending) (w' : World) : Prop := ∃ m : Mt, r = .returned (.tuple #[.agg m.cs, .bool (lnX x)]) ∧ (lnX x = true → RdM w' w.heap.size x m) ∧ Below w.heap.size w w'
theorem stmI_any (x : Ln) (p : La) (w : World) (hr : RdL w x p) (hz : SzL x) (ht : TabA w) : Calls Tryz.prog 41 #[.agg (x.cs p)] w (StR x w) := by
 have F0 := hide (fun (r : Ending) (w' : World) (h : stX x = false) (hr : r = .returned (.tuple #[.agg #[.int .i64 0, .string ⟨#[]⟩, .int .i64 0, .int .i64 0, .slice none 0 0, .slice none 0 0], .bool false])) (hb : Below w.heap.size w w') => (show StR x w r w' from ⟨⟨0, ⟨#[]⟩, 0, 0, none, 0, 0, none, 0, 0⟩, by rw [← st_eq, h]; exact hr, (fun e => by rw [← st_eq, h] at e; cases e), hb⟩))
 have F1 := hide (fun (r : Ending) (w' : World) (e1 : Option Addr) (i1 j1 : Nat) (e2 : Option Addr) (i2 j2 : Nat) (h : stX x = true) (hr : r = .returned (.tuple #[.agg #[.int .i64 x.k, .string x.s, .int .i64 x.op, .int .i64 x.n, .slice e1 i1 j1, .slice e2 i2 j2], .bool true])) (ho : OwnA w' w.heap.size (.slice e1 i1 j1) (lnO x)) (hv : OwnV w' w.heap.size (.slice e2 i2 j2) (x.l.map tv)) (hb : Below w.heap.size w w') => (show StR x w r w' from ⟨⟨x.k, x.s, x.op, x.n, e1, i1, j1, e2, i2, j2⟩, by rw [← st_eq, h]; exact hr, fun _ => ⟨rfl, rfl, rfl, rfl, ho, hv⟩, hb⟩))
 have SH := hide (fun w1 => shpI_any x.k x.op w1)
 have NM := hide (fun w1 (h : Below w.heap.size w w1) => nmfI_any (shX x.k x.op) x.s w1 (by have := hz.s; omega) (ht.next h).k)
 have NB := hide (fun w1 => nbfI_any (shX x.k x.op) x.n w1)
 have OP := hide (fun w1 (h : Below w.heap.size w w1) => opsI_any (shX x.k x.op) x.src x.dst p.b1 p.c1 p.b2 p.c2 w1 (hr.later h).a hz.a (hr.later h).b hz.b (ht.next h))
 have TM := hide (fun w1 (h : Below w.heap.size w w1) => ptmI_any (shX x.k x.op) x.l p.b3 x.l.length p.c3 w1 rfl hz.l hz.p (hr.later h).l (ht.next h).k)
 clear hr hz ht
 obtain ⟨b1, c1, b2, c2, b3, c3⟩ := p
 unfold stX at F0 F1
 unfold lnO at F1
 unfold OpsR at OP
 unfold TmsR at TM
 generalize StR x w = R at *
 generalize shB x.k x.op = q1 at *
 generalize shX x.k x.op = SS at *
 obtain ⟨a1, a2, a3, a4, a5, a6, a7⟩ := SS
 unfold Sh.cs at SH NM NB OP TM
 simp only at SH NM NB OP TM F0 F1
 generalize nmX a1 x.s = q2 at *
 generalize inB x.n 0 a4 = q3 at *
 generalize (agW a2 x.src && agW a3 x.dst) = q4 at *
 generalize tmX ⟨a1, a2, a3, a4, a5, a6, a7⟩ x.l = q5 at *
 generalize opsL a2 x.src ++ opsL a3 x.dst = LO at *
 generalize x.l.map tv = LV at *
 unfold Ag.cs at OP
 unfold Ln.cs
 simp only at OP TM ⊢
 generalize x.src.f = sf at *
 generalize x.src.r = sr at *
 generalize x.src.e.k = sk at *
 generalize x.src.e.n = sn at *
 generalize x.src.e.s = ss at *
 generalize x.src.e.l.length = sl at *
 generalize x.dst.f = df at *
 generalize x.dst.r = dr at *
 generalize x.dst.e.k = dk at *
 generalize x.dst.e.n = dn at *
 generalize x.dst.e.s = ds at *
 generalize x.dst.e.l.length = dl at *
 generalize x.k = k at *
 generalize x.s = s at *
 generalize x.op = op at *
 generalize x.n = n at *
 generalize x.l.length = ll at *
 obtain ⟨V, hV⟩ : ∃ V, w.alloc (.cells #[.int .i64 k, .string s, .int .i64 op, .int .i64 sf, .int .i64 sr, .int .i64 sk, .int .i64 sn, .string ss, .slice b1 sl c1, .int .i64 df, .int .i64 dr, .int .i64 dk, .int .i64 dn, .string ds, .slice b2 dl c2, .int .i64 n, .slice b3 ll c3] 30) = V := ⟨_, rfl⟩
 have bV : Below w.heap.size w V := by rw [← hV]; exact below_new _ _
 have rX : V.heap[w.heap.size]? = some (.cells #[.int .i64 k, .string s, .int .i64 op, .int .i64 sf, .int .i64 sr, .int .i64 sk, .int .i64 sn, .string ss, .slice b1 sl c1, .int .i64 df, .int .i64 dr, .int .i64 dk, .int .i64 dn, .string ds, .slice b2 dl c2, .int .i64 n, .slice b3 ll c3] 30 (0, 0)) := by rw [← hV]; exact Array.getElem?_push_size
 have VL := hide bV.size
 obtain ⟨W, hW⟩ : ∃ W, V.alloc (.cells #[.int .i64 0, .string ⟨#[]⟩, .int .i64 0, .int .i64 0, .slice none 0 0, .slice none 0 0] 64) = W := ⟨_, rfl⟩
 have bW : Below V.heap.size V W := by rw [← hW]; exact below_new _ _
 have rZ : W.heap[V.heap.size]? = some (.cells #[.int .i64 0, .string ⟨#[]⟩, .int .i64 0, .int .i64 0, .slice none 0 0, .slice none 0 0] 64 (0, 0)) := by rw [← hW]; exact Array.getElem?_push_size
 have rX := row_keep rX bW
 have hbW : Below w.heap.size w W := bV.trans (bW.mono bV.size)
 have x0 := Lib.cell_of_heap rX 0
 have x2 := Lib.cell_of_heap rX 2
 have RX := hide rX
 have RZ := hide rZ
 have BW := hide hbW
 have S1 := hide (uh SH W)
 clear bV bW rX rZ hbW SH
 go_enter Tryz.func41, Tryz.ntmps41
 go_wp2_with fail
 refine (uh S1).mono ?_
 rintro r w1 ⟨rfl, hb⟩
 obtain ⟨U, hU⟩ : ∃ U, w1.alloc (.cells #[.bool a1, .bool a2, .bool a3, .int .i64 a4, .int .i64 a5, .int .i64 a6, .bool a7] 129) = U := ⟨_, rfl⟩
 have bU : Below w1.heap.size w1 U := by rw [← hU]; exact below_new _ _
 have rS : U.heap[w1.heap.size]? = some (.cells #[.bool a1, .bool a2, .bool a3, .int .i64 a4, .int .i64 a5, .int .i64 a6, .bool a7] 129 (0, 0)) := by rw [← hU]; exact Array.getElem?_push_size
 have rX := row_keep (row_keep (uh RX) hb) bU
 have rZ := row_keep (row_keep (uh RZ) hb) bU
 have hbU : Below w.heap.size w U := ((uh BW).trans (hb.mono (uh BW).size)).trans (bU.mono (Nat.le_trans (uh BW).size hb.size))
 have lX := (Array.getElem?_eq_some_iff.1 rX).1
 have lZ := (Array.getElem?_eq_some_iff.1 rZ).1
 have lS := (Array.getElem?_eq_some_iff.1 rS).1
 have BY := hide (fun y : Sub U.heap.size U => hbU.trans (y.h.mono hbU.size))
 have RY := hide (fun y : Sub U.heap.size U => (y.h.block _ lZ).trans rZ)
 have SY := hide (fun y : Sub U.heap.size U => (y.h.block _ lS).trans rS)
 have ne := Sub.ne U.heap.size U
 have HZ := hide (Nat.le_refl U.heap.size)
 have NV := hide (show V.heap.size ≠ w1.heap.size by have := (Array.getElem?_eq_some_iff.1 (row_keep (uh RZ) hb)).1; omega)
 have E0 : ∀ y : Sub U.heap.size U, y.w.cell? ⟨w.heap.size, 0, none⟩ = some (.int .i64 k) := fun y => (y.h.cell (p := ⟨w.heap.size, 0, none⟩) lX).trans (Lib.cell_of_heap rX 0)
 have E1 : ∀ y : Sub U.heap.size U, y.w.cell? ⟨w.heap.size, 1, none⟩ = some (.string s) := fun y => (y.h.cell (p := ⟨w.heap.size, 1, none⟩) lX).trans (Lib.cell_of_heap rX 1)
 have E2 : ∀ y : Sub U.heap.size U, y.w.cell? ⟨w.heap.size, 2, none⟩ = some (.int .i64 op) := fun y => (y.h.cell (p := ⟨w.heap.size, 2, none⟩) lX).trans (Lib.cell_of_heap rX 2)
 have E3 : ∀ y : Sub U.heap.size U, y.w.cell? ⟨w.heap.size, 3, none⟩ = some (.int .i64 sf) := fun y => (y.h.cell (p := ⟨w.heap.size, 3, none⟩) lX).trans (Lib.cell_of_heap rX 3)
 have E4 : ∀ y : Sub U.heap.size U, y.w.cell? ⟨w.heap.size, 4, none⟩ = some (.int .i64 sr) := fun y => (y.h.cell (p := ⟨w.heap.size, 4, none⟩) lX).trans (Lib.cell_of_heap rX 4)
 have E5 : ∀ y : Sub U.heap.size U, y.w.cell? ⟨w.heap.size, 5, none⟩ = some (.int .i64 sk) := fun y => (y.h.cell (p := ⟨w.heap.size, 5, none⟩) lX).trans (Lib.cell_of_heap rX 5)
 have E6 : ∀ y : Sub U.heap.size U, y.w.cell? ⟨w.heap.size, 6, none⟩ = some (.int .i64 sn) := fun y => (y.h.cell (p := ⟨w.heap.size, 6, none⟩) lX).trans (Lib.cell_of_heap rX 6)
 have E7 : ∀ y : Sub U.heap.size U, y.w.cell? ⟨w.heap.size, 7, none⟩ = some (.string ss) := fun y => (y.h.cell (p := ⟨w.heap.size, 7, none⟩) lX).trans (Lib.cell_of_heap rX 7)
 have E8 : ∀ y : Sub U.heap.size U, y.w.cell? ⟨w.heap.size, 8, none⟩ = some (.slice b1 sl c1) := fun y => (y.h.cell (p := ⟨w.heap.size, 8, none⟩) lX).trans (Lib.cell_of_heap rX 8)
 have E9 : ∀ y : Sub U.heap.size U, y.w.cell? ⟨w.heap.size, 9, none⟩ = some (.int .i64 df) := fun y => (y.h.cell (p := ⟨w.heap.size, 9, none⟩) lX).trans (Lib.cell_of_heap rX 9)
 have E10 : ∀ y : Sub U.heap.size U, y.w.cell? ⟨w.heap.size, 10, none⟩ = some (.int .i64 dr) := fun y => (y.h.cell (p := ⟨w.heap.size, 10, none⟩) lX).trans (Lib.cell_of_heap rX 10)
 have E11 : ∀ y : Sub U.heap.size U, y.w.cell? ⟨w.heap.size, 11, none⟩ = some (.int .i64 dk) := fun y => (y.h.cell (p := ⟨w.heap.size, 11, none⟩) lX).trans (Lib.cell_of_heap rX 11)
 have E12 : ∀ y : Sub U.heap.size U, y.w.cell? ⟨w.heap.size, 12, none⟩ = some (.int .i64 dn) := fun y => (y.h.cell (p := ⟨w.heap.size, 12, none⟩) lX).trans (Lib.cell_of_heap rX 12)
 have E13 : ∀ y : Sub U.heap.size U, y.w.cell? ⟨w.heap.size, 13, none⟩ = some (.string ds) := fun y => (y.h.cell (p := ⟨w.heap.size, 13, none⟩) lX).trans (Lib.cell_of_heap rX 13)
 have E14 : ∀ y : Sub U.heap.size U, y.w.cell? ⟨w.heap.size, 14, none⟩ = some (.slice b2 dl c2) := fun y => (y.h.cell (p := ⟨w.heap.size, 14, none⟩) lX).trans (Lib.cell_of_heap rX 14)
 have E15 : ∀ y : Sub U.heap.size U, y.w.cell? ⟨w.heap.size, 15, none⟩ = some (.int .i64 n) := fun y => (y.h.cell (p := ⟨w.heap.size, 15, none⟩) lX).trans (Lib.cell_of_heap rX 15)
 have E16 : ∀ y : Sub U.heap.size U, y.w.cell? ⟨w.heap.size, 16, none⟩ = some (.slice b3 ll c3) := fun y => (y.h.cell (p := ⟨w.heap.size, 16, none⟩) lX).trans (Lib.cell_of_heap rX 16)
 have G0 : ∀ y : Sub U.heap.size U, y.w.cell? ⟨w1.heap.size, 0, none⟩ = some (.bool a1) := fun y => (y.h.cell (p := ⟨w1.heap.size, 0, none⟩) lS).trans (Lib.cell_of_heap rS 0)
 have G1 : ∀ y : Sub U.heap.size U, y.w.cell? ⟨w1.heap.size, 1, none⟩ = some (.bool a2) := fun y => (y.h.cell (p := ⟨w1.heap.size, 1, none⟩) lS).trans (Lib.cell_of_heap rS 1)
 have G2 : ∀ y : Sub U.heap.size U, y.w.cell? ⟨w1.heap.size, 2, none⟩ = some (.bool a3) := fun y => (y.h.cell (p := ⟨w1.heap.size, 2, none⟩) lS).trans (Lib.cell_of_heap rS 2)
 have G3 : ∀ y : Sub U.heap.size U, y.w.cell? ⟨w1.heap.size, 3, none⟩ = some (.int .i64 a4) := fun y => (y.h.cell (p := ⟨w1.heap.size, 3, none⟩) lS).trans (Lib.cell_of_heap rS 3)
 have G4 : ∀ y : Sub U.heap.size U, y.w.cell? ⟨w1.heap.size, 4, none⟩ = some (.int .i64 a5) := fun y => (y.h.cell (p := ⟨w1.heap.size, 4, none⟩) lS).trans (Lib.cell_of_heap rS 4)
 have G5 : ∀ y : Sub U.heap.size U, y.w.cell? ⟨w1.heap.size, 5, none⟩ = some (.int .i64 a6) := fun y => (y.h.cell (p := ⟨w1.heap.size, 5, none⟩) lS).trans (Lib.cell_of_heap rS 5)
 have G6 : ∀ y : Sub U.heap.size U, y.w.cell? ⟨w1.heap.size, 6, none⟩ = some (.bool a7) := fun y => (y.h.cell (p := ⟨w1.heap.size, 6, none⟩) lS).trans (Lib.cell_of_heap rS 6)
 have NY := hide (fun y : Sub U.heap.size U => uh NM y.w (uh BY y))
 have MY := hide (fun y : Sub U.heap.size U => uh NB y.w)
 have OY := hide (fun y : Sub U.heap.size U => uh OP y.w (uh BY y))
 have TY := hide (fun y : Sub U.heap.size U => uh TM y.w (uh BY y))
 obtain ⟨y0, hy0⟩ : ∃ z : Sub U.heap.size U, U = z.w := ⟨⟨U, Below.refl _ _⟩, rfl⟩
 rw [hy0] at hU
 clear bU rS rX rZ hbU lX lZ lS hb S1 NM NB OP TM RX RZ BW x0 x2 hy0
 cases q1 with
 | false =>
  clear OY TY
  have FF := hide (fun r w' => uh F0 r w' (by simp))
  clear F0 F1
  go_wp2_with (first | (refine wpList_load_row rfl 129 _ rfl w1.heap.size rfl 129 #[.bool a1, .bool a2, .bool a3, .int .i64 a4, .int .i64 a5, .int .i64 a6, .bool a7] (0, 0) _ (uh SY _) Tryz.underlying129 rfl (by kernel_rfl) ?_) | (go_at_call 98; refine (Sub.call (uh HZ) (uh NY _)).mono ?_; rintro r _ ⟨rfl, z1, rfl⟩) | (go_at_call 99; refine (Sub.call (uh HZ) (uh MY _)).mono ?_; rintro r _ ⟨rfl, z2, rfl⟩) | (refine wpList_store_row rfl 64 _ _ rfl V.heap.size #[.int .i64 0, .string ⟨#[]⟩, .int .i64 0, .int .i64 0, .slice none 0 0, .slice none 0 0] rfl rfl 64 _ (uh RY _) szMt rfl (mt_one _ _ _ _ _ _ _ _ _ _) ?_))
  refine bodyPost_ret (results_row2 (P := Tryz.prog) rfl _ _ V.heap.size 64 #[.int .i64 0, .string ⟨#[]⟩, .int .i64 0, .int .i64 0, .slice none 0 0, .slice none 0 0] (0, 0) _ rfl (setRow_heap _ _ _ _ _ _ (uh RY _)) Tryz.underlying64 rfl szMt) rfl ?_
  exact uh FF _ _ rfl (below_rowG (uh BY _) (uh VL))
 | true =>
  cases q2 with
  | false =>
   clear OY TY
   have FF := hide (fun r w' => uh F0 r w' (by simp))
   clear F0 F1
   go_wp2_with (first | (refine wpList_load_row rfl 129 _ rfl w1.heap.size rfl 129 #[.bool a1, .bool a2, .bool a3, .int .i64 a4, .int .i64 a5, .int .i64 a6, .bool a7] (0, 0) _ (uh SY _) Tryz.underlying129 rfl (by kernel_rfl) ?_) | (go_at_call 98; refine (Sub.call (uh HZ) (uh NY _)).mono ?_; rintro r _ ⟨rfl, z1, rfl⟩) | (go_at_call 99; refine (Sub.call (uh HZ) (uh MY _)).mono ?_; rintro r _ ⟨rfl, z2, rfl⟩) | (refine wpList_store_row rfl 64 _ _ rfl V.heap.size #[.int .i64 0, .string ⟨#[]⟩, .int .i64 0, .int .i64 0, .slice none 0 0, .slice none 0 0] rfl rfl 64 _ (uh RY _) szMt rfl (mt_one _ _ _ _ _ _ _ _ _ _) ?_))
   refine bodyPost_ret (results_row2 (P := Tryz.prog) rfl _ _ V.heap.size 64 #[.int .i64 0, .string ⟨#[]⟩, .int .i64 0, .int .i64 0, .slice none 0 0, .slice none 0 0] (0, 0) _ rfl (setRow_heap _ _ _ _ _ _ (uh RY _)) Tryz.underlying64 rfl szMt) rfl ?_
   exact uh FF _ _ rfl (below_rowG (uh BY _) (uh VL))
  | true =>
   cases q3 with
   | false =>
    clear OY TY
    have FF := hide (fun r w' => uh F0 r w' (by simp))
    clear F0 F1
    go_wp2_with (first | (refine wpList_load_row rfl 129 _ rfl w1.heap.size rfl 129 #[.bool a1, .bool a2, .bool a3, .int .i64 a4, .int .i64 a5, .int .i64 a6, .bool a7] (0, 0) _ (uh SY _) Tryz.underlying129 rfl (by kernel_rfl) ?_) | (go_at_call 98; refine (Sub.call (uh HZ) (uh NY _)).mono ?_; rintro r _ ⟨rfl, z1, rfl⟩) | (go_at_call 99; refine (Sub.call (uh HZ) (uh MY _)).mono ?_; rintro r _ ⟨rfl, z2, rfl⟩) | (refine wpList_store_row rfl 64 _ _ rfl V.heap.size #[.int .i64 0, .string ⟨#[]⟩, .int .i64 0, .int .i64 0, .slice none 0 0, .slice none 0 0] rfl rfl 64 _ (uh RY _) szMt rfl (mt_one _ _ _ _ _ _ _ _ _ _) ?_))
    refine bodyPost_ret (results_row2 (P := Tryz.prog) rfl _ _ V.heap.size 64 #[.int .i64 0, .string ⟨#[]⟩, .int .i64 0, .int .i64 0, .slice none 0 0, .slice none 0 0] (0, 0) _ rfl (setRow_heap _ _ _ _ _ _ (uh RY _)) Tryz.underlying64 rfl szMt) rfl ?_
    exact uh FF _ _ rfl (below_rowG (uh BY _) (uh VL))
   | true =>
    go_wp2_with (first | (refine wpList_load_row rfl 129 _ rfl w1.heap.size rfl 129 #[.bool a1, .bool a2, .bool a3, .int .i64 a4, .int .i64 a5, .int .i64 a6, .bool a7] (0, 0) _ (uh SY _) Tryz.underlying129 rfl (by kernel_rfl) ?_) | (go_at_call 98; refine (Sub.call (uh HZ) (uh NY _)).mono ?_; rintro r _ ⟨rfl, z1, rfl⟩) | (go_at_call 99; refine (Sub.call (uh HZ) (uh MY _)).mono ?_; rintro r _ ⟨rfl, z2, rfl⟩))
    refine (uh OY _).mono ?_
    rintro r w2 ⟨v1, rfl, hO, hb⟩
    have OO := hide hO
    have LB := hide (uh BY z2).size
    obtain ⟨z3, rfl⟩ := Sub.step (uh HZ) hb
    clear hO hb OY
    cases q4 with
    | false =>
     clear TY
     have FF := hide (fun r w' => uh F0 r w' (by simp))
     clear F0 F1
     go_wp2_with (first | (refine wpList_load_row rfl 129 _ rfl w1.heap.size rfl 129 #[.bool a1, .bool a2, .bool a3, .int .i64 a4, .int .i64 a5, .int .i64 a6, .bool a7] (0, 0) _ (uh SY _) Tryz.underlying129 rfl (by kernel_rfl) ?_) | (refine wpList_store_row rfl 64 _ _ rfl V.heap.size #[.int .i64 0, .string ⟨#[]⟩, .int .i64 0, .int .i64 0, .slice none 0 0, .slice none 0 0] rfl rfl 64 _ (uh RY _) szMt rfl (mt_one _ _ _ _ _ _ _ _ _ _) ?_))
     refine bodyPost_ret (results_row2 (P := Tryz.prog) rfl _ _ V.heap.size 64 #[.int .i64 0, .string ⟨#[]⟩, .int .i64 0, .int .i64 0, .slice none 0 0, .slice none 0 0] (0, 0) _ rfl (setRow_heap _ _ _ _ _ _ (uh RY _)) Tryz.underlying64 rfl szMt) rfl ?_
     exact uh FF _ _ rfl (below_rowG (uh BY _) (uh VL))
    | true =>
     obtain ⟨e1, j1, hv⟩ := (uh OO rfl).slice
     subst hv
     have O3 := hide ((uh OO rfl).base (uh LB))
     clear OO LB
     generalize LO.length = i1 at *
     go_wp2_with (first | (refine wpList_load_row rfl 129 _ rfl w1.heap.size rfl 129 #[.bool a1, .bool a2, .bool a3, .int .i64 a4, .int .i64 a5, .int .i64 a6, .bool a7] (0, 0) _ (uh SY _) Tryz.underlying129 rfl (by kernel_rfl) ?_))
     refine (uh TY _).mono ?_
     rintro r w2 ⟨v2, rfl, hO, hb⟩
     have OO := hide hO
     have LB := hide (uh BY z3).size
     have O4 := hide ((uh O3).later hb)
     obtain ⟨z4, rfl⟩ := Sub.step (uh HZ) hb
     clear hO hb TY O3
     cases q5 with
     | false =>
      have FF := hide (fun r w' => uh F0 r w' (by simp))
      clear F0 F1
      go_wp2_with (first | (refine wpList_load_row rfl 129 _ rfl w1.heap.size rfl 129 #[.bool a1, .bool a2, .bool a3, .int .i64 a4, .int .i64 a5, .int .i64 a6, .bool a7] (0, 0) _ (uh SY _) Tryz.underlying129 rfl (by kernel_rfl) ?_) | (refine wpList_store_row rfl 64 _ _ rfl V.heap.size #[.int .i64 0, .string ⟨#[]⟩, .int .i64 0, .int .i64 0, .slice none 0 0, .slice none 0 0] rfl rfl 64 _ (uh RY _) szMt rfl (mt_one _ _ _ _ _ _ _ _ _ _) ?_))
      refine bodyPost_ret (results_row2 (P := Tryz.prog) rfl _ _ V.heap.size 64 #[.int .i64 0, .string ⟨#[]⟩, .int .i64 0, .int .i64 0, .slice none 0 0, .slice none 0 0] (0, 0) _ rfl (setRow_heap _ _ _ _ _ _ (uh RY _)) Tryz.underlying64 rfl szMt) rfl ?_
      exact uh FF _ _ rfl (below_rowG (uh BY _) (uh VL))
     | true =>
      obtain ⟨e2, j2, hv⟩ := (uh OO rfl).slice
      subst hv
      have V4 := hide ((uh OO rfl).base (uh LB))
      clear OO LB
      generalize LV.length = i2 at *
      have FF := hide (fun r w' hr ho hv hb => uh F1 r w' e1 i1 j1 e2 i2 j2 (by simp) hr ho hv hb)
      have O5 := hide (ownA_row (cs := #[.int .i64 k, .string s, .int .i64 op, .int .i64 n, .slice e1 i1 j1, .slice e2 i2 j2]) (uh O4) (uh RY z4) (by decide))
      have V5 := hide (ownV_row (cs := #[.int .i64 k, .string s, .int .i64 op, .int .i64 n, .slice e1 i1 j1, .slice e2 i2 j2]) (uh V4) (uh RY z4) (by decide))
      clear F0 F1 O4 V4
      go_wp2_with (first | (refine wpList_store_row rfl 64 _ _ rfl V.heap.size #[.int .i64 k, .string s, .int .i64 op, .int .i64 n, .slice e1 i1 j1, .slice e2 i2 j2] rfl rfl 64 _ (uh RY _) szMt rfl (mt_one _ _ _ _ _ _ _ _ _ _) ?_))
      refine bodyPost_ret (results_row2 (P := Tryz.prog) rfl _ _ V.heap.size 64 #[.int .i64 k, .string s, .int .i64 op, .int .i64 n, .slice e1 i1 j1, .slice e2 i2 j2] (0, 0) _ rfl (setRow_heap _ _ _ _ _ _ (uh RY _)) Tryz.underlying64 rfl szMt) rfl ?_
      exact uh FF _ _ rfl (uh O5) (uh V5) (below_rowG (uh BY z4) (uh VL))
end Go.Proofs.YtjnblcgekpgkoaaGreatDoor
