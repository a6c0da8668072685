/- Contracts over this seat's translation, laid together; conditions stand as hypotheses of each. -/
import Derived.Test.YtboedaofbchdkaaDoorPsA
import Derived.Test.YtboedaofbchdkaaDoorPsB
import Derived.Test.YtboedaofbchdkaaDoorPsC
import Derived.Deep.RegionWith

namespace Go.Proofs.YtboedaofbchdkaaDoor
open Go.ChangeShapes Go.WideShapes Go.ChangeAt Go.RowKit
set_option linter.unusedVariables false
set_option maxRecDepth 8000
set_option linter.unusedSimpArgs false
section
variable (g B gr rc re : Nat) (X : Int) (y : Mv) (d : Md) (w : World)
set_option maxHeartbeats 4000000 in
theorem po_3 (P : Pg w g B gr rc y d) (h8 : d.R8) (hr : re < 8) (hs : y.small) (hlt : gr < w.heap.size) (hgl : g < w.heap.size) : PoIs g B gr rc re X y w 3 (if (d.reg re ((nAt d.r re + 2) % 65536)).has (nAt d.r re) = true then -1 else 0) (if (d.reg re ((nAt d.r re + 2) % 65536)).has (nAt d.r re) = true then (d.reg re ((nAt d.r re + 2) % 65536)).get (nAt d.r re) else 0) ((d.reg re ((nAt d.r re + 2) % 65536)).has (nAt d.r re)) (d.reg re ((nAt d.r re + 2) % 65536)) := by
  unfold PoIs
  have U := hide (bu_new (w := w) 3 (re : Int) X hlt)
  have PW := hide (P.later (below_two w (Obj.cells #[.int .i64 3, .int .i64 (re : Int), .int .i64 X] 28) (Obj.cells #[.int .i64 0, .int .i64 0] 126)))
  have AT := hide (fun b (hb : y.at b) => own_at_lt P.own hb)
  have GL := hide hgl
  obtain ⟨v0, v1⟩ := h8.2 re hr
  have hrl : re < d.r.length := by rw [h8.1]; exact hr
  have T := hide (fun w P => through_any g B gr rc (nAt d.r re) y (d.reg re ((nAt d.r re + 2) % 65536)) w P hs)
  obtain ⟨ok, hok⟩ : ∃ b, (d.reg re ((nAt d.r re + 2) % 65536)).has (nAt d.r re) = b := ⟨_, rfl⟩
  obtain ⟨rr, hrr⟩ : ∃ b : Int, (if (d.reg re ((nAt d.r re + 2) % 65536)).has (nAt d.r re) = true then -1 else 0) = b := ⟨_, rfl⟩
  obtain ⟨aa, haa⟩ : ∃ b : Int, (if (d.reg re ((nAt d.r re + 2) % 65536)).has (nAt d.r re) = true then (d.reg re ((nAt d.r re + 2) % 65536)).get (nAt d.r re) else 0) = b := ⟨_, rfl⟩
  rw [hrr, haa, hok] at T
  rw [hrr, haa, hok]
  clear hrr haa hok
  have HRL := hide hrl
  have H8 := hide h8
  have HS := hide hs
  clear P hlt hgl hs
  go_enter Tryd.func119, Tryd.ntmps119
  go_wp2_with fail
  generalize ((w.alloc (Obj.cells #[.int .i64 3, .int .i64 (re : Int), .int .i64 X] 28)).alloc (Obj.cells #[.int .i64 0, .int .i64 0] 126)) = W0 at U PW ⊢
  have ne := Sub.ne W0.heap.size W0
  have c1 : ∀ s : Sub W0.heap.size W0, s.w.cell? ⟨g, 257, none⟩ = some (.slice (some ⟨gr, 0, none⟩) 8 rc) := fun s => by have := ((unhide PW).later s.h).r; rw [(unhide H8).1] at this; exact this
  have c2 : ∀ s : Sub W0.heap.size W0, s.w.cell? ⟨gr, re, none⟩ = some (.int .i64 (nAt d.r re)) := fun s => ((unhide PW).later s.h).cell re (unhide HRL)
  have b0 : ∀ s : Sub W0.heap.size W0, s.w.cell? ⟨w.heap.size, 0, none⟩ = some (.int .i64 3) := fun s => ((unhide U).later s.h).c0
  have b1 : ∀ s : Sub W0.heap.size W0, s.w.cell? ⟨w.heap.size, 1, none⟩ = some (.int .i64 (re : Int)) := fun s => ((unhide U).later s.h).c1
  have hri : (re : Int) < 8 := by omega
  clear h8
  refine wp_region_sub (⟨W0, Below.refl _ _⟩ : Sub W0.heap.size W0) (by kernel_rfl) (by kernel_rfl) ?_
  repeat (go_big_quiet_step (fail))
  refine wpQuiet_nil ?_
  intro s
  have US := hide ((unhide U).later s.h)
  have PS := hide ((unhide PW).later s.h)
  go_wp2_with fail
  refine (goOn_any g B gr rc re y d _ (unhide PS) (unhide HRL) v0 v1).mono ?_
  rintro e w1 ⟨rfl, p2, g2⟩
  have U1 := hide ((unhide US).past g2)
  have P1 := hide p2
  clear p2 g2
  go_wp2_with fail
  refine (unhide T _ (unhide P1)).mono ?_
  rintro e w2 ⟨rfl, hb⟩
  have U2 := hide ((unhide U1).later hb)
  have P2 := hide ((unhide P1).later hb)
  clear hb
  go_wp2_with (first | (refine wpList_store_row rfl 126 _ _ rfl (w.heap.size + 1) #[.int .i64 (rr), .int .i64 (aa)] rfl rfl 126 #[.int .i64 0, .int .i64 0] (unhide U2).rp (by kernel_rfl) rfl (by simp [Value.oneCell']) ?_))
  obtain ⟨r1, r2⟩ := (unhide U2).done #[.int .i64 (rr), .int .i64 (aa)]
  refine bodyPost_ret (results_row2 (P := Tryd.prog) rfl _ _ (w.heap.size + 1) 126 #[.int .i64 (rr), .int .i64 (aa)] (0, 0) _ rfl r1 Tryd.underlying126 rfl (by kernel_rfl)) rfl ?_
  exact ⟨rfl, (unhide P2).setRow (w := w) (unhide GL) (unhide AT) (by omega) _, r2⟩
set_option maxHeartbeats 4000000 in
theorem po_5 (P : Pg w g B gr rc y d) (h8 : d.R8) (hr : re < 8) (hs : y.small) (hlt : gr < w.heap.size) (hgl : g < w.heap.size) : PoIs g B gr rc re X y w 5 (if (d.reg re ((nAt d.r re - 2) % 65536)).has ((nAt d.r re - 2) % 65536) = true then -1 else 0) (if (d.reg re ((nAt d.r re - 2) % 65536)).has ((nAt d.r re - 2) % 65536) = true then (d.reg re ((nAt d.r re - 2) % 65536)).get ((nAt d.r re - 2) % 65536) else 0) ((d.reg re ((nAt d.r re - 2) % 65536)).has ((nAt d.r re - 2) % 65536)) (d.reg re ((nAt d.r re - 2) % 65536)) := by
  unfold PoIs
  have U := hide (bu_new (w := w) 5 (re : Int) X hlt)
  have PW := hide (P.later (below_two w (Obj.cells #[.int .i64 5, .int .i64 (re : Int), .int .i64 X] 28) (Obj.cells #[.int .i64 0, .int .i64 0] 126)))
  have AT := hide (fun b (hb : y.at b) => own_at_lt P.own hb)
  have GL := hide hgl
  obtain ⟨v0, v1⟩ := h8.2 re hr
  have hrl : re < d.r.length := by rw [h8.1]; exact hr
  have T := hide (fun w P => through_any g B gr rc ((nAt d.r re - 2) % 65536) y (d.reg re ((nAt d.r re - 2) % 65536)) w P hs)
  obtain ⟨ok, hok⟩ : ∃ b, (d.reg re ((nAt d.r re - 2) % 65536)).has ((nAt d.r re - 2) % 65536) = b := ⟨_, rfl⟩
  obtain ⟨rr, hrr⟩ : ∃ b : Int, (if (d.reg re ((nAt d.r re - 2) % 65536)).has ((nAt d.r re - 2) % 65536) = true then -1 else 0) = b := ⟨_, rfl⟩
  obtain ⟨aa, haa⟩ : ∃ b : Int, (if (d.reg re ((nAt d.r re - 2) % 65536)).has ((nAt d.r re - 2) % 65536) = true then (d.reg re ((nAt d.r re - 2) % 65536)).get ((nAt d.r re - 2) % 65536) else 0) = b := ⟨_, rfl⟩
  rw [hrr, haa, hok] at T
  rw [hrr, haa, hok]
  clear hrr haa hok
  have HRL := hide hrl
  have H8 := hide h8
  have HS := hide hs
  clear P hlt hgl hs
  go_enter Tryd.func119, Tryd.ntmps119
  go_wp2_with fail
  generalize ((w.alloc (Obj.cells #[.int .i64 5, .int .i64 (re : Int), .int .i64 X] 28)).alloc (Obj.cells #[.int .i64 0, .int .i64 0] 126)) = W0 at U PW ⊢
  have ne := Sub.ne W0.heap.size W0
  have c1 : ∀ s : Sub W0.heap.size W0, s.w.cell? ⟨g, 257, none⟩ = some (.slice (some ⟨gr, 0, none⟩) 8 rc) := fun s => by have := ((unhide PW).later s.h).r; rw [(unhide H8).1] at this; exact this
  have c2 : ∀ s : Sub W0.heap.size W0, s.w.cell? ⟨gr, re, none⟩ = some (.int .i64 (nAt d.r re)) := fun s => ((unhide PW).later s.h).cell re (unhide HRL)
  have b0 : ∀ s : Sub W0.heap.size W0, s.w.cell? ⟨w.heap.size, 0, none⟩ = some (.int .i64 5) := fun s => ((unhide U).later s.h).c0
  have b1 : ∀ s : Sub W0.heap.size W0, s.w.cell? ⟨w.heap.size, 1, none⟩ = some (.int .i64 (re : Int)) := fun s => ((unhide U).later s.h).c1
  have hri : (re : Int) < 8 := by omega
  clear h8
  refine wp_region_sub (⟨W0, Below.refl _ _⟩ : Sub W0.heap.size W0) (by kernel_rfl) (by kernel_rfl) ?_
  repeat (go_big_quiet_step (fail))
  refine wpQuiet_nil ?_
  intro s
  have US := hide ((unhide U).later s.h)
  have PS := hide ((unhide PW).later s.h)
  go_wp2_with fail
  refine (goBack_any g B gr rc re y d _ (unhide PS) (unhide HRL) v0 v1).mono ?_
  rintro e w1 ⟨rfl, p2, g2⟩
  have U1 := hide ((unhide US).past g2)
  have P1 := hide p2
  clear p2 g2
  go_wp2_with fail
  refine (unhide T _ (unhide P1)).mono ?_
  rintro e w2 ⟨rfl, hb⟩
  have U2 := hide ((unhide U1).later hb)
  have P2 := hide ((unhide P1).later hb)
  clear hb
  go_wp2_with (first | (refine wpList_store_row rfl 126 _ _ rfl (w.heap.size + 1) #[.int .i64 (rr), .int .i64 (aa)] rfl rfl 126 #[.int .i64 0, .int .i64 0] (unhide U2).rp (by kernel_rfl) rfl (by simp [Value.oneCell']) ?_))
  obtain ⟨r1, r2⟩ := (unhide U2).done #[.int .i64 (rr), .int .i64 (aa)]
  refine bodyPost_ret (results_row2 (P := Tryd.prog) rfl _ _ (w.heap.size + 1) 126 #[.int .i64 (rr), .int .i64 (aa)] (0, 0) _ rfl r1 Tryd.underlying126 rfl (by kernel_rfl)) rfl ?_
  exact ⟨rfl, (unhide P2).setRow (w := w) (unhide GL) (unhide AT) (by omega) _, r2⟩
set_option maxHeartbeats 4000000 in
theorem po_6n (P : Pg w g B gr rc y d) (h8 : d.R8) (hr : re < 8) (hs : y.small) (hlt : gr < w.heap.size) (hgl : g < w.heap.size) (hx : 0 ≤ d.get (nAt d.r 7) ∧ d.get (nAt d.r 7) ≤ 65535) (hq : d.has (nAt d.r 7) = false) : PoIs g B gr rc re X y w 6 (0) (0) false (d.reg 7 ((nAt d.r 7 + 2) % 65536)) := by
  unfold PoIs
  have U := hide (bu_new (w := w) 6 (re : Int) X hlt)
  have PW := hide (P.later (below_two w (Obj.cells #[.int .i64 6, .int .i64 (re : Int), .int .i64 X] 28) (Obj.cells #[.int .i64 0, .int .i64 0] 126)))
  have AT := hide (fun b (hb : y.at b) => own_at_lt P.own hb)
  have GL := hide hgl
  obtain ⟨v0, v1⟩ := h8.2 re hr
  have hrl : re < d.r.length := by rw [h8.1]; exact hr
  have I := hide (fun w P => indexed_any g B gr rc re y d w P h8 hr hs hx)
  rw [hq] at I
  simp only [Bool.false_eq_true, if_false] at I
  clear hx hq
  have HRL := hide hrl
  have H8 := hide h8
  have HS := hide hs
  clear P hlt hgl hs
  go_enter Tryd.func119, Tryd.ntmps119
  go_wp2_with fail
  generalize ((w.alloc (Obj.cells #[.int .i64 6, .int .i64 (re : Int), .int .i64 X] 28)).alloc (Obj.cells #[.int .i64 0, .int .i64 0] 126)) = W0 at U PW ⊢
  have ne := Sub.ne W0.heap.size W0
  have c1 : ∀ s : Sub W0.heap.size W0, s.w.cell? ⟨g, 257, none⟩ = some (.slice (some ⟨gr, 0, none⟩) 8 rc) := fun s => by have := ((unhide PW).later s.h).r; rw [(unhide H8).1] at this; exact this
  have c2 : ∀ s : Sub W0.heap.size W0, s.w.cell? ⟨gr, re, none⟩ = some (.int .i64 (nAt d.r re)) := fun s => ((unhide PW).later s.h).cell re (unhide HRL)
  have b0 : ∀ s : Sub W0.heap.size W0, s.w.cell? ⟨w.heap.size, 0, none⟩ = some (.int .i64 6) := fun s => ((unhide U).later s.h).c0
  have b1 : ∀ s : Sub W0.heap.size W0, s.w.cell? ⟨w.heap.size, 1, none⟩ = some (.int .i64 (re : Int)) := fun s => ((unhide U).later s.h).c1
  have hri : (re : Int) < 8 := by omega
  clear h8
  refine wp_region_sub (⟨W0, Below.refl _ _⟩ : Sub W0.heap.size W0) (by kernel_rfl) (by kernel_rfl) ?_
  repeat (go_big_quiet_step (fail))
  refine wpQuiet_nil ?_
  intro s
  have US := hide ((unhide U).later s.h)
  have PS := hide ((unhide PW).later s.h)
  go_wp2_with fail
  refine (unhide I _ (unhide PS)).mono ?_
  rintro e w1 ⟨rfl, p2, g2⟩
  have U1 := hide ((unhide US).past g2)
  have P1 := hide p2
  clear p2 g2
  go_wp2_with (first | (refine wpList_store_row rfl 126 _ _ rfl (w.heap.size + 1) #[.int .i64 (0), .int .i64 (0)] rfl rfl 126 #[.int .i64 0, .int .i64 0] (unhide U1).rp (by kernel_rfl) rfl (by simp [Value.oneCell']) ?_))
  obtain ⟨r1, r2⟩ := (unhide U1).done #[.int .i64 (0), .int .i64 (0)]
  refine bodyPost_ret (results_row2 (P := Tryd.prog) rfl _ _ (w.heap.size + 1) 126 #[.int .i64 (0), .int .i64 (0)] (0, 0) _ rfl r1 Tryd.underlying126 rfl (by kernel_rfl)) rfl ?_
  exact ⟨rfl, (unhide P1).setRow (w := w) (unhide GL) (unhide AT) (by omega) _, r2⟩
set_option maxHeartbeats 4000000 in
theorem po_7n (P : Pg w g B gr rc y d) (h8 : d.R8) (hr : re < 8) (hs : y.small) (hlt : gr < w.heap.size) (hgl : g < w.heap.size) (hx : 0 ≤ d.get (nAt d.r 7) ∧ d.get (nAt d.r 7) ≤ 65535) (hq : d.has (nAt d.r 7) = false) : PoIs g B gr rc re X y w 7 (0) (0) false (d.reg 7 ((nAt d.r 7 + 2) % 65536)) := by
  unfold PoIs
  have U := hide (bu_new (w := w) 7 (re : Int) X hlt)
  have PW := hide (P.later (below_two w (Obj.cells #[.int .i64 7, .int .i64 (re : Int), .int .i64 X] 28) (Obj.cells #[.int .i64 0, .int .i64 0] 126)))
  have AT := hide (fun b (hb : y.at b) => own_at_lt P.own hb)
  have GL := hide hgl
  obtain ⟨v0, v1⟩ := h8.2 re hr
  have hrl : re < d.r.length := by rw [h8.1]; exact hr
  have I := hide (fun w P => indexed_any g B gr rc re y d w P h8 hr hs hx)
  rw [hq] at I
  simp only [Bool.false_eq_true, if_false] at I
  clear hx hq
  have HRL := hide hrl
  have H8 := hide h8
  have HS := hide hs
  clear P hlt hgl hs
  go_enter Tryd.func119, Tryd.ntmps119
  go_wp2_with fail
  generalize ((w.alloc (Obj.cells #[.int .i64 7, .int .i64 (re : Int), .int .i64 X] 28)).alloc (Obj.cells #[.int .i64 0, .int .i64 0] 126)) = W0 at U PW ⊢
  have ne := Sub.ne W0.heap.size W0
  have c1 : ∀ s : Sub W0.heap.size W0, s.w.cell? ⟨g, 257, none⟩ = some (.slice (some ⟨gr, 0, none⟩) 8 rc) := fun s => by have := ((unhide PW).later s.h).r; rw [(unhide H8).1] at this; exact this
  have c2 : ∀ s : Sub W0.heap.size W0, s.w.cell? ⟨gr, re, none⟩ = some (.int .i64 (nAt d.r re)) := fun s => ((unhide PW).later s.h).cell re (unhide HRL)
  have b0 : ∀ s : Sub W0.heap.size W0, s.w.cell? ⟨w.heap.size, 0, none⟩ = some (.int .i64 7) := fun s => ((unhide U).later s.h).c0
  have b1 : ∀ s : Sub W0.heap.size W0, s.w.cell? ⟨w.heap.size, 1, none⟩ = some (.int .i64 (re : Int)) := fun s => ((unhide U).later s.h).c1
  have hri : (re : Int) < 8 := by omega
  clear h8
  refine wp_region_sub (⟨W0, Below.refl _ _⟩ : Sub W0.heap.size W0) (by kernel_rfl) (by kernel_rfl) ?_
  repeat (go_big_quiet_step (fail))
  refine wpQuiet_nil ?_
  intro s
  have US := hide ((unhide U).later s.h)
  have PS := hide ((unhide PW).later s.h)
  go_wp2_with fail
  refine (unhide I _ (unhide PS)).mono ?_
  rintro e w1 ⟨rfl, p2, g2⟩
  have U1 := hide ((unhide US).past g2)
  have P1 := hide p2
  clear p2 g2
  go_wp2_with (first | (refine wpList_store_row rfl 126 _ _ rfl (w.heap.size + 1) #[.int .i64 (0), .int .i64 (0)] rfl rfl 126 #[.int .i64 0, .int .i64 0] (unhide U1).rp (by kernel_rfl) rfl (by simp [Value.oneCell']) ?_))
  obtain ⟨r1, r2⟩ := (unhide U1).done #[.int .i64 (0), .int .i64 (0)]
  refine bodyPost_ret (results_row2 (P := Tryd.prog) rfl _ _ (w.heap.size + 1) 126 #[.int .i64 (0), .int .i64 (0)] (0, 0) _ rfl r1 Tryd.underlying126 rfl (by kernel_rfl)) rfl ?_
  exact ⟨rfl, (unhide P1).setRow (w := w) (unhide GL) (unhide AT) (by omega) _, r2⟩
set_option maxHeartbeats 4000000 in
theorem po_6y (P : Pg w g B gr rc y d) (h8 : d.R8) (hr : re < 8) (hs : y.small) (hlt : gr < w.heap.size) (hgl : g < w.heap.size) (hx : 0 ≤ d.get (nAt d.r 7) ∧ d.get (nAt d.r 7) ≤ 65535) (hq : d.has (nAt d.r 7) = true) : PoIs g B gr rc re X y w 6 (-1) ((d.get (nAt d.r 7) + nAt d.fet.r re) % 65536) true (d.reg 7 ((nAt d.r 7 + 2) % 65536)) := by
  unfold PoIs
  have U := hide (bu_new (w := w) 6 (re : Int) X hlt)
  have PW := hide (P.later (below_two w (Obj.cells #[.int .i64 6, .int .i64 (re : Int), .int .i64 X] 28) (Obj.cells #[.int .i64 0, .int .i64 0] 126)))
  have AT := hide (fun b (hb : y.at b) => own_at_lt P.own hb)
  have GL := hide hgl
  obtain ⟨v0, v1⟩ := h8.2 re hr
  have hrl : re < d.r.length := by rw [h8.1]; exact hr
  have I := hide (fun w P => indexed_any g B gr rc re y d w P h8 hr hs hx)
  rw [hq] at I
  simp only [if_true] at I
  clear hx hq
  have HRL := hide hrl
  have H8 := hide h8
  have HS := hide hs
  clear P hlt hgl hs
  go_enter Tryd.func119, Tryd.ntmps119
  go_wp2_with fail
  generalize ((w.alloc (Obj.cells #[.int .i64 6, .int .i64 (re : Int), .int .i64 X] 28)).alloc (Obj.cells #[.int .i64 0, .int .i64 0] 126)) = W0 at U PW ⊢
  have ne := Sub.ne W0.heap.size W0
  have c1 : ∀ s : Sub W0.heap.size W0, s.w.cell? ⟨g, 257, none⟩ = some (.slice (some ⟨gr, 0, none⟩) 8 rc) := fun s => by have := ((unhide PW).later s.h).r; rw [(unhide H8).1] at this; exact this
  have c2 : ∀ s : Sub W0.heap.size W0, s.w.cell? ⟨gr, re, none⟩ = some (.int .i64 (nAt d.r re)) := fun s => ((unhide PW).later s.h).cell re (unhide HRL)
  have b0 : ∀ s : Sub W0.heap.size W0, s.w.cell? ⟨w.heap.size, 0, none⟩ = some (.int .i64 6) := fun s => ((unhide U).later s.h).c0
  have b1 : ∀ s : Sub W0.heap.size W0, s.w.cell? ⟨w.heap.size, 1, none⟩ = some (.int .i64 (re : Int)) := fun s => ((unhide U).later s.h).c1
  have hri : (re : Int) < 8 := by omega
  clear h8
  refine wp_region_sub (⟨W0, Below.refl _ _⟩ : Sub W0.heap.size W0) (by kernel_rfl) (by kernel_rfl) ?_
  repeat (go_big_quiet_step (fail))
  refine wpQuiet_nil ?_
  intro s
  have US := hide ((unhide U).later s.h)
  have PS := hide ((unhide PW).later s.h)
  go_wp2_with fail
  refine (unhide I _ (unhide PS)).mono ?_
  rintro e w1 ⟨rfl, p2, g2⟩
  have U1 := hide ((unhide US).past g2)
  have P1 := hide p2
  clear p2 g2
  have k0 := (unhide U1).c0
  go_wp2_with fail
  refine (adPlace_any _ _).mono ?_
  rintro e w2 ⟨rfl, hb⟩
  have U2 := hide ((unhide U1).later hb)
  have P2 := hide ((unhide P1).later hb)
  clear hb
  go_wp2_with (first | (refine wpList_store_row rfl 126 _ _ rfl (w.heap.size + 1) #[.int .i64 (-1), .int .i64 ((d.get (nAt d.r 7) + nAt d.fet.r re) % 65536)] rfl rfl 126 #[.int .i64 0, .int .i64 0] (unhide U2).rp (by kernel_rfl) rfl (by simp [Value.oneCell']) ?_))
  obtain ⟨r1, r2⟩ := (unhide U2).done #[.int .i64 (-1), .int .i64 ((d.get (nAt d.r 7) + nAt d.fet.r re) % 65536)]
  refine bodyPost_ret (results_row2 (P := Tryd.prog) rfl _ _ (w.heap.size + 1) 126 #[.int .i64 (-1), .int .i64 ((d.get (nAt d.r 7) + nAt d.fet.r re) % 65536)] (0, 0) _ rfl r1 Tryd.underlying126 rfl (by kernel_rfl)) rfl ?_
  exact ⟨rfl, (unhide P2).setRow (w := w) (unhide GL) (unhide AT) (by omega) _, r2⟩
set_option maxHeartbeats 4000000 in
theorem po_7y (P : Pg w g B gr rc y d) (h8 : d.R8) (hr : re < 8) (hs : y.small) (hlt : gr < w.heap.size) (hgl : g < w.heap.size) (hx : 0 ≤ d.get (nAt d.r 7) ∧ d.get (nAt d.r 7) ≤ 65535) (hq : d.has (nAt d.r 7) = true) : PoIs g B gr rc re X y w 7 (if (d.reg 7 ((nAt d.r 7 + 2) % 65536)).has ((d.get (nAt d.r 7) + nAt d.fet.r re) % 65536) = true then -1 else 0) (if (d.reg 7 ((nAt d.r 7 + 2) % 65536)).has ((d.get (nAt d.r 7) + nAt d.fet.r re) % 65536) = true then (d.reg 7 ((nAt d.r 7 + 2) % 65536)).get ((d.get (nAt d.r 7) + nAt d.fet.r re) % 65536) else 0) ((d.reg 7 ((nAt d.r 7 + 2) % 65536)).has ((d.get (nAt d.r 7) + nAt d.fet.r re) % 65536)) (d.reg 7 ((nAt d.r 7 + 2) % 65536)) := by
  unfold PoIs
  have U := hide (bu_new (w := w) 7 (re : Int) X hlt)
  have PW := hide (P.later (below_two w (Obj.cells #[.int .i64 7, .int .i64 (re : Int), .int .i64 X] 28) (Obj.cells #[.int .i64 0, .int .i64 0] 126)))
  have AT := hide (fun b (hb : y.at b) => own_at_lt P.own hb)
  have GL := hide hgl
  obtain ⟨v0, v1⟩ := h8.2 re hr
  have hrl : re < d.r.length := by rw [h8.1]; exact hr
  have I := hide (fun w P => indexed_any g B gr rc re y d w P h8 hr hs hx)
  rw [hq] at I
  simp only [if_true] at I
  clear hx hq
  have T := hide (fun w P => through_any g B gr rc ((d.get (nAt d.r 7) + nAt d.fet.r re) % 65536) y (d.reg 7 ((nAt d.r 7 + 2) % 65536)) w P hs)
  obtain ⟨ok, hok⟩ : ∃ b, (d.reg 7 ((nAt d.r 7 + 2) % 65536)).has ((d.get (nAt d.r 7) + nAt d.fet.r re) % 65536) = b := ⟨_, rfl⟩
  obtain ⟨rr, hrr⟩ : ∃ b : Int, (if (d.reg 7 ((nAt d.r 7 + 2) % 65536)).has ((d.get (nAt d.r 7) + nAt d.fet.r re) % 65536) = true then -1 else 0) = b := ⟨_, rfl⟩
  obtain ⟨aa, haa⟩ : ∃ b : Int, (if (d.reg 7 ((nAt d.r 7 + 2) % 65536)).has ((d.get (nAt d.r 7) + nAt d.fet.r re) % 65536) = true then (d.reg 7 ((nAt d.r 7 + 2) % 65536)).get ((d.get (nAt d.r 7) + nAt d.fet.r re) % 65536) else 0) = b := ⟨_, rfl⟩
  rw [hrr, haa, hok] at T
  rw [hrr, haa, hok]
  clear hrr haa hok
  have HRL := hide hrl
  have H8 := hide h8
  have HS := hide hs
  clear P hlt hgl hs
  go_enter Tryd.func119, Tryd.ntmps119
  go_wp2_with fail
  generalize ((w.alloc (Obj.cells #[.int .i64 7, .int .i64 (re : Int), .int .i64 X] 28)).alloc (Obj.cells #[.int .i64 0, .int .i64 0] 126)) = W0 at U PW ⊢
  have ne := Sub.ne W0.heap.size W0
  have c1 : ∀ s : Sub W0.heap.size W0, s.w.cell? ⟨g, 257, none⟩ = some (.slice (some ⟨gr, 0, none⟩) 8 rc) := fun s => by have := ((unhide PW).later s.h).r; rw [(unhide H8).1] at this; exact this
  have c2 : ∀ s : Sub W0.heap.size W0, s.w.cell? ⟨gr, re, none⟩ = some (.int .i64 (nAt d.r re)) := fun s => ((unhide PW).later s.h).cell re (unhide HRL)
  have b0 : ∀ s : Sub W0.heap.size W0, s.w.cell? ⟨w.heap.size, 0, none⟩ = some (.int .i64 7) := fun s => ((unhide U).later s.h).c0
  have b1 : ∀ s : Sub W0.heap.size W0, s.w.cell? ⟨w.heap.size, 1, none⟩ = some (.int .i64 (re : Int)) := fun s => ((unhide U).later s.h).c1
  have hri : (re : Int) < 8 := by omega
  clear h8
  refine wp_region_sub (⟨W0, Below.refl _ _⟩ : Sub W0.heap.size W0) (by kernel_rfl) (by kernel_rfl) ?_
  repeat (go_big_quiet_step (fail))
  refine wpQuiet_nil ?_
  intro s
  have US := hide ((unhide U).later s.h)
  have PS := hide ((unhide PW).later s.h)
  go_wp2_with fail
  refine (unhide I _ (unhide PS)).mono ?_
  rintro e w1 ⟨rfl, p2, g2⟩
  have U1 := hide ((unhide US).past g2)
  have P1 := hide p2
  clear p2 g2
  have k0 := (unhide U1).c0
  go_wp2_with fail
  refine (unhide T _ (unhide P1)).mono ?_
  rintro e w2 ⟨rfl, hb⟩
  have U2 := hide ((unhide U1).later hb)
  have P2 := hide ((unhide P1).later hb)
  clear hb
  go_wp2_with (first | (refine wpList_store_row rfl 126 _ _ rfl (w.heap.size + 1) #[.int .i64 (rr), .int .i64 (aa)] rfl rfl 126 #[.int .i64 0, .int .i64 0] (unhide U2).rp (by kernel_rfl) rfl (by simp [Value.oneCell']) ?_))
  obtain ⟨r1, r2⟩ := (unhide U2).done #[.int .i64 (rr), .int .i64 (aa)]
  refine bodyPost_ret (results_row2 (P := Tryd.prog) rfl _ _ (w.heap.size + 1) 126 #[.int .i64 (rr), .int .i64 (aa)] (0, 0) _ rfl r1 Tryd.underlying126 rfl (by kernel_rfl)) rfl ?_
  exact ⟨rfl, (unhide P2).setRow (w := w) (unhide GL) (unhide AT) (by omega) _, r2⟩
end
end Go.Proofs.YtboedaofbchdkaaDoor

namespace Go.Proofs.YtboedaofbchdkaaDoor
open Go.ChangeShapes Go.WideShapes Go.ChangeAt Go.RowKit
set_option linter.unusedVariables false
set_option maxRecDepth 8000
set_option linter.unusedSimpArgs false
/-- placeOf's answer, and what the machine is where it fails, too. -/
theorem po_all (g B gr rc mo re : Nat) (X : Int) (y : Mv) (d : Md) (w : World) (P : Pg w g B gr rc y d) (h8 : d.R8) (hr : re < 8) (hs : y.small) (hx : 0 ≤ d.get (nAt d.r 7) ∧ d.get (nAt d.r 7) ≤ 65535) (h7 : mo ≤ 7) (hlt : gr < w.heap.size) (hgl : g < w.heap.size) :
    ∃ d2, PoIs g B gr rc re X y w (mo : Int) (d.plR mo re) (d.plA mo re) (d.plO mo re) d2 ∧ (d.plO mo re = true → d2 = d.plD mo re) ∧ (d2 = d.plD mo re ∨ d2 = d.reg 7 ((nAt d.r 7 + 2) % 65536)) := by
  rcases (show mo = 0 ∨ mo = 1 ∨ mo = 2 ∨ mo = 3 ∨ mo = 4 ∨ mo = 5 ∨ mo = 6 ∨ mo = 7 by omega) with rfl | rfl | rfl | rfl | rfl | rfl | rfl | rfl
  · exact ⟨d.plD _ re, by simpa [Md.plR, Md.plA, Md.plO, Md.plD] using po_0 g B gr rc re X y d w P h8 hr hs hlt hgl, fun _ => rfl, .inl rfl⟩
  · exact ⟨d.plD _ re, by simpa [Md.plR, Md.plA, Md.plO, Md.plD, Md.adD, Md.adV, Md.adO, oddM] using po_1 g B gr rc re X y d w P h8 hr hs hlt hgl, fun _ => rfl, .inl rfl⟩
  · exact ⟨d.plD _ re, by simpa [Md.plR, Md.plA, Md.plO, Md.plD, Md.adD, Md.adV, Md.adO, oddM] using po_2 g B gr rc re X y d w P h8 hr hs hlt hgl, fun _ => rfl, .inl rfl⟩
  · exact ⟨d.plD _ re, by simpa [Md.plR, Md.plA, Md.plO, Md.plD, Md.adD, Md.adV, Md.adO, oddM] using po_3 g B gr rc re X y d w P h8 hr hs hlt hgl, fun _ => rfl, .inl rfl⟩
  · exact ⟨d.plD _ re, by simpa [Md.plR, Md.plA, Md.plO, Md.plD, Md.adD, Md.adV, Md.adO, oddM] using po_4 g B gr rc re X y d w P h8 hr hs hlt hgl, fun _ => rfl, .inl rfl⟩
  · exact ⟨d.plD _ re, by simpa [Md.plR, Md.plA, Md.plO, Md.plD, Md.adD, Md.adV, Md.adO, oddM] using po_5 g B gr rc re X y d w P h8 hr hs hlt hgl, fun _ => rfl, .inl rfl⟩
  · cases hq : d.has (nAt d.r 7)
    · have h := po_6n g B gr rc re X y d w P h8 hr hs hlt hgl hx hq
      exact ⟨_, by simpa [Md.plR, Md.plA, Md.plO, Md.adO, oddM, hq] using h, fun e => absurd e (by simp [Md.plO, Md.adO, hq]), .inr rfl⟩
    · have h := po_6y g B gr rc re X y d w P h8 hr hs hlt hgl hx hq
      have hf : d.fet = d.reg 7 ((nAt d.r 7 + 2) % 65536) := by unfold Md.fet; rw [if_pos hq]
      rw [← hf] at h
      exact ⟨d.plD _ re, by simpa [Md.plR, Md.plA, Md.plO, Md.plD, Md.adD, Md.adV, Md.adO, oddM, hq] using h, fun _ => rfl, .inl rfl⟩
  · cases hq : d.has (nAt d.r 7)
    · have h := po_7n g B gr rc re X y d w P h8 hr hs hlt hgl hx hq
      exact ⟨_, by simpa [Md.plR, Md.plA, Md.plO, Md.adO, oddM, hq] using h, fun e => absurd e (by simp [Md.plO, Md.adO, hq]), .inr rfl⟩
    · have h := po_7y g B gr rc re X y d w P h8 hr hs hlt hgl hx hq
      have hf : d.fet = d.reg 7 ((nAt d.r 7 + 2) % 65536) := by unfold Md.fet; rw [if_pos hq]
      rw [← hf] at h
      exact ⟨d.plD _ re, by simpa [Md.plR, Md.plA, Md.plO, Md.plD, Md.adD, Md.adV, Md.adO, oddM, hq] using h, fun _ => rfl, .inl rfl⟩
def PoIs0 (g B gr rc re : Nat) (X : Int) (y : Mv) (w : World) (mo rr aa : Int) (ok : Bool) (d2 : Md) : Prop := Calls Tryd.prog 119 #[.pointer (some ⟨g, 0, none⟩), .agg #[.int .i64 mo, .int .i64 (re : Int), .int .i64 X]] w fun e w' => e = .returned (.tuple #[.agg #[.int .i64 rr, .int .i64 aa], .bool ok]) ∧ (ok = true → Pg w' g B gr rc y d2) ∧ w.grownBy w' (some gr)
theorem po_any (g B gr rc mo re : Nat) (X : Int) (y : Mv) (d : Md) (w : World) (P : Pg w g B gr rc y d) (h8 : d.R8) (hr : re < 8) (hs : y.small) (hx : 0 ≤ d.get (nAt d.r 7) ∧ d.get (nAt d.r 7) ≤ 65535) (h7 : mo ≤ 7) (hlt : gr < w.heap.size) (hgl : g < w.heap.size) :
    PoIs0 g B gr rc re X y w (mo : Int) (d.plR mo re) (d.plA mo re) (d.plO mo re) (d.plD mo re) := by
  obtain ⟨d2, h, e, _⟩ := po_all g B gr rc mo re X y d w P h8 hr hs hx h7 hlt hgl
  unfold PoIs at h
  unfold PoIs0
  exact h.mono fun e2 w' ⟨a, b, c⟩ => ⟨a, fun ho => (e ho) ▸ b, c⟩
end Go.Proofs.YtboedaofbchdkaaDoor

namespace Go.Proofs.YtboedaofbchdkaaDoor
open Go.ChangeShapes Go.WideShapes Go.ChangeAt Go.RowKit
set_option linter.unusedVariables false
set_option maxRecDepth 8000
set_option linter.unusedSimpArgs false
set_option maxHeartbeats 1000000 in
theorem setWords_any (g : Nat) (a : Int) (im : Sl) (ni mem : List Int) (y : Mv) (w : World) (h0 : 0 ≤ a) (h1 : a ≤ 510) (h2 : a % 2 = 0) (hl : ni.length = im.n) (hfit : (im.n : Int) ≤ 256 - a / 2) (hw : wdB ni = true) (hm : mem.length = 256)
    (hg : w.heap[g]? = some (.cells (bigA mem y) 55 (0, 0))) (hr : RdN w im.a ni) (hne : ni = [] ∨ ∀ ad, im.a = some ad → ad.block ≠ g) :
    Calls Tryd.prog 26 #[.pointer (some ⟨g, 0, none⟩), .int .i64 a, .slice im.a im.n im.c] w fun e w' => e = .returned (.tuple #[]) ∧ w'.heap[g]? = some (.cells (bigA (over mem (a / 2).toNat ni) y) 55 (0, 0)) ∧ w.grownBy w' (some g) := by
  obtain ⟨ima, imn, imc⟩ := im
  simp only at hl hfit hr hne ⊢
  obtain ⟨k, hk⟩ := Int.eq_ofNat_of_zero_le (show 0 ≤ a / 2 by omega)
  have hkk : (a / 2).toNat = k := by omega
  rw [hkk]
  have ka : a = 2 * (k : Int) := by omega
  have kb : k + imn ≤ 256 := by omega
  have KA := hide ka
  have HNE := hide hne
  have HG := hide hg
  have HR := hide hr
  have HL := hide hl
  have HW := hide hw
  clear hne hk hkk hg hr hl hw ka h2 hfit
  go_enter Tryd.func26, Tryd.ntmps26
  go_wp2
  go_loopw [6, 7, 10] (fun _ _ i wr => ∃ j : Nat, j ≤ imn ∧ i = .int .i64 j ∧ wr.heap[g]? = some (.cells (bigA (over mem k (ni.take j)) y) 55 (0, 0)) ∧ w.grownBy wr (some g)) (fun _ _ i _ => imn - (intOf i).toNat)
  case atStart => exact ⟨0, Nat.zero_le _, rfl, by rw [List.take_zero, over_nil]; exact unhide HG, World.grownBy.refl _ _⟩
  case round =>
    obtain ⟨j, hj, rfl, hrow, hgr⟩ := hrel
    have RW := hide hrow
    have GRW := hide hgr
    clear hrow hgr
    by_cases hlt : j < imn
    · have hl := unhide HL
      have hwj := wdB_at (unhide HW) (k := j) (by omega)
      rcases (unhide HR).pastR (unhide GRW) (fun b e => by cases e; exact unhide HNE) with e0 | ⟨b, off, rfl, hbl, hcl⟩
      · rw [e0] at hl; simp at hl; omega
      have hc := hcl j (by omega)
      have hlen : (over mem k (ni.take j)).length = 256 := by rw [over_len _ _ _ (by rw [hm, List.length_take]; omega), hm]
      have ka := unhide KA
      have W := hide (setWord_any g (a + 2 * (j : Int)) (nAt ni j) (over mem k (ni.take j)) y wr (by omega) (by omega) hlen (unhide RW))
      have e1 : ((a + 2 * (j : Int)) / 2).toNat = k + j := by omega
      have e2 : nAt ni j % 65536 = nAt ni j := by omega
      rw [e1, e2, over_set mem ni k j (by omega) (by omega)] at W
      clear hcl hbl hl e1 e2 hlen hwj
      generalize nAt ni j = q at hc W
      have KA2 := hide ka
      clear ka
      go_wp2_with fail
      refine (unhide W).mono ?_
      rintro e w2 ⟨rfl, r2, g2⟩
      have R2 := hide r2
      have G2 := hide (grownBy_trans (unhide GRW) g2)
      clear r2 g2
      go_wp2
      go_roundw
      case rel => exact ⟨j + 1, by omega, by go_num, unhide R2, unhide G2⟩
      case measure => simp [intOf]; omega
    · obtain rfl : j = imn := by omega
      have hl := unhide HL
      go_wp2
      go_end0
      refine ⟨rfl, ?_, unhide GRW⟩
      have := unhide RW
      rw [List.take_of_length_le (by omega)] at this
      exact this
end Go.Proofs.YtboedaofbchdkaaDoor

namespace Go.Proofs.YtboedaofbchdkaaDoor
open Go.ChangeShapes Go.WideShapes Go.ChangeAt Go.RowKit
set_option linter.unusedVariables false
set_option maxRecDepth 8000
set_option linter.unusedSimpArgs false
theorem laid_z : laidM (List.replicate 256 0) z256 = z256 := by
  unfold laidM
  rw [List.length_replicate, List.take_of_length_le (by rw [List.length_replicate]; omega), List.drop_eq_nil_of_le (by rw [z256_len]; omega), List.append_nil]
  rfl
theorem wp_alloc60 {o : Oper} {a : Act} {w : World} {K : Act → World → Prop} {Q : Exit → Act → World → Prop} (ho : o.op = .alloc 55) (h : K (a.put o.dst (.pointer (some ⟨w.heap.size, 0, none⟩))) (w.alloc (.cells (bigA z256 zMv) 55))) : o.wp Tryd.prog a w K Q := by
  have hz := (zero_of_info info60).1
  unfold Oper.wp execOp
  simp only [ho, Instr.alloc, hz, Sem.run_bind, Sem.run_pure, Result.andThen_ok]
  simp [go_sem]
  exact h
theorem wp_call37 {o : Oper} {a : Act} {w : World} {K : Act → World → Prop} {Q : Exit → Act → World → Prop} (x : Operand) (ho : o.op = .call { callee := .value (.func 25), args := #[x], argTypes := #[32] }) (v : Value) (hv : a.eval x = v) (R : Value → World → Prop)
    (hc : Calls Tryd.prog 25 #[v] w fun e w' => ∃ u, e = .returned u ∧ R u w') (h : ∀ u w', R u w' → K (a.put o.dst u) w') : o.wp Tryd.prog a w K Q := by
  have hrun : (execOp a.eval o).run Tryd.prog w = .ok (.enter 25 #[v]) w := by
    have he : a.eval (.func 25) = .func (.func 25) #[] #[] := rfl
    unfold execOp
    simp only [ho, resolve, he, List.map_toArray, List.map_cons, List.map_nil, hv]
    simp [go_sem]
  unfold Oper.wp
  rw [hrun, Oper.upon_enter]
  refine hc.mono ?_
  rintro e w' ⟨u, rfl, hu⟩
  exact h u w' hu
/-- The machine that is handed over to be copied. -/
def xOf (s0 s1 ins : Sl) : Mv := ⟨s0, s1, false, false, false, false, ins, ⟨none, 0, 0⟩, 0⟩
structure Iq (w : World) (ins : Sl) (nn : List Int) (w' : World) (b0 b1 b2 b3 b4 b5 : Bool) (v9 v41 v42 v43 v44 v45 : Value) : Prop where
  bel : Below (w.heap.size + 1) (w.alloc (.cells zMv.cs 32)) w'
  h0 : b0 = true → ∃ g, v41 = (Sl.mk (some ⟨g, 0, none⟩) 256 256).v ∧ w'.heap[g]? = some (.cells (zA 256) 3 (0, 0))
  h1 : b1 = true → ∃ g, v42 = (Sl.mk (some ⟨g, 0, none⟩) 8 8).v ∧ w'.heap[g]? = some (.cells (zA 8) 3 (0, 0))
  h2 : b2 = true → v43 = ins.v
  h3 : b3 = true → ∃ s0 s1 : Sl, v41 = s0.v ∧ v42 = s1.v ∧ v44 = .agg (xOf s0 s1 ins).cs
  h4 : b4 = true → ∃ y : Mv, v45 = .agg (bigA z256 y) ∧ y.fl = zMv.fl ∧ OwnM w' (w.heap.size + 1) y ⟨List.replicate 256 0, List.replicate 8 0, nn, []⟩ ∧ (b5 = true → ∀ b, y.at b → v9 ≠ .pointer (some ⟨b, 0, none⟩))
  h5 : b5 = true → ∃ g, v9 = .pointer (some ⟨g, 0, none⟩) ∧ w.heap.size < g ∧ w'.heap[g]? = some (.cells (bigA z256 zMv) 55 (0, 0))
/-- What stands at its end. -/
structure Ih (w w' : World) (nn : List Int) (v9 : Value) (g9 : Nat) (mem : List Int) (y : Mv) (d : Md) : Prop where
  bel : Below (w.heap.size + 1) (w.alloc (.cells zMv.cs 32)) w'
  p9 : v9 = .pointer (some ⟨g9, 0, none⟩)
  l9 : w.heap.size < g9
  r9 : w'.heap[g9]? = some (.cells (bigA mem y) 55 (0, 0))
  own : OwnM w' (w.heap.size + 1) y d
  fl : y.fl = zMv.fl
  ne : ∀ b, y.at b → b ≠ g9
section
variable {w w' : World} {ins : Sl} {nn : List Int} {b0 b1 b2 b3 b4 b5 : Bool} {v9 v41 v42 v43 v44 v45 : Value}
theorem Iq.low (J : Iq w ins nn w' b0 b1 b2 b3 b4 b5 v9 v41 v42 v43 v44 v45) : Below w.heap.size w w' := (below_new w (.cells zMv.cs 32)).trans (J.bel.mono (by omega))
theorem Iq.size (J : Iq w ins nn w' b0 b1 b2 b3 b4 b5 v9 v41 v42 v43 v44 v45) : w.heap.size + 1 ≤ w'.heap.size := by have := J.bel.size; have := alloc_size w (.cells zMv.cs 32); omega
/-- All stays behind what makes memory. -/
theorem Iq.later {w2 : World} (J : Iq w ins nn w' b0 b1 b2 b3 b4 b5 v9 v41 v42 v43 v44 v45) (hb : Below w'.heap.size w' w2) : Iq w ins nn w2 b0 b1 b2 b3 b4 b5 v9 v41 v42 v43 v44 v45 := by
  refine ⟨J.bel.trans (hb.mono J.size), fun h => ?_, fun h => ?_, J.h2, J.h3, fun h => ?_, fun h => ?_⟩
  · obtain ⟨g, e, r⟩ := J.h0 h; exact ⟨g, e, row_lat r hb⟩
  · obtain ⟨g, e, r⟩ := J.h1 h; exact ⟨g, e, row_lat r hb⟩
  · obtain ⟨y, e, f, o, n⟩ := J.h4 h; exact ⟨y, e, f, o.later hb, n⟩
  · obtain ⟨g, e, l, r⟩ := J.h5 h; exact ⟨g, e, l, row_lat r hb⟩
theorem Iq.op0 (J : Iq w ins nn w' b0 b1 b2 false b4 b5 v9 v41 v42 v43 v44 v45) : Iq w ins nn (w'.alloc (.cells (zA 256) 3)) true b1 b2 false b4 b5 v9 (.slice (some ⟨w'.heap.size, 0, none⟩) 256 256) v42 v43 v44 v45 :=
  { (J.later (below_new _ _)) with h0 := fun _ => ⟨_, rfl, heap_alloc_last w' _⟩, h3 := fun h => no h }
theorem Iq.op1 (J : Iq w ins nn w' b0 b1 b2 false b4 b5 v9 v41 v42 v43 v44 v45) : Iq w ins nn (w'.alloc (.cells (zA 8) 3)) b0 true b2 false b4 b5 v9 v41 (.slice (some ⟨w'.heap.size, 0, none⟩) 8 8) v43 v44 v45 :=
  { (J.later (below_new _ _)) with h1 := fun _ => ⟨_, rfl, heap_alloc_last w' _⟩, h3 := fun h => no h }
theorem Iq.op2 (J : Iq w ins nn w' b0 b1 b2 false b4 b5 v9 v41 v42 v43 v44 v45) : Iq w ins nn w' b0 b1 true false b4 b5 v9 v41 v42 ins.v v44 v45 :=
  { J with h2 := fun _ => rfl, h3 := fun h => no h }
theorem Iq.op3 (J : Iq w ins nn w' b0 b1 b2 b3 b4 b5 v9 v41 v42 v43 v44 v45) {s0 s1 : Sl} (e0 : v41 = s0.v) (e1 : v42 = s1.v) : Iq w ins nn w' b0 b1 b2 true b4 b5 v9 v41 v42 v43 (.agg (xOf s0 s1 ins).cs) v45 :=
  { J with h3 := fun _ => ⟨s0, s1, e0, e1, rfl⟩ }
theorem Iq.op4 (J : Iq w ins nn w' b0 b1 b2 b3 b4 b5 v9 v41 v42 v43 v44 v45) {w2 : World} (hb : Below w'.heap.size w' w2) {y : Mv} (fy : y.fl = zMv.fl) (oy : OwnM w2 (w'.heap.size + 2) y ⟨List.replicate 256 0, List.replicate 8 0, nn, []⟩) : Iq w ins nn w2 b0 b1 b2 b3 true b5 v9 v41 v42 v43 v44 (.agg (bigA z256 y)) :=
  { (J.later hb) with h4 := fun _ => ⟨y, rfl, fy, oy.base (by have := J.size; omega), fun h b hb' e => by
      obtain ⟨g, e', l, r⟩ := J.h5 h
      rw [e'] at e
      have h1 := row_lt r
      have h2 := (oy.lo hb').1
      have e3 : g = b := by
        injection e with e1
        injection e1 with e2
        injection e2
      omega⟩ }
theorem Iq.op5 (J : Iq w ins nn w' b0 b1 b2 b3 b4 b5 v9 v41 v42 v43 v44 v45) : Iq w ins nn (w'.alloc (.cells (bigA z256 zMv) 55)) b0 b1 b2 b3 b4 true (.pointer (some ⟨w'.heap.size, 0, none⟩)) v41 v42 v43 v44 v45 := by
  have K := J.later (below_new w' (.cells (bigA z256 zMv) 55))
  refine { K with h4 := fun h => ?_, h5 := fun _ => ⟨_, rfl, by have := J.size; omega, heap_alloc_last w' _⟩ }
  obtain ⟨y, e, f, o, n⟩ := J.h4 h
  refine ⟨y, e, f, o.later (below_new _ _), fun _ b hb e' => ?_⟩
  have := (o.lo hb).2
  have e3 : w'.heap.size = b := by
    injection e' with e1
    injection e1 with e2
    injection e2
  omega
theorem Iq.op6 (J : Iq w ins nn w' b0 b1 b2 b3 true true v9 v41 v42 v43 v44 v45) : ∃ (g9 : Nat) (y : Mv), v9 = .pointer (some ⟨g9, 0, none⟩) ∧ v45 = .agg (bigA z256 y) ∧ w'.heap[g9]? = some (.cells (bigA z256 zMv) 55 (0, 0)) ∧ Ih w (w'.setRow g9 (bigA z256 y)) nn v9 g9 z256 y ⟨List.replicate 256 0, List.replicate 8 0, nn, []⟩ := by
  obtain ⟨y, e, f, o, n⟩ := J.h4 rfl
  obtain ⟨g, e', l, r⟩ := J.h5 rfl
  have hne : ∀ b, y.at b → b ≠ g := fun b hb e2 => n rfl b hb (by rw [e', e2])
  exact ⟨g, y, e', e, r, below_setRow J.bel (by omega) _, e', l, setRow_heap w' g _ _ 55 _ r, o.keepH fun b hb _ => setRow_other w' g b _ (hne b hb), f, hne⟩
end
structure Dq (f : Nat → Bool) : Prop where
  d3 : f 3 = true → f 0 = true ∧ f 1 = true ∧ f 2 = true
  d4 : f 4 = true → f 3 = true
  d6 : f 6 = true → f 0 = true ∧ f 1 = true ∧ f 2 = true ∧ f 3 = true ∧ f 4 = true ∧ f 5 = true
theorem dq_new : Dq (fun _ => false) := ⟨fun h => no h, fun h => no h, fun h => no h⟩
def Jq (w : World) (ins : Sl) (nn : List Int) (w' : World) (f : Nat → Bool) (v9 v41 v42 v43 v44 v45 : Value) : Prop :=
  Dq f ∧ (f 6 = false → Iq w ins nn w' (f 0) (f 1) (f 2) (f 3) (f 4) (f 5) v9 v41 v42 v43 v44 v45) ∧ (f 6 = true → ∃ (g9 : Nat) (y : Mv), Ih w w' nn v9 g9 z256 y ⟨List.replicate 256 0, List.replicate 8 0, nn, []⟩)
section
variable {w w' : World} {ins : Sl} {nn : List Int} {f : Nat → Bool} {v9 v41 v42 v43 v44 v45 : Value}
theorem jq_new (h : Below (w.heap.size + 1) (w.alloc (.cells zMv.cs 32)) w') : Jq w ins nn w' (fun _ => false) v9 v41 v42 v43 v44 v45 :=
  ⟨dq_new, fun _ => ⟨h, fun h => no h, fun h => no h, fun h => no h, fun h => no h, fun h => no h, fun h => no h⟩, fun h => no h⟩
theorem Jq.op0 (J : Jq w ins nn w' f v9 v41 v42 v43 v44 v45) (hf : f 0 = false) : Jq w ins nn (w'.alloc (.cells (zA 256) 3)) (fun j => if j = 0 then true else f j) v9 (.slice (some ⟨w'.heap.size, 0, none⟩) 256 256) v42 v43 v44 v45 := by
  have f3 := f_no (fun h => (J.1.d3 h).1) hf
  have f6 := f_no (fun h => (J.1.d6 h).1) hf
  have i := J.2.1 f6
  rw [f3] at i
  refine ⟨⟨fun h => ⟨rfl, (J.1.d3 h).2⟩, J.1.d4, fun h => ⟨rfl, (J.1.d6 h).2⟩⟩, fun _ => ?_, fun h => no (f6.symm.trans h)⟩
  show Iq w ins nn _ true (f 1) (f 2) (f 3) (f 4) (f 5) _ _ _ _ _ _
  rw [f3]
  exact i.op0
theorem Jq.op1 (J : Jq w ins nn w' f v9 v41 v42 v43 v44 v45) (hf : f 1 = false) : Jq w ins nn (w'.alloc (.cells (zA 8) 3)) (fun j => if j = 1 then true else f j) v9 v41 (.slice (some ⟨w'.heap.size, 0, none⟩) 8 8) v43 v44 v45 := by
  have f3 := f_no (fun h => (J.1.d3 h).2.1) hf
  have f6 := f_no (fun h => (J.1.d6 h).2.1) hf
  have i := J.2.1 f6
  rw [f3] at i
  refine ⟨⟨fun h => ⟨(J.1.d3 h).1, rfl, (J.1.d3 h).2.2⟩, J.1.d4, fun h => ⟨(J.1.d6 h).1, rfl, (J.1.d6 h).2.2⟩⟩, fun _ => ?_, fun h => no (f6.symm.trans h)⟩
  show Iq w ins nn _ (f 0) true (f 2) (f 3) (f 4) (f 5) _ _ _ _ _ _
  rw [f3]
  exact i.op1
theorem Jq.op2 (J : Jq w ins nn w' f v9 v41 v42 v43 v44 v45) (hf : f 2 = false) : Jq w ins nn w' (fun j => if j = 2 then true else f j) v9 v41 v42 (.slice ins.a ins.n ins.c) v44 v45 := by
  have f3 := f_no (fun h => (J.1.d3 h).2.2) hf
  have f6 := f_no (fun h => (J.1.d6 h).2.2.1) hf
  have i := J.2.1 f6
  rw [f3] at i
  refine ⟨⟨fun h => ⟨(J.1.d3 h).1, (J.1.d3 h).2.1, rfl⟩, J.1.d4, fun h => ⟨(J.1.d6 h).1, (J.1.d6 h).2.1, rfl, (J.1.d6 h).2.2.2⟩⟩, fun _ => ?_, fun h => no (f6.symm.trans h)⟩
  show Iq w ins nn _ (f 0) (f 1) true (f 3) (f 4) (f 5) _ _ _ _ _ _
  rw [f3]
  exact i.op2
theorem Jq.at3 (J : Jq w ins nn w' f v9 v41 v42 v43 v44 v45) (hf : f 3 = false) (h0 : f 0 = true) (h1 : f 1 = true) (h2 : f 2 = true) : ∃ s0 s1 : Sl, v41 = s0.v ∧ v42 = s1.v ∧ v43 = ins.v ∧ Jq w ins nn w' (fun j => if j = 3 then true else f j) v9 v41 v42 v43 (.agg (xOf s0 s1 ins).cs) v45 := by
  have f6 := f_no (fun h => (J.1.d6 h).2.2.2.1) hf
  have i := J.2.1 f6
  obtain ⟨g, e0, _⟩ := i.h0 h0
  obtain ⟨g', e1, _⟩ := i.h1 h1
  exact ⟨_, _, e0, e1, i.h2 h2, ⟨fun _ => ⟨h0, h1, h2⟩, fun _ => rfl, fun h => no (f6.symm.trans h)⟩, fun _ => i.op3 e0 e1, fun h => no (f6.symm.trans h)⟩
theorem Jq.at4 (J : Jq w ins nn w' f v9 v41 v42 v43 v44 v45) (hf : f 4 = false) (h3 : f 3 = true) (hn : RdN w ins.a nn) (ln : nn.length = ins.n) : ∃ x : Mv, v44 = .agg x.cs ∧ x.fl = zMv.fl ∧ RdM w' x ⟨List.replicate 256 0, List.replicate 8 0, nn, []⟩ ∧ (ins.nz → x.nz) ∧ (ins.n ≤ 1048576 → x.small) ∧
    ∀ (y : Mv) (w2 : World), y.fl = x.fl → OwnM w2 (w'.heap.size + 2) y ⟨List.replicate 256 0, List.replicate 8 0, nn, []⟩ → Below w'.heap.size w' w2 → Jq w ins nn w2 (fun j => if j = 4 then true else f j) v9 v41 v42 v43 v44 (.agg (bigA z256 y)) := by
  obtain ⟨h0, h1, h2⟩ := J.1.d3 h3
  have f6 := f_no (fun h => (J.1.d6 h).2.2.2.2.1) hf
  have i := J.2.1 f6
  obtain ⟨s0, s1, e0, e1, e44⟩ := i.h3 h3
  obtain ⟨g0, e0', r0⟩ := i.h0 h0
  obtain ⟨g1, e1', r1⟩ := i.h1 h1
  have q0 : s0 = ⟨some ⟨g0, 0, none⟩, 256, 256⟩ := by rw [e0] at e0'; cases s0; unfold Sl.v at e0'; simp at e0'; obtain ⟨rfl, rfl, rfl⟩ := e0'; rfl
  have q1 : s1 = ⟨some ⟨g1, 0, none⟩, 8, 8⟩ := by rw [e1] at e1'; cases s1; unfold Sl.v at e1'; simp at e1'; obtain ⟨rfl, rfl, rfl⟩ := e1'; rfl
  have n0 := (own_made (n := 256) r0 (Nat.zero_le _) (by omega))
  have n1 := (own_made (n := 8) r1 (Nat.zero_le _) (by omega))
  refine ⟨xOf s0 s1 ins, e44, rfl, ?_, ?_, ?_, fun y w2 fy oy hb => ⟨⟨J.1.d3, fun _ => h3, fun h => no (f6.symm.trans h)⟩, fun _ => i.op4 hb fy oy, fun h => no (f6.symm.trans h)⟩⟩
  · subst q0 q1
    exact ⟨n0.rd1, n1.rd1, hn.later i.low, .inl rfl, List.length_replicate .., List.length_replicate .., ln, rfl⟩
  · intro hz
    subst q0 q1
    exact ⟨fun e => by (cases e), fun e => by (cases e), hz, fun _ => rfl⟩
  · intro hz
    subst q0 q1
    exact ⟨by show 256 ≤ 1048576; omega, by show 8 ≤ 1048576; omega, hz, by show 0 ≤ 1048576; omega⟩
theorem Jq.op5 (J : Jq w ins nn w' f v9 v41 v42 v43 v44 v45) (hf : f 5 = false) : Jq w ins nn (w'.alloc (.cells (bigA z256 zMv) 55)) (fun j => if j = 5 then true else f j) (.pointer (some ⟨w'.heap.size, 0, none⟩)) v41 v42 v43 v44 v45 := by
  have f6 := f_no (fun h => (J.1.d6 h).2.2.2.2.2) hf
  have i := J.2.1 f6
  exact ⟨⟨J.1.d3, J.1.d4, fun h => no (f6.symm.trans h)⟩, fun _ => i.op5, fun h => no (f6.symm.trans h)⟩
theorem Jq.at6 (J : Jq w ins nn w' f v9 v41 v42 v43 v44 v45) (hf : f 6 = false) (h4 : f 4 = true) (h5 : f 5 = true) : ∃ (g9 : Nat) (y : Mv), v9 = .pointer (some ⟨g9, 0, none⟩) ∧ v45 = .agg (bigA z256 y) ∧ w'.heap[g9]? = some (.cells (bigA z256 zMv) 55 (0, 0)) ∧ Jq w ins nn (w'.setRow g9 (bigA z256 y)) (fun j => if j = 6 then true else f j) v9 v41 v42 v43 v44 v45 := by
  have h3 := J.1.d4 h4
  obtain ⟨h0, h1, h2⟩ := J.1.d3 h3
  have i := J.2.1 hf
  rw [h4, h5] at i
  obtain ⟨g9, y, e1, e2, r, k⟩ := i.op6
  exact ⟨g9, y, e1, e2, r, ⟨J.1.d3, J.1.d4, fun _ => ⟨h0, h1, h2, h3, h4, h5⟩⟩, fun h => no h.symm, fun _ => ⟨g9, y, k⟩⟩
end
end Go.Proofs.YtboedaofbchdkaaDoor

namespace Go.Proofs.YtboedaofbchdkaaDoor
open Go.ChangeShapes Go.WideShapes Go.ChangeAt Go.RowKit
set_option linter.unusedVariables false
set_option maxRecDepth 8000
set_option linter.unusedSimpArgs false
theorem newB_ad (im : List Int) (a st : Int) (ins : List Int) : newB im a st ins = (adB a && (decide ((im.length : Int) ≤ 256 - a / 2) && (wdB im && (inB st 0 65535 && (decide ((ins.length : Int) ≤ 50) && wdB ins))))) := by
  unfold newB adB
  rw [Bool.and_assoc]
theorem sl_form {w : World} {B : Nat} {s : Sl} {ns : List Int} (h : OwnN w B s.v ns) (h0 : 0 < ns.length) : ∃ g c, s = ⟨some ⟨g, 0, none⟩, ns.length, c⟩ := by
  obtain ⟨sa, sn, sc⟩ := s
  rcases h.form with ⟨_, e0⟩ | ⟨g, cap, e, _⟩
  · rw [e0] at h0; simp at h0
  · unfold Sl.v at e
    simp at e
    exact ⟨g, cap, by rw [e.1, e.2.1, e.2.2]⟩
theorem Ih.setR {w wr : World} {nn mem : List Int} {v9 : Value} {y : Mv} {g9 gr n c : Nat} {d : Md} (h : Ih w wr nn v9 g9 mem y d) (hm : y.r = ⟨some ⟨gr, 0, none⟩, n, c⟩) (k : Nat) (v : Int) (hk : k < d.r.length) : Ih w (wr.setCell ⟨gr, k, none⟩ (.int .i64 v)) nn v9 g9 mem y ⟨d.m, d.r.set k v, d.i, d.o⟩ := by
  have e : y.r.v = .slice (some ⟨gr, 0, none⟩) n c := by rw [hm]; rfl
  have o := h.own.r
  rw [e] at o
  have s := o.set k v hk
  have hat : y.at gr := .inr (.inl (by rw [e]; rfl))
  have := h.own.lo hat
  exact ⟨h.bel.setCell (p := ⟨gr, k, none⟩) this.1 _, h.p9, h.l9, row_keep h.r9 (fun e => h.ne gr hat e.symm), h.own.putR (by rw [e]; exact s.2) (by rw [e]; exact s.1), h.fl, h.ne⟩
theorem Ih.cellR {w wr : World} {nn mem : List Int} {v9 : Value} {y : Mv} {g9 gr n c : Nat} {d : Md} (h : Ih w wr nn v9 g9 mem y d) (hm : y.r = ⟨some ⟨gr, 0, none⟩, n, c⟩) (k : Nat) (hk : k < d.r.length) : wr.cell? ⟨gr, k, none⟩ = some (.int .i64 (nAt d.r k)) ∧ wr.frozen? ⟨gr, k, none⟩ = false := by
  have o := h.own.r
  rw [hm] at o
  exact OwnN.cellAt (b := gr) (n := n) (cap := c) o k hk
theorem Ih.re {w wr : World} {nn mem : List Int} {v9 : Value} {y : Mv} {g9 : Nat} {d : Md} (h : Ih w wr nn v9 g9 mem y d) : wr.heap[w.heap.size]? = some (.cells zMv.cs 32 (0, 0)) := (h.bel.block w.heap.size (by omega)).trans (heap_alloc_last w _)
theorem Ih.low {w wr : World} {nn mem : List Int} {v9 : Value} {y : Mv} {g9 : Nat} {d : Md} (h : Ih w wr nn v9 g9 mem y d) : Below w.heap.size w wr := (below_new w (.cells zMv.cs 32)).trans (h.bel.mono (by omega))
set_option maxHeartbeats 4000000 in
theorem newI_no (im ins : Sl) (ni nn : List Int) (a st : Int) (w : World) (hi : RdN w im.a ni) (hn : RdN w ins.a nn) (li : ni.length = im.n) (ln : nn.length = ins.n) (si : im.n ≤ 1048576) (sn : ins.n ≤ 1048576) (hb : newB ni a st nn = false) :
    Calls Tryd.prog 10 #[.slice im.a im.n im.c, .int .i64 a, .int .i64 st, .slice ins.a ins.n ins.c] w fun e w' => e = .returned (.agg zMv.cs) ∧ Below w.heap.size w w' := by
  have HB := hide (below_new w (.cells #[Value.slice none 0 0, Value.slice none 0 0, Value.bool false, Value.bool false, Value.bool false, Value.bool false, Value.slice none 0 0, Value.slice none 0 0, Value.int .i64 0] 32))
  have HB2 := hide (below_new w (.cells zMv.cs 32))
  have W0 := hide (wordsI_any im.a im.n im.c ni _ li (by omega) (hi.later (unhide HB)))
  have W1 := hide (wordsI_any ins.a ins.n ins.c nn _ ln (by omega) (hn.later (unhide HB)))
  have I0 := hide (fun w => isAddr_any a w)
  have I1 := hide (fun w => isWord_any st w)
  rw [newB_ad, li, ln] at hb
  clear hi hn
  have IB := hide (adB_t (a := a))
  generalize wdB ni = b2 at W0 hb
  generalize wdB nn = b4 at W1 hb
  generalize adB a = b0 at I0 hb IB
  generalize inB st 0 65535 = b3 at I1 hb
  cases b0
  · clear hb
    go_enter Tryd.func10, Tryd.ntmps10
    go_wp2_with (first | (go_at_call 22; refine (unhide I0 _).mono ?_; rintro e w' ⟨rfl, rfl⟩) | (go_at_call 24; refine (unhide I1 _).mono ?_; rintro e w' ⟨rfl, rfl⟩) | (go_at_call_of 23 (Value.slice im.a im.n im.c); refine (unhide W0).mono ?_; rintro e w' ⟨rfl, rfl⟩) | (go_at_call_of 23 (Value.slice ins.a ins.n ins.c); refine (unhide W1).mono ?_; rintro e w' ⟨rfl, rfl⟩) | (refine wpList_store_new rfl 32 _ _ rfl zMv.cs rfl rfl _ (by kernel_rfl) rfl (Mv.cs_one _) ?_))
    refine bodyPost_ret (results_cell_row (P := Tryd.prog) rfl _ _ w.heap.size 32 zMv.cs (0, 0) _ rfl (heap_alloc_last w _) Tryd.underlying32 rfl (by kernel_rfl)) rfl ?_
    exact ⟨rfl, unhide HB2⟩
  obtain ⟨a0, a1, h1⟩ := unhide IB (by trivial)
  clear IB
  have g0 : 0 ≤ a % 2 := by omega
  have g1 : a % 2 ≤ 0 := by omega
  clear h1
  by_cases h2 : (im.n : Int) ≤ 256 - a / 2
  rotate_left
  · clear hb
    go_enter Tryd.func10, Tryd.ntmps10
    go_wp2_with (first | (go_at_call 22; refine (unhide I0 _).mono ?_; rintro e w' ⟨rfl, rfl⟩) | (go_at_call 24; refine (unhide I1 _).mono ?_; rintro e w' ⟨rfl, rfl⟩) | (go_at_call_of 23 (Value.slice im.a im.n im.c); refine (unhide W0).mono ?_; rintro e w' ⟨rfl, rfl⟩) | (go_at_call_of 23 (Value.slice ins.a ins.n ins.c); refine (unhide W1).mono ?_; rintro e w' ⟨rfl, rfl⟩) | (refine wpList_store_new rfl 32 _ _ rfl zMv.cs rfl rfl _ (by kernel_rfl) rfl (Mv.cs_one _) ?_))
    refine bodyPost_ret (results_cell_row (P := Tryd.prog) rfl _ _ w.heap.size 32 zMv.cs (0, 0) _ rfl (heap_alloc_last w _) Tryd.underlying32 rfl (by kernel_rfl)) rfl ?_
    exact ⟨rfl, unhide HB2⟩
  rw [decide_eq_true h2] at hb
  cases b2
  · clear hb
    go_enter Tryd.func10, Tryd.ntmps10
    go_wp2_with (first | (go_at_call 22; refine (unhide I0 _).mono ?_; rintro e w' ⟨rfl, rfl⟩) | (go_at_call 24; refine (unhide I1 _).mono ?_; rintro e w' ⟨rfl, rfl⟩) | (go_at_call_of 23 (Value.slice im.a im.n im.c); refine (unhide W0).mono ?_; rintro e w' ⟨rfl, rfl⟩) | (go_at_call_of 23 (Value.slice ins.a ins.n ins.c); refine (unhide W1).mono ?_; rintro e w' ⟨rfl, rfl⟩) | (refine wpList_store_new rfl 32 _ _ rfl zMv.cs rfl rfl _ (by kernel_rfl) rfl (Mv.cs_one _) ?_))
    refine bodyPost_ret (results_cell_row (P := Tryd.prog) rfl _ _ w.heap.size 32 zMv.cs (0, 0) _ rfl (heap_alloc_last w _) Tryd.underlying32 rfl (by kernel_rfl)) rfl ?_
    exact ⟨rfl, unhide HB2⟩
  cases b4
  · clear hb
    go_enter Tryd.func10, Tryd.ntmps10
    go_wp2_with (first | (go_at_call 22; refine (unhide I0 _).mono ?_; rintro e w' ⟨rfl, rfl⟩) | (go_at_call 24; refine (unhide I1 _).mono ?_; rintro e w' ⟨rfl, rfl⟩) | (go_at_call_of 23 (Value.slice im.a im.n im.c); refine (unhide W0).mono ?_; rintro e w' ⟨rfl, rfl⟩) | (go_at_call_of 23 (Value.slice ins.a ins.n ins.c); refine (unhide W1).mono ?_; rintro e w' ⟨rfl, rfl⟩) | (refine wpList_store_new rfl 32 _ _ rfl zMv.cs rfl rfl _ (by kernel_rfl) rfl (Mv.cs_one _) ?_))
    refine bodyPost_ret (results_cell_row (P := Tryd.prog) rfl _ _ w.heap.size 32 zMv.cs (0, 0) _ rfl (heap_alloc_last w _) Tryd.underlying32 rfl (by kernel_rfl)) rfl ?_
    exact ⟨rfl, unhide HB2⟩
  cases b3
  · clear hb
    go_enter Tryd.func10, Tryd.ntmps10
    go_wp2_with (first | (go_at_call 22; refine (unhide I0 _).mono ?_; rintro e w' ⟨rfl, rfl⟩) | (go_at_call 24; refine (unhide I1 _).mono ?_; rintro e w' ⟨rfl, rfl⟩) | (go_at_call_of 23 (Value.slice im.a im.n im.c); refine (unhide W0).mono ?_; rintro e w' ⟨rfl, rfl⟩) | (go_at_call_of 23 (Value.slice ins.a ins.n ins.c); refine (unhide W1).mono ?_; rintro e w' ⟨rfl, rfl⟩) | (refine wpList_store_new rfl 32 _ _ rfl zMv.cs rfl rfl _ (by kernel_rfl) rfl (Mv.cs_one _) ?_))
    refine bodyPost_ret (results_cell_row (P := Tryd.prog) rfl _ _ w.heap.size 32 zMv.cs (0, 0) _ rfl (heap_alloc_last w _) Tryd.underlying32 rfl (by kernel_rfl)) rfl ?_
    exact ⟨rfl, unhide HB2⟩
  by_cases h4 : (ins.n : Int) ≤ 50
  rotate_left
  · clear hb
    go_enter Tryd.func10, Tryd.ntmps10
    go_wp2_with (first | (go_at_call 22; refine (unhide I0 _).mono ?_; rintro e w' ⟨rfl, rfl⟩) | (go_at_call 24; refine (unhide I1 _).mono ?_; rintro e w' ⟨rfl, rfl⟩) | (go_at_call_of 23 (Value.slice im.a im.n im.c); refine (unhide W0).mono ?_; rintro e w' ⟨rfl, rfl⟩) | (go_at_call_of 23 (Value.slice ins.a ins.n ins.c); refine (unhide W1).mono ?_; rintro e w' ⟨rfl, rfl⟩) | (refine wpList_store_new rfl 32 _ _ rfl zMv.cs rfl rfl _ (by kernel_rfl) rfl (Mv.cs_one _) ?_))
    refine bodyPost_ret (results_cell_row (P := Tryd.prog) rfl _ _ w.heap.size 32 zMv.cs (0, 0) _ rfl (heap_alloc_last w _) Tryd.underlying32 rfl (by kernel_rfl)) rfl ?_
    exact ⟨rfl, unhide HB2⟩
  rw [decide_eq_true h4] at hb
  simp at hb
set_option maxHeartbeats 4000000 in
theorem newI_yes (im ins : Sl) (ni nn : List Int) (a st : Int) (w : World) (hi : RdN w im.a ni) (hn : RdN w ins.a nn) (li : ni.length = im.n) (ln : nn.length = ins.n) (nz : ins.nz) (hb : newB ni a st nn = true) :
    Calls Tryd.prog 10 #[.slice im.a im.n im.c, .int .i64 a, .int .i64 st, .slice ins.a ins.n ins.c] w fun e w' => ∃ y : Mv, e = .returned (.agg y.cs) ∧ y.fl = zMv.fl ∧ OwnM w' (w.heap.size + 1) y ⟨over z256 (a / 2).toNat ni, newR st, nn, []⟩ ∧ Below w.heap.size w w' := by
  obtain ⟨p0, p1, p2, p3, p4, p5, p6⟩ := newB_parts hb
  have HB := hide (below_new w (.cells #[Value.slice none 0 0, Value.slice none 0 0, Value.bool false, Value.bool false, Value.bool false, Value.bool false, Value.slice none 0 0, Value.slice none 0 0, Value.int .i64 0] 32))
  obtain ⟨a0, a1⟩ := inB_b p0
  have W0 := hide (p3 ▸ wordsI_any im.a im.n im.c ni _ li (by omega) (hi.later (unhide HB)))
  have W1 := hide (p6 ▸ wordsI_any ins.a ins.n ins.c nn _ ln (by omega) (hn.later (unhide HB)))
  have I0 := hide (fun w => (adB_i a0 a1 p1) ▸ isAddr_any a w)
  have I1 := hide (fun w => p4 ▸ isWord_any st w)
  have HI := hide hi
  have HN := hide hn
  have LI := hide li
  have LN := hide ln
  have P1 := hide p1
  have P3 := hide p3
  rw [li] at p2
  rw [ln] at p5
  have g0 : 0 ≤ a % 2 := by omega
  have g1 : a % 2 ≤ 0 := by omega
  have NZ := hide nz
  have S50 := hide p5
  clear hi hn li ln p0 p1 p3 p4 p6 hb nz
  go_enter Tryd.func10, Tryd.ntmps10
  go_wp2_with (first | (go_at_call 22; refine (unhide I0 _).mono ?_; rintro e w' ⟨rfl, rfl⟩) | (go_at_call 24; refine (unhide I1 _).mono ?_; rintro e w' ⟨rfl, rfl⟩) | (go_at_call_of 23 (Value.slice im.a im.n im.c); refine (unhide W0).mono ?_; rintro e w' ⟨rfl, rfl⟩) | (go_at_call_of 23 (Value.slice ins.a ins.n ins.c); refine (unhide W1).mono ?_; rintro e w' ⟨rfl, rfl⟩))
  refine wp_region_inv (fun f a' w' => ∃ v9 v41 v42 v43 v44 v45 : Value, a' = ⟨#[_, _, _, _, _, _, _, _, _, v9, _, _, _, _, _, _, _, _, _, _, _, _, _, _, _, _, _, _, _, _, _, _, _, _, _, _, _, _, _, _, _, v41, v42, v43, v44, v45, _, _, _, _, _, _, _, _, _, _, _, _, _, _], []⟩ ∧ Jq w ins nn w' f v9 v41 v42 v43 v44 v45) (by kernel_rfl) ⟨undef, undef, undef, undef, undef, undef, rfl, jq_new ⟨rfl, rfl, rfl, Nat.le_refl _, fun _ _ => rfl⟩⟩ (by kernel_rfl) ?_ ?_
  · intro i o ho f a' w' hI hf hd K2 hK2
    obtain ⟨v9, v41, v42, v43, v44, v45, rfl, J⟩ := hI
    have hi8 : i < 7 := by have := (Array.getElem?_eq_some_iff.1 ho).1; simpa using this
    obtain rfl | rfl | rfl | rfl | rfl | rfl | rfl : i = 0 ∨ i = 1 ∨ i = 2 ∨ i = 3 ∨ i = 4 ∨ i = 5 ∨ i = 6 := by omega
    · obtain rfl := Option.some.inj ho
      rw [if_pos (by rfl)]
      refine wp_make 256 made256 (by omega) rfl ?_
      exact hK2 _ _ ⟨v9, _, v42, v43, v44, v45, rfl, J.op0 hf⟩
    · obtain rfl := Option.some.inj ho
      rw [if_pos (by rfl)]
      refine wp_make 8 made8 (by omega) rfl ?_
      exact hK2 _ _ ⟨v9, v41, _, v43, v44, v45, rfl, J.op1 hf⟩
    · obtain rfl := Option.some.inj ho
      rw [if_pos (by rfl)]
      refine wp_move _ rfl ?_
      exact hK2 _ _ ⟨v9, v41, v42, _, v44, v45, rfl, J.op2 hf⟩
    · obtain rfl := Option.some.inj ho
      rw [if_pos (by rfl)]
      obtain ⟨s0, s1, e0, e1, e2, J3⟩ := J.at3 hf (hd ⟨0, .data⟩ (by simp) rfl) (hd ⟨1, .data⟩ (by simp) rfl) (hd ⟨2, .data⟩ (by simp) rfl)
      refine wp_build28 _ _ _ rfl s0 s1 ins e0 e1 e2 ?_
      exact hK2 _ _ ⟨v9, v41, v42, v43, _, v45, rfl, J3⟩
    · obtain rfl := Option.some.inj ho
      rw [if_pos (by rfl)]
      obtain ⟨x, e44, fx, rx, zx, sx, step⟩ := J.at4 hf (hd ⟨3, .data⟩ (by simp) rfl) (unhide HN) (unhide LN)
      refine wp_call37 _ rfl (.agg x.cs) e44 (fun u w2 => ∃ y : Mv, u = .agg (bigA z256 y) ∧ y.fl = x.fl ∧ OwnM w2 (w'.heap.size + 2) y ⟨List.replicate 256 0, List.replicate 8 0, nn, []⟩ ∧ Below w'.heap.size w' w2) ?_ ?_
      · refine (machineOf_any x _ w' (sx (by have := unhide S50; omega)) (zx (unhide NZ)) rx).mono ?_
        rintro e w2 ⟨y, rfl, fy, oy, hb⟩
        refine ⟨_, rfl, y, ?_, fy, oy, hb⟩
        rw [laid_z]
      · rintro u w2 ⟨y, rfl, fy, oy, hb⟩
        exact hK2 _ _ ⟨v9, v41, v42, v43, v44, _, rfl, step y w2 fy oy hb⟩
    · obtain rfl := Option.some.inj ho
      rw [if_pos (by rfl)]
      refine wp_alloc60 rfl ?_
      exact hK2 _ _ ⟨_, v41, v42, v43, v44, v45, rfl, J.op5 hf⟩
    · obtain rfl := Option.some.inj ho
      rw [if_pos (by rfl)]
      obtain ⟨g9, y, e9, e45, r9, k⟩ := J.at6 hf (hd ⟨4, .data⟩ (by simp) rfl) (hd ⟨5, .data⟩ (by simp) rfl)
      refine wp_store_row 55 _ _ rfl g9 (bigA z256 y) e9 e45 55 (bigA z256 zMv) r9 (size60 y z256 z256_len) (by rw [bigA_size y z256_len, bigA_size zMv z256_len]) (bigA_one _ _) ?_
      exact hK2 _ _ ⟨v9, v41, v42, v43, v44, v45, rfl, k⟩
  · intro f a' w' hI hall
    obtain ⟨v9, v41, v42, v43, v44, v45, rfl, J⟩ := hI
    obtain ⟨g9, y, E⟩ := J.2.2 (hall 6 (by simp))
    have e9 := E.p9
    subst e9
    have EE := hide E
    have ld := (below_new w (.cells zMv.cs 32)).trans (E.bel.mono (by omega))
    have SW := hide (setWords_any g9 a im ni z256 y w' a0 a1 (unhide P1) (unhide LI) p2 (unhide P3) z256_len E.r9 ((unhide HI).later ld) (by
      rcases (unhide HI) with h0 | ⟨b, off, e, hb, _⟩
      · exact .inl h0
      · exact .inr fun ad e' => by rw [e] at e'; cases e'; have := E.l9; show b ≠ g9; omega))
    clear E J hall ld W0 W1 I0 I1 HB
    go_wp2_with fail
    refine (unhide SW).mono ?_
    rintro e w2 ⟨rfl, r2, g2⟩
    have E := unhide EE
    have n2 : Ih w w2 nn (.pointer (some ⟨g9, 0, none⟩)) g9 (over z256 (a / 2).toNat ni) y ⟨List.replicate 256 0, List.replicate 8 0, nn, []⟩ :=
      ⟨E.bel.grown g2 (by have := E.bel.size; have := alloc_size w (.cells zMv.cs 32); omega) (fun b e => by cases e; have := E.l9; omega), rfl, E.l9, r2, E.own.keepH fun b hb hl => g2.block b hl (by have := E.ne b hb; simp; omega), E.fl, E.ne⟩
    have N2 := hide n2
    have LE := hide (show (over z256 (a / 2).toNat ni).length = 256 by
      have h1 := unhide LI
      rw [over_len _ _ _ (by rw [z256_len]; omega), z256_len])
    clear r2 g2 SW EE n2 E
    obtain ⟨gr, rc, hgr⟩ : ∃ gr rc, y.r = ⟨some ⟨gr, 0, none⟩, 8, rc⟩ := by
      obtain ⟨g, c, e⟩ := sl_form (unhide N2).own.r (by simp)
      exact ⟨g, c, e⟩
    have hat : y.at gr := .inr (.inl (by rw [hgr]; rfl))
    have ng := (unhide N2).ne gr hat
    have ng2 : g9 ≠ gr := fun e => ng e.symm
    obtain ⟨c6, f6⟩ := (unhide N2).cellR hgr 6 (by simp)
    obtain ⟨c7, f7⟩ := (unhide N2).cellR hgr 7 (by simp)
    have c9 : w2.cell? ⟨g9, 257, none⟩ = some (.slice (some ⟨gr, 0, none⟩) 8 rc) := big_cell (unhide N2).r9 (unhide LE) 1 _ (show y.cs[1]? = some (.slice (some ⟨gr, 0, none⟩) 8 rc) by have e : y.cs[1]? = some y.r.v := rfl; rw [e, hgr]; rfl)
    have N3 := hide (((unhide N2).setR hgr 6 512 (by simp)).setR hgr 7 st (by simp))
    have AN := hide (answer_any g9 (w.heap.size + 1) _ y _ _ (unhide LE) (unhide N3).r9 (unhide N3).own (fun e => (unhide N3).ne g9 (.inl e.symm) rfl))
    clear hat hgr
    go_wp2_with fail
    refine (unhide AN).mono ?_
    rintro e w4 ⟨rfl, o4, g4⟩
    have e4 : (over z256 (a / 2).toNat ni).take (List.replicate 256 (0 : Int)).length ++ (List.replicate 256 (0 : Int)).drop 256 = over z256 (a / 2).toNat ni := by
      rw [List.length_replicate, List.take_of_length_le (by rw [unhide LE]; omega), List.drop_eq_nil_of_le (by rw [List.length_replicate]; omega), List.append_nil]
    have O4 := hide (show OwnM w4 (w.heap.size + 1) y ⟨over z256 (a / 2).toNat ni, newR st, nn, []⟩ by rw [← e4]; exact o4)
    have R4 := hide ((g4.block w.heap.size (row_lt (unhide N3).re) (own_ne (unhide N3).own.m (.inl (by omega)))).trans (unhide N3).re)
    have B4 := hide ((unhide N3).low.grown g4 (unhide N3).low.size (fun b e => by have := ((unhide N3).own.m.lt e).1; omega))
    have FL := hide (unhide N3).fl
    clear o4 g4 AN e4 N2 N3 c6 c7 f6 f7 c9
    go_wp2_with (refine wpList_store_row rfl 32 _ _ rfl w.heap.size y.cs rfl rfl 32 zMv.cs (unhide R4) (by kernel_rfl) rfl (Mv.cs_one _) ?_)
    refine bodyPost_ret (results_cell_row (P := Tryd.prog) rfl _ _ w.heap.size 32 y.cs (0, 0) _ rfl (setRow_heap _ _ _ _ 32 _ (unhide R4)) Tryd.underlying32 rfl (by kernel_rfl)) rfl ?_
    exact ⟨y, rfl, unhide FL, (unhide O4).row (by omega) _, below_setRow (unhide B4) (Nat.le_refl _) _⟩
end Go.Proofs.YtboedaofbchdkaaDoor

namespace Go.Proofs.YtboedaofbchdkaaDoor
open Go.ChangeShapes Go.WideShapes Go.ChangeAt Go.RowKit
set_option linter.unusedVariables false
set_option maxRecDepth 8000
set_option linter.unusedSimpArgs false
theorem newI_any (im ins : Sl) (ni nn : List Int) (a st : Int) (w : World) (hi : RdN w im.a ni) (hn : RdN w ins.a nn) (li : ni.length = im.n) (ln : nn.length = ins.n) (si : im.n ≤ 1048576) (sn : ins.n ≤ 1048576) (nz : ins.nz) :
    Calls Tryd.prog 10 #[.slice im.a im.n im.c, .int .i64 a, .int .i64 st, .slice ins.a ins.n ins.c] w fun e w' => ∃ y : Mv, e = .returned (.agg y.cs) ∧ y.fl = zMv.fl ∧ OwnM w' (w.heap.size + 1) y (newD ni a st nn) ∧ Below w.heap.size w w' := by
  unfold newD
  cases hb : newB ni a st nn
  · exact (newI_no im ins ni nn a st w hi hn li ln si sn hb).mono fun e w' ⟨he, hb⟩ => ⟨zMv, he, rfl, by rw [if_neg (by simp)]; exact own_zero _ _, hb⟩
  · rw [if_pos rfl]
    exact newI_yes im ins ni nn a st w hi hn li ln nz hb
section
variable {W w w' : World} {im ins : Sl} {ni nn ns : List Int} {row : Option Nat} {y : Mv} {d : Md} {s : Sl} {B : Nat}
end
end Go.Proofs.YtboedaofbchdkaaDoor

namespace Go.Proofs.YtboedaofbchdkaaDoor
open Go.ChangeShapes Go.WideShapes Go.ChangeAt Go.RowKit
set_option linter.unusedVariables false
set_option maxRecDepth 8000
def baseL : List Int := [0, 4096, 8192, 16384, 20480, 24576, 57344, 2560, 2688, 2752, 2816, 3008, 3200, 3264, 64, 2048, 128, 256, 512, 768, 1024, 1280, 0, 34816]
def baseAt (k : Nat) : Int := baseL.getD k 0
theorem base_bd : ∀ i : Fin 24, 0 ≤ baseAt i.val ∧ baseAt i.val ≤ 57344 := by decide +kernel
def Od.six (o : Od) : Int := o.m * 8 + o.r
end Go.Proofs.YtboedaofbchdkaaDoor
