/- Where an operand is, by the program's machine: through a word, by a word; over this seat's translation; conditions stand as hypotheses of each. -/
import Derived.Test.YtfkmibgamkignaaPrgG
namespace Go.Proofs.Ytfkmibgamkignaa
open Go.ChangeShapes Go.WideShapes Go.ChangeAt Go.RowKit
set_option linter.unusedVariables false
set_option maxRecDepth 8000
set_option linter.unusedSimpArgs false

section
variable (g B gr rc re : Nat) (X : Int) (y : Mv) (d : Md) (w : World)
set_option maxHeartbeats 4000000 in
theorem po_3 (P : Pg w g B gr rc y d) (h8 : d.R8) (hr : re < 8) (hs : y.small) (hlt : gr < w.heap.size) (hgl : g < w.heap.size) : PoIs g B gr rc re X y w 3 (if (d.reg re ((nAt d.r re + 2) % 65536)).has (nAt d.r re) = true then -1 else 0) (if (d.reg re ((nAt d.r re + 2) % 65536)).has (nAt d.r re) = true then (d.reg re ((nAt d.r re + 2) % 65536)).get (nAt d.r re) else 0) ((d.reg re ((nAt d.r re + 2) % 65536)).has (nAt d.r re)) (d.reg re ((nAt d.r re + 2) % 65536)) := by
  unfold PoIs
  have U := hide (bu_new (w := w) 3 (re : Int) X hlt)
  have PW := hide (P.later (below_two w (Obj.cells #[.int .i64 3, .int .i64 (re : Int), .int .i64 X] 40) (Obj.cells #[.int .i64 0, .int .i64 0] 44)))
  have AT := hide (fun b (hb : y.at b) => own_at_lt P.own hb)
  have GL := hide hgl
  obtain ⟨v0, v1⟩ := h8.2 re hr
  have hrl : re < d.r.length := by rw [h8.1]; exact hr
  have T := hide (fun w P => through_any g B gr rc (nAt d.r re) y (d.reg re ((nAt d.r re + 2) % 65536)) w P hs)
  obtain ⟨ok, hok⟩ : ∃ b, (d.reg re ((nAt d.r re + 2) % 65536)).has (nAt d.r re) = b := ⟨_, rfl⟩
  obtain ⟨rr, hrr⟩ : ∃ b : Int, (if (d.reg re ((nAt d.r re + 2) % 65536)).has (nAt d.r re) = true then -1 else 0) = b := ⟨_, rfl⟩
  obtain ⟨aa, haa⟩ : ∃ b : Int, (if (d.reg re ((nAt d.r re + 2) % 65536)).has (nAt d.r re) = true then (d.reg re ((nAt d.r re + 2) % 65536)).get (nAt d.r re) else 0) = b := ⟨_, rfl⟩
  rw [hrr, haa, hok] at T
  rw [hrr, haa, hok]
  clear hrr haa hok
  have HRL := hide hrl
  have H8 := hide h8
  have HS := hide hs
  clear P hlt hgl hs
  go_enter Try.func67, Try.ntmps67
  go_wp2_with fail
  generalize ((w.alloc (Obj.cells #[.int .i64 3, .int .i64 (re : Int), .int .i64 X] 40)).alloc (Obj.cells #[.int .i64 0, .int .i64 0] 44)) = W0 at U PW ⊢
  have ne := Sub.ne W0.heap.size W0
  have c1 : ∀ s : Sub W0.heap.size W0, s.w.cell? ⟨g, 257, none⟩ = some (.slice (some ⟨gr, 0, none⟩) 8 rc) := fun s => by have := ((unhide PW).later s.h).r; rw [(unhide H8).1] at this; exact this
  have c2 : ∀ s : Sub W0.heap.size W0, s.w.cell? ⟨gr, re, none⟩ = some (.int .i64 (nAt d.r re)) := fun s => ((unhide PW).later s.h).cell re (unhide HRL)
  have b0 : ∀ s : Sub W0.heap.size W0, s.w.cell? ⟨w.heap.size, 0, none⟩ = some (.int .i64 3) := fun s => ((unhide U).later s.h).c0
  have b1 : ∀ s : Sub W0.heap.size W0, s.w.cell? ⟨w.heap.size, 1, none⟩ = some (.int .i64 (re : Int)) := fun s => ((unhide U).later s.h).c1
  have hri : (re : Int) < 8 := by omega
  clear h8
  refine wp_region_sub (⟨W0, Below.refl _ _⟩ : Sub W0.heap.size W0) (by kernel_rfl) (by kernel_rfl) ?_
  repeat (go_big_quiet_step (fail))
  refine wpQuiet_nil ?_
  intro s
  have US := hide ((unhide U).later s.h)
  have PS := hide ((unhide PW).later s.h)
  go_wp2_with fail
  refine (goOn_any g B gr rc re y d _ (unhide PS) (unhide HRL) v0 v1).mono ?_
  rintro e w1 ⟨rfl, p2, g2⟩
  have U1 := hide ((unhide US).past g2)
  have P1 := hide p2
  clear p2 g2
  go_wp2_with fail
  refine (unhide T _ (unhide P1)).mono ?_
  rintro e w2 ⟨rfl, hb⟩
  have U2 := hide ((unhide U1).later hb)
  have P2 := hide ((unhide P1).later hb)
  clear hb
  go_wp2_with (first | (refine wpList_store_row rfl 44 _ _ rfl (w.heap.size + 1) #[.int .i64 (rr), .int .i64 (aa)] rfl rfl 44 #[.int .i64 0, .int .i64 0] (unhide U2).rp (by kernel_rfl) rfl (by simp [Value.oneCell']) ?_))
  obtain ⟨r1, r2⟩ := (unhide U2).done #[.int .i64 (rr), .int .i64 (aa)]
  refine bodyPost_ret (results_row2 (P := Try.prog) rfl _ _ (w.heap.size + 1) 44 #[.int .i64 (rr), .int .i64 (aa)] (0, 0) _ rfl r1 Try.underlying44 rfl (by kernel_rfl)) rfl ?_
  exact ⟨rfl, fun _ => (unhide P2).setRow (w := w) (unhide GL) (unhide AT) (by omega) _, r2⟩
set_option maxHeartbeats 4000000 in
theorem po_5 (P : Pg w g B gr rc y d) (h8 : d.R8) (hr : re < 8) (hs : y.small) (hlt : gr < w.heap.size) (hgl : g < w.heap.size) : PoIs g B gr rc re X y w 5 (if (d.reg re ((nAt d.r re - 2) % 65536)).has ((nAt d.r re - 2) % 65536) = true then -1 else 0) (if (d.reg re ((nAt d.r re - 2) % 65536)).has ((nAt d.r re - 2) % 65536) = true then (d.reg re ((nAt d.r re - 2) % 65536)).get ((nAt d.r re - 2) % 65536) else 0) ((d.reg re ((nAt d.r re - 2) % 65536)).has ((nAt d.r re - 2) % 65536)) (d.reg re ((nAt d.r re - 2) % 65536)) := by
  unfold PoIs
  have U := hide (bu_new (w := w) 5 (re : Int) X hlt)
  have PW := hide (P.later (below_two w (Obj.cells #[.int .i64 5, .int .i64 (re : Int), .int .i64 X] 40) (Obj.cells #[.int .i64 0, .int .i64 0] 44)))
  have AT := hide (fun b (hb : y.at b) => own_at_lt P.own hb)
  have GL := hide hgl
  obtain ⟨v0, v1⟩ := h8.2 re hr
  have hrl : re < d.r.length := by rw [h8.1]; exact hr
  have T := hide (fun w P => through_any g B gr rc ((nAt d.r re - 2) % 65536) y (d.reg re ((nAt d.r re - 2) % 65536)) w P hs)
  obtain ⟨ok, hok⟩ : ∃ b, (d.reg re ((nAt d.r re - 2) % 65536)).has ((nAt d.r re - 2) % 65536) = b := ⟨_, rfl⟩
  obtain ⟨rr, hrr⟩ : ∃ b : Int, (if (d.reg re ((nAt d.r re - 2) % 65536)).has ((nAt d.r re - 2) % 65536) = true then -1 else 0) = b := ⟨_, rfl⟩
  obtain ⟨aa, haa⟩ : ∃ b : Int, (if (d.reg re ((nAt d.r re - 2) % 65536)).has ((nAt d.r re - 2) % 65536) = true then (d.reg re ((nAt d.r re - 2) % 65536)).get ((nAt d.r re - 2) % 65536) else 0) = b := ⟨_, rfl⟩
  rw [hrr, haa, hok] at T
  rw [hrr, haa, hok]
  clear hrr haa hok
  have HRL := hide hrl
  have H8 := hide h8
  have HS := hide hs
  clear P hlt hgl hs
  go_enter Try.func67, Try.ntmps67
  go_wp2_with fail
  generalize ((w.alloc (Obj.cells #[.int .i64 5, .int .i64 (re : Int), .int .i64 X] 40)).alloc (Obj.cells #[.int .i64 0, .int .i64 0] 44)) = W0 at U PW ⊢
  have ne := Sub.ne W0.heap.size W0
  have c1 : ∀ s : Sub W0.heap.size W0, s.w.cell? ⟨g, 257, none⟩ = some (.slice (some ⟨gr, 0, none⟩) 8 rc) := fun s => by have := ((unhide PW).later s.h).r; rw [(unhide H8).1] at this; exact this
  have c2 : ∀ s : Sub W0.heap.size W0, s.w.cell? ⟨gr, re, none⟩ = some (.int .i64 (nAt d.r re)) := fun s => ((unhide PW).later s.h).cell re (unhide HRL)
  have b0 : ∀ s : Sub W0.heap.size W0, s.w.cell? ⟨w.heap.size, 0, none⟩ = some (.int .i64 5) := fun s => ((unhide U).later s.h).c0
  have b1 : ∀ s : Sub W0.heap.size W0, s.w.cell? ⟨w.heap.size, 1, none⟩ = some (.int .i64 (re : Int)) := fun s => ((unhide U).later s.h).c1
  have hri : (re : Int) < 8 := by omega
  clear h8
  refine wp_region_sub (⟨W0, Below.refl _ _⟩ : Sub W0.heap.size W0) (by kernel_rfl) (by kernel_rfl) ?_
  repeat (go_big_quiet_step (fail))
  refine wpQuiet_nil ?_
  intro s
  have US := hide ((unhide U).later s.h)
  have PS := hide ((unhide PW).later s.h)
  go_wp2_with fail
  refine (goBack_any g B gr rc re y d _ (unhide PS) (unhide HRL) v0 v1).mono ?_
  rintro e w1 ⟨rfl, p2, g2⟩
  have U1 := hide ((unhide US).past g2)
  have P1 := hide p2
  clear p2 g2
  go_wp2_with fail
  refine (unhide T _ (unhide P1)).mono ?_
  rintro e w2 ⟨rfl, hb⟩
  have U2 := hide ((unhide U1).later hb)
  have P2 := hide ((unhide P1).later hb)
  clear hb
  go_wp2_with (first | (refine wpList_store_row rfl 44 _ _ rfl (w.heap.size + 1) #[.int .i64 (rr), .int .i64 (aa)] rfl rfl 44 #[.int .i64 0, .int .i64 0] (unhide U2).rp (by kernel_rfl) rfl (by simp [Value.oneCell']) ?_))
  obtain ⟨r1, r2⟩ := (unhide U2).done #[.int .i64 (rr), .int .i64 (aa)]
  refine bodyPost_ret (results_row2 (P := Try.prog) rfl _ _ (w.heap.size + 1) 44 #[.int .i64 (rr), .int .i64 (aa)] (0, 0) _ rfl r1 Try.underlying44 rfl (by kernel_rfl)) rfl ?_
  exact ⟨rfl, fun _ => (unhide P2).setRow (w := w) (unhide GL) (unhide AT) (by omega) _, r2⟩
set_option maxHeartbeats 4000000 in
theorem po_6n (P : Pg w g B gr rc y d) (h8 : d.R8) (hr : re < 8) (hs : y.small) (hlt : gr < w.heap.size) (hgl : g < w.heap.size) (hx : 0 ≤ d.get (nAt d.r 7) ∧ d.get (nAt d.r 7) ≤ 65535) (hq : d.has (nAt d.r 7) = false) : PoIs g B gr rc re X y w 6 (0) (0) false (d.reg 7 ((nAt d.r 7 + 2) % 65536)) := by
  unfold PoIs
  have U := hide (bu_new (w := w) 6 (re : Int) X hlt)
  have PW := hide (P.later (below_two w (Obj.cells #[.int .i64 6, .int .i64 (re : Int), .int .i64 X] 40) (Obj.cells #[.int .i64 0, .int .i64 0] 44)))
  have AT := hide (fun b (hb : y.at b) => own_at_lt P.own hb)
  have GL := hide hgl
  obtain ⟨v0, v1⟩ := h8.2 re hr
  have hrl : re < d.r.length := by rw [h8.1]; exact hr
  have I := hide (fun w P => indexed_any g B gr rc re y d w P h8 hr hs hx)
  rw [hq] at I
  simp only [Bool.false_eq_true, if_false] at I
  clear hx hq
  have HRL := hide hrl
  have H8 := hide h8
  have HS := hide hs
  clear P hlt hgl hs
  go_enter Try.func67, Try.ntmps67
  go_wp2_with fail
  generalize ((w.alloc (Obj.cells #[.int .i64 6, .int .i64 (re : Int), .int .i64 X] 40)).alloc (Obj.cells #[.int .i64 0, .int .i64 0] 44)) = W0 at U PW ⊢
  have ne := Sub.ne W0.heap.size W0
  have c1 : ∀ s : Sub W0.heap.size W0, s.w.cell? ⟨g, 257, none⟩ = some (.slice (some ⟨gr, 0, none⟩) 8 rc) := fun s => by have := ((unhide PW).later s.h).r; rw [(unhide H8).1] at this; exact this
  have c2 : ∀ s : Sub W0.heap.size W0, s.w.cell? ⟨gr, re, none⟩ = some (.int .i64 (nAt d.r re)) := fun s => ((unhide PW).later s.h).cell re (unhide HRL)
  have b0 : ∀ s : Sub W0.heap.size W0, s.w.cell? ⟨w.heap.size, 0, none⟩ = some (.int .i64 6) := fun s => ((unhide U).later s.h).c0
  have b1 : ∀ s : Sub W0.heap.size W0, s.w.cell? ⟨w.heap.size, 1, none⟩ = some (.int .i64 (re : Int)) := fun s => ((unhide U).later s.h).c1
  have hri : (re : Int) < 8 := by omega
  clear h8
  refine wp_region_sub (⟨W0, Below.refl _ _⟩ : Sub W0.heap.size W0) (by kernel_rfl) (by kernel_rfl) ?_
  repeat (go_big_quiet_step (fail))
  refine wpQuiet_nil ?_
  intro s
  have US := hide ((unhide U).later s.h)
  have PS := hide ((unhide PW).later s.h)
  go_wp2_with fail
  refine (unhide I _ (unhide PS)).mono ?_
  rintro e w1 ⟨rfl, p2, g2⟩
  have U1 := hide ((unhide US).past g2)
  have P1 := hide p2
  clear p2 g2
  go_wp2_with (first | (refine wpList_store_row rfl 44 _ _ rfl (w.heap.size + 1) #[.int .i64 (0), .int .i64 (0)] rfl rfl 44 #[.int .i64 0, .int .i64 0] (unhide U1).rp (by kernel_rfl) rfl (by simp [Value.oneCell']) ?_))
  obtain ⟨r1, r2⟩ := (unhide U1).done #[.int .i64 (0), .int .i64 (0)]
  refine bodyPost_ret (results_row2 (P := Try.prog) rfl _ _ (w.heap.size + 1) 44 #[.int .i64 (0), .int .i64 (0)] (0, 0) _ rfl r1 Try.underlying44 rfl (by kernel_rfl)) rfl ?_
  exact ⟨rfl, (fun h => Bool.noConfusion h), r2⟩
set_option maxHeartbeats 4000000 in
theorem po_7n (P : Pg w g B gr rc y d) (h8 : d.R8) (hr : re < 8) (hs : y.small) (hlt : gr < w.heap.size) (hgl : g < w.heap.size) (hx : 0 ≤ d.get (nAt d.r 7) ∧ d.get (nAt d.r 7) ≤ 65535) (hq : d.has (nAt d.r 7) = false) : PoIs g B gr rc re X y w 7 (0) (0) false (d.reg 7 ((nAt d.r 7 + 2) % 65536)) := by
  unfold PoIs
  have U := hide (bu_new (w := w) 7 (re : Int) X hlt)
  have PW := hide (P.later (below_two w (Obj.cells #[.int .i64 7, .int .i64 (re : Int), .int .i64 X] 40) (Obj.cells #[.int .i64 0, .int .i64 0] 44)))
  have AT := hide (fun b (hb : y.at b) => own_at_lt P.own hb)
  have GL := hide hgl
  obtain ⟨v0, v1⟩ := h8.2 re hr
  have hrl : re < d.r.length := by rw [h8.1]; exact hr
  have I := hide (fun w P => indexed_any g B gr rc re y d w P h8 hr hs hx)
  rw [hq] at I
  simp only [Bool.false_eq_true, if_false] at I
  clear hx hq
  have HRL := hide hrl
  have H8 := hide h8
  have HS := hide hs
  clear P hlt hgl hs
  go_enter Try.func67, Try.ntmps67
  go_wp2_with fail
  generalize ((w.alloc (Obj.cells #[.int .i64 7, .int .i64 (re : Int), .int .i64 X] 40)).alloc (Obj.cells #[.int .i64 0, .int .i64 0] 44)) = W0 at U PW ⊢
  have ne := Sub.ne W0.heap.size W0
  have c1 : ∀ s : Sub W0.heap.size W0, s.w.cell? ⟨g, 257, none⟩ = some (.slice (some ⟨gr, 0, none⟩) 8 rc) := fun s => by have := ((unhide PW).later s.h).r; rw [(unhide H8).1] at this; exact this
  have c2 : ∀ s : Sub W0.heap.size W0, s.w.cell? ⟨gr, re, none⟩ = some (.int .i64 (nAt d.r re)) := fun s => ((unhide PW).later s.h).cell re (unhide HRL)
  have b0 : ∀ s : Sub W0.heap.size W0, s.w.cell? ⟨w.heap.size, 0, none⟩ = some (.int .i64 7) := fun s => ((unhide U).later s.h).c0
  have b1 : ∀ s : Sub W0.heap.size W0, s.w.cell? ⟨w.heap.size, 1, none⟩ = some (.int .i64 (re : Int)) := fun s => ((unhide U).later s.h).c1
  have hri : (re : Int) < 8 := by omega
  clear h8
  refine wp_region_sub (⟨W0, Below.refl _ _⟩ : Sub W0.heap.size W0) (by kernel_rfl) (by kernel_rfl) ?_
  repeat (go_big_quiet_step (fail))
  refine wpQuiet_nil ?_
  intro s
  have US := hide ((unhide U).later s.h)
  have PS := hide ((unhide PW).later s.h)
  go_wp2_with fail
  refine (unhide I _ (unhide PS)).mono ?_
  rintro e w1 ⟨rfl, p2, g2⟩
  have U1 := hide ((unhide US).past g2)
  have P1 := hide p2
  clear p2 g2
  go_wp2_with (first | (refine wpList_store_row rfl 44 _ _ rfl (w.heap.size + 1) #[.int .i64 (0), .int .i64 (0)] rfl rfl 44 #[.int .i64 0, .int .i64 0] (unhide U1).rp (by kernel_rfl) rfl (by simp [Value.oneCell']) ?_))
  obtain ⟨r1, r2⟩ := (unhide U1).done #[.int .i64 (0), .int .i64 (0)]
  refine bodyPost_ret (results_row2 (P := Try.prog) rfl _ _ (w.heap.size + 1) 44 #[.int .i64 (0), .int .i64 (0)] (0, 0) _ rfl r1 Try.underlying44 rfl (by kernel_rfl)) rfl ?_
  exact ⟨rfl, (fun h => Bool.noConfusion h), r2⟩
set_option maxHeartbeats 4000000 in
theorem po_6y (P : Pg w g B gr rc y d) (h8 : d.R8) (hr : re < 8) (hs : y.small) (hlt : gr < w.heap.size) (hgl : g < w.heap.size) (hx : 0 ≤ d.get (nAt d.r 7) ∧ d.get (nAt d.r 7) ≤ 65535) (hq : d.has (nAt d.r 7) = true) : PoIs g B gr rc re X y w 6 (-1) ((d.get (nAt d.r 7) + nAt d.fet.r re) % 65536) true (d.reg 7 ((nAt d.r 7 + 2) % 65536)) := by
  unfold PoIs
  have U := hide (bu_new (w := w) 6 (re : Int) X hlt)
  have PW := hide (P.later (below_two w (Obj.cells #[.int .i64 6, .int .i64 (re : Int), .int .i64 X] 40) (Obj.cells #[.int .i64 0, .int .i64 0] 44)))
  have AT := hide (fun b (hb : y.at b) => own_at_lt P.own hb)
  have GL := hide hgl
  obtain ⟨v0, v1⟩ := h8.2 re hr
  have hrl : re < d.r.length := by rw [h8.1]; exact hr
  have I := hide (fun w P => indexed_any g B gr rc re y d w P h8 hr hs hx)
  rw [hq] at I
  simp only [if_true] at I
  clear hx hq
  have HRL := hide hrl
  have H8 := hide h8
  have HS := hide hs
  clear P hlt hgl hs
  go_enter Try.func67, Try.ntmps67
  go_wp2_with fail
  generalize ((w.alloc (Obj.cells #[.int .i64 6, .int .i64 (re : Int), .int .i64 X] 40)).alloc (Obj.cells #[.int .i64 0, .int .i64 0] 44)) = W0 at U PW ⊢
  have ne := Sub.ne W0.heap.size W0
  have c1 : ∀ s : Sub W0.heap.size W0, s.w.cell? ⟨g, 257, none⟩ = some (.slice (some ⟨gr, 0, none⟩) 8 rc) := fun s => by have := ((unhide PW).later s.h).r; rw [(unhide H8).1] at this; exact this
  have c2 : ∀ s : Sub W0.heap.size W0, s.w.cell? ⟨gr, re, none⟩ = some (.int .i64 (nAt d.r re)) := fun s => ((unhide PW).later s.h).cell re (unhide HRL)
  have b0 : ∀ s : Sub W0.heap.size W0, s.w.cell? ⟨w.heap.size, 0, none⟩ = some (.int .i64 6) := fun s => ((unhide U).later s.h).c0
  have b1 : ∀ s : Sub W0.heap.size W0, s.w.cell? ⟨w.heap.size, 1, none⟩ = some (.int .i64 (re : Int)) := fun s => ((unhide U).later s.h).c1
  have hri : (re : Int) < 8 := by omega
  clear h8
  refine wp_region_sub (⟨W0, Below.refl _ _⟩ : Sub W0.heap.size W0) (by kernel_rfl) (by kernel_rfl) ?_
  repeat (go_big_quiet_step (fail))
  refine wpQuiet_nil ?_
  intro s
  have US := hide ((unhide U).later s.h)
  have PS := hide ((unhide PW).later s.h)
  go_wp2_with fail
  refine (unhide I _ (unhide PS)).mono ?_
  rintro e w1 ⟨rfl, p2, g2⟩
  have U1 := hide ((unhide US).past g2)
  have P1 := hide p2
  clear p2 g2
  have k0 := (unhide U1).c0
  go_wp2_with fail
  refine (adPlace_any _ _).mono ?_
  rintro e w2 ⟨rfl, hb⟩
  have U2 := hide ((unhide U1).later hb)
  have P2 := hide ((unhide P1).later hb)
  clear hb
  go_wp2_with (first | (refine wpList_store_row rfl 44 _ _ rfl (w.heap.size + 1) #[.int .i64 (-1), .int .i64 ((d.get (nAt d.r 7) + nAt d.fet.r re) % 65536)] rfl rfl 44 #[.int .i64 0, .int .i64 0] (unhide U2).rp (by kernel_rfl) rfl (by simp [Value.oneCell']) ?_))
  obtain ⟨r1, r2⟩ := (unhide U2).done #[.int .i64 (-1), .int .i64 ((d.get (nAt d.r 7) + nAt d.fet.r re) % 65536)]
  refine bodyPost_ret (results_row2 (P := Try.prog) rfl _ _ (w.heap.size + 1) 44 #[.int .i64 (-1), .int .i64 ((d.get (nAt d.r 7) + nAt d.fet.r re) % 65536)] (0, 0) _ rfl r1 Try.underlying44 rfl (by kernel_rfl)) rfl ?_
  exact ⟨rfl, fun _ => (unhide P2).setRow (w := w) (unhide GL) (unhide AT) (by omega) _, r2⟩
set_option maxHeartbeats 4000000 in
theorem po_7y (P : Pg w g B gr rc y d) (h8 : d.R8) (hr : re < 8) (hs : y.small) (hlt : gr < w.heap.size) (hgl : g < w.heap.size) (hx : 0 ≤ d.get (nAt d.r 7) ∧ d.get (nAt d.r 7) ≤ 65535) (hq : d.has (nAt d.r 7) = true) : PoIs g B gr rc re X y w 7 (if (d.reg 7 ((nAt d.r 7 + 2) % 65536)).has ((d.get (nAt d.r 7) + nAt d.fet.r re) % 65536) = true then -1 else 0) (if (d.reg 7 ((nAt d.r 7 + 2) % 65536)).has ((d.get (nAt d.r 7) + nAt d.fet.r re) % 65536) = true then (d.reg 7 ((nAt d.r 7 + 2) % 65536)).get ((d.get (nAt d.r 7) + nAt d.fet.r re) % 65536) else 0) ((d.reg 7 ((nAt d.r 7 + 2) % 65536)).has ((d.get (nAt d.r 7) + nAt d.fet.r re) % 65536)) (d.reg 7 ((nAt d.r 7 + 2) % 65536)) := by
  unfold PoIs
  have U := hide (bu_new (w := w) 7 (re : Int) X hlt)
  have PW := hide (P.later (below_two w (Obj.cells #[.int .i64 7, .int .i64 (re : Int), .int .i64 X] 40) (Obj.cells #[.int .i64 0, .int .i64 0] 44)))
  have AT := hide (fun b (hb : y.at b) => own_at_lt P.own hb)
  have GL := hide hgl
  obtain ⟨v0, v1⟩ := h8.2 re hr
  have hrl : re < d.r.length := by rw [h8.1]; exact hr
  have I := hide (fun w P => indexed_any g B gr rc re y d w P h8 hr hs hx)
  rw [hq] at I
  simp only [if_true] at I
  clear hx hq
  have T := hide (fun w P => through_any g B gr rc ((d.get (nAt d.r 7) + nAt d.fet.r re) % 65536) y (d.reg 7 ((nAt d.r 7 + 2) % 65536)) w P hs)
  obtain ⟨ok, hok⟩ : ∃ b, (d.reg 7 ((nAt d.r 7 + 2) % 65536)).has ((d.get (nAt d.r 7) + nAt d.fet.r re) % 65536) = b := ⟨_, rfl⟩
  obtain ⟨rr, hrr⟩ : ∃ b : Int, (if (d.reg 7 ((nAt d.r 7 + 2) % 65536)).has ((d.get (nAt d.r 7) + nAt d.fet.r re) % 65536) = true then -1 else 0) = b := ⟨_, rfl⟩
  obtain ⟨aa, haa⟩ : ∃ b : Int, (if (d.reg 7 ((nAt d.r 7 + 2) % 65536)).has ((d.get (nAt d.r 7) + nAt d.fet.r re) % 65536) = true then (d.reg 7 ((nAt d.r 7 + 2) % 65536)).get ((d.get (nAt d.r 7) + nAt d.fet.r re) % 65536) else 0) = b := ⟨_, rfl⟩
  rw [hrr, haa, hok] at T
  rw [hrr, haa, hok]
  clear hrr haa hok
  have HRL := hide hrl
  have H8 := hide h8
  have HS := hide hs
  clear P hlt hgl hs
  go_enter Try.func67, Try.ntmps67
  go_wp2_with fail
  generalize ((w.alloc (Obj.cells #[.int .i64 7, .int .i64 (re : Int), .int .i64 X] 40)).alloc (Obj.cells #[.int .i64 0, .int .i64 0] 44)) = W0 at U PW ⊢
  have ne := Sub.ne W0.heap.size W0
  have c1 : ∀ s : Sub W0.heap.size W0, s.w.cell? ⟨g, 257, none⟩ = some (.slice (some ⟨gr, 0, none⟩) 8 rc) := fun s => by have := ((unhide PW).later s.h).r; rw [(unhide H8).1] at this; exact this
  have c2 : ∀ s : Sub W0.heap.size W0, s.w.cell? ⟨gr, re, none⟩ = some (.int .i64 (nAt d.r re)) := fun s => ((unhide PW).later s.h).cell re (unhide HRL)
  have b0 : ∀ s : Sub W0.heap.size W0, s.w.cell? ⟨w.heap.size, 0, none⟩ = some (.int .i64 7) := fun s => ((unhide U).later s.h).c0
  have b1 : ∀ s : Sub W0.heap.size W0, s.w.cell? ⟨w.heap.size, 1, none⟩ = some (.int .i64 (re : Int)) := fun s => ((unhide U).later s.h).c1
  have hri : (re : Int) < 8 := by omega
  clear h8
  refine wp_region_sub (⟨W0, Below.refl _ _⟩ : Sub W0.heap.size W0) (by kernel_rfl) (by kernel_rfl) ?_
  repeat (go_big_quiet_step (fail))
  refine wpQuiet_nil ?_
  intro s
  have US := hide ((unhide U).later s.h)
  have PS := hide ((unhide PW).later s.h)
  go_wp2_with fail
  refine (unhide I _ (unhide PS)).mono ?_
  rintro e w1 ⟨rfl, p2, g2⟩
  have U1 := hide ((unhide US).past g2)
  have P1 := hide p2
  clear p2 g2
  have k0 := (unhide U1).c0
  go_wp2_with fail
  refine (unhide T _ (unhide P1)).mono ?_
  rintro e w2 ⟨rfl, hb⟩
  have U2 := hide ((unhide U1).later hb)
  have P2 := hide ((unhide P1).later hb)
  clear hb
  go_wp2_with (first | (refine wpList_store_row rfl 44 _ _ rfl (w.heap.size + 1) #[.int .i64 (rr), .int .i64 (aa)] rfl rfl 44 #[.int .i64 0, .int .i64 0] (unhide U2).rp (by kernel_rfl) rfl (by simp [Value.oneCell']) ?_))
  obtain ⟨r1, r2⟩ := (unhide U2).done #[.int .i64 (rr), .int .i64 (aa)]
  refine bodyPost_ret (results_row2 (P := Try.prog) rfl _ _ (w.heap.size + 1) 44 #[.int .i64 (rr), .int .i64 (aa)] (0, 0) _ rfl r1 Try.underlying44 rfl (by kernel_rfl)) rfl ?_
  exact ⟨rfl, fun _ => (unhide P2).setRow (w := w) (unhide GL) (unhide AT) (by omega) _, r2⟩
end
end Go.Proofs.Ytfkmibgamkignaa
