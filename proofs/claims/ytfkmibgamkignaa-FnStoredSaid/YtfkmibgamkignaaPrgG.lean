/- Where an operand is, by the program's machine; over this seat's translation; conditions stand as hypotheses of each. -/
import Derived.Test.YtfkmibgamkignaaPrgF
import Derived.Test.YtfkmibgamkignaaPlcE
namespace Go.Proofs.Ytfkmibgamkignaa
open Go.ChangeShapes Go.WideShapes Go.ChangeAt Go.RowKit
set_option linter.unusedVariables false
set_option maxRecDepth 8000
set_option linter.unusedSimpArgs false

theorem Pg.setRow {w w1 : World} {g B gr rc b : Nat} {y : Mv} {d : Md} (h : Pg w1 g B gr rc y d) (hg : g < w.heap.size) (ha : ∀ b, y.at b → b < w.heap.size) (hb : w.heap.size ≤ b) (cs : Array Value) : Pg (w1.setRow b cs) g B gr rc y d :=
  ⟨(setRow_other w1 b g cs (by omega)).trans h.row, h.len, h.own.keepH fun k hk _ => setRow_other w1 b k cs (by have := ha k hk; omega), h.er, h.ne⟩
/-- While a place is looked for: the operand's box, the answer's place. -/
structure Bu (w wr : World) (gr : Nat) (mo re X : Int) : Prop where
  bo : wr.heap[w.heap.size]? = some (.cells #[.int .i64 mo, .int .i64 re, .int .i64 X] 40 (0, 0))
  rp : wr.heap[w.heap.size + 1]? = some (.cells #[.int .i64 0, .int .i64 0] 44 (0, 0))
  gw : w.grownBy wr (some gr)
  lt : gr < w.heap.size
  sz : w.heap.size + 2 ≤ wr.heap.size
section
variable {w wr w' : World} {gr : Nat} {mo re X : Int}
theorem bu_new (mo re X : Int) (h : gr < w.heap.size) : Bu w ((w.alloc (.cells #[.int .i64 mo, .int .i64 re, .int .i64 X] 40)).alloc (.cells #[.int .i64 0, .int .i64 0] 44)) gr mo re X :=
  ⟨row_lat (heap_alloc_last w _) (below_new _ _), by have := heap_alloc_last (w.alloc (.cells #[.int .i64 mo, .int .i64 re, .int .i64 X] 40)) (.cells #[.int .i64 0, .int .i64 0] 44); simpa using this, grown_below (grownBy_below (below_new w _)) (below_new _ _), h, by simp⟩
theorem Bu.later (h : Bu w wr gr mo re X) (hb : Below wr.heap.size wr w') : Bu w w' gr mo re X := ⟨row_lat h.bo hb, row_lat h.rp hb, grown_below h.gw hb, h.lt, Nat.le_trans h.sz hb.size⟩
theorem Bu.past (h : Bu w wr gr mo re X) (hg : wr.grownBy w' (some gr)) : Bu w w' gr mo re X := ⟨row_past h.bo hg (by have := h.lt; omega), row_past h.rp hg (by have := h.lt; omega), h.gw.trans hg, h.lt, Nat.le_trans h.sz hg.size⟩
theorem Bu.done (h : Bu w wr gr mo re X) (cs : Array Value) : (wr.setRow (w.heap.size + 1) cs).heap[w.heap.size + 1]? = some (.cells cs 44 (0, 0)) ∧ w.grownBy (wr.setRow (w.heap.size + 1) cs) (some gr) :=
  ⟨setRow_heap wr _ _ _ 44 _ h.rp, grown_setRow h.gw (by omega) _⟩
theorem Bu.c0 (h : Bu w wr gr mo re X) : wr.cell? ⟨w.heap.size, 0, none⟩ = some (.int .i64 mo) := (cell_of_row wr _ 0 _ 40 _ h.bo).trans rfl
theorem Bu.c1 (h : Bu w wr gr mo re X) : wr.cell? ⟨w.heap.size, 1, none⟩ = some (.int .i64 re) := (cell_of_row wr _ 1 _ 40 _ h.bo).trans rfl
theorem below_two (w : World) (o p : Obj) : Below w.heap.size w ((w.alloc o).alloc p) := ((below_new w o).alloc (by simp) p)
end

section
variable (g B gr rc re : Nat) (X : Int) (y : Mv) (d : Md) (w : World)
/-- What the program's placeOf answers. -/
def PoIs (mo rr aa : Int) (ok : Bool) (d2 : Md) : Prop := Calls Try.prog 67 #[.pointer (some ⟨g, 0, none⟩), .agg #[.int .i64 mo, .int .i64 (re : Int), .int .i64 X]] w fun e w' => e = .returned (.tuple #[.agg #[.int .i64 rr, .int .i64 aa], .bool ok]) ∧ (ok = true → Pg w' g B gr rc y d2) ∧ w.grownBy w' (some gr)
set_option maxHeartbeats 4000000 in
theorem po_0 (P : Pg w g B gr rc y d) (h8 : d.R8) (hr : re < 8) (hs : y.small) (hlt : gr < w.heap.size) (hgl : g < w.heap.size) : PoIs g B gr rc re X y w 0 (re : Int) (-1) true (d) := by
  unfold PoIs
  have U := hide (bu_new (w := w) 0 (re : Int) X hlt)
  have PW := hide (P.later (below_two w (Obj.cells #[.int .i64 0, .int .i64 (re : Int), .int .i64 X] 40) (Obj.cells #[.int .i64 0, .int .i64 0] 44)))
  have AT := hide (fun b (hb : y.at b) => own_at_lt P.own hb)
  have GL := hide hgl
  obtain ⟨v0, v1⟩ := h8.2 re hr
  have hrl : re < d.r.length := by rw [h8.1]; exact hr
  have HRL := hide hrl
  have H8 := hide h8
  have HS := hide hs
  clear P hlt hgl hs
  go_enter Try.func67, Try.ntmps67
  go_wp2_with fail
  generalize ((w.alloc (Obj.cells #[.int .i64 0, .int .i64 (re : Int), .int .i64 X] 40)).alloc (Obj.cells #[.int .i64 0, .int .i64 0] 44)) = W0 at U PW ⊢
  have ne := Sub.ne W0.heap.size W0
  have c1 : ∀ s : Sub W0.heap.size W0, s.w.cell? ⟨g, 257, none⟩ = some (.slice (some ⟨gr, 0, none⟩) 8 rc) := fun s => by have := ((unhide PW).later s.h).r; rw [(unhide H8).1] at this; exact this
  have c2 : ∀ s : Sub W0.heap.size W0, s.w.cell? ⟨gr, re, none⟩ = some (.int .i64 (nAt d.r re)) := fun s => ((unhide PW).later s.h).cell re (unhide HRL)
  have b0 : ∀ s : Sub W0.heap.size W0, s.w.cell? ⟨w.heap.size, 0, none⟩ = some (.int .i64 0) := fun s => ((unhide U).later s.h).c0
  have b1 : ∀ s : Sub W0.heap.size W0, s.w.cell? ⟨w.heap.size, 1, none⟩ = some (.int .i64 (re : Int)) := fun s => ((unhide U).later s.h).c1
  have hri : (re : Int) < 8 := by omega
  clear h8
  refine wp_region_sub (⟨W0, Below.refl _ _⟩ : Sub W0.heap.size W0) (by kernel_rfl) (by kernel_rfl) ?_
  repeat (go_big_quiet_step (fail))
  refine wpQuiet_nil ?_
  intro s
  have US := hide ((unhide U).later s.h)
  have PS := hide ((unhide PW).later s.h)
  go_wp2_with fail
  refine (regPlace_any _ _).mono ?_
  rintro e w1 ⟨rfl, hb⟩
  have U1 := hide ((unhide US).later hb)
  have P1 := hide ((unhide PS).later hb)
  clear hb
  go_wp2_with (first | (refine wpList_store_row rfl 44 _ _ rfl (w.heap.size + 1) #[.int .i64 (re : Int), .int .i64 (-1)] rfl rfl 44 #[.int .i64 0, .int .i64 0] (unhide U1).rp (by kernel_rfl) rfl (by simp [Value.oneCell']) ?_))
  obtain ⟨r1, r2⟩ := (unhide U1).done #[.int .i64 (re : Int), .int .i64 (-1)]
  refine bodyPost_ret (results_row2 (P := Try.prog) rfl _ _ (w.heap.size + 1) 44 #[.int .i64 (re : Int), .int .i64 (-1)] (0, 0) _ rfl r1 Try.underlying44 rfl (by kernel_rfl)) rfl ?_
  exact ⟨rfl, fun _ => (unhide P1).setRow (w := w) (unhide GL) (unhide AT) (by omega) _, r2⟩
set_option maxHeartbeats 4000000 in
theorem po_1 (P : Pg w g B gr rc y d) (h8 : d.R8) (hr : re < 8) (hs : y.small) (hlt : gr < w.heap.size) (hgl : g < w.heap.size) : PoIs g B gr rc re X y w 1 (-1) (nAt d.r re) true (d) := by
  unfold PoIs
  have U := hide (bu_new (w := w) 1 (re : Int) X hlt)
  have PW := hide (P.later (below_two w (Obj.cells #[.int .i64 1, .int .i64 (re : Int), .int .i64 X] 40) (Obj.cells #[.int .i64 0, .int .i64 0] 44)))
  have AT := hide (fun b (hb : y.at b) => own_at_lt P.own hb)
  have GL := hide hgl
  obtain ⟨v0, v1⟩ := h8.2 re hr
  have hrl : re < d.r.length := by rw [h8.1]; exact hr
  have HRL := hide hrl
  have H8 := hide h8
  have HS := hide hs
  clear P hlt hgl hs
  go_enter Try.func67, Try.ntmps67
  go_wp2_with fail
  generalize ((w.alloc (Obj.cells #[.int .i64 1, .int .i64 (re : Int), .int .i64 X] 40)).alloc (Obj.cells #[.int .i64 0, .int .i64 0] 44)) = W0 at U PW ⊢
  have ne := Sub.ne W0.heap.size W0
  have c1 : ∀ s : Sub W0.heap.size W0, s.w.cell? ⟨g, 257, none⟩ = some (.slice (some ⟨gr, 0, none⟩) 8 rc) := fun s => by have := ((unhide PW).later s.h).r; rw [(unhide H8).1] at this; exact this
  have c2 : ∀ s : Sub W0.heap.size W0, s.w.cell? ⟨gr, re, none⟩ = some (.int .i64 (nAt d.r re)) := fun s => ((unhide PW).later s.h).cell re (unhide HRL)
  have b0 : ∀ s : Sub W0.heap.size W0, s.w.cell? ⟨w.heap.size, 0, none⟩ = some (.int .i64 1) := fun s => ((unhide U).later s.h).c0
  have b1 : ∀ s : Sub W0.heap.size W0, s.w.cell? ⟨w.heap.size, 1, none⟩ = some (.int .i64 (re : Int)) := fun s => ((unhide U).later s.h).c1
  have hri : (re : Int) < 8 := by omega
  clear h8
  refine wp_region_sub (⟨W0, Below.refl _ _⟩ : Sub W0.heap.size W0) (by kernel_rfl) (by kernel_rfl) ?_
  repeat (go_big_quiet_step (fail))
  refine wpQuiet_nil ?_
  intro s
  have US := hide ((unhide U).later s.h)
  have PS := hide ((unhide PW).later s.h)
  go_wp2_with fail
  refine (adPlace_any _ _).mono ?_
  rintro e w1 ⟨rfl, hb⟩
  have U1 := hide ((unhide US).later hb)
  have P1 := hide ((unhide PS).later hb)
  clear hb
  go_wp2_with (first | (refine wpList_store_row rfl 44 _ _ rfl (w.heap.size + 1) #[.int .i64 (-1), .int .i64 (nAt d.r re)] rfl rfl 44 #[.int .i64 0, .int .i64 0] (unhide U1).rp (by kernel_rfl) rfl (by simp [Value.oneCell']) ?_))
  obtain ⟨r1, r2⟩ := (unhide U1).done #[.int .i64 (-1), .int .i64 (nAt d.r re)]
  refine bodyPost_ret (results_row2 (P := Try.prog) rfl _ _ (w.heap.size + 1) 44 #[.int .i64 (-1), .int .i64 (nAt d.r re)] (0, 0) _ rfl r1 Try.underlying44 rfl (by kernel_rfl)) rfl ?_
  exact ⟨rfl, fun _ => (unhide P1).setRow (w := w) (unhide GL) (unhide AT) (by omega) _, r2⟩
set_option maxHeartbeats 4000000 in
theorem po_2 (P : Pg w g B gr rc y d) (h8 : d.R8) (hr : re < 8) (hs : y.small) (hlt : gr < w.heap.size) (hgl : g < w.heap.size) : PoIs g B gr rc re X y w 2 (-1) (nAt d.r re) true (d.reg re ((nAt d.r re + 2) % 65536)) := by
  unfold PoIs
  have U := hide (bu_new (w := w) 2 (re : Int) X hlt)
  have PW := hide (P.later (below_two w (Obj.cells #[.int .i64 2, .int .i64 (re : Int), .int .i64 X] 40) (Obj.cells #[.int .i64 0, .int .i64 0] 44)))
  have AT := hide (fun b (hb : y.at b) => own_at_lt P.own hb)
  have GL := hide hgl
  obtain ⟨v0, v1⟩ := h8.2 re hr
  have hrl : re < d.r.length := by rw [h8.1]; exact hr
  have HRL := hide hrl
  have H8 := hide h8
  have HS := hide hs
  clear P hlt hgl hs
  go_enter Try.func67, Try.ntmps67
  go_wp2_with fail
  generalize ((w.alloc (Obj.cells #[.int .i64 2, .int .i64 (re : Int), .int .i64 X] 40)).alloc (Obj.cells #[.int .i64 0, .int .i64 0] 44)) = W0 at U PW ⊢
  have ne := Sub.ne W0.heap.size W0
  have c1 : ∀ s : Sub W0.heap.size W0, s.w.cell? ⟨g, 257, none⟩ = some (.slice (some ⟨gr, 0, none⟩) 8 rc) := fun s => by have := ((unhide PW).later s.h).r; rw [(unhide H8).1] at this; exact this
  have c2 : ∀ s : Sub W0.heap.size W0, s.w.cell? ⟨gr, re, none⟩ = some (.int .i64 (nAt d.r re)) := fun s => ((unhide PW).later s.h).cell re (unhide HRL)
  have b0 : ∀ s : Sub W0.heap.size W0, s.w.cell? ⟨w.heap.size, 0, none⟩ = some (.int .i64 2) := fun s => ((unhide U).later s.h).c0
  have b1 : ∀ s : Sub W0.heap.size W0, s.w.cell? ⟨w.heap.size, 1, none⟩ = some (.int .i64 (re : Int)) := fun s => ((unhide U).later s.h).c1
  have hri : (re : Int) < 8 := by omega
  clear h8
  refine wp_region_sub (⟨W0, Below.refl _ _⟩ : Sub W0.heap.size W0) (by kernel_rfl) (by kernel_rfl) ?_
  repeat (go_big_quiet_step (fail))
  refine wpQuiet_nil ?_
  intro s
  have US := hide ((unhide U).later s.h)
  have PS := hide ((unhide PW).later s.h)
  go_wp2_with fail
  refine (goOn_any g B gr rc re y d _ (unhide PS) (unhide HRL) v0 v1).mono ?_
  rintro e w1 ⟨rfl, p2, g2⟩
  have U1 := hide ((unhide US).past g2)
  have P1 := hide p2
  clear p2 g2
  go_wp2_with fail
  refine (adPlace_any _ _).mono ?_
  rintro e w2 ⟨rfl, hb⟩
  have U2 := hide ((unhide U1).later hb)
  have P2 := hide ((unhide P1).later hb)
  clear hb
  go_wp2_with (first | (refine wpList_store_row rfl 44 _ _ rfl (w.heap.size + 1) #[.int .i64 (-1), .int .i64 (nAt d.r re)] rfl rfl 44 #[.int .i64 0, .int .i64 0] (unhide U2).rp (by kernel_rfl) rfl (by simp [Value.oneCell']) ?_))
  obtain ⟨r1, r2⟩ := (unhide U2).done #[.int .i64 (-1), .int .i64 (nAt d.r re)]
  refine bodyPost_ret (results_row2 (P := Try.prog) rfl _ _ (w.heap.size + 1) 44 #[.int .i64 (-1), .int .i64 (nAt d.r re)] (0, 0) _ rfl r1 Try.underlying44 rfl (by kernel_rfl)) rfl ?_
  exact ⟨rfl, fun _ => (unhide P2).setRow (w := w) (unhide GL) (unhide AT) (by omega) _, r2⟩
set_option maxHeartbeats 4000000 in
theorem po_4 (P : Pg w g B gr rc y d) (h8 : d.R8) (hr : re < 8) (hs : y.small) (hlt : gr < w.heap.size) (hgl : g < w.heap.size) : PoIs g B gr rc re X y w 4 (-1) ((nAt d.r re - 2) % 65536) true (d.reg re ((nAt d.r re - 2) % 65536)) := by
  unfold PoIs
  have U := hide (bu_new (w := w) 4 (re : Int) X hlt)
  have PW := hide (P.later (below_two w (Obj.cells #[.int .i64 4, .int .i64 (re : Int), .int .i64 X] 40) (Obj.cells #[.int .i64 0, .int .i64 0] 44)))
  have AT := hide (fun b (hb : y.at b) => own_at_lt P.own hb)
  have GL := hide hgl
  obtain ⟨v0, v1⟩ := h8.2 re hr
  have hrl : re < d.r.length := by rw [h8.1]; exact hr
  have HRL := hide hrl
  have H8 := hide h8
  have HS := hide hs
  clear P hlt hgl hs
  go_enter Try.func67, Try.ntmps67
  go_wp2_with fail
  generalize ((w.alloc (Obj.cells #[.int .i64 4, .int .i64 (re : Int), .int .i64 X] 40)).alloc (Obj.cells #[.int .i64 0, .int .i64 0] 44)) = W0 at U PW ⊢
  have ne := Sub.ne W0.heap.size W0
  have c1 : ∀ s : Sub W0.heap.size W0, s.w.cell? ⟨g, 257, none⟩ = some (.slice (some ⟨gr, 0, none⟩) 8 rc) := fun s => by have := ((unhide PW).later s.h).r; rw [(unhide H8).1] at this; exact this
  have c2 : ∀ s : Sub W0.heap.size W0, s.w.cell? ⟨gr, re, none⟩ = some (.int .i64 (nAt d.r re)) := fun s => ((unhide PW).later s.h).cell re (unhide HRL)
  have b0 : ∀ s : Sub W0.heap.size W0, s.w.cell? ⟨w.heap.size, 0, none⟩ = some (.int .i64 4) := fun s => ((unhide U).later s.h).c0
  have b1 : ∀ s : Sub W0.heap.size W0, s.w.cell? ⟨w.heap.size, 1, none⟩ = some (.int .i64 (re : Int)) := fun s => ((unhide U).later s.h).c1
  have hri : (re : Int) < 8 := by omega
  clear h8
  refine wp_region_sub (⟨W0, Below.refl _ _⟩ : Sub W0.heap.size W0) (by kernel_rfl) (by kernel_rfl) ?_
  repeat (go_big_quiet_step (fail))
  refine wpQuiet_nil ?_
  intro s
  have US := hide ((unhide U).later s.h)
  have PS := hide ((unhide PW).later s.h)
  go_wp2_with fail
  refine (goBack_any g B gr rc re y d _ (unhide PS) (unhide HRL) v0 v1).mono ?_
  rintro e w1 ⟨rfl, p2, g2⟩
  have U1 := hide ((unhide US).past g2)
  have P1 := hide p2
  clear p2 g2
  go_wp2_with fail
  refine (adPlace_any _ _).mono ?_
  rintro e w2 ⟨rfl, hb⟩
  have U2 := hide ((unhide U1).later hb)
  have P2 := hide ((unhide P1).later hb)
  clear hb
  go_wp2_with (first | (refine wpList_store_row rfl 44 _ _ rfl (w.heap.size + 1) #[.int .i64 (-1), .int .i64 ((nAt d.r re - 2) % 65536)] rfl rfl 44 #[.int .i64 0, .int .i64 0] (unhide U2).rp (by kernel_rfl) rfl (by simp [Value.oneCell']) ?_))
  obtain ⟨r1, r2⟩ := (unhide U2).done #[.int .i64 (-1), .int .i64 ((nAt d.r re - 2) % 65536)]
  refine bodyPost_ret (results_row2 (P := Try.prog) rfl _ _ (w.heap.size + 1) 44 #[.int .i64 (-1), .int .i64 ((nAt d.r re - 2) % 65536)] (0, 0) _ rfl r1 Try.underlying44 rfl (by kernel_rfl)) rfl ?_
  exact ⟨rfl, fun _ => (unhide P2).setRow (w := w) (unhide GL) (unhide AT) (by omega) _, r2⟩
end
end Go.Proofs.Ytfkmibgamkignaa
