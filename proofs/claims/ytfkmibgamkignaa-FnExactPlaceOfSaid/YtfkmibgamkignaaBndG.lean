/- Contracts over this seat's translation, laid together; conditions stand as hypotheses of each. -/
import Derived.Test.YtfkmibgamkignaaBndA
import Derived.Test.YtfkmibgamkignaaBndD
import Derived.Test.YtfkmibgamkignaaBndF
import Derived.Deep.RegionWith
import Derived.Maps.AppendAt

namespace Go.Proofs.Ytfkmibgamkignaa
open Go.ChangeShapes Go.WideShapes Go.ChangeAt Go.RowKit
set_option linter.unusedVariables false
set_option maxRecDepth 8000
set_option linter.unusedSimpArgs false

theorem Pg.setRow {w w1 : World} {g B gr rc b : Nat} {y : Mv} {d : Md} (h : Pg w1 g B gr rc y d) (hg : g < w.heap.size) (ha : ∀ b, y.at b → b < w.heap.size) (hb : w.heap.size ≤ b) (cs : Array Value) : Pg (w1.setRow b cs) g B gr rc y d :=
  ⟨(setRow_other w1 b g cs (by omega)).trans h.row, h.len, h.own.keepH fun k hk _ => setRow_other w1 b k cs (by have := ha k hk; omega), h.er, h.ne⟩
/-- While a place is looked for: the operand's box, the answer's place. -/
structure Bu (w wr : World) (gr : Nat) (mo re X : Int) : Prop where
  bo : wr.heap[w.heap.size]? = some (.cells #[.int .i64 mo, .int .i64 re, .int .i64 X] 40 (0, 0))
  rp : wr.heap[w.heap.size + 1]? = some (.cells #[.int .i64 0, .int .i64 0] 44 (0, 0))
  gw : w.grownBy wr (some gr)
  lt : gr < w.heap.size
  sz : w.heap.size + 2 ≤ wr.heap.size
section
variable {w wr w' : World} {gr : Nat} {mo re X : Int}
theorem bu_new (mo re X : Int) (h : gr < w.heap.size) : Bu w ((w.alloc (.cells #[.int .i64 mo, .int .i64 re, .int .i64 X] 40)).alloc (.cells #[.int .i64 0, .int .i64 0] 44)) gr mo re X :=
  ⟨row_lat (heap_alloc_last w _) (below_new _ _), by have := heap_alloc_last (w.alloc (.cells #[.int .i64 mo, .int .i64 re, .int .i64 X] 40)) (.cells #[.int .i64 0, .int .i64 0] 44); simpa using this, grown_below (grownBy_below (below_new w _)) (below_new _ _), h, by simp⟩
theorem Bu.later (h : Bu w wr gr mo re X) (hb : Below wr.heap.size wr w') : Bu w w' gr mo re X := ⟨row_lat h.bo hb, row_lat h.rp hb, grown_below h.gw hb, h.lt, Nat.le_trans h.sz hb.size⟩
theorem Bu.past (h : Bu w wr gr mo re X) (hg : wr.grownBy w' (some gr)) : Bu w w' gr mo re X := ⟨row_past h.bo hg (by have := h.lt; omega), row_past h.rp hg (by have := h.lt; omega), h.gw.trans hg, h.lt, Nat.le_trans h.sz hg.size⟩
theorem Bu.done (h : Bu w wr gr mo re X) (cs : Array Value) : (wr.setRow (w.heap.size + 1) cs).heap[w.heap.size + 1]? = some (.cells cs 44 (0, 0)) ∧ w.grownBy (wr.setRow (w.heap.size + 1) cs) (some gr) :=
  ⟨setRow_heap wr _ _ _ 44 _ h.rp, grown_setRow h.gw (by omega) _⟩
theorem Bu.c0 (h : Bu w wr gr mo re X) : wr.cell? ⟨w.heap.size, 0, none⟩ = some (.int .i64 mo) := (cell_of_row wr _ 0 _ 40 _ h.bo).trans rfl
theorem Bu.c1 (h : Bu w wr gr mo re X) : wr.cell? ⟨w.heap.size, 1, none⟩ = some (.int .i64 re) := (cell_of_row wr _ 1 _ 40 _ h.bo).trans rfl
theorem below_two (w : World) (o p : Obj) : Below w.heap.size w ((w.alloc o).alloc p) := ((below_new w o).alloc (by simp) p)
end

section
variable (g B gr rc re : Nat) (X : Int) (y : Mv) (d : Md) (w : World)
/-- What the program's placeOf answers. -/
def PoIs (mo rr aa : Int) (ok : Bool) (d2 : Md) : Prop := Calls Try.prog 67 #[.pointer (some ⟨g, 0, none⟩), .agg #[.int .i64 mo, .int .i64 (re : Int), .int .i64 X]] w fun e w' => e = .returned (.tuple #[.agg #[.int .i64 rr, .int .i64 aa], .bool ok]) ∧ (ok = true → Pg w' g B gr rc y d2) ∧ w.grownBy w' (some gr)
set_option maxHeartbeats 4000000 in
theorem po_0 (P : Pg w g B gr rc y d) (h8 : d.R8) (hr : re < 8) (hs : y.small) (hlt : gr < w.heap.size) (hgl : g < w.heap.size) : PoIs g B gr rc re X y w 0 (re : Int) (-1) true (d) := by
  unfold PoIs
  have U := hide (bu_new (w := w) 0 (re : Int) X hlt)
  have PW := hide (P.later (below_two w (Obj.cells #[.int .i64 0, .int .i64 (re : Int), .int .i64 X] 40) (Obj.cells #[.int .i64 0, .int .i64 0] 44)))
  have AT := hide (fun b (hb : y.at b) => own_at_lt P.own hb)
  have GL := hide hgl
  obtain ⟨v0, v1⟩ := h8.2 re hr
  have hrl : re < d.r.length := by rw [h8.1]; exact hr
  have HRL := hide hrl
  have H8 := hide h8
  have HS := hide hs
  clear P hlt hgl hs
  go_enter Try.func67, Try.ntmps67
  go_wp2_with fail
  generalize ((w.alloc (Obj.cells #[.int .i64 0, .int .i64 (re : Int), .int .i64 X] 40)).alloc (Obj.cells #[.int .i64 0, .int .i64 0] 44)) = W0 at U PW ⊢
  have ne := Sub.ne W0.heap.size W0
  have c1 : ∀ s : Sub W0.heap.size W0, s.w.cell? ⟨g, 257, none⟩ = some (.slice (some ⟨gr, 0, none⟩) 8 rc) := fun s => by have := ((unhide PW).later s.h).r; rw [(unhide H8).1] at this; exact this
  have c2 : ∀ s : Sub W0.heap.size W0, s.w.cell? ⟨gr, re, none⟩ = some (.int .i64 (nAt d.r re)) := fun s => ((unhide PW).later s.h).cell re (unhide HRL)
  have b0 : ∀ s : Sub W0.heap.size W0, s.w.cell? ⟨w.heap.size, 0, none⟩ = some (.int .i64 0) := fun s => ((unhide U).later s.h).c0
  have b1 : ∀ s : Sub W0.heap.size W0, s.w.cell? ⟨w.heap.size, 1, none⟩ = some (.int .i64 (re : Int)) := fun s => ((unhide U).later s.h).c1
  have hri : (re : Int) < 8 := by omega
  clear h8
  refine wp_region_sub (⟨W0, Below.refl _ _⟩ : Sub W0.heap.size W0) (by kernel_rfl) (by kernel_rfl) ?_
  repeat (go_big_quiet_step (fail))
  refine wpQuiet_nil ?_
  intro s
  have US := hide ((unhide U).later s.h)
  have PS := hide ((unhide PW).later s.h)
  go_wp2_with fail
  refine (regPlace_any _ _).mono ?_
  rintro e w1 ⟨rfl, hb⟩
  have U1 := hide ((unhide US).later hb)
  have P1 := hide ((unhide PS).later hb)
  clear hb
  go_wp2_with (first | (refine wpList_store_row rfl 44 _ _ rfl (w.heap.size + 1) #[.int .i64 (re : Int), .int .i64 (-1)] rfl rfl 44 #[.int .i64 0, .int .i64 0] (unhide U1).rp (by kernel_rfl) rfl (by simp [Value.oneCell']) ?_))
  obtain ⟨r1, r2⟩ := (unhide U1).done #[.int .i64 (re : Int), .int .i64 (-1)]
  refine bodyPost_ret (results_row2 (P := Try.prog) rfl _ _ (w.heap.size + 1) 44 #[.int .i64 (re : Int), .int .i64 (-1)] (0, 0) _ rfl r1 Try.underlying44 rfl (by kernel_rfl)) rfl ?_
  exact ⟨rfl, fun _ => (unhide P1).setRow (w := w) (unhide GL) (unhide AT) (by omega) _, r2⟩
set_option maxHeartbeats 4000000 in
theorem po_1 (P : Pg w g B gr rc y d) (h8 : d.R8) (hr : re < 8) (hs : y.small) (hlt : gr < w.heap.size) (hgl : g < w.heap.size) : PoIs g B gr rc re X y w 1 (-1) (nAt d.r re) true (d) := by
  unfold PoIs
  have U := hide (bu_new (w := w) 1 (re : Int) X hlt)
  have PW := hide (P.later (below_two w (Obj.cells #[.int .i64 1, .int .i64 (re : Int), .int .i64 X] 40) (Obj.cells #[.int .i64 0, .int .i64 0] 44)))
  have AT := hide (fun b (hb : y.at b) => own_at_lt P.own hb)
  have GL := hide hgl
  obtain ⟨v0, v1⟩ := h8.2 re hr
  have hrl : re < d.r.length := by rw [h8.1]; exact hr
  have HRL := hide hrl
  have H8 := hide h8
  have HS := hide hs
  clear P hlt hgl hs
  go_enter Try.func67, Try.ntmps67
  go_wp2_with fail
  generalize ((w.alloc (Obj.cells #[.int .i64 1, .int .i64 (re : Int), .int .i64 X] 40)).alloc (Obj.cells #[.int .i64 0, .int .i64 0] 44)) = W0 at U PW ⊢
  have ne := Sub.ne W0.heap.size W0
  have c1 : ∀ s : Sub W0.heap.size W0, s.w.cell? ⟨g, 257, none⟩ = some (.slice (some ⟨gr, 0, none⟩) 8 rc) := fun s => by have := ((unhide PW).later s.h).r; rw [(unhide H8).1] at this; exact this
  have c2 : ∀ s : Sub W0.heap.size W0, s.w.cell? ⟨gr, re, none⟩ = some (.int .i64 (nAt d.r re)) := fun s => ((unhide PW).later s.h).cell re (unhide HRL)
  have b0 : ∀ s : Sub W0.heap.size W0, s.w.cell? ⟨w.heap.size, 0, none⟩ = some (.int .i64 1) := fun s => ((unhide U).later s.h).c0
  have b1 : ∀ s : Sub W0.heap.size W0, s.w.cell? ⟨w.heap.size, 1, none⟩ = some (.int .i64 (re : Int)) := fun s => ((unhide U).later s.h).c1
  have hri : (re : Int) < 8 := by omega
  clear h8
  refine wp_region_sub (⟨W0, Below.refl _ _⟩ : Sub W0.heap.size W0) (by kernel_rfl) (by kernel_rfl) ?_
  repeat (go_big_quiet_step (fail))
  refine wpQuiet_nil ?_
  intro s
  have US := hide ((unhide U).later s.h)
  have PS := hide ((unhide PW).later s.h)
  go_wp2_with fail
  refine (adPlace_any _ _).mono ?_
  rintro e w1 ⟨rfl, hb⟩
  have U1 := hide ((unhide US).later hb)
  have P1 := hide ((unhide PS).later hb)
  clear hb
  go_wp2_with (first | (refine wpList_store_row rfl 44 _ _ rfl (w.heap.size + 1) #[.int .i64 (-1), .int .i64 (nAt d.r re)] rfl rfl 44 #[.int .i64 0, .int .i64 0] (unhide U1).rp (by kernel_rfl) rfl (by simp [Value.oneCell']) ?_))
  obtain ⟨r1, r2⟩ := (unhide U1).done #[.int .i64 (-1), .int .i64 (nAt d.r re)]
  refine bodyPost_ret (results_row2 (P := Try.prog) rfl _ _ (w.heap.size + 1) 44 #[.int .i64 (-1), .int .i64 (nAt d.r re)] (0, 0) _ rfl r1 Try.underlying44 rfl (by kernel_rfl)) rfl ?_
  exact ⟨rfl, fun _ => (unhide P1).setRow (w := w) (unhide GL) (unhide AT) (by omega) _, r2⟩
set_option maxHeartbeats 4000000 in
theorem po_2 (P : Pg w g B gr rc y d) (h8 : d.R8) (hr : re < 8) (hs : y.small) (hlt : gr < w.heap.size) (hgl : g < w.heap.size) : PoIs g B gr rc re X y w 2 (-1) (nAt d.r re) true (d.reg re ((nAt d.r re + 2) % 65536)) := by
  unfold PoIs
  have U := hide (bu_new (w := w) 2 (re : Int) X hlt)
  have PW := hide (P.later (below_two w (Obj.cells #[.int .i64 2, .int .i64 (re : Int), .int .i64 X] 40) (Obj.cells #[.int .i64 0, .int .i64 0] 44)))
  have AT := hide (fun b (hb : y.at b) => own_at_lt P.own hb)
  have GL := hide hgl
  obtain ⟨v0, v1⟩ := h8.2 re hr
  have hrl : re < d.r.length := by rw [h8.1]; exact hr
  have HRL := hide hrl
  have H8 := hide h8
  have HS := hide hs
  clear P hlt hgl hs
  go_enter Try.func67, Try.ntmps67
  go_wp2_with fail
  generalize ((w.alloc (Obj.cells #[.int .i64 2, .int .i64 (re : Int), .int .i64 X] 40)).alloc (Obj.cells #[.int .i64 0, .int .i64 0] 44)) = W0 at U PW ⊢
  have ne := Sub.ne W0.heap.size W0
  have c1 : ∀ s : Sub W0.heap.size W0, s.w.cell? ⟨g, 257, none⟩ = some (.slice (some ⟨gr, 0, none⟩) 8 rc) := fun s => by have := ((unhide PW).later s.h).r; rw [(unhide H8).1] at this; exact this
  have c2 : ∀ s : Sub W0.heap.size W0, s.w.cell? ⟨gr, re, none⟩ = some (.int .i64 (nAt d.r re)) := fun s => ((unhide PW).later s.h).cell re (unhide HRL)
  have b0 : ∀ s : Sub W0.heap.size W0, s.w.cell? ⟨w.heap.size, 0, none⟩ = some (.int .i64 2) := fun s => ((unhide U).later s.h).c0
  have b1 : ∀ s : Sub W0.heap.size W0, s.w.cell? ⟨w.heap.size, 1, none⟩ = some (.int .i64 (re : Int)) := fun s => ((unhide U).later s.h).c1
  have hri : (re : Int) < 8 := by omega
  clear h8
  refine wp_region_sub (⟨W0, Below.refl _ _⟩ : Sub W0.heap.size W0) (by kernel_rfl) (by kernel_rfl) ?_
  repeat (go_big_quiet_step (fail))
  refine wpQuiet_nil ?_
  intro s
  have US := hide ((unhide U).later s.h)
  have PS := hide ((unhide PW).later s.h)
  go_wp2_with fail
  refine (goOn_any g B gr rc re y d _ (unhide PS) (unhide HRL) v0 v1).mono ?_
  rintro e w1 ⟨rfl, p2, g2⟩
  have U1 := hide ((unhide US).past g2)
  have P1 := hide p2
  clear p2 g2
  go_wp2_with fail
  refine (adPlace_any _ _).mono ?_
  rintro e w2 ⟨rfl, hb⟩
  have U2 := hide ((unhide U1).later hb)
  have P2 := hide ((unhide P1).later hb)
  clear hb
  go_wp2_with (first | (refine wpList_store_row rfl 44 _ _ rfl (w.heap.size + 1) #[.int .i64 (-1), .int .i64 (nAt d.r re)] rfl rfl 44 #[.int .i64 0, .int .i64 0] (unhide U2).rp (by kernel_rfl) rfl (by simp [Value.oneCell']) ?_))
  obtain ⟨r1, r2⟩ := (unhide U2).done #[.int .i64 (-1), .int .i64 (nAt d.r re)]
  refine bodyPost_ret (results_row2 (P := Try.prog) rfl _ _ (w.heap.size + 1) 44 #[.int .i64 (-1), .int .i64 (nAt d.r re)] (0, 0) _ rfl r1 Try.underlying44 rfl (by kernel_rfl)) rfl ?_
  exact ⟨rfl, fun _ => (unhide P2).setRow (w := w) (unhide GL) (unhide AT) (by omega) _, r2⟩
set_option maxHeartbeats 4000000 in
theorem po_4 (P : Pg w g B gr rc y d) (h8 : d.R8) (hr : re < 8) (hs : y.small) (hlt : gr < w.heap.size) (hgl : g < w.heap.size) : PoIs g B gr rc re X y w 4 (-1) ((nAt d.r re - 2) % 65536) true (d.reg re ((nAt d.r re - 2) % 65536)) := by
  unfold PoIs
  have U := hide (bu_new (w := w) 4 (re : Int) X hlt)
  have PW := hide (P.later (below_two w (Obj.cells #[.int .i64 4, .int .i64 (re : Int), .int .i64 X] 40) (Obj.cells #[.int .i64 0, .int .i64 0] 44)))
  have AT := hide (fun b (hb : y.at b) => own_at_lt P.own hb)
  have GL := hide hgl
  obtain ⟨v0, v1⟩ := h8.2 re hr
  have hrl : re < d.r.length := by rw [h8.1]; exact hr
  have HRL := hide hrl
  have H8 := hide h8
  have HS := hide hs
  clear P hlt hgl hs
  go_enter Try.func67, Try.ntmps67
  go_wp2_with fail
  generalize ((w.alloc (Obj.cells #[.int .i64 4, .int .i64 (re : Int), .int .i64 X] 40)).alloc (Obj.cells #[.int .i64 0, .int .i64 0] 44)) = W0 at U PW ⊢
  have ne := Sub.ne W0.heap.size W0
  have c1 : ∀ s : Sub W0.heap.size W0, s.w.cell? ⟨g, 257, none⟩ = some (.slice (some ⟨gr, 0, none⟩) 8 rc) := fun s => by have := ((unhide PW).later s.h).r; rw [(unhide H8).1] at this; exact this
  have c2 : ∀ s : Sub W0.heap.size W0, s.w.cell? ⟨gr, re, none⟩ = some (.int .i64 (nAt d.r re)) := fun s => ((unhide PW).later s.h).cell re (unhide HRL)
  have b0 : ∀ s : Sub W0.heap.size W0, s.w.cell? ⟨w.heap.size, 0, none⟩ = some (.int .i64 4) := fun s => ((unhide U).later s.h).c0
  have b1 : ∀ s : Sub W0.heap.size W0, s.w.cell? ⟨w.heap.size, 1, none⟩ = some (.int .i64 (re : Int)) := fun s => ((unhide U).later s.h).c1
  have hri : (re : Int) < 8 := by omega
  clear h8
  refine wp_region_sub (⟨W0, Below.refl _ _⟩ : Sub W0.heap.size W0) (by kernel_rfl) (by kernel_rfl) ?_
  repeat (go_big_quiet_step (fail))
  refine wpQuiet_nil ?_
  intro s
  have US := hide ((unhide U).later s.h)
  have PS := hide ((unhide PW).later s.h)
  go_wp2_with fail
  refine (goBack_any g B gr rc re y d _ (unhide PS) (unhide HRL) v0 v1).mono ?_
  rintro e w1 ⟨rfl, p2, g2⟩
  have U1 := hide ((unhide US).past g2)
  have P1 := hide p2
  clear p2 g2
  go_wp2_with fail
  refine (adPlace_any _ _).mono ?_
  rintro e w2 ⟨rfl, hb⟩
  have U2 := hide ((unhide U1).later hb)
  have P2 := hide ((unhide P1).later hb)
  clear hb
  go_wp2_with (first | (refine wpList_store_row rfl 44 _ _ rfl (w.heap.size + 1) #[.int .i64 (-1), .int .i64 ((nAt d.r re - 2) % 65536)] rfl rfl 44 #[.int .i64 0, .int .i64 0] (unhide U2).rp (by kernel_rfl) rfl (by simp [Value.oneCell']) ?_))
  obtain ⟨r1, r2⟩ := (unhide U2).done #[.int .i64 (-1), .int .i64 ((nAt d.r re - 2) % 65536)]
  refine bodyPost_ret (results_row2 (P := Try.prog) rfl _ _ (w.heap.size + 1) 44 #[.int .i64 (-1), .int .i64 ((nAt d.r re - 2) % 65536)] (0, 0) _ rfl r1 Try.underlying44 rfl (by kernel_rfl)) rfl ?_
  exact ⟨rfl, fun _ => (unhide P2).setRow (w := w) (unhide GL) (unhide AT) (by omega) _, r2⟩
end
end Go.Proofs.Ytfkmibgamkignaa

namespace Go.Proofs.Ytfkmibgamkignaa
open Go.ChangeShapes Go.WideShapes Go.ChangeAt Go.RowKit
set_option linter.unusedVariables false
set_option maxRecDepth 8000
set_option linter.unusedSimpArgs false

section
variable (g B gr rc re : Nat) (X : Int) (y : Mv) (d : Md) (w : World)
set_option maxHeartbeats 4000000 in
theorem po_3 (P : Pg w g B gr rc y d) (h8 : d.R8) (hr : re < 8) (hs : y.small) (hlt : gr < w.heap.size) (hgl : g < w.heap.size) : PoIs g B gr rc re X y w 3 (if (d.reg re ((nAt d.r re + 2) % 65536)).has (nAt d.r re) = true then -1 else 0) (if (d.reg re ((nAt d.r re + 2) % 65536)).has (nAt d.r re) = true then (d.reg re ((nAt d.r re + 2) % 65536)).get (nAt d.r re) else 0) ((d.reg re ((nAt d.r re + 2) % 65536)).has (nAt d.r re)) (d.reg re ((nAt d.r re + 2) % 65536)) := by
  unfold PoIs
  have U := hide (bu_new (w := w) 3 (re : Int) X hlt)
  have PW := hide (P.later (below_two w (Obj.cells #[.int .i64 3, .int .i64 (re : Int), .int .i64 X] 40) (Obj.cells #[.int .i64 0, .int .i64 0] 44)))
  have AT := hide (fun b (hb : y.at b) => own_at_lt P.own hb)
  have GL := hide hgl
  obtain ⟨v0, v1⟩ := h8.2 re hr
  have hrl : re < d.r.length := by rw [h8.1]; exact hr
  have T := hide (fun w P => through_any g B gr rc (nAt d.r re) y (d.reg re ((nAt d.r re + 2) % 65536)) w P hs)
  obtain ⟨ok, hok⟩ : ∃ b, (d.reg re ((nAt d.r re + 2) % 65536)).has (nAt d.r re) = b := ⟨_, rfl⟩
  obtain ⟨rr, hrr⟩ : ∃ b : Int, (if (d.reg re ((nAt d.r re + 2) % 65536)).has (nAt d.r re) = true then -1 else 0) = b := ⟨_, rfl⟩
  obtain ⟨aa, haa⟩ : ∃ b : Int, (if (d.reg re ((nAt d.r re + 2) % 65536)).has (nAt d.r re) = true then (d.reg re ((nAt d.r re + 2) % 65536)).get (nAt d.r re) else 0) = b := ⟨_, rfl⟩
  rw [hrr, haa, hok] at T
  rw [hrr, haa, hok]
  clear hrr haa hok
  have HRL := hide hrl
  have H8 := hide h8
  have HS := hide hs
  clear P hlt hgl hs
  go_enter Try.func67, Try.ntmps67
  go_wp2_with fail
  generalize ((w.alloc (Obj.cells #[.int .i64 3, .int .i64 (re : Int), .int .i64 X] 40)).alloc (Obj.cells #[.int .i64 0, .int .i64 0] 44)) = W0 at U PW ⊢
  have ne := Sub.ne W0.heap.size W0
  have c1 : ∀ s : Sub W0.heap.size W0, s.w.cell? ⟨g, 257, none⟩ = some (.slice (some ⟨gr, 0, none⟩) 8 rc) := fun s => by have := ((unhide PW).later s.h).r; rw [(unhide H8).1] at this; exact this
  have c2 : ∀ s : Sub W0.heap.size W0, s.w.cell? ⟨gr, re, none⟩ = some (.int .i64 (nAt d.r re)) := fun s => ((unhide PW).later s.h).cell re (unhide HRL)
  have b0 : ∀ s : Sub W0.heap.size W0, s.w.cell? ⟨w.heap.size, 0, none⟩ = some (.int .i64 3) := fun s => ((unhide U).later s.h).c0
  have b1 : ∀ s : Sub W0.heap.size W0, s.w.cell? ⟨w.heap.size, 1, none⟩ = some (.int .i64 (re : Int)) := fun s => ((unhide U).later s.h).c1
  have hri : (re : Int) < 8 := by omega
  clear h8
  refine wp_region_sub (⟨W0, Below.refl _ _⟩ : Sub W0.heap.size W0) (by kernel_rfl) (by kernel_rfl) ?_
  repeat (go_big_quiet_step (fail))
  refine wpQuiet_nil ?_
  intro s
  have US := hide ((unhide U).later s.h)
  have PS := hide ((unhide PW).later s.h)
  go_wp2_with fail
  refine (goOn_any g B gr rc re y d _ (unhide PS) (unhide HRL) v0 v1).mono ?_
  rintro e w1 ⟨rfl, p2, g2⟩
  have U1 := hide ((unhide US).past g2)
  have P1 := hide p2
  clear p2 g2
  go_wp2_with fail
  refine (unhide T _ (unhide P1)).mono ?_
  rintro e w2 ⟨rfl, hb⟩
  have U2 := hide ((unhide U1).later hb)
  have P2 := hide ((unhide P1).later hb)
  clear hb
  go_wp2_with (first | (refine wpList_store_row rfl 44 _ _ rfl (w.heap.size + 1) #[.int .i64 (rr), .int .i64 (aa)] rfl rfl 44 #[.int .i64 0, .int .i64 0] (unhide U2).rp (by kernel_rfl) rfl (by simp [Value.oneCell']) ?_))
  obtain ⟨r1, r2⟩ := (unhide U2).done #[.int .i64 (rr), .int .i64 (aa)]
  refine bodyPost_ret (results_row2 (P := Try.prog) rfl _ _ (w.heap.size + 1) 44 #[.int .i64 (rr), .int .i64 (aa)] (0, 0) _ rfl r1 Try.underlying44 rfl (by kernel_rfl)) rfl ?_
  exact ⟨rfl, fun _ => (unhide P2).setRow (w := w) (unhide GL) (unhide AT) (by omega) _, r2⟩
set_option maxHeartbeats 4000000 in
theorem po_5 (P : Pg w g B gr rc y d) (h8 : d.R8) (hr : re < 8) (hs : y.small) (hlt : gr < w.heap.size) (hgl : g < w.heap.size) : PoIs g B gr rc re X y w 5 (if (d.reg re ((nAt d.r re - 2) % 65536)).has ((nAt d.r re - 2) % 65536) = true then -1 else 0) (if (d.reg re ((nAt d.r re - 2) % 65536)).has ((nAt d.r re - 2) % 65536) = true then (d.reg re ((nAt d.r re - 2) % 65536)).get ((nAt d.r re - 2) % 65536) else 0) ((d.reg re ((nAt d.r re - 2) % 65536)).has ((nAt d.r re - 2) % 65536)) (d.reg re ((nAt d.r re - 2) % 65536)) := by
  unfold PoIs
  have U := hide (bu_new (w := w) 5 (re : Int) X hlt)
  have PW := hide (P.later (below_two w (Obj.cells #[.int .i64 5, .int .i64 (re : Int), .int .i64 X] 40) (Obj.cells #[.int .i64 0, .int .i64 0] 44)))
  have AT := hide (fun b (hb : y.at b) => own_at_lt P.own hb)
  have GL := hide hgl
  obtain ⟨v0, v1⟩ := h8.2 re hr
  have hrl : re < d.r.length := by rw [h8.1]; exact hr
  have T := hide (fun w P => through_any g B gr rc ((nAt d.r re - 2) % 65536) y (d.reg re ((nAt d.r re - 2) % 65536)) w P hs)
  obtain ⟨ok, hok⟩ : ∃ b, (d.reg re ((nAt d.r re - 2) % 65536)).has ((nAt d.r re - 2) % 65536) = b := ⟨_, rfl⟩
  obtain ⟨rr, hrr⟩ : ∃ b : Int, (if (d.reg re ((nAt d.r re - 2) % 65536)).has ((nAt d.r re - 2) % 65536) = true then -1 else 0) = b := ⟨_, rfl⟩
  obtain ⟨aa, haa⟩ : ∃ b : Int, (if (d.reg re ((nAt d.r re - 2) % 65536)).has ((nAt d.r re - 2) % 65536) = true then (d.reg re ((nAt d.r re - 2) % 65536)).get ((nAt d.r re - 2) % 65536) else 0) = b := ⟨_, rfl⟩
  rw [hrr, haa, hok] at T
  rw [hrr, haa, hok]
  clear hrr haa hok
  have HRL := hide hrl
  have H8 := hide h8
  have HS := hide hs
  clear P hlt hgl hs
  go_enter Try.func67, Try.ntmps67
  go_wp2_with fail
  generalize ((w.alloc (Obj.cells #[.int .i64 5, .int .i64 (re : Int), .int .i64 X] 40)).alloc (Obj.cells #[.int .i64 0, .int .i64 0] 44)) = W0 at U PW ⊢
  have ne := Sub.ne W0.heap.size W0
  have c1 : ∀ s : Sub W0.heap.size W0, s.w.cell? ⟨g, 257, none⟩ = some (.slice (some ⟨gr, 0, none⟩) 8 rc) := fun s => by have := ((unhide PW).later s.h).r; rw [(unhide H8).1] at this; exact this
  have c2 : ∀ s : Sub W0.heap.size W0, s.w.cell? ⟨gr, re, none⟩ = some (.int .i64 (nAt d.r re)) := fun s => ((unhide PW).later s.h).cell re (unhide HRL)
  have b0 : ∀ s : Sub W0.heap.size W0, s.w.cell? ⟨w.heap.size, 0, none⟩ = some (.int .i64 5) := fun s => ((unhide U).later s.h).c0
  have b1 : ∀ s : Sub W0.heap.size W0, s.w.cell? ⟨w.heap.size, 1, none⟩ = some (.int .i64 (re : Int)) := fun s => ((unhide U).later s.h).c1
  have hri : (re : Int) < 8 := by omega
  clear h8
  refine wp_region_sub (⟨W0, Below.refl _ _⟩ : Sub W0.heap.size W0) (by kernel_rfl) (by kernel_rfl) ?_
  repeat (go_big_quiet_step (fail))
  refine wpQuiet_nil ?_
  intro s
  have US := hide ((unhide U).later s.h)
  have PS := hide ((unhide PW).later s.h)
  go_wp2_with fail
  refine (goBack_any g B gr rc re y d _ (unhide PS) (unhide HRL) v0 v1).mono ?_
  rintro e w1 ⟨rfl, p2, g2⟩
  have U1 := hide ((unhide US).past g2)
  have P1 := hide p2
  clear p2 g2
  go_wp2_with fail
  refine (unhide T _ (unhide P1)).mono ?_
  rintro e w2 ⟨rfl, hb⟩
  have U2 := hide ((unhide U1).later hb)
  have P2 := hide ((unhide P1).later hb)
  clear hb
  go_wp2_with (first | (refine wpList_store_row rfl 44 _ _ rfl (w.heap.size + 1) #[.int .i64 (rr), .int .i64 (aa)] rfl rfl 44 #[.int .i64 0, .int .i64 0] (unhide U2).rp (by kernel_rfl) rfl (by simp [Value.oneCell']) ?_))
  obtain ⟨r1, r2⟩ := (unhide U2).done #[.int .i64 (rr), .int .i64 (aa)]
  refine bodyPost_ret (results_row2 (P := Try.prog) rfl _ _ (w.heap.size + 1) 44 #[.int .i64 (rr), .int .i64 (aa)] (0, 0) _ rfl r1 Try.underlying44 rfl (by kernel_rfl)) rfl ?_
  exact ⟨rfl, fun _ => (unhide P2).setRow (w := w) (unhide GL) (unhide AT) (by omega) _, r2⟩
set_option maxHeartbeats 4000000 in
theorem po_6n (P : Pg w g B gr rc y d) (h8 : d.R8) (hr : re < 8) (hs : y.small) (hlt : gr < w.heap.size) (hgl : g < w.heap.size) (hx : 0 ≤ d.get (nAt d.r 7) ∧ d.get (nAt d.r 7) ≤ 65535) (hq : d.has (nAt d.r 7) = false) : PoIs g B gr rc re X y w 6 (0) (0) false (d.reg 7 ((nAt d.r 7 + 2) % 65536)) := by
  unfold PoIs
  have U := hide (bu_new (w := w) 6 (re : Int) X hlt)
  have PW := hide (P.later (below_two w (Obj.cells #[.int .i64 6, .int .i64 (re : Int), .int .i64 X] 40) (Obj.cells #[.int .i64 0, .int .i64 0] 44)))
  have AT := hide (fun b (hb : y.at b) => own_at_lt P.own hb)
  have GL := hide hgl
  obtain ⟨v0, v1⟩ := h8.2 re hr
  have hrl : re < d.r.length := by rw [h8.1]; exact hr
  have I := hide (fun w P => indexed_any g B gr rc re y d w P h8 hr hs hx)
  rw [hq] at I
  simp only [Bool.false_eq_true, if_false] at I
  clear hx hq
  have HRL := hide hrl
  have H8 := hide h8
  have HS := hide hs
  clear P hlt hgl hs
  go_enter Try.func67, Try.ntmps67
  go_wp2_with fail
  generalize ((w.alloc (Obj.cells #[.int .i64 6, .int .i64 (re : Int), .int .i64 X] 40)).alloc (Obj.cells #[.int .i64 0, .int .i64 0] 44)) = W0 at U PW ⊢
  have ne := Sub.ne W0.heap.size W0
  have c1 : ∀ s : Sub W0.heap.size W0, s.w.cell? ⟨g, 257, none⟩ = some (.slice (some ⟨gr, 0, none⟩) 8 rc) := fun s => by have := ((unhide PW).later s.h).r; rw [(unhide H8).1] at this; exact this
  have c2 : ∀ s : Sub W0.heap.size W0, s.w.cell? ⟨gr, re, none⟩ = some (.int .i64 (nAt d.r re)) := fun s => ((unhide PW).later s.h).cell re (unhide HRL)
  have b0 : ∀ s : Sub W0.heap.size W0, s.w.cell? ⟨w.heap.size, 0, none⟩ = some (.int .i64 6) := fun s => ((unhide U).later s.h).c0
  have b1 : ∀ s : Sub W0.heap.size W0, s.w.cell? ⟨w.heap.size, 1, none⟩ = some (.int .i64 (re : Int)) := fun s => ((unhide U).later s.h).c1
  have hri : (re : Int) < 8 := by omega
  clear h8
  refine wp_region_sub (⟨W0, Below.refl _ _⟩ : Sub W0.heap.size W0) (by kernel_rfl) (by kernel_rfl) ?_
  repeat (go_big_quiet_step (fail))
  refine wpQuiet_nil ?_
  intro s
  have US := hide ((unhide U).later s.h)
  have PS := hide ((unhide PW).later s.h)
  go_wp2_with fail
  refine (unhide I _ (unhide PS)).mono ?_
  rintro e w1 ⟨rfl, p2, g2⟩
  have U1 := hide ((unhide US).past g2)
  have P1 := hide p2
  clear p2 g2
  go_wp2_with (first | (refine wpList_store_row rfl 44 _ _ rfl (w.heap.size + 1) #[.int .i64 (0), .int .i64 (0)] rfl rfl 44 #[.int .i64 0, .int .i64 0] (unhide U1).rp (by kernel_rfl) rfl (by simp [Value.oneCell']) ?_))
  obtain ⟨r1, r2⟩ := (unhide U1).done #[.int .i64 (0), .int .i64 (0)]
  refine bodyPost_ret (results_row2 (P := Try.prog) rfl _ _ (w.heap.size + 1) 44 #[.int .i64 (0), .int .i64 (0)] (0, 0) _ rfl r1 Try.underlying44 rfl (by kernel_rfl)) rfl ?_
  exact ⟨rfl, (fun h => Bool.noConfusion h), r2⟩
set_option maxHeartbeats 4000000 in
theorem po_7n (P : Pg w g B gr rc y d) (h8 : d.R8) (hr : re < 8) (hs : y.small) (hlt : gr < w.heap.size) (hgl : g < w.heap.size) (hx : 0 ≤ d.get (nAt d.r 7) ∧ d.get (nAt d.r 7) ≤ 65535) (hq : d.has (nAt d.r 7) = false) : PoIs g B gr rc re X y w 7 (0) (0) false (d.reg 7 ((nAt d.r 7 + 2) % 65536)) := by
  unfold PoIs
  have U := hide (bu_new (w := w) 7 (re : Int) X hlt)
  have PW := hide (P.later (below_two w (Obj.cells #[.int .i64 7, .int .i64 (re : Int), .int .i64 X] 40) (Obj.cells #[.int .i64 0, .int .i64 0] 44)))
  have AT := hide (fun b (hb : y.at b) => own_at_lt P.own hb)
  have GL := hide hgl
  obtain ⟨v0, v1⟩ := h8.2 re hr
  have hrl : re < d.r.length := by rw [h8.1]; exact hr
  have I := hide (fun w P => indexed_any g B gr rc re y d w P h8 hr hs hx)
  rw [hq] at I
  simp only [Bool.false_eq_true, if_false] at I
  clear hx hq
  have HRL := hide hrl
  have H8 := hide h8
  have HS := hide hs
  clear P hlt hgl hs
  go_enter Try.func67, Try.ntmps67
  go_wp2_with fail
  generalize ((w.alloc (Obj.cells #[.int .i64 7, .int .i64 (re : Int), .int .i64 X] 40)).alloc (Obj.cells #[.int .i64 0, .int .i64 0] 44)) = W0 at U PW ⊢
  have ne := Sub.ne W0.heap.size W0
  have c1 : ∀ s : Sub W0.heap.size W0, s.w.cell? ⟨g, 257, none⟩ = some (.slice (some ⟨gr, 0, none⟩) 8 rc) := fun s => by have := ((unhide PW).later s.h).r; rw [(unhide H8).1] at this; exact this
  have c2 : ∀ s : Sub W0.heap.size W0, s.w.cell? ⟨gr, re, none⟩ = some (.int .i64 (nAt d.r re)) := fun s => ((unhide PW).later s.h).cell re (unhide HRL)
  have b0 : ∀ s : Sub W0.heap.size W0, s.w.cell? ⟨w.heap.size, 0, none⟩ = some (.int .i64 7) := fun s => ((unhide U).later s.h).c0
  have b1 : ∀ s : Sub W0.heap.size W0, s.w.cell? ⟨w.heap.size, 1, none⟩ = some (.int .i64 (re : Int)) := fun s => ((unhide U).later s.h).c1
  have hri : (re : Int) < 8 := by omega
  clear h8
  refine wp_region_sub (⟨W0, Below.refl _ _⟩ : Sub W0.heap.size W0) (by kernel_rfl) (by kernel_rfl) ?_
  repeat (go_big_quiet_step (fail))
  refine wpQuiet_nil ?_
  intro s
  have US := hide ((unhide U).later s.h)
  have PS := hide ((unhide PW).later s.h)
  go_wp2_with fail
  refine (unhide I _ (unhide PS)).mono ?_
  rintro e w1 ⟨rfl, p2, g2⟩
  have U1 := hide ((unhide US).past g2)
  have P1 := hide p2
  clear p2 g2
  go_wp2_with (first | (refine wpList_store_row rfl 44 _ _ rfl (w.heap.size + 1) #[.int .i64 (0), .int .i64 (0)] rfl rfl 44 #[.int .i64 0, .int .i64 0] (unhide U1).rp (by kernel_rfl) rfl (by simp [Value.oneCell']) ?_))
  obtain ⟨r1, r2⟩ := (unhide U1).done #[.int .i64 (0), .int .i64 (0)]
  refine bodyPost_ret (results_row2 (P := Try.prog) rfl _ _ (w.heap.size + 1) 44 #[.int .i64 (0), .int .i64 (0)] (0, 0) _ rfl r1 Try.underlying44 rfl (by kernel_rfl)) rfl ?_
  exact ⟨rfl, (fun h => Bool.noConfusion h), r2⟩
set_option maxHeartbeats 4000000 in
theorem po_6y (P : Pg w g B gr rc y d) (h8 : d.R8) (hr : re < 8) (hs : y.small) (hlt : gr < w.heap.size) (hgl : g < w.heap.size) (hx : 0 ≤ d.get (nAt d.r 7) ∧ d.get (nAt d.r 7) ≤ 65535) (hq : d.has (nAt d.r 7) = true) : PoIs g B gr rc re X y w 6 (-1) ((d.get (nAt d.r 7) + nAt d.fet.r re) % 65536) true (d.reg 7 ((nAt d.r 7 + 2) % 65536)) := by
  unfold PoIs
  have U := hide (bu_new (w := w) 6 (re : Int) X hlt)
  have PW := hide (P.later (below_two w (Obj.cells #[.int .i64 6, .int .i64 (re : Int), .int .i64 X] 40) (Obj.cells #[.int .i64 0, .int .i64 0] 44)))
  have AT := hide (fun b (hb : y.at b) => own_at_lt P.own hb)
  have GL := hide hgl
  obtain ⟨v0, v1⟩ := h8.2 re hr
  have hrl : re < d.r.length := by rw [h8.1]; exact hr
  have I := hide (fun w P => indexed_any g B gr rc re y d w P h8 hr hs hx)
  rw [hq] at I
  simp only [if_true] at I
  clear hx hq
  have HRL := hide hrl
  have H8 := hide h8
  have HS := hide hs
  clear P hlt hgl hs
  go_enter Try.func67, Try.ntmps67
  go_wp2_with fail
  generalize ((w.alloc (Obj.cells #[.int .i64 6, .int .i64 (re : Int), .int .i64 X] 40)).alloc (Obj.cells #[.int .i64 0, .int .i64 0] 44)) = W0 at U PW ⊢
  have ne := Sub.ne W0.heap.size W0
  have c1 : ∀ s : Sub W0.heap.size W0, s.w.cell? ⟨g, 257, none⟩ = some (.slice (some ⟨gr, 0, none⟩) 8 rc) := fun s => by have := ((unhide PW).later s.h).r; rw [(unhide H8).1] at this; exact this
  have c2 : ∀ s : Sub W0.heap.size W0, s.w.cell? ⟨gr, re, none⟩ = some (.int .i64 (nAt d.r re)) := fun s => ((unhide PW).later s.h).cell re (unhide HRL)
  have b0 : ∀ s : Sub W0.heap.size W0, s.w.cell? ⟨w.heap.size, 0, none⟩ = some (.int .i64 6) := fun s => ((unhide U).later s.h).c0
  have b1 : ∀ s : Sub W0.heap.size W0, s.w.cell? ⟨w.heap.size, 1, none⟩ = some (.int .i64 (re : Int)) := fun s => ((unhide U).later s.h).c1
  have hri : (re : Int) < 8 := by omega
  clear h8
  refine wp_region_sub (⟨W0, Below.refl _ _⟩ : Sub W0.heap.size W0) (by kernel_rfl) (by kernel_rfl) ?_
  repeat (go_big_quiet_step (fail))
  refine wpQuiet_nil ?_
  intro s
  have US := hide ((unhide U).later s.h)
  have PS := hide ((unhide PW).later s.h)
  go_wp2_with fail
  refine (unhide I _ (unhide PS)).mono ?_
  rintro e w1 ⟨rfl, p2, g2⟩
  have U1 := hide ((unhide US).past g2)
  have P1 := hide p2
  clear p2 g2
  have k0 := (unhide U1).c0
  go_wp2_with fail
  refine (adPlace_any _ _).mono ?_
  rintro e w2 ⟨rfl, hb⟩
  have U2 := hide ((unhide U1).later hb)
  have P2 := hide ((unhide P1).later hb)
  clear hb
  go_wp2_with (first | (refine wpList_store_row rfl 44 _ _ rfl (w.heap.size + 1) #[.int .i64 (-1), .int .i64 ((d.get (nAt d.r 7) + nAt d.fet.r re) % 65536)] rfl rfl 44 #[.int .i64 0, .int .i64 0] (unhide U2).rp (by kernel_rfl) rfl (by simp [Value.oneCell']) ?_))
  obtain ⟨r1, r2⟩ := (unhide U2).done #[.int .i64 (-1), .int .i64 ((d.get (nAt d.r 7) + nAt d.fet.r re) % 65536)]
  refine bodyPost_ret (results_row2 (P := Try.prog) rfl _ _ (w.heap.size + 1) 44 #[.int .i64 (-1), .int .i64 ((d.get (nAt d.r 7) + nAt d.fet.r re) % 65536)] (0, 0) _ rfl r1 Try.underlying44 rfl (by kernel_rfl)) rfl ?_
  exact ⟨rfl, fun _ => (unhide P2).setRow (w := w) (unhide GL) (unhide AT) (by omega) _, r2⟩
set_option maxHeartbeats 4000000 in
theorem po_7y (P : Pg w g B gr rc y d) (h8 : d.R8) (hr : re < 8) (hs : y.small) (hlt : gr < w.heap.size) (hgl : g < w.heap.size) (hx : 0 ≤ d.get (nAt d.r 7) ∧ d.get (nAt d.r 7) ≤ 65535) (hq : d.has (nAt d.r 7) = true) : PoIs g B gr rc re X y w 7 (if (d.reg 7 ((nAt d.r 7 + 2) % 65536)).has ((d.get (nAt d.r 7) + nAt d.fet.r re) % 65536) = true then -1 else 0) (if (d.reg 7 ((nAt d.r 7 + 2) % 65536)).has ((d.get (nAt d.r 7) + nAt d.fet.r re) % 65536) = true then (d.reg 7 ((nAt d.r 7 + 2) % 65536)).get ((d.get (nAt d.r 7) + nAt d.fet.r re) % 65536) else 0) ((d.reg 7 ((nAt d.r 7 + 2) % 65536)).has ((d.get (nAt d.r 7) + nAt d.fet.r re) % 65536)) (d.reg 7 ((nAt d.r 7 + 2) % 65536)) := by
  unfold PoIs
  have U := hide (bu_new (w := w) 7 (re : Int) X hlt)
  have PW := hide (P.later (below_two w (Obj.cells #[.int .i64 7, .int .i64 (re : Int), .int .i64 X] 40) (Obj.cells #[.int .i64 0, .int .i64 0] 44)))
  have AT := hide (fun b (hb : y.at b) => own_at_lt P.own hb)
  have GL := hide hgl
  obtain ⟨v0, v1⟩ := h8.2 re hr
  have hrl : re < d.r.length := by rw [h8.1]; exact hr
  have I := hide (fun w P => indexed_any g B gr rc re y d w P h8 hr hs hx)
  rw [hq] at I
  simp only [if_true] at I
  clear hx hq
  have T := hide (fun w P => through_any g B gr rc ((d.get (nAt d.r 7) + nAt d.fet.r re) % 65536) y (d.reg 7 ((nAt d.r 7 + 2) % 65536)) w P hs)
  obtain ⟨ok, hok⟩ : ∃ b, (d.reg 7 ((nAt d.r 7 + 2) % 65536)).has ((d.get (nAt d.r 7) + nAt d.fet.r re) % 65536) = b := ⟨_, rfl⟩
  obtain ⟨rr, hrr⟩ : ∃ b : Int, (if (d.reg 7 ((nAt d.r 7 + 2) % 65536)).has ((d.get (nAt d.r 7) + nAt d.fet.r re) % 65536) = true then -1 else 0) = b := ⟨_, rfl⟩
  obtain ⟨aa, haa⟩ : ∃ b : Int, (if (d.reg 7 ((nAt d.r 7 + 2) % 65536)).has ((d.get (nAt d.r 7) + nAt d.fet.r re) % 65536) = true then (d.reg 7 ((nAt d.r 7 + 2) % 65536)).get ((d.get (nAt d.r 7) + nAt d.fet.r re) % 65536) else 0) = b := ⟨_, rfl⟩
  rw [hrr, haa, hok] at T
  rw [hrr, haa, hok]
  clear hrr haa hok
  have HRL := hide hrl
  have H8 := hide h8
  have HS := hide hs
  clear P hlt hgl hs
  go_enter Try.func67, Try.ntmps67
  go_wp2_with fail
  generalize ((w.alloc (Obj.cells #[.int .i64 7, .int .i64 (re : Int), .int .i64 X] 40)).alloc (Obj.cells #[.int .i64 0, .int .i64 0] 44)) = W0 at U PW ⊢
  have ne := Sub.ne W0.heap.size W0
  have c1 : ∀ s : Sub W0.heap.size W0, s.w.cell? ⟨g, 257, none⟩ = some (.slice (some ⟨gr, 0, none⟩) 8 rc) := fun s => by have := ((unhide PW).later s.h).r; rw [(unhide H8).1] at this; exact this
  have c2 : ∀ s : Sub W0.heap.size W0, s.w.cell? ⟨gr, re, none⟩ = some (.int .i64 (nAt d.r re)) := fun s => ((unhide PW).later s.h).cell re (unhide HRL)
  have b0 : ∀ s : Sub W0.heap.size W0, s.w.cell? ⟨w.heap.size, 0, none⟩ = some (.int .i64 7) := fun s => ((unhide U).later s.h).c0
  have b1 : ∀ s : Sub W0.heap.size W0, s.w.cell? ⟨w.heap.size, 1, none⟩ = some (.int .i64 (re : Int)) := fun s => ((unhide U).later s.h).c1
  have hri : (re : Int) < 8 := by omega
  clear h8
  refine wp_region_sub (⟨W0, Below.refl _ _⟩ : Sub W0.heap.size W0) (by kernel_rfl) (by kernel_rfl) ?_
  repeat (go_big_quiet_step (fail))
  refine wpQuiet_nil ?_
  intro s
  have US := hide ((unhide U).later s.h)
  have PS := hide ((unhide PW).later s.h)
  go_wp2_with fail
  refine (unhide I _ (unhide PS)).mono ?_
  rintro e w1 ⟨rfl, p2, g2⟩
  have U1 := hide ((unhide US).past g2)
  have P1 := hide p2
  clear p2 g2
  have k0 := (unhide U1).c0
  go_wp2_with fail
  refine (unhide T _ (unhide P1)).mono ?_
  rintro e w2 ⟨rfl, hb⟩
  have U2 := hide ((unhide U1).later hb)
  have P2 := hide ((unhide P1).later hb)
  clear hb
  go_wp2_with (first | (refine wpList_store_row rfl 44 _ _ rfl (w.heap.size + 1) #[.int .i64 (rr), .int .i64 (aa)] rfl rfl 44 #[.int .i64 0, .int .i64 0] (unhide U2).rp (by kernel_rfl) rfl (by simp [Value.oneCell']) ?_))
  obtain ⟨r1, r2⟩ := (unhide U2).done #[.int .i64 (rr), .int .i64 (aa)]
  refine bodyPost_ret (results_row2 (P := Try.prog) rfl _ _ (w.heap.size + 1) 44 #[.int .i64 (rr), .int .i64 (aa)] (0, 0) _ rfl r1 Try.underlying44 rfl (by kernel_rfl)) rfl ?_
  exact ⟨rfl, fun _ => (unhide P2).setRow (w := w) (unhide GL) (unhide AT) (by omega) _, r2⟩
end
end Go.Proofs.Ytfkmibgamkignaa

namespace Go.Proofs.Ytfkmibgamkignaa
open Go.ChangeShapes Go.WideShapes Go.ChangeAt Go.RowKit
set_option linter.unusedVariables false
set_option maxRecDepth 8000
set_option linter.unusedSimpArgs false

theorem po_no {g B gr rc re : Nat} {X : Int} {y : Mv} {w : World} {mo rr aa : Int} {d2 d3 : Md} (h : PoIs g B gr rc re X y w mo rr aa false d2) : PoIs g B gr rc re X y w mo rr aa false d3 := by
  unfold PoIs at h ⊢
  exact h.mono fun e w' ⟨a, _, c⟩ => ⟨a, fun h => Bool.noConfusion h, c⟩
theorem po_any (g B gr rc mo re : Nat) (X : Int) (y : Mv) (d : Md) (w : World) (P : Pg w g B gr rc y d) (h8 : d.R8) (hr : re < 8) (hs : y.small) (hx : 0 ≤ d.get (nAt d.r 7) ∧ d.get (nAt d.r 7) ≤ 65535) (h7 : mo ≤ 7) (hlt : gr < w.heap.size) (hgl : g < w.heap.size) :
    PoIs g B gr rc re X y w (mo : Int) (d.plR mo re) (d.plA mo re) (d.plO mo re) (d.plD mo re) := by
  rcases (show mo = 0 ∨ mo = 1 ∨ mo = 2 ∨ mo = 3 ∨ mo = 4 ∨ mo = 5 ∨ mo = 6 ∨ mo = 7 by omega) with rfl | rfl | rfl | rfl | rfl | rfl | rfl | rfl
  · simpa [Md.plR, Md.plA, Md.plO, Md.plD] using po_0 g B gr rc re X y d w P h8 hr hs hlt hgl
  · simpa [Md.plR, Md.plA, Md.plO, Md.plD, Md.adD, Md.adV, Md.adO, oddM] using po_1 g B gr rc re X y d w P h8 hr hs hlt hgl
  · simpa [Md.plR, Md.plA, Md.plO, Md.plD, Md.adD, Md.adV, Md.adO, oddM] using po_2 g B gr rc re X y d w P h8 hr hs hlt hgl
  · simpa [Md.plR, Md.plA, Md.plO, Md.plD, Md.adD, Md.adV, Md.adO, oddM] using po_3 g B gr rc re X y d w P h8 hr hs hlt hgl
  · simpa [Md.plR, Md.plA, Md.plO, Md.plD, Md.adD, Md.adV, Md.adO, oddM] using po_4 g B gr rc re X y d w P h8 hr hs hlt hgl
  · simpa [Md.plR, Md.plA, Md.plO, Md.plD, Md.adD, Md.adV, Md.adO, oddM] using po_5 g B gr rc re X y d w P h8 hr hs hlt hgl
  · cases hq : d.has (nAt d.r 7)
    · have h := po_6n g B gr rc re X y d w P h8 hr hs hlt hgl hx hq
      simpa [Md.plR, Md.plA, Md.plO, Md.adO, oddM, hq] using po_no (d3 := d.plD 6 re) h
    · have h := po_6y g B gr rc re X y d w P h8 hr hs hlt hgl hx hq
      have hf : d.fet = d.reg 7 ((nAt d.r 7 + 2) % 65536) := by unfold Md.fet; rw [if_pos hq]
      rw [← hf] at h
      simpa [Md.plR, Md.plA, Md.plO, Md.plD, Md.adD, Md.adV, Md.adO, oddM, hq] using h
  · cases hq : d.has (nAt d.r 7)
    · have h := po_7n g B gr rc re X y d w P h8 hr hs hlt hgl hx hq
      simpa [Md.plR, Md.plA, Md.plO, Md.adO, oddM, hq] using po_no (d3 := d.plD 7 re) h
    · have h := po_7y g B gr rc re X y d w P h8 hr hs hlt hgl hx hq
      have hf : d.fet = d.reg 7 ((nAt d.r 7 + 2) % 65536) := by unfold Md.fet; rw [if_pos hq]
      rw [← hf] at h
      simpa [Md.plR, Md.plA, Md.plO, Md.plD, Md.adD, Md.adV, Md.adO, oddM, hq] using h
end Go.Proofs.Ytfkmibgamkignaa

namespace Go.Proofs.Ytfkmibgamkignaa
open Go.ChangeShapes Go.WideShapes Go.ChangeAt Go.RowKit
set_option linter.unusedVariables false
set_option maxRecDepth 8000
set_option linter.unusedSimpArgs false

set_option maxHeartbeats 1000000 in
theorem setWords_any (g : Nat) (a : Int) (im : Sl) (ni mem : List Int) (y : Mv) (w : World) (h0 : 0 ≤ a) (h1 : a ≤ 510) (h2 : a % 2 = 0) (hl : ni.length = im.n) (hfit : (im.n : Int) ≤ 256 - a / 2) (hw : wdB ni = true) (hm : mem.length = 256)
    (hg : w.heap[g]? = some (.cells (bigA mem y) 80 (0, 0))) (hr : RdN w im.a ni) (hne : ni = [] ∨ ∀ ad, im.a = some ad → ad.block ≠ g) :
    Calls Try.prog 53 #[.pointer (some ⟨g, 0, none⟩), .int .i64 a, .slice im.a im.n im.c] w fun e w' => e = .returned (.tuple #[]) ∧ w'.heap[g]? = some (.cells (bigA (over mem (a / 2).toNat ni) y) 80 (0, 0)) ∧ w.grownBy w' (some g) := by
  obtain ⟨ima, imn, imc⟩ := im
  simp only at hl hfit hr hne ⊢
  obtain ⟨k, hk⟩ := Int.eq_ofNat_of_zero_le (show 0 ≤ a / 2 by omega)
  have hkk : (a / 2).toNat = k := by omega
  rw [hkk]
  have ka : a = 2 * (k : Int) := by omega
  have kb : k + imn ≤ 256 := by omega
  have KA := hide ka
  have HNE := hide hne
  have HG := hide hg
  have HR := hide hr
  have HL := hide hl
  have HW := hide hw
  clear hne hk hkk hg hr hl hw ka h2 hfit
  go_enter Try.func53, Try.ntmps53
  go_wp2
  go_loopw [6, 7, 10] (fun _ _ i wr => ∃ j : Nat, j ≤ imn ∧ i = .int .i64 j ∧ wr.heap[g]? = some (.cells (bigA (over mem k (ni.take j)) y) 80 (0, 0)) ∧ w.grownBy wr (some g)) (fun _ _ i _ => imn - (intOf i).toNat)
  case atStart => exact ⟨0, Nat.zero_le _, rfl, by rw [List.take_zero, over_nil]; exact unhide HG, World.grownBy.refl _ _⟩
  case round =>
    obtain ⟨j, hj, rfl, hrow, hgr⟩ := hrel
    have RW := hide hrow
    have GRW := hide hgr
    clear hrow hgr
    by_cases hlt : j < imn
    · have hl := unhide HL
      have hwj := wdB_at (unhide HW) (k := j) (by omega)
      rcases (unhide HR).pastR (unhide GRW) (fun b e => by cases e; exact unhide HNE) with e0 | ⟨b, off, rfl, hbl, hcl⟩
      · rw [e0] at hl; simp at hl; omega
      have hc := hcl j (by omega)
      have hlen : (over mem k (ni.take j)).length = 256 := by rw [over_len _ _ _ (by rw [hm, List.length_take]; omega), hm]
      have ka := unhide KA
      have W := hide (setWord_any g (a + 2 * (j : Int)) (nAt ni j) (over mem k (ni.take j)) y wr (by omega) (by omega) hlen (unhide RW))
      have e1 : ((a + 2 * (j : Int)) / 2).toNat = k + j := by omega
      have e2 : nAt ni j % 65536 = nAt ni j := by omega
      rw [e1, e2, over_set mem ni k j (by omega) (by omega)] at W
      clear hcl hbl hl e1 e2 hlen hwj
      generalize nAt ni j = q at hc W
      have KA2 := hide ka
      clear ka
      go_wp2_with fail
      refine (unhide W).mono ?_
      rintro e w2 ⟨rfl, r2, g2⟩
      have R2 := hide r2
      have G2 := hide (grownBy_trans (unhide GRW) g2)
      clear r2 g2
      go_wp2
      go_roundw
      case rel => exact ⟨j + 1, by omega, by go_num, unhide R2, unhide G2⟩
      case measure => simp [intOf]; omega
    · obtain rfl : j = imn := by omega
      have hl := unhide HL
      go_wp2
      go_end0
      refine ⟨rfl, ?_, unhide GRW⟩
      have := unhide RW
      rw [List.take_of_length_le (by omega)] at this
      exact this
end Go.Proofs.Ytfkmibgamkignaa

namespace Go.Proofs.Ytfkmibgamkignaa
open Go.ChangeShapes Go.WideShapes Go.ChangeAt Go.RowKit
set_option linter.unusedVariables false
set_option maxRecDepth 8000
set_option linter.unusedSimpArgs false

theorem laid_z : laidM (List.replicate 256 0) z256 = z256 := by
  unfold laidM
  rw [List.length_replicate, List.take_of_length_le (by rw [List.length_replicate]; omega), List.drop_eq_nil_of_le (by rw [z256_len]; omega), List.append_nil]
  rfl
theorem wp_alloc60 {o : Oper} {a : Act} {w : World} {K : Act → World → Prop} {Q : Exit → Act → World → Prop} (ho : o.op = .alloc 80) (h : K (a.put o.dst (.pointer (some ⟨w.heap.size, 0, none⟩))) (w.alloc (.cells (bigA z256 zMv) 80))) : o.wp Try.prog a w K Q := by
  have hz := (zero_of_info info60).1
  unfold Oper.wp execOp
  simp only [ho, Instr.alloc, hz, Sem.run_bind, Sem.run_pure, Result.andThen_ok]
  simp [go_sem]
  exact h
theorem wp_call37 {o : Oper} {a : Act} {w : World} {K : Act → World → Prop} {Q : Exit → Act → World → Prop} (x : Operand) (ho : o.op = .call { callee := .value (.func 52), args := #[x], argTypes := #[28] }) (v : Value) (hv : a.eval x = v) (R : Value → World → Prop)
    (hc : Calls Try.prog 52 #[v] w fun e w' => ∃ u, e = .returned u ∧ R u w') (h : ∀ u w', R u w' → K (a.put o.dst u) w') : o.wp Try.prog a w K Q := by
  have hrun : (execOp a.eval o).run Try.prog w = .ok (.enter 52 #[v]) w := by
    have he : a.eval (.func 52) = .func (.func 52) #[] #[] := rfl
    unfold execOp
    simp only [ho, resolve, he, List.map_toArray, List.map_cons, List.map_nil, hv]
    simp [go_sem]
  unfold Oper.wp
  rw [hrun, Oper.upon_enter]
  refine hc.mono ?_
  rintro e w' ⟨u, rfl, hu⟩
  exact h u w' hu
/-- The machine that is handed over to be copied. -/
def xOf (s0 s1 ins : Sl) : Mv := ⟨s0, s1, false, false, false, false, ins, ⟨none, 0, 0⟩, 0⟩
structure Iq (w : World) (ins : Sl) (nn : List Int) (w' : World) (b0 b1 b2 b3 b4 b5 : Bool) (v9 v41 v42 v43 v44 v45 : Value) : Prop where
  bel : Below (w.heap.size + 1) (w.alloc (.cells zMv.cs 28)) w'
  h0 : b0 = true → ∃ g, v41 = (Sl.mk (some ⟨g, 0, none⟩) 256 256).v ∧ w'.heap[g]? = some (.cells (zA 256) 3 (0, 0))
  h1 : b1 = true → ∃ g, v42 = (Sl.mk (some ⟨g, 0, none⟩) 8 8).v ∧ w'.heap[g]? = some (.cells (zA 8) 3 (0, 0))
  h2 : b2 = true → v43 = ins.v
  h3 : b3 = true → ∃ s0 s1 : Sl, v41 = s0.v ∧ v42 = s1.v ∧ v44 = .agg (xOf s0 s1 ins).cs
  h4 : b4 = true → ∃ y : Mv, v45 = .agg (bigA z256 y) ∧ y.fl = zMv.fl ∧ OwnM w' (w.heap.size + 1) y ⟨List.replicate 256 0, List.replicate 8 0, nn, []⟩ ∧ (b5 = true → ∀ b, y.at b → v9 ≠ .pointer (some ⟨b, 0, none⟩))
  h5 : b5 = true → ∃ g, v9 = .pointer (some ⟨g, 0, none⟩) ∧ w.heap.size < g ∧ w'.heap[g]? = some (.cells (bigA z256 zMv) 80 (0, 0))
/-- What stands at its end. -/
structure Ih (w w' : World) (nn : List Int) (v9 : Value) (g9 : Nat) (mem : List Int) (y : Mv) (d : Md) : Prop where
  bel : Below (w.heap.size + 1) (w.alloc (.cells zMv.cs 28)) w'
  p9 : v9 = .pointer (some ⟨g9, 0, none⟩)
  l9 : w.heap.size < g9
  r9 : w'.heap[g9]? = some (.cells (bigA mem y) 80 (0, 0))
  own : OwnM w' (w.heap.size + 1) y d
  fl : y.fl = zMv.fl
  ne : ∀ b, y.at b → b ≠ g9
section
variable {w w' : World} {ins : Sl} {nn : List Int} {b0 b1 b2 b3 b4 b5 : Bool} {v9 v41 v42 v43 v44 v45 : Value}
theorem Iq.low (J : Iq w ins nn w' b0 b1 b2 b3 b4 b5 v9 v41 v42 v43 v44 v45) : Below w.heap.size w w' := (below_new w (.cells zMv.cs 28)).trans (J.bel.mono (by omega))
theorem Iq.size (J : Iq w ins nn w' b0 b1 b2 b3 b4 b5 v9 v41 v42 v43 v44 v45) : w.heap.size + 1 ≤ w'.heap.size := by have := J.bel.size; have := alloc_size w (.cells zMv.cs 28); omega
/-- All stays behind what makes memory. -/
theorem Iq.later {w2 : World} (J : Iq w ins nn w' b0 b1 b2 b3 b4 b5 v9 v41 v42 v43 v44 v45) (hb : Below w'.heap.size w' w2) : Iq w ins nn w2 b0 b1 b2 b3 b4 b5 v9 v41 v42 v43 v44 v45 := by
  refine ⟨J.bel.trans (hb.mono J.size), fun h => ?_, fun h => ?_, J.h2, J.h3, fun h => ?_, fun h => ?_⟩
  · obtain ⟨g, e, r⟩ := J.h0 h; exact ⟨g, e, row_lat r hb⟩
  · obtain ⟨g, e, r⟩ := J.h1 h; exact ⟨g, e, row_lat r hb⟩
  · obtain ⟨y, e, f, o, n⟩ := J.h4 h; exact ⟨y, e, f, o.later hb, n⟩
  · obtain ⟨g, e, l, r⟩ := J.h5 h; exact ⟨g, e, l, row_lat r hb⟩
theorem Iq.op0 (J : Iq w ins nn w' b0 b1 b2 false b4 b5 v9 v41 v42 v43 v44 v45) : Iq w ins nn (w'.alloc (.cells (zA 256) 3)) true b1 b2 false b4 b5 v9 (.slice (some ⟨w'.heap.size, 0, none⟩) 256 256) v42 v43 v44 v45 :=
  { (J.later (below_new _ _)) with h0 := fun _ => ⟨_, rfl, heap_alloc_last w' _⟩, h3 := fun h => no h }
theorem Iq.op1 (J : Iq w ins nn w' b0 b1 b2 false b4 b5 v9 v41 v42 v43 v44 v45) : Iq w ins nn (w'.alloc (.cells (zA 8) 3)) b0 true b2 false b4 b5 v9 v41 (.slice (some ⟨w'.heap.size, 0, none⟩) 8 8) v43 v44 v45 :=
  { (J.later (below_new _ _)) with h1 := fun _ => ⟨_, rfl, heap_alloc_last w' _⟩, h3 := fun h => no h }
theorem Iq.op2 (J : Iq w ins nn w' b0 b1 b2 false b4 b5 v9 v41 v42 v43 v44 v45) : Iq w ins nn w' b0 b1 true false b4 b5 v9 v41 v42 ins.v v44 v45 :=
  { J with h2 := fun _ => rfl, h3 := fun h => no h }
theorem Iq.op3 (J : Iq w ins nn w' b0 b1 b2 b3 b4 b5 v9 v41 v42 v43 v44 v45) {s0 s1 : Sl} (e0 : v41 = s0.v) (e1 : v42 = s1.v) : Iq w ins nn w' b0 b1 b2 true b4 b5 v9 v41 v42 v43 (.agg (xOf s0 s1 ins).cs) v45 :=
  { J with h3 := fun _ => ⟨s0, s1, e0, e1, rfl⟩ }
theorem Iq.op4 (J : Iq w ins nn w' b0 b1 b2 b3 b4 b5 v9 v41 v42 v43 v44 v45) {w2 : World} (hb : Below w'.heap.size w' w2) {y : Mv} (fy : y.fl = zMv.fl) (oy : OwnM w2 (w'.heap.size + 2) y ⟨List.replicate 256 0, List.replicate 8 0, nn, []⟩) : Iq w ins nn w2 b0 b1 b2 b3 true b5 v9 v41 v42 v43 v44 (.agg (bigA z256 y)) :=
  { (J.later hb) with h4 := fun _ => ⟨y, rfl, fy, oy.base (by have := J.size; omega), fun h b hb' e => by
      obtain ⟨g, e', l, r⟩ := J.h5 h
      rw [e'] at e
      have h1 := row_lt r
      have h2 := (oy.lo hb').1
      have e3 : g = b := by
        injection e with e1
        injection e1 with e2
        injection e2
      omega⟩ }
theorem Iq.op5 (J : Iq w ins nn w' b0 b1 b2 b3 b4 b5 v9 v41 v42 v43 v44 v45) : Iq w ins nn (w'.alloc (.cells (bigA z256 zMv) 80)) b0 b1 b2 b3 b4 true (.pointer (some ⟨w'.heap.size, 0, none⟩)) v41 v42 v43 v44 v45 := by
  have K := J.later (below_new w' (.cells (bigA z256 zMv) 80))
  refine { K with h4 := fun h => ?_, h5 := fun _ => ⟨_, rfl, by have := J.size; omega, heap_alloc_last w' _⟩ }
  obtain ⟨y, e, f, o, n⟩ := J.h4 h
  refine ⟨y, e, f, o.later (below_new _ _), fun _ b hb e' => ?_⟩
  have := (o.lo hb).2
  have e3 : w'.heap.size = b := by
    injection e' with e1
    injection e1 with e2
    injection e2
  omega
theorem Iq.op6 (J : Iq w ins nn w' b0 b1 b2 b3 true true v9 v41 v42 v43 v44 v45) : ∃ (g9 : Nat) (y : Mv), v9 = .pointer (some ⟨g9, 0, none⟩) ∧ v45 = .agg (bigA z256 y) ∧ w'.heap[g9]? = some (.cells (bigA z256 zMv) 80 (0, 0)) ∧ Ih w (w'.setRow g9 (bigA z256 y)) nn v9 g9 z256 y ⟨List.replicate 256 0, List.replicate 8 0, nn, []⟩ := by
  obtain ⟨y, e, f, o, n⟩ := J.h4 rfl
  obtain ⟨g, e', l, r⟩ := J.h5 rfl
  have hne : ∀ b, y.at b → b ≠ g := fun b hb e2 => n rfl b hb (by rw [e', e2])
  exact ⟨g, y, e', e, r, below_setRow J.bel (by omega) _, e', l, setRow_heap w' g _ _ 80 _ r, o.keepH fun b hb _ => setRow_other w' g b _ (hne b hb), f, hne⟩
end
structure Dq (f : Nat → Bool) : Prop where
  d3 : f 3 = true → f 0 = true ∧ f 1 = true ∧ f 2 = true
  d4 : f 4 = true → f 3 = true
  d6 : f 6 = true → f 0 = true ∧ f 1 = true ∧ f 2 = true ∧ f 3 = true ∧ f 4 = true ∧ f 5 = true
theorem dq_new : Dq (fun _ => false) := ⟨fun h => no h, fun h => no h, fun h => no h⟩
def Jq (w : World) (ins : Sl) (nn : List Int) (w' : World) (f : Nat → Bool) (v9 v41 v42 v43 v44 v45 : Value) : Prop :=
  Dq f ∧ (f 6 = false → Iq w ins nn w' (f 0) (f 1) (f 2) (f 3) (f 4) (f 5) v9 v41 v42 v43 v44 v45) ∧ (f 6 = true → ∃ (g9 : Nat) (y : Mv), Ih w w' nn v9 g9 z256 y ⟨List.replicate 256 0, List.replicate 8 0, nn, []⟩)
section
variable {w w' : World} {ins : Sl} {nn : List Int} {f : Nat → Bool} {v9 v41 v42 v43 v44 v45 : Value}
theorem jq_new (h : Below (w.heap.size + 1) (w.alloc (.cells zMv.cs 28)) w') : Jq w ins nn w' (fun _ => false) v9 v41 v42 v43 v44 v45 :=
  ⟨dq_new, fun _ => ⟨h, fun h => no h, fun h => no h, fun h => no h, fun h => no h, fun h => no h, fun h => no h⟩, fun h => no h⟩
theorem Jq.op0 (J : Jq w ins nn w' f v9 v41 v42 v43 v44 v45) (hf : f 0 = false) : Jq w ins nn (w'.alloc (.cells (zA 256) 3)) (fun j => if j = 0 then true else f j) v9 (.slice (some ⟨w'.heap.size, 0, none⟩) 256 256) v42 v43 v44 v45 := by
  have f3 := f_no (fun h => (J.1.d3 h).1) hf
  have f6 := f_no (fun h => (J.1.d6 h).1) hf
  have i := J.2.1 f6
  rw [f3] at i
  refine ⟨⟨fun h => ⟨rfl, (J.1.d3 h).2⟩, J.1.d4, fun h => ⟨rfl, (J.1.d6 h).2⟩⟩, fun _ => ?_, fun h => no (f6.symm.trans h)⟩
  show Iq w ins nn _ true (f 1) (f 2) (f 3) (f 4) (f 5) _ _ _ _ _ _
  rw [f3]
  exact i.op0
theorem Jq.op1 (J : Jq w ins nn w' f v9 v41 v42 v43 v44 v45) (hf : f 1 = false) : Jq w ins nn (w'.alloc (.cells (zA 8) 3)) (fun j => if j = 1 then true else f j) v9 v41 (.slice (some ⟨w'.heap.size, 0, none⟩) 8 8) v43 v44 v45 := by
  have f3 := f_no (fun h => (J.1.d3 h).2.1) hf
  have f6 := f_no (fun h => (J.1.d6 h).2.1) hf
  have i := J.2.1 f6
  rw [f3] at i
  refine ⟨⟨fun h => ⟨(J.1.d3 h).1, rfl, (J.1.d3 h).2.2⟩, J.1.d4, fun h => ⟨(J.1.d6 h).1, rfl, (J.1.d6 h).2.2⟩⟩, fun _ => ?_, fun h => no (f6.symm.trans h)⟩
  show Iq w ins nn _ (f 0) true (f 2) (f 3) (f 4) (f 5) _ _ _ _ _ _
  rw [f3]
  exact i.op1
theorem Jq.op2 (J : Jq w ins nn w' f v9 v41 v42 v43 v44 v45) (hf : f 2 = false) : Jq w ins nn w' (fun j => if j = 2 then true else f j) v9 v41 v42 (.slice ins.a ins.n ins.c) v44 v45 := by
  have f3 := f_no (fun h => (J.1.d3 h).2.2) hf
  have f6 := f_no (fun h => (J.1.d6 h).2.2.1) hf
  have i := J.2.1 f6
  rw [f3] at i
  refine ⟨⟨fun h => ⟨(J.1.d3 h).1, (J.1.d3 h).2.1, rfl⟩, J.1.d4, fun h => ⟨(J.1.d6 h).1, (J.1.d6 h).2.1, rfl, (J.1.d6 h).2.2.2⟩⟩, fun _ => ?_, fun h => no (f6.symm.trans h)⟩
  show Iq w ins nn _ (f 0) (f 1) true (f 3) (f 4) (f 5) _ _ _ _ _ _
  rw [f3]
  exact i.op2
theorem Jq.at3 (J : Jq w ins nn w' f v9 v41 v42 v43 v44 v45) (hf : f 3 = false) (h0 : f 0 = true) (h1 : f 1 = true) (h2 : f 2 = true) : ∃ s0 s1 : Sl, v41 = s0.v ∧ v42 = s1.v ∧ v43 = ins.v ∧ Jq w ins nn w' (fun j => if j = 3 then true else f j) v9 v41 v42 v43 (.agg (xOf s0 s1 ins).cs) v45 := by
  have f6 := f_no (fun h => (J.1.d6 h).2.2.2.1) hf
  have i := J.2.1 f6
  obtain ⟨g, e0, _⟩ := i.h0 h0
  obtain ⟨g', e1, _⟩ := i.h1 h1
  exact ⟨_, _, e0, e1, i.h2 h2, ⟨fun _ => ⟨h0, h1, h2⟩, fun _ => rfl, fun h => no (f6.symm.trans h)⟩, fun _ => i.op3 e0 e1, fun h => no (f6.symm.trans h)⟩
theorem Jq.at4 (J : Jq w ins nn w' f v9 v41 v42 v43 v44 v45) (hf : f 4 = false) (h3 : f 3 = true) (hn : RdN w ins.a nn) (ln : nn.length = ins.n) : ∃ x : Mv, v44 = .agg x.cs ∧ x.fl = zMv.fl ∧ RdM w' x ⟨List.replicate 256 0, List.replicate 8 0, nn, []⟩ ∧ (ins.nz → x.nz) ∧ (ins.n ≤ 1048576 → x.small) ∧
    ∀ (y : Mv) (w2 : World), y.fl = x.fl → OwnM w2 (w'.heap.size + 2) y ⟨List.replicate 256 0, List.replicate 8 0, nn, []⟩ → Below w'.heap.size w' w2 → Jq w ins nn w2 (fun j => if j = 4 then true else f j) v9 v41 v42 v43 v44 (.agg (bigA z256 y)) := by
  obtain ⟨h0, h1, h2⟩ := J.1.d3 h3
  have f6 := f_no (fun h => (J.1.d6 h).2.2.2.2.1) hf
  have i := J.2.1 f6
  obtain ⟨s0, s1, e0, e1, e44⟩ := i.h3 h3
  obtain ⟨g0, e0', r0⟩ := i.h0 h0
  obtain ⟨g1, e1', r1⟩ := i.h1 h1
  have q0 : s0 = ⟨some ⟨g0, 0, none⟩, 256, 256⟩ := by rw [e0] at e0'; cases s0; unfold Sl.v at e0'; simp at e0'; obtain ⟨rfl, rfl, rfl⟩ := e0'; rfl
  have q1 : s1 = ⟨some ⟨g1, 0, none⟩, 8, 8⟩ := by rw [e1] at e1'; cases s1; unfold Sl.v at e1'; simp at e1'; obtain ⟨rfl, rfl, rfl⟩ := e1'; rfl
  have n0 := (own_made (n := 256) r0 (Nat.zero_le _) (by omega))
  have n1 := (own_made (n := 8) r1 (Nat.zero_le _) (by omega))
  refine ⟨xOf s0 s1 ins, e44, rfl, ?_, ?_, ?_, fun y w2 fy oy hb => ⟨⟨J.1.d3, fun _ => h3, fun h => no (f6.symm.trans h)⟩, fun _ => i.op4 hb fy oy, fun h => no (f6.symm.trans h)⟩⟩
  · subst q0 q1
    exact ⟨n0.rd1, n1.rd1, hn.later i.low, .inl rfl, List.length_replicate .., List.length_replicate .., ln, rfl⟩
  · intro hz
    subst q0 q1
    exact ⟨fun e => by (cases e), fun e => by (cases e), hz, fun _ => rfl⟩
  · intro hz
    subst q0 q1
    exact ⟨by show 256 ≤ 1048576; omega, by show 8 ≤ 1048576; omega, hz, by show 0 ≤ 1048576; omega⟩
theorem Jq.op5 (J : Jq w ins nn w' f v9 v41 v42 v43 v44 v45) (hf : f 5 = false) : Jq w ins nn (w'.alloc (.cells (bigA z256 zMv) 80)) (fun j => if j = 5 then true else f j) (.pointer (some ⟨w'.heap.size, 0, none⟩)) v41 v42 v43 v44 v45 := by
  have f6 := f_no (fun h => (J.1.d6 h).2.2.2.2.2) hf
  have i := J.2.1 f6
  exact ⟨⟨J.1.d3, J.1.d4, fun h => no (f6.symm.trans h)⟩, fun _ => i.op5, fun h => no (f6.symm.trans h)⟩
theorem Jq.at6 (J : Jq w ins nn w' f v9 v41 v42 v43 v44 v45) (hf : f 6 = false) (h4 : f 4 = true) (h5 : f 5 = true) : ∃ (g9 : Nat) (y : Mv), v9 = .pointer (some ⟨g9, 0, none⟩) ∧ v45 = .agg (bigA z256 y) ∧ w'.heap[g9]? = some (.cells (bigA z256 zMv) 80 (0, 0)) ∧ Jq w ins nn (w'.setRow g9 (bigA z256 y)) (fun j => if j = 6 then true else f j) v9 v41 v42 v43 v44 v45 := by
  have h3 := J.1.d4 h4
  obtain ⟨h0, h1, h2⟩ := J.1.d3 h3
  have i := J.2.1 hf
  rw [h4, h5] at i
  obtain ⟨g9, y, e1, e2, r, k⟩ := i.op6
  exact ⟨g9, y, e1, e2, r, ⟨J.1.d3, J.1.d4, fun _ => ⟨h0, h1, h2, h3, h4, h5⟩⟩, fun h => no h.symm, fun _ => ⟨g9, y, k⟩⟩
end
end Go.Proofs.Ytfkmibgamkignaa

namespace Go.Proofs.Ytfkmibgamkignaa
open Go.ChangeShapes Go.WideShapes Go.ChangeAt Go.RowKit
set_option linter.unusedVariables false
set_option maxRecDepth 8000
set_option linter.unusedSimpArgs false

theorem newB_ad (im : List Int) (a st : Int) (ins : List Int) : newB im a st ins = (adB a && (decide ((im.length : Int) ≤ 256 - a / 2) && (wdB im && (inB st 0 65535 && (decide ((ins.length : Int) ≤ 50) && wdB ins))))) := by
  unfold newB adB
  rw [Bool.and_assoc]
theorem sl_form {w : World} {B : Nat} {s : Sl} {ns : List Int} (h : OwnN w B s.v ns) (h0 : 0 < ns.length) : ∃ g c, s = ⟨some ⟨g, 0, none⟩, ns.length, c⟩ := by
  obtain ⟨sa, sn, sc⟩ := s
  rcases h.form with ⟨_, e0⟩ | ⟨g, cap, e, _⟩
  · rw [e0] at h0; simp at h0
  · unfold Sl.v at e
    simp at e
    exact ⟨g, cap, by rw [e.1, e.2.1, e.2.2]⟩
theorem Ih.setR {w wr : World} {nn mem : List Int} {v9 : Value} {y : Mv} {g9 gr n c : Nat} {d : Md} (h : Ih w wr nn v9 g9 mem y d) (hm : y.r = ⟨some ⟨gr, 0, none⟩, n, c⟩) (k : Nat) (v : Int) (hk : k < d.r.length) : Ih w (wr.setCell ⟨gr, k, none⟩ (.int .i64 v)) nn v9 g9 mem y ⟨d.m, d.r.set k v, d.i, d.o⟩ := by
  have e : y.r.v = .slice (some ⟨gr, 0, none⟩) n c := by rw [hm]; rfl
  have o := h.own.r
  rw [e] at o
  have s := o.set k v hk
  have hat : y.at gr := .inr (.inl (by rw [e]; rfl))
  have := h.own.lo hat
  exact ⟨h.bel.setCell (p := ⟨gr, k, none⟩) this.1 _, h.p9, h.l9, row_keep h.r9 (fun e => h.ne gr hat e.symm), h.own.putR (by rw [e]; exact s.2) (by rw [e]; exact s.1), h.fl, h.ne⟩
theorem Ih.cellR {w wr : World} {nn mem : List Int} {v9 : Value} {y : Mv} {g9 gr n c : Nat} {d : Md} (h : Ih w wr nn v9 g9 mem y d) (hm : y.r = ⟨some ⟨gr, 0, none⟩, n, c⟩) (k : Nat) (hk : k < d.r.length) : wr.cell? ⟨gr, k, none⟩ = some (.int .i64 (nAt d.r k)) ∧ wr.frozen? ⟨gr, k, none⟩ = false := by
  have o := h.own.r
  rw [hm] at o
  exact OwnN.cellAt (b := gr) (n := n) (cap := c) o k hk
theorem Ih.re {w wr : World} {nn mem : List Int} {v9 : Value} {y : Mv} {g9 : Nat} {d : Md} (h : Ih w wr nn v9 g9 mem y d) : wr.heap[w.heap.size]? = some (.cells zMv.cs 28 (0, 0)) := (h.bel.block w.heap.size (by omega)).trans (heap_alloc_last w _)
theorem Ih.low {w wr : World} {nn mem : List Int} {v9 : Value} {y : Mv} {g9 : Nat} {d : Md} (h : Ih w wr nn v9 g9 mem y d) : Below w.heap.size w wr := (below_new w (.cells zMv.cs 28)).trans (h.bel.mono (by omega))

set_option maxHeartbeats 4000000 in
theorem newI_no (im ins : Sl) (ni nn : List Int) (a st : Int) (w : World) (hi : RdN w im.a ni) (hn : RdN w ins.a nn) (li : ni.length = im.n) (ln : nn.length = ins.n) (si : im.n ≤ 1048576) (sn : ins.n ≤ 1048576) (hb : newB ni a st nn = false) :
    Calls Try.prog 13 #[.slice im.a im.n im.c, .int .i64 a, .int .i64 st, .slice ins.a ins.n ins.c] w fun e w' => e = .returned (.agg zMv.cs) ∧ Below w.heap.size w w' := by
  have HB := hide (below_new w (.cells #[Value.slice none 0 0, Value.slice none 0 0, Value.bool false, Value.bool false, Value.bool false, Value.bool false, Value.slice none 0 0, Value.slice none 0 0, Value.int .i64 0] 28))
  have HB2 := hide (below_new w (.cells zMv.cs 28))
  have W0 := hide (wordsI_any im.a im.n im.c ni _ li (by omega) (hi.later (unhide HB)))
  have W1 := hide (wordsI_any ins.a ins.n ins.c nn _ ln (by omega) (hn.later (unhide HB)))
  have I0 := hide (fun w => isAddr_any a w)
  have I1 := hide (fun w => isWord_any st w)
  rw [newB_ad, li, ln] at hb
  clear hi hn
  have IB := hide (adB_t (a := a))
  generalize wdB ni = b2 at W0 hb
  generalize wdB nn = b4 at W1 hb
  generalize adB a = b0 at I0 hb IB
  generalize inB st 0 65535 = b3 at I1 hb
  cases b0
  · clear hb
    go_enter Try.func13, Try.ntmps13
    go_wp2_with (first | (go_at_call 49; refine (unhide I0 _).mono ?_; rintro e w' ⟨rfl, rfl⟩) | (go_at_call 51; refine (unhide I1 _).mono ?_; rintro e w' ⟨rfl, rfl⟩) | (go_at_call_of 50 (Value.slice im.a im.n im.c); refine (unhide W0).mono ?_; rintro e w' ⟨rfl, rfl⟩) | (go_at_call_of 50 (Value.slice ins.a ins.n ins.c); refine (unhide W1).mono ?_; rintro e w' ⟨rfl, rfl⟩) | (refine wpList_store_new rfl 28 _ _ rfl zMv.cs rfl rfl _ (by kernel_rfl) rfl (Mv.cs_one _) ?_))
    refine bodyPost_ret (results_cell_row (P := Try.prog) rfl _ _ w.heap.size 28 zMv.cs (0, 0) _ rfl (heap_alloc_last w _) Try.underlying28 rfl (by kernel_rfl)) rfl ?_
    exact ⟨rfl, unhide HB2⟩
  obtain ⟨a0, a1, h1⟩ := unhide IB (by trivial)
  clear IB
  have g0 : 0 ≤ a % 2 := by omega
  have g1 : a % 2 ≤ 0 := by omega
  clear h1
  by_cases h2 : (im.n : Int) ≤ 256 - a / 2
  rotate_left
  · clear hb
    go_enter Try.func13, Try.ntmps13
    go_wp2_with (first | (go_at_call 49; refine (unhide I0 _).mono ?_; rintro e w' ⟨rfl, rfl⟩) | (go_at_call 51; refine (unhide I1 _).mono ?_; rintro e w' ⟨rfl, rfl⟩) | (go_at_call_of 50 (Value.slice im.a im.n im.c); refine (unhide W0).mono ?_; rintro e w' ⟨rfl, rfl⟩) | (go_at_call_of 50 (Value.slice ins.a ins.n ins.c); refine (unhide W1).mono ?_; rintro e w' ⟨rfl, rfl⟩) | (refine wpList_store_new rfl 28 _ _ rfl zMv.cs rfl rfl _ (by kernel_rfl) rfl (Mv.cs_one _) ?_))
    refine bodyPost_ret (results_cell_row (P := Try.prog) rfl _ _ w.heap.size 28 zMv.cs (0, 0) _ rfl (heap_alloc_last w _) Try.underlying28 rfl (by kernel_rfl)) rfl ?_
    exact ⟨rfl, unhide HB2⟩
  rw [decide_eq_true h2] at hb
  cases b2
  · clear hb
    go_enter Try.func13, Try.ntmps13
    go_wp2_with (first | (go_at_call 49; refine (unhide I0 _).mono ?_; rintro e w' ⟨rfl, rfl⟩) | (go_at_call 51; refine (unhide I1 _).mono ?_; rintro e w' ⟨rfl, rfl⟩) | (go_at_call_of 50 (Value.slice im.a im.n im.c); refine (unhide W0).mono ?_; rintro e w' ⟨rfl, rfl⟩) | (go_at_call_of 50 (Value.slice ins.a ins.n ins.c); refine (unhide W1).mono ?_; rintro e w' ⟨rfl, rfl⟩) | (refine wpList_store_new rfl 28 _ _ rfl zMv.cs rfl rfl _ (by kernel_rfl) rfl (Mv.cs_one _) ?_))
    refine bodyPost_ret (results_cell_row (P := Try.prog) rfl _ _ w.heap.size 28 zMv.cs (0, 0) _ rfl (heap_alloc_last w _) Try.underlying28 rfl (by kernel_rfl)) rfl ?_
    exact ⟨rfl, unhide HB2⟩
  cases b4
  · clear hb
    go_enter Try.func13, Try.ntmps13
    go_wp2_with (first | (go_at_call 49; refine (unhide I0 _).mono ?_; rintro e w' ⟨rfl, rfl⟩) | (go_at_call 51; refine (unhide I1 _).mono ?_; rintro e w' ⟨rfl, rfl⟩) | (go_at_call_of 50 (Value.slice im.a im.n im.c); refine (unhide W0).mono ?_; rintro e w' ⟨rfl, rfl⟩) | (go_at_call_of 50 (Value.slice ins.a ins.n ins.c); refine (unhide W1).mono ?_; rintro e w' ⟨rfl, rfl⟩) | (refine wpList_store_new rfl 28 _ _ rfl zMv.cs rfl rfl _ (by kernel_rfl) rfl (Mv.cs_one _) ?_))
    refine bodyPost_ret (results_cell_row (P := Try.prog) rfl _ _ w.heap.size 28 zMv.cs (0, 0) _ rfl (heap_alloc_last w _) Try.underlying28 rfl (by kernel_rfl)) rfl ?_
    exact ⟨rfl, unhide HB2⟩
  cases b3
  · clear hb
    go_enter Try.func13, Try.ntmps13
    go_wp2_with (first | (go_at_call 49; refine (unhide I0 _).mono ?_; rintro e w' ⟨rfl, rfl⟩) | (go_at_call 51; refine (unhide I1 _).mono ?_; rintro e w' ⟨rfl, rfl⟩) | (go_at_call_of 50 (Value.slice im.a im.n im.c); refine (unhide W0).mono ?_; rintro e w' ⟨rfl, rfl⟩) | (go_at_call_of 50 (Value.slice ins.a ins.n ins.c); refine (unhide W1).mono ?_; rintro e w' ⟨rfl, rfl⟩) | (refine wpList_store_new rfl 28 _ _ rfl zMv.cs rfl rfl _ (by kernel_rfl) rfl (Mv.cs_one _) ?_))
    refine bodyPost_ret (results_cell_row (P := Try.prog) rfl _ _ w.heap.size 28 zMv.cs (0, 0) _ rfl (heap_alloc_last w _) Try.underlying28 rfl (by kernel_rfl)) rfl ?_
    exact ⟨rfl, unhide HB2⟩
  by_cases h4 : (ins.n : Int) ≤ 50
  rotate_left
  · clear hb
    go_enter Try.func13, Try.ntmps13
    go_wp2_with (first | (go_at_call 49; refine (unhide I0 _).mono ?_; rintro e w' ⟨rfl, rfl⟩) | (go_at_call 51; refine (unhide I1 _).mono ?_; rintro e w' ⟨rfl, rfl⟩) | (go_at_call_of 50 (Value.slice im.a im.n im.c); refine (unhide W0).mono ?_; rintro e w' ⟨rfl, rfl⟩) | (go_at_call_of 50 (Value.slice ins.a ins.n ins.c); refine (unhide W1).mono ?_; rintro e w' ⟨rfl, rfl⟩) | (refine wpList_store_new rfl 28 _ _ rfl zMv.cs rfl rfl _ (by kernel_rfl) rfl (Mv.cs_one _) ?_))
    refine bodyPost_ret (results_cell_row (P := Try.prog) rfl _ _ w.heap.size 28 zMv.cs (0, 0) _ rfl (heap_alloc_last w _) Try.underlying28 rfl (by kernel_rfl)) rfl ?_
    exact ⟨rfl, unhide HB2⟩
  rw [decide_eq_true h4] at hb
  simp at hb

set_option maxHeartbeats 4000000 in
theorem newI_yes (im ins : Sl) (ni nn : List Int) (a st : Int) (w : World) (hi : RdN w im.a ni) (hn : RdN w ins.a nn) (li : ni.length = im.n) (ln : nn.length = ins.n) (nz : ins.nz) (hb : newB ni a st nn = true) :
    Calls Try.prog 13 #[.slice im.a im.n im.c, .int .i64 a, .int .i64 st, .slice ins.a ins.n ins.c] w fun e w' => ∃ y : Mv, e = .returned (.agg y.cs) ∧ y.fl = zMv.fl ∧ OwnM w' (w.heap.size + 1) y ⟨over z256 (a / 2).toNat ni, newR st, nn, []⟩ ∧ Below w.heap.size w w' := by
  obtain ⟨p0, p1, p2, p3, p4, p5, p6⟩ := newB_parts hb
  have HB := hide (below_new w (.cells #[Value.slice none 0 0, Value.slice none 0 0, Value.bool false, Value.bool false, Value.bool false, Value.bool false, Value.slice none 0 0, Value.slice none 0 0, Value.int .i64 0] 28))
  obtain ⟨a0, a1⟩ := inB_b p0
  have W0 := hide (p3 ▸ wordsI_any im.a im.n im.c ni _ li (by omega) (hi.later (unhide HB)))
  have W1 := hide (p6 ▸ wordsI_any ins.a ins.n ins.c nn _ ln (by omega) (hn.later (unhide HB)))
  have I0 := hide (fun w => (adB_i a0 a1 p1) ▸ isAddr_any a w)
  have I1 := hide (fun w => p4 ▸ isWord_any st w)
  have HI := hide hi
  have HN := hide hn
  have LI := hide li
  have LN := hide ln
  have P1 := hide p1
  have P3 := hide p3
  rw [li] at p2
  rw [ln] at p5
  have g0 : 0 ≤ a % 2 := by omega
  have g1 : a % 2 ≤ 0 := by omega
  have NZ := hide nz
  have S50 := hide p5
  clear hi hn li ln p0 p1 p3 p4 p6 hb nz
  go_enter Try.func13, Try.ntmps13
  go_wp2_with (first | (go_at_call 49; refine (unhide I0 _).mono ?_; rintro e w' ⟨rfl, rfl⟩) | (go_at_call 51; refine (unhide I1 _).mono ?_; rintro e w' ⟨rfl, rfl⟩) | (go_at_call_of 50 (Value.slice im.a im.n im.c); refine (unhide W0).mono ?_; rintro e w' ⟨rfl, rfl⟩) | (go_at_call_of 50 (Value.slice ins.a ins.n ins.c); refine (unhide W1).mono ?_; rintro e w' ⟨rfl, rfl⟩))
  refine wp_region_inv (fun f a' w' => ∃ v9 v41 v42 v43 v44 v45 : Value, a' = ⟨#[_, _, _, _, _, _, _, _, _, v9, _, _, _, _, _, _, _, _, _, _, _, _, _, _, _, _, _, _, _, _, _, _, _, _, _, _, _, _, _, _, _, v41, v42, v43, v44, v45, _, _, _, _, _, _, _, _, _, _, _, _, _, _], []⟩ ∧ Jq w ins nn w' f v9 v41 v42 v43 v44 v45) (by kernel_rfl) ⟨undef, undef, undef, undef, undef, undef, rfl, jq_new ⟨rfl, rfl, rfl, Nat.le_refl _, fun _ _ => rfl⟩⟩ (by kernel_rfl) ?_ ?_
  · intro i o ho f a' w' hI hf hd K2 hK2
    obtain ⟨v9, v41, v42, v43, v44, v45, rfl, J⟩ := hI
    have hi8 : i < 7 := by have := (Array.getElem?_eq_some_iff.1 ho).1; simpa using this
    obtain rfl | rfl | rfl | rfl | rfl | rfl | rfl : i = 0 ∨ i = 1 ∨ i = 2 ∨ i = 3 ∨ i = 4 ∨ i = 5 ∨ i = 6 := by omega
    · obtain rfl := Option.some.inj ho
      rw [if_pos (by rfl)]
      refine wp_make 256 made256 (by omega) rfl ?_
      exact hK2 _ _ ⟨v9, _, v42, v43, v44, v45, rfl, J.op0 hf⟩
    · obtain rfl := Option.some.inj ho
      rw [if_pos (by rfl)]
      refine wp_make 8 made8 (by omega) rfl ?_
      exact hK2 _ _ ⟨v9, v41, _, v43, v44, v45, rfl, J.op1 hf⟩
    · obtain rfl := Option.some.inj ho
      rw [if_pos (by rfl)]
      refine wp_move _ rfl ?_
      exact hK2 _ _ ⟨v9, v41, v42, _, v44, v45, rfl, J.op2 hf⟩
    · obtain rfl := Option.some.inj ho
      rw [if_pos (by rfl)]
      obtain ⟨s0, s1, e0, e1, e2, J3⟩ := J.at3 hf (hd ⟨0, .data⟩ (by simp) rfl) (hd ⟨1, .data⟩ (by simp) rfl) (hd ⟨2, .data⟩ (by simp) rfl)
      refine wp_build28 _ _ _ rfl s0 s1 ins e0 e1 e2 ?_
      exact hK2 _ _ ⟨v9, v41, v42, v43, _, v45, rfl, J3⟩
    · obtain rfl := Option.some.inj ho
      rw [if_pos (by rfl)]
      obtain ⟨x, e44, fx, rx, zx, sx, step⟩ := J.at4 hf (hd ⟨3, .data⟩ (by simp) rfl) (unhide HN) (unhide LN)
      refine wp_call37 _ rfl (.agg x.cs) e44 (fun u w2 => ∃ y : Mv, u = .agg (bigA z256 y) ∧ y.fl = x.fl ∧ OwnM w2 (w'.heap.size + 2) y ⟨List.replicate 256 0, List.replicate 8 0, nn, []⟩ ∧ Below w'.heap.size w' w2) ?_ ?_
      · refine (machineOf_any x _ w' (sx (by have := unhide S50; omega)) (zx (unhide NZ)) rx).mono ?_
        rintro e w2 ⟨y, rfl, fy, oy, hb⟩
        refine ⟨_, rfl, y, ?_, fy, oy, hb⟩
        rw [laid_z]
      · rintro u w2 ⟨y, rfl, fy, oy, hb⟩
        exact hK2 _ _ ⟨v9, v41, v42, v43, v44, _, rfl, step y w2 fy oy hb⟩
    · obtain rfl := Option.some.inj ho
      rw [if_pos (by rfl)]
      refine wp_alloc60 rfl ?_
      exact hK2 _ _ ⟨_, v41, v42, v43, v44, v45, rfl, J.op5 hf⟩
    · obtain rfl := Option.some.inj ho
      rw [if_pos (by rfl)]
      obtain ⟨g9, y, e9, e45, r9, k⟩ := J.at6 hf (hd ⟨4, .data⟩ (by simp) rfl) (hd ⟨5, .data⟩ (by simp) rfl)
      refine wp_store_row 80 _ _ rfl g9 (bigA z256 y) e9 e45 80 (bigA z256 zMv) r9 (size60 y z256 z256_len) (by rw [bigA_size y z256_len, bigA_size zMv z256_len]) (bigA_one _ _) ?_
      exact hK2 _ _ ⟨v9, v41, v42, v43, v44, v45, rfl, k⟩
  · intro f a' w' hI hall
    obtain ⟨v9, v41, v42, v43, v44, v45, rfl, J⟩ := hI
    obtain ⟨g9, y, E⟩ := J.2.2 (hall 6 (by simp))
    have e9 := E.p9
    subst e9
    have EE := hide E
    have ld := (below_new w (.cells zMv.cs 28)).trans (E.bel.mono (by omega))
    have SW := hide (setWords_any g9 a im ni z256 y w' a0 a1 (unhide P1) (unhide LI) p2 (unhide P3) z256_len E.r9 ((unhide HI).later ld) (by
      rcases (unhide HI) with h0 | ⟨b, off, e, hb, _⟩
      · exact .inl h0
      · exact .inr fun ad e' => by rw [e] at e'; cases e'; have := E.l9; show b ≠ g9; omega))
    clear E J hall ld W0 W1 I0 I1 HB
    go_wp2_with fail
    refine (unhide SW).mono ?_
    rintro e w2 ⟨rfl, r2, g2⟩
    have E := unhide EE
    have n2 : Ih w w2 nn (.pointer (some ⟨g9, 0, none⟩)) g9 (over z256 (a / 2).toNat ni) y ⟨List.replicate 256 0, List.replicate 8 0, nn, []⟩ :=
      ⟨E.bel.grown g2 (by have := E.bel.size; have := alloc_size w (.cells zMv.cs 28); omega) (fun b e => by cases e; have := E.l9; omega), rfl, E.l9, r2, E.own.keepH fun b hb hl => g2.block b hl (by have := E.ne b hb; simp; omega), E.fl, E.ne⟩
    have N2 := hide n2
    have LE := hide (show (over z256 (a / 2).toNat ni).length = 256 by
      have h1 := unhide LI
      rw [over_len _ _ _ (by rw [z256_len]; omega), z256_len])
    clear r2 g2 SW EE n2 E
    obtain ⟨gr, rc, hgr⟩ : ∃ gr rc, y.r = ⟨some ⟨gr, 0, none⟩, 8, rc⟩ := by
      obtain ⟨g, c, e⟩ := sl_form (unhide N2).own.r (by simp)
      exact ⟨g, c, e⟩
    have hat : y.at gr := .inr (.inl (by rw [hgr]; rfl))
    have ng := (unhide N2).ne gr hat
    have ng2 : g9 ≠ gr := fun e => ng e.symm
    obtain ⟨c6, f6⟩ := (unhide N2).cellR hgr 6 (by simp)
    obtain ⟨c7, f7⟩ := (unhide N2).cellR hgr 7 (by simp)
    have c9 : w2.cell? ⟨g9, 257, none⟩ = some (.slice (some ⟨gr, 0, none⟩) 8 rc) := big_cell (unhide N2).r9 (unhide LE) 1 _ (show y.cs[1]? = some (.slice (some ⟨gr, 0, none⟩) 8 rc) by have e : y.cs[1]? = some y.r.v := rfl; rw [e, hgr]; rfl)
    have N3 := hide (((unhide N2).setR hgr 6 512 (by simp)).setR hgr 7 st (by simp))
    have AN := hide (answer_any g9 (w.heap.size + 1) _ y _ _ (unhide LE) (unhide N3).r9 (unhide N3).own (fun e => (unhide N3).ne g9 (.inl e.symm) rfl))
    clear hat hgr
    go_wp2_with fail
    refine (unhide AN).mono ?_
    rintro e w4 ⟨rfl, o4, g4⟩
    have e4 : (over z256 (a / 2).toNat ni).take (List.replicate 256 (0 : Int)).length ++ (List.replicate 256 (0 : Int)).drop 256 = over z256 (a / 2).toNat ni := by
      rw [List.length_replicate, List.take_of_length_le (by rw [unhide LE]; omega), List.drop_eq_nil_of_le (by rw [List.length_replicate]; omega), List.append_nil]
    have O4 := hide (show OwnM w4 (w.heap.size + 1) y ⟨over z256 (a / 2).toNat ni, newR st, nn, []⟩ by rw [← e4]; exact o4)
    have R4 := hide ((g4.block w.heap.size (row_lt (unhide N3).re) (own_ne (unhide N3).own.m (.inl (by omega)))).trans (unhide N3).re)
    have B4 := hide ((unhide N3).low.grown g4 (unhide N3).low.size (fun b e => by have := ((unhide N3).own.m.lt e).1; omega))
    have FL := hide (unhide N3).fl
    clear o4 g4 AN e4 N2 N3 c6 c7 f6 f7 c9
    go_wp2_with (refine wpList_store_row rfl 28 _ _ rfl w.heap.size y.cs rfl rfl 28 zMv.cs (unhide R4) (by kernel_rfl) rfl (Mv.cs_one _) ?_)
    refine bodyPost_ret (results_cell_row (P := Try.prog) rfl _ _ w.heap.size 28 y.cs (0, 0) _ rfl (setRow_heap _ _ _ _ 28 _ (unhide R4)) Try.underlying28 rfl (by kernel_rfl)) rfl ?_
    exact ⟨y, rfl, unhide FL, (unhide O4).row (by omega) _, below_setRow (unhide B4) (Nat.le_refl _) _⟩
end Go.Proofs.Ytfkmibgamkignaa

namespace Go.Proofs.Ytfkmibgamkignaa
open Go.ChangeShapes Go.WideShapes Go.ChangeAt Go.RowKit
set_option linter.unusedVariables false
set_option maxRecDepth 8000
set_option linter.unusedSimpArgs false

theorem newS_any (im ins : Sl) (ni nn : List Int) (a st : Int) (w : World) (hi : RdN w im.a ni) (hn : RdN w ins.a nn) (li : ni.length = im.n) (ln : nn.length = ins.n) (si : im.n ≤ 1048576) (sn : ins.n ≤ 1048576) (nz : ins.nz) :
    Calls Try.prog 19 #[.slice im.a im.n im.c, .int .i64 a, .int .i64 st, .slice ins.a ins.n ins.c] w fun e w' => ∃ y : Mv, e = .returned (.agg y.cs) ∧ y.fl = zMv.fl ∧ OwnM w' (w.heap.size + 1) y (newD ni a st nn) ∧ Below w.heap.size w w' := by
  unfold newD
  cases hb : newB ni a st nn
  · exact (newS_no im ins ni nn a st w hi hn li ln si sn hb).mono fun e w' ⟨he, hb⟩ => ⟨zMv, he, rfl, by rw [if_neg (by simp)]; exact own_zero _ _, hb⟩
  · rw [if_pos rfl]
    exact newS_yes im ins ni nn a st w hi hn li ln nz hb
theorem newI_any (im ins : Sl) (ni nn : List Int) (a st : Int) (w : World) (hi : RdN w im.a ni) (hn : RdN w ins.a nn) (li : ni.length = im.n) (ln : nn.length = ins.n) (si : im.n ≤ 1048576) (sn : ins.n ≤ 1048576) (nz : ins.nz) :
    Calls Try.prog 13 #[.slice im.a im.n im.c, .int .i64 a, .int .i64 st, .slice ins.a ins.n ins.c] w fun e w' => ∃ y : Mv, e = .returned (.agg y.cs) ∧ y.fl = zMv.fl ∧ OwnM w' (w.heap.size + 1) y (newD ni a st nn) ∧ Below w.heap.size w w' := by
  unfold newD
  cases hb : newB ni a st nn
  · exact (newI_no im ins ni nn a st w hi hn li ln si sn hb).mono fun e w' ⟨he, hb⟩ => ⟨zMv, he, rfl, by rw [if_neg (by simp)]; exact own_zero _ _, hb⟩
  · rw [if_pos rfl]
    exact newI_yes im ins ni nn a st w hi hn li ln nz hb
theorem small_new (ni nn : List Int) (a st : Int) : (newD ni a st nn).small := by
  unfold newD
  cases hb : newB ni a st nn
  · rw [if_neg (by simp)]
    exact ⟨Nat.zero_le _, Nat.zero_le _, Nat.zero_le _, Nat.zero_le _⟩
  · rw [if_pos rfl]
    obtain ⟨p0, p1, p2, p3, p4, p5, p6⟩ := newB_parts hb
    obtain ⟨a0, a1⟩ := inB_b p0
    refine ⟨?_, ?_, ?_, Nat.zero_le _⟩
    · show (over z256 (a / 2).toNat ni).length ≤ _
      rw [over_len _ _ _ (by rw [z256_len]; omega), z256_len]; omega
    · show 8 ≤ _; omega
    · show nn.length ≤ _; omega
theorem toIntS_sl (s : Sl) (ns : List Int) (w : World) (hl : ns.length = s.n) (hm : s.n ≤ 1048576) (hr : RdN w s.a ns) :
    Calls Try.prog 32 #[.slice s.a s.n s.c] w fun e w' => ∃ t : Sl, e = .returned (.slice t.a t.n t.c) ∧ OwnN w' w.heap.size t.v ns ∧ Below w.heap.size w w' :=
  (toIntS_any s.a s.n s.c ns w hl hm hr).mono fun e w' ⟨v, he, ho, hb⟩ => by
    obtain ⟨a, c, e2, _⟩ := ho.rd
    subst e2
    exact ⟨⟨a, ns.length, c⟩, he, ho, hb⟩
theorem eqS_sl (s t : Sl) (ns : List Int) (B C : Nat) (w : World) (hm : ns.length ≤ 1048576) (h : OwnN w B s.v ns) (k : OwnN w C t.v ns) : Calls Try.prog 34 #[.slice s.a s.n s.c, .slice t.a t.n t.c] w fun e w' => e = .returned (.bool true) ∧ Below w.heap.size w w' :=
  eqIntS_own s.v t.v ns B C w hm h k
/-- What came in, while the law goes on. -/
structure Lm (W wr : World) (im ins : Sl) (ni nn : List Int) : Prop where
  bel : Below W.heap.size W wr
  ri : RdN wr im.a ni
  rn : RdN wr ins.a nn
section
variable {W w w' : World} {im ins : Sl} {ni nn ns : List Int} {row : Option Nat} {y : Mv} {d : Md} {s : Sl} {B : Nat}
theorem Lm.later (h : Lm W w im ins ni nn) (hb : Below w.heap.size w w') : Lm W w' im ins ni nn := ⟨h.bel.trans (hb.mono h.bel.size), h.ri.later hb, h.rn.later hb⟩
theorem RdN.gbW {a : Option Addr} (h : RdN w a ns) (hW : RdN W a ns) (hg : w.grownBy w' row) (hb : ∀ b, row = some b → W.heap.size ≤ b) : RdN w' a ns :=
  h.pastR hg fun b e => by
    rcases hW with h0 | ⟨b', off, rfl, hb', _⟩
    · exact .inl h0
    · exact .inr fun ad e' => by cases e'; have := hb b e; show b' ≠ b; omega
theorem Lm.gb (h : Lm W w im ins ni nn) (h0 : Lm W W im ins ni nn) (hg : w.grownBy w' row) (hb : ∀ b, row = some b → W.heap.size ≤ b) : Lm W w' im ins ni nn := ⟨h.bel.grown hg h.bel.size (fun b e => hb b e), h.ri.gbW h0.ri hg hb, h.rn.gbW h0.rn hg hb⟩
theorem Lm.tch {x : Mv} (h : Lm W w im ins ni nn) (h0 : Lm W W im ins ni nn) (t : Tch w w' x) (hb : ∀ b, x.at b → W.heap.size ≤ b) : Lm W w' im ins ni nn := by
  have key : ∀ {a : Option Addr} {ns : List Int}, RdN w a ns → RdN W a ns → RdN w' a ns := fun hr hq => by
    rcases hr with e0 | ⟨b, off, rfl, hb1, hc⟩
    · exact .inl e0
    · rcases hq with e0 | ⟨b', off', e', hb', _⟩
      · exact .inl e0
      · cases e'
        exact .inr ⟨b, off, rfl, Nat.lt_of_lt_of_le hb1 t.size, fun i hi => (World.cell?_of_block (w := w) (t.block b hb1 (fun e => by have := hb b e; omega))).trans (hc i hi)⟩
  exact ⟨t.toBelow h.bel h.bel.size hb, key h.ri h0.ri, key h.rn h0.rn⟩
theorem row_gb {g : Nat} {o : Obj} (h : w.heap[g]? = some o) (hg : w.grownBy w' row) (hn : ∀ b, row = some b → g ≠ b) : w'.heap[g]? = some o := (hg.block g (row_lt h) (fun e => hn g e.symm rfl)).trans h
theorem OwnM.gb (h : OwnM w B y d) (hg : w.grownBy w' row) (hn : ∀ b, row = some b → ¬ y.at b) : OwnM w' B y d := h.keepH fun g ha hl => hg.block g hl (fun e => hn g e.symm ha)
theorem OwnN.gb (h : OwnN w B s.v ns) (hg : w.grownBy w' row) (hn : ∀ b, row = some b → s.v.ownBlock ≠ some b) : OwnN w' B s.v ns := h.keep fun g hv hl => hg.block g hl (fun e => hn g e.symm hv)
theorem OwnN.tch {x : Mv} (h : OwnN w B s.v ns) (t : Tch w w' x) (hn : ∀ b, s.v.ownBlock = some b → ¬ x.at b) : OwnN w' B s.v ns := h.keep fun g hv hl => t.block g hl (hn g hv)
end
end Go.Proofs.Ytfkmibgamkignaa

namespace Go.Proofs.Ytfkmibgamkignaa
open Go.ChangeShapes Go.WideShapes Go.ChangeAt Go.RowKit
set_option linter.unusedVariables false
set_option maxRecDepth 8000

def baseL : List Int := [0, 4096, 8192, 16384, 20480, 24576, 57344, 2560, 2688, 2752, 2816, 3008, 3200, 3264, 64, 2048, 128, 256, 512, 768, 1024, 1280, 0, 34816]
def baseAt (k : Nat) : Int := baseL.getD k 0
theorem base_bd : ∀ i : Fin 24, 0 ≤ baseAt i.val ∧ baseAt i.val ≤ 57344 := by decide +kernel
theorem base_lit (k : Nat) (hk : k < 24) : ((baseL.map (Value.int .i64)).toArray)[k]? = some (.int .i64 (baseAt k)) := by
  rw [List.getElem?_toArray, List.getElem?_map]
  have : k < baseL.length := hk
  rw [List.getElem?_eq_getElem this]
  unfold baseAt
  rw [List.getD_eq_getElem?_getD, List.getElem?_eq_getElem this]
  rfl

set_option maxHeartbeats 1000000 in
theorem base_any (k : Nat) (hk : k < 24) (w : World) : Calls Try.prog 96 #[.int .i64 k] w fun e w' => e = .returned (.int .i64 (baseAt k)) ∧ Below w.heap.size w w' := by
  have hl := hide (base_lit k hk)
  go_enter Try.func96, Try.ntmps96
  go_wp2
  go_ret
  have hl2 := unhide hl
  rw [List.getElem?_toArray] at hl2
  obtain ⟨_, hv⟩ := List.getElem?_eq_some_iff.1 hl2
  exact ⟨congrArg Ending.returned hv, (Below.refl _ _).alloc (Nat.le_refl _) _⟩

def Od.six (o : Od) : Int := o.m * 8 + o.r
set_option maxHeartbeats 1000000 in
theorem six_any (o : Od) (h : 0 ≤ o.m ∧ o.m ≤ 7 ∧ 0 ≤ o.r ∧ o.r ≤ 7) (w : World) : Calls Try.prog 97 #[o.v] w fun e w' => e = .returned (.int .i64 o.six) ∧ Below w.heap.size w w' := by
  obtain ⟨m, r, x⟩ := o
  unfold Od.v Od.six
  simp only at h ⊢
  go_enter Try.func97, Try.ntmps97
  go_wp2
  go_ret
  exact ⟨rfl, (Below.refl _ _).alloc (Nat.le_refl _) _⟩
end Go.Proofs.Ytfkmibgamkignaa

namespace Go.Proofs.Ytfkmibgamkignaa
open Go.ChangeShapes Go.WideShapes Go.ChangeAt Go.RowKit
set_option linter.unusedVariables false
set_option maxRecDepth 8000

def Is.code (i : Is) : Int :=
  if i.op ≤ 6 then baseAt i.op.toNat + i.s.six * 64 + i.d.six
  else if i.op ≤ 14 then baseAt i.op.toNat + i.d.six
  else if i.op = 15 then baseAt i.op.toNat + i.n * 64 + i.d.six
  else if i.op = 16 ∨ i.op = 23 then baseAt i.op.toNat + i.n
  else if i.op ≤ 21 then baseAt i.op.toNat + i.n % 256
  else baseAt i.op.toNat
def Is.xs (i : Is) : List Int := (if i.op ≤ 6 ∧ i.s.hasX = true then [i.s.x] else []) ++ (if i.op ≤ 15 ∧ i.d.hasX = true then [i.d.x] else [])
def Is.enc (i : Is) : List Int := if i.ok = true then i.code :: i.xs else []

theorem od_ok {o : Od} (h : o.ok = true) : (0 ≤ o.m ∧ o.m ≤ 7 ∧ 0 ≤ o.r ∧ o.r ≤ 7) ∧ 0 ≤ o.x ∧ o.x ≤ 65535 ∧ (o.hasX = true ∨ o.x = 0) := by
  unfold Od.ok inB at h
  simp only [Bool.and_eq_true, Bool.or_eq_true, decide_eq_true_eq, beq_iff_eq] at h
  obtain ⟨⟨⟨⟨h1, h2⟩, h3, h4⟩, h5, h6⟩, h7⟩ := h
  exact ⟨⟨h1, h2, h3, h4⟩, h5, h6, h7⟩
theorem od_zero {o : Od} (h : o.zero = true) : o.m = 0 ∧ o.r = 0 ∧ o.x = 0 := by
  unfold Od.zero at h
  simpa using h
theorem is_ok {i : Is} (h : i.ok = true) : (1 ≤ i.op ∧ i.op ≤ 23) ∧ (i.op ≤ 6 → i.s.ok = true) ∧ (i.op ≤ 15 → i.d.ok = true) ∧ (6 < i.op → i.s.zero = true) ∧ (15 < i.op → i.d.zero = true) ∧ (-128 ≤ i.n ∧ i.n ≤ 255) ∧ ((i.op ≤ 14 ∨ i.op = 22) → i.n = 0) ∧ ((i.op = 15 ∨ i.op = 16) → 0 ≤ i.n ∧ i.n ≤ 7) ∧ (17 ≤ i.op ∧ i.op ≤ 21 → i.n ≤ 127) ∧ (i.op = 23 → 0 ≤ i.n) := by
  unfold Is.ok at h
  simp only [inB, Bool.and_eq_true, decide_eq_true_eq, beq_iff_eq, Bool.or_eq_true, Bool.not_eq_true'] at h
  split at h
  · simp only [Bool.and_eq_true, beq_iff_eq] at h
    obtain ⟨⟨h1, h2⟩, h3⟩ := h
    refine ⟨by omega, fun _ => h1, fun _ => h2, fun _ => by omega, fun _ => by omega, by omega, fun _ => h3, fun _ => by omega, fun _ => by omega, fun _ => by omega⟩
  split at h
  · simp only [Bool.and_eq_true, beq_iff_eq] at h
    obtain ⟨⟨h1, h2⟩, h3⟩ := h
    refine ⟨by omega, fun _ => by omega, fun _ => h2, fun _ => h1, fun _ => by omega, by omega, fun _ => h3, fun _ => by omega, fun _ => by omega, fun _ => by omega⟩
  split at h
  · simp only [Bool.and_eq_true, decide_eq_true_eq] at h
    obtain ⟨⟨h1, h2⟩, h3⟩ := h
    refine ⟨by omega, fun _ => by omega, fun _ => h2, fun _ => h1, fun _ => by omega, by omega, fun _ => by omega, fun _ => by omega, fun _ => by omega, fun _ => by omega⟩
  split at h
  · cases h
  rename_i hz
  have hs : i.s.zero = true := by cases e : i.s.zero <;> simp_all
  have hd : i.d.zero = true := by cases e : i.d.zero <;> simp_all
  clear hz
  split at h
  · simp only [Bool.and_eq_true, decide_eq_true_eq] at h
    refine ⟨by omega, fun _ => by omega, fun _ => by omega, fun _ => hs, fun _ => hd, by omega, fun _ => by omega, fun _ => by omega, fun _ => by omega, fun _ => by omega⟩
  split at h
  · simp only [Bool.and_eq_true, decide_eq_true_eq] at h
    refine ⟨by omega, fun _ => by omega, fun _ => by omega, fun _ => hs, fun _ => hd, by omega, fun _ => by omega, fun _ => by omega, fun _ => by omega, fun _ => by omega⟩
  split at h
  · simp only [beq_iff_eq] at h
    refine ⟨by omega, fun _ => by omega, fun _ => by omega, fun _ => hs, fun _ => hd, by omega, fun _ => by omega, fun _ => by omega, fun _ => by omega, fun _ => by omega⟩
  split at h
  · simp only [Bool.and_eq_true, decide_eq_true_eq] at h
    refine ⟨by omega, fun _ => by omega, fun _ => by omega, fun _ => hs, fun _ => hd, by omega, fun _ => by omega, fun _ => by omega, fun _ => by omega, fun _ => by omega⟩
  · cases h

theorem alloc_cell {w : World} {p : Addr} {v : Value} (h : w.cell? p = some v) (o : Obj) : (w.alloc o).cell? p = some v :=
  ((Below.refl w.heap.size w).alloc (Nat.le_refl _) o).cell (World.block_lt_of_cell? w _ h) |>.trans h
theorem box_step {B : Nat} {W w1 w2 : World} (h : Below B W w1) (hz : W.heap.size = B) (hb : Below w1.heap.size w1 w2) : Below B W w2 := h.trans (hb.mono (by have := h.size; omega))
theorem box_stepd {B : Nat} {W w1 w2 : World} (h : Below B W w1) (hz : W.heap.size = B) (hb : Below w1.drew.heap.size w1.drew w2) : Below B W w2 := box_step h hz ⟨hb.os, hb.tape, hb.output, hb.size, hb.block⟩
theorem box_app {B C : Nat} {W w3 w4 : World} {v : Value} {ns : List Int} (h : Below B W w3) (hz : W.heap.size = B) (o : Obj) (hg : (w3.alloc o).grownBy w4 v.ownBlock) (ho : OwnN w3 C v ns) (hC : B ≤ C) : Below B W w4 :=
  (h.alloc (by have := h.size; omega) o).grown hg (by have := h.size; simp; omega) (fun k e => Nat.le_trans hC (ho.lt e).1)
theorem own_one (w : World) (x : Int) : OwnN (w.alloc (.cells #[.int .i64 x] 3)) w.heap.size (.slice (some ⟨w.heap.size, 0, none⟩) 1 1) [x] :=
  ⟨rfl, .inr ⟨w.heap.size, 1, _, rfl, Nat.le_refl _, Array.getElem?_push_size, Nat.le_refl _, by unfold maxLen; omega, rfl, rfl⟩⟩
end Go.Proofs.Ytfkmibgamkignaa
