/- Contracts over this seat's translation, laid together; conditions stand as hypotheses of each. -/
import Derived.Test.YtjpbjbnialehbaaGreatDoorSsG
import Derived.Test.YtjpbjbnialehbaaGreatDoorSsH
namespace Go.Proofs.YtjpbjbnialehbaaGreatDoor
open Go.ChangeShapes Go.WideShapes Go.ChangeAt Go.RowKit
set_option maxHeartbeats 16000000
set_option linter.unusedVariables false
set_option maxRecDepth 8000
set_option linter.unusedSimpArgs false
section
theorem Pg.setRow {w w1 : World} {g B gr rc b : Nat} {y : Mv} {d : Md} (h : Pg w1 g B gr rc y d) (hg : g < w.heap.size) (ha : ∀ b, y.at b → b < w.heap.size) (hb : w.heap.size ≤ b) (cs : Array Value) : Pg (w1.setRow b cs) g B gr rc y d :=
 ⟨(setRow_other w1 b g cs (by omega)).trans h.row, h.len, h.own.keepH fun k hk _ => setRow_other w1 b k cs (by have := ha k hk; omega), h.er, h.ne⟩
structure Bu (w wr : World) (gr : Nat) (mo re X : Int) : Prop where
 bo : wr.heap[w.heap.size]? = some (.cells #[.int .i64 mo, .int .i64 re, .int .i64 X] 67 (0, 0))
 rp : wr.heap[w.heap.size + 1]? = some (.cells #[.int .i64 0, .int .i64 0] 97 (0, 0))
 gw : w.grownBy wr (some gr)
 lt : gr < w.heap.size
 sz : w.heap.size + 2 ≤ wr.heap.size
section
variable {w wr w' : World} {gr : Nat} {mo re X : Int}
theorem bu_new (mo re X : Int) (h : gr < w.heap.size) : Bu w ((w.alloc (.cells #[.int .i64 mo, .int .i64 re, .int .i64 X] 67)).alloc (.cells #[.int .i64 0, .int .i64 0] 97)) gr mo re X :=
 ⟨row_lat (heap_alloc_last w _) (below_new _ _), by have := heap_alloc_last (w.alloc (.cells #[.int .i64 mo, .int .i64 re, .int .i64 X] 67)) (.cells #[.int .i64 0, .int .i64 0] 97); simpa using this, grown_below (grownBy_below (below_new w _)) (below_new _ _), h, by simp⟩
theorem Bu.later (h : Bu w wr gr mo re X) (hb : Below wr.heap.size wr w') : Bu w w' gr mo re X := ⟨row_lat h.bo hb, row_lat h.rp hb, grown_below h.gw hb, h.lt, Nat.le_trans h.sz hb.size⟩
theorem Bu.past (h : Bu w wr gr mo re X) (hg : wr.grownBy w' (some gr)) : Bu w w' gr mo re X := ⟨row_past h.bo hg (by have := h.lt; omega), row_past h.rp hg (by have := h.lt; omega), h.gw.trans hg, h.lt, Nat.le_trans h.sz hg.size⟩
theorem Bu.done (h : Bu w wr gr mo re X) (cs : Array Value) : (wr.setRow (w.heap.size + 1) cs).heap[w.heap.size + 1]? = some (.cells cs 97 (0, 0)) ∧ w.grownBy (wr.setRow (w.heap.size + 1) cs) (some gr) :=
 ⟨setRow_heap wr _ _ _ 97 _ h.rp, grown_setRow h.gw (by omega) _⟩
theorem Bu.c0 (h : Bu w wr gr mo re X) : wr.cell? ⟨w.heap.size, 0, none⟩ = some (.int .i64 mo) := (cell_of_row wr _ 0 _ 67 _ h.bo).trans rfl
theorem Bu.c1 (h : Bu w wr gr mo re X) : wr.cell? ⟨w.heap.size, 1, none⟩ = some (.int .i64 re) := (cell_of_row wr _ 1 _ 67 _ h.bo).trans rfl
theorem below_two (w : World) (o p : Obj) : Below w.heap.size w ((w.alloc o).alloc p) := ((below_new w o).alloc (by simp) p)
end
section
variable (g B gr rc re : Nat) (X : Int) (y : Mv) (d : Md) (w : World)
def PoIs (mo rr aa : Int) (ok : Bool) (d2 : Md) : Prop := Calls Tryz.prog 139 #[.pointer (some ⟨g, 0, none⟩), .agg #[.int .i64 mo, .int .i64 (re : Int), .int .i64 X]] w fun e w' => e = .returned (.tuple #[.agg #[.int .i64 rr, .int .i64 aa], .bool ok]) ∧ Pg w' g B gr rc y d2 ∧ w.grownBy w' (some gr)
theorem po_0 (P : Pg w g B gr rc y d) (h8 : d.R8) (hr : re < 8) (hs : y.small) (hlt : gr < w.heap.size) (hgl : g < w.heap.size) : PoIs g B gr rc re X y w 0 (re : Int) (-1) true (d) := by
 unfold PoIs
 have U := hide (bu_new (w := w) 0 (re : Int) X hlt)
 have PW := hide (P.later (below_two w (Obj.cells #[.int .i64 0, .int .i64 (re : Int), .int .i64 X] 67) (Obj.cells #[.int .i64 0, .int .i64 0] 97)))
 have AT := hide (fun b (hb : y.at b) => own_at_lt P.own hb)
 have GL := hide hgl
 obtain ⟨v0, v1⟩ := h8.2 re hr
 have hrl : re < d.r.length := by rw [h8.1]; exact hr
 have HRL := hide hrl
 have H8 := hide h8
 have HS := hide hs
 clear P hlt hgl hs
 go_enter Tryz.func139, Tryz.ntmps139
 go_wp2_with fail
 generalize ((w.alloc (Obj.cells #[.int .i64 0, .int .i64 (re : Int), .int .i64 X] 67)).alloc (Obj.cells #[.int .i64 0, .int .i64 0] 97)) = W0 at U PW ⊢
 have ne := Sub.ne W0.heap.size W0
 have c1 : ∀ s : Sub W0.heap.size W0, s.w.cell? ⟨g, 257, none⟩ = some (.slice (some ⟨gr, 0, none⟩) 8 rc) := fun s => by have := ((uh PW).later s.h).r; rw [(uh H8).1] at this; exact this
 have c2 : ∀ s : Sub W0.heap.size W0, s.w.cell? ⟨gr, re, none⟩ = some (.int .i64 (nAt d.r re)) := fun s => ((uh PW).later s.h).cell re (uh HRL)
 have b0 : ∀ s : Sub W0.heap.size W0, s.w.cell? ⟨w.heap.size, 0, none⟩ = some (.int .i64 0) := fun s => ((uh U).later s.h).c0
 have b1 : ∀ s : Sub W0.heap.size W0, s.w.cell? ⟨w.heap.size, 1, none⟩ = some (.int .i64 (re : Int)) := fun s => ((uh U).later s.h).c1
 have hri : (re : Int) < 8 := by omega
 clear h8
 refine wp_region_sub (⟨W0, Below.refl _ _⟩ : Sub W0.heap.size W0) (by kernel_rfl) (by kernel_rfl) ?_
 repeat (go_big_quiet_step (fail))
 refine wpQuiet_nil ?_
 intro s
 have US := hide ((uh U).later s.h)
 have PS := hide ((uh PW).later s.h)
 go_wp2_with fail
 refine (regPlace_any _ _).mono ?_
 rintro e w1 ⟨rfl, hb⟩
 have U1 := hide ((uh US).later hb)
 have P1 := hide ((uh PS).later hb)
 clear hb
 go_wp2_with (first | (refine wpList_store_row rfl 97 _ _ rfl (w.heap.size + 1) #[.int .i64 (re : Int), .int .i64 (-1)] rfl rfl 97 #[.int .i64 0, .int .i64 0] (uh U1).rp (by kernel_rfl) rfl (by simp [Value.oneCell']) ?_))
 obtain ⟨r1, r2⟩ := (uh U1).done #[.int .i64 (re : Int), .int .i64 (-1)]
 refine bodyPost_ret (results_row2 (P := Tryz.prog) rfl _ _ (w.heap.size + 1) 97 #[.int .i64 (re : Int), .int .i64 (-1)] (0, 0) _ rfl r1 Tryz.underlying97 rfl (by kernel_rfl)) rfl ?_
 exact ⟨rfl, (uh P1).setRow (w := w) (uh GL) (uh AT) (by omega) _, r2⟩
theorem po_1 (P : Pg w g B gr rc y d) (h8 : d.R8) (hr : re < 8) (hs : y.small) (hlt : gr < w.heap.size) (hgl : g < w.heap.size) : PoIs g B gr rc re X y w 1 (-1) (nAt d.r re) true (d) := by
 unfold PoIs
 have U := hide (bu_new (w := w) 1 (re : Int) X hlt)
 have PW := hide (P.later (below_two w (Obj.cells #[.int .i64 1, .int .i64 (re : Int), .int .i64 X] 67) (Obj.cells #[.int .i64 0, .int .i64 0] 97)))
 have AT := hide (fun b (hb : y.at b) => own_at_lt P.own hb)
 have GL := hide hgl
 obtain ⟨v0, v1⟩ := h8.2 re hr
 have hrl : re < d.r.length := by rw [h8.1]; exact hr
 have HRL := hide hrl
 have H8 := hide h8
 have HS := hide hs
 clear P hlt hgl hs
 go_enter Tryz.func139, Tryz.ntmps139
 go_wp2_with fail
 generalize ((w.alloc (Obj.cells #[.int .i64 1, .int .i64 (re : Int), .int .i64 X] 67)).alloc (Obj.cells #[.int .i64 0, .int .i64 0] 97)) = W0 at U PW ⊢
 have ne := Sub.ne W0.heap.size W0
 have c1 : ∀ s : Sub W0.heap.size W0, s.w.cell? ⟨g, 257, none⟩ = some (.slice (some ⟨gr, 0, none⟩) 8 rc) := fun s => by have := ((uh PW).later s.h).r; rw [(uh H8).1] at this; exact this
 have c2 : ∀ s : Sub W0.heap.size W0, s.w.cell? ⟨gr, re, none⟩ = some (.int .i64 (nAt d.r re)) := fun s => ((uh PW).later s.h).cell re (uh HRL)
 have b0 : ∀ s : Sub W0.heap.size W0, s.w.cell? ⟨w.heap.size, 0, none⟩ = some (.int .i64 1) := fun s => ((uh U).later s.h).c0
 have b1 : ∀ s : Sub W0.heap.size W0, s.w.cell? ⟨w.heap.size, 1, none⟩ = some (.int .i64 (re : Int)) := fun s => ((uh U).later s.h).c1
 have hri : (re : Int) < 8 := by omega
 clear h8
 refine wp_region_sub (⟨W0, Below.refl _ _⟩ : Sub W0.heap.size W0) (by kernel_rfl) (by kernel_rfl) ?_
 repeat (go_big_quiet_step (fail))
 refine wpQuiet_nil ?_
 intro s
 have US := hide ((uh U).later s.h)
 have PS := hide ((uh PW).later s.h)
 go_wp2_with fail
 refine (adPlace_any _ _).mono ?_
 rintro e w1 ⟨rfl, hb⟩
 have U1 := hide ((uh US).later hb)
 have P1 := hide ((uh PS).later hb)
 clear hb
 go_wp2_with (first | (refine wpList_store_row rfl 97 _ _ rfl (w.heap.size + 1) #[.int .i64 (-1), .int .i64 (nAt d.r re)] rfl rfl 97 #[.int .i64 0, .int .i64 0] (uh U1).rp (by kernel_rfl) rfl (by simp [Value.oneCell']) ?_))
 obtain ⟨r1, r2⟩ := (uh U1).done #[.int .i64 (-1), .int .i64 (nAt d.r re)]
 refine bodyPost_ret (results_row2 (P := Tryz.prog) rfl _ _ (w.heap.size + 1) 97 #[.int .i64 (-1), .int .i64 (nAt d.r re)] (0, 0) _ rfl r1 Tryz.underlying97 rfl (by kernel_rfl)) rfl ?_
 exact ⟨rfl, (uh P1).setRow (w := w) (uh GL) (uh AT) (by omega) _, r2⟩
theorem po_2 (P : Pg w g B gr rc y d) (h8 : d.R8) (hr : re < 8) (hs : y.small) (hlt : gr < w.heap.size) (hgl : g < w.heap.size) : PoIs g B gr rc re X y w 2 (-1) (nAt d.r re) true (d.reg re ((nAt d.r re + 2) % 65536)) := by
 unfold PoIs
 have U := hide (bu_new (w := w) 2 (re : Int) X hlt)
 have PW := hide (P.later (below_two w (Obj.cells #[.int .i64 2, .int .i64 (re : Int), .int .i64 X] 67) (Obj.cells #[.int .i64 0, .int .i64 0] 97)))
 have AT := hide (fun b (hb : y.at b) => own_at_lt P.own hb)
 have GL := hide hgl
 obtain ⟨v0, v1⟩ := h8.2 re hr
 have hrl : re < d.r.length := by rw [h8.1]; exact hr
 have HRL := hide hrl
 have H8 := hide h8
 have HS := hide hs
 clear P hlt hgl hs
 go_enter Tryz.func139, Tryz.ntmps139
 go_wp2_with fail
 generalize ((w.alloc (Obj.cells #[.int .i64 2, .int .i64 (re : Int), .int .i64 X] 67)).alloc (Obj.cells #[.int .i64 0, .int .i64 0] 97)) = W0 at U PW ⊢
 have ne := Sub.ne W0.heap.size W0
 have c1 : ∀ s : Sub W0.heap.size W0, s.w.cell? ⟨g, 257, none⟩ = some (.slice (some ⟨gr, 0, none⟩) 8 rc) := fun s => by have := ((uh PW).later s.h).r; rw [(uh H8).1] at this; exact this
 have c2 : ∀ s : Sub W0.heap.size W0, s.w.cell? ⟨gr, re, none⟩ = some (.int .i64 (nAt d.r re)) := fun s => ((uh PW).later s.h).cell re (uh HRL)
 have b0 : ∀ s : Sub W0.heap.size W0, s.w.cell? ⟨w.heap.size, 0, none⟩ = some (.int .i64 2) := fun s => ((uh U).later s.h).c0
 have b1 : ∀ s : Sub W0.heap.size W0, s.w.cell? ⟨w.heap.size, 1, none⟩ = some (.int .i64 (re : Int)) := fun s => ((uh U).later s.h).c1
 have hri : (re : Int) < 8 := by omega
 clear h8
 refine wp_region_sub (⟨W0, Below.refl _ _⟩ : Sub W0.heap.size W0) (by kernel_rfl) (by kernel_rfl) ?_
 repeat (go_big_quiet_step (fail))
 refine wpQuiet_nil ?_
 intro s
 have US := hide ((uh U).later s.h)
 have PS := hide ((uh PW).later s.h)
 go_wp2_with fail
 refine (goOn_any g B gr rc re y d _ (uh PS) (uh HRL) v0 v1).mono ?_
 rintro e w1 ⟨rfl, p2, g2⟩
 have U1 := hide ((uh US).past g2)
 have P1 := hide p2
 clear p2 g2
 go_wp2_with fail
 refine (adPlace_any _ _).mono ?_
 rintro e w2 ⟨rfl, hb⟩
 have U2 := hide ((uh U1).later hb)
 have P2 := hide ((uh P1).later hb)
 clear hb
 go_wp2_with (first | (refine wpList_store_row rfl 97 _ _ rfl (w.heap.size + 1) #[.int .i64 (-1), .int .i64 (nAt d.r re)] rfl rfl 97 #[.int .i64 0, .int .i64 0] (uh U2).rp (by kernel_rfl) rfl (by simp [Value.oneCell']) ?_))
 obtain ⟨r1, r2⟩ := (uh U2).done #[.int .i64 (-1), .int .i64 (nAt d.r re)]
 refine bodyPost_ret (results_row2 (P := Tryz.prog) rfl _ _ (w.heap.size + 1) 97 #[.int .i64 (-1), .int .i64 (nAt d.r re)] (0, 0) _ rfl r1 Tryz.underlying97 rfl (by kernel_rfl)) rfl ?_
 exact ⟨rfl, (uh P2).setRow (w := w) (uh GL) (uh AT) (by omega) _, r2⟩
theorem po_4 (P : Pg w g B gr rc y d) (h8 : d.R8) (hr : re < 8) (hs : y.small) (hlt : gr < w.heap.size) (hgl : g < w.heap.size) : PoIs g B gr rc re X y w 4 (-1) ((nAt d.r re - 2) % 65536) true (d.reg re ((nAt d.r re - 2) % 65536)) := by
 unfold PoIs
 have U := hide (bu_new (w := w) 4 (re : Int) X hlt)
 have PW := hide (P.later (below_two w (Obj.cells #[.int .i64 4, .int .i64 (re : Int), .int .i64 X] 67) (Obj.cells #[.int .i64 0, .int .i64 0] 97)))
 have AT := hide (fun b (hb : y.at b) => own_at_lt P.own hb)
 have GL := hide hgl
 obtain ⟨v0, v1⟩ := h8.2 re hr
 have hrl : re < d.r.length := by rw [h8.1]; exact hr
 have HRL := hide hrl
 have H8 := hide h8
 have HS := hide hs
 clear P hlt hgl hs
 go_enter Tryz.func139, Tryz.ntmps139
 go_wp2_with fail
 generalize ((w.alloc (Obj.cells #[.int .i64 4, .int .i64 (re : Int), .int .i64 X] 67)).alloc (Obj.cells #[.int .i64 0, .int .i64 0] 97)) = W0 at U PW ⊢
 have ne := Sub.ne W0.heap.size W0
 have c1 : ∀ s : Sub W0.heap.size W0, s.w.cell? ⟨g, 257, none⟩ = some (.slice (some ⟨gr, 0, none⟩) 8 rc) := fun s => by have := ((uh PW).later s.h).r; rw [(uh H8).1] at this; exact this
 have c2 : ∀ s : Sub W0.heap.size W0, s.w.cell? ⟨gr, re, none⟩ = some (.int .i64 (nAt d.r re)) := fun s => ((uh PW).later s.h).cell re (uh HRL)
 have b0 : ∀ s : Sub W0.heap.size W0, s.w.cell? ⟨w.heap.size, 0, none⟩ = some (.int .i64 4) := fun s => ((uh U).later s.h).c0
 have b1 : ∀ s : Sub W0.heap.size W0, s.w.cell? ⟨w.heap.size, 1, none⟩ = some (.int .i64 (re : Int)) := fun s => ((uh U).later s.h).c1
 have hri : (re : Int) < 8 := by omega
 clear h8
 refine wp_region_sub (⟨W0, Below.refl _ _⟩ : Sub W0.heap.size W0) (by kernel_rfl) (by kernel_rfl) ?_
 repeat (go_big_quiet_step (fail))
 refine wpQuiet_nil ?_
 intro s
 have US := hide ((uh U).later s.h)
 have PS := hide ((uh PW).later s.h)
 go_wp2_with fail
 refine (goBack_any g B gr rc re y d _ (uh PS) (uh HRL) v0 v1).mono ?_
 rintro e w1 ⟨rfl, p2, g2⟩
 have U1 := hide ((uh US).past g2)
 have P1 := hide p2
 clear p2 g2
 go_wp2_with fail
 refine (adPlace_any _ _).mono ?_
 rintro e w2 ⟨rfl, hb⟩
 have U2 := hide ((uh U1).later hb)
 have P2 := hide ((uh P1).later hb)
 clear hb
 go_wp2_with (first | (refine wpList_store_row rfl 97 _ _ rfl (w.heap.size + 1) #[.int .i64 (-1), .int .i64 ((nAt d.r re - 2) % 65536)] rfl rfl 97 #[.int .i64 0, .int .i64 0] (uh U2).rp (by kernel_rfl) rfl (by simp [Value.oneCell']) ?_))
 obtain ⟨r1, r2⟩ := (uh U2).done #[.int .i64 (-1), .int .i64 ((nAt d.r re - 2) % 65536)]
 refine bodyPost_ret (results_row2 (P := Tryz.prog) rfl _ _ (w.heap.size + 1) 97 #[.int .i64 (-1), .int .i64 ((nAt d.r re - 2) % 65536)] (0, 0) _ rfl r1 Tryz.underlying97 rfl (by kernel_rfl)) rfl ?_
 exact ⟨rfl, (uh P2).setRow (w := w) (uh GL) (uh AT) (by omega) _, r2⟩
end
end
section
section
variable (g B gr rc re : Nat) (X : Int) (y : Mv) (d : Md) (w : World)
theorem po_3 (P : Pg w g B gr rc y d) (h8 : d.R8) (hr : re < 8) (hs : y.small) (hlt : gr < w.heap.size) (hgl : g < w.heap.size) : PoIs g B gr rc re X y w 3 (if (d.reg re ((nAt d.r re + 2) % 65536)).has (nAt d.r re) = true then -1 else 0) (if (d.reg re ((nAt d.r re + 2) % 65536)).has (nAt d.r re) = true then (d.reg re ((nAt d.r re + 2) % 65536)).get (nAt d.r re) else 0) ((d.reg re ((nAt d.r re + 2) % 65536)).has (nAt d.r re)) (d.reg re ((nAt d.r re + 2) % 65536)) := by
 unfold PoIs
 have U := hide (bu_new (w := w) 3 (re : Int) X hlt)
 have PW := hide (P.later (below_two w (Obj.cells #[.int .i64 3, .int .i64 (re : Int), .int .i64 X] 67) (Obj.cells #[.int .i64 0, .int .i64 0] 97)))
 have AT := hide (fun b (hb : y.at b) => own_at_lt P.own hb)
 have GL := hide hgl
 obtain ⟨v0, v1⟩ := h8.2 re hr
 have hrl : re < d.r.length := by rw [h8.1]; exact hr
 have T := hide (fun w P => through_any g B gr rc (nAt d.r re) y (d.reg re ((nAt d.r re + 2) % 65536)) w P hs)
 obtain ⟨ok, hok⟩ : ∃ b, (d.reg re ((nAt d.r re + 2) % 65536)).has (nAt d.r re) = b := ⟨_, rfl⟩
 obtain ⟨rr, hrr⟩ : ∃ b : Int, (if (d.reg re ((nAt d.r re + 2) % 65536)).has (nAt d.r re) = true then -1 else 0) = b := ⟨_, rfl⟩
 obtain ⟨aa, haa⟩ : ∃ b : Int, (if (d.reg re ((nAt d.r re + 2) % 65536)).has (nAt d.r re) = true then (d.reg re ((nAt d.r re + 2) % 65536)).get (nAt d.r re) else 0) = b := ⟨_, rfl⟩
 rw [hrr, haa, hok] at T
 rw [hrr, haa, hok]
 clear hrr haa hok
 have HRL := hide hrl
 have H8 := hide h8
 have HS := hide hs
 clear P hlt hgl hs
 go_enter Tryz.func139, Tryz.ntmps139
 go_wp2_with fail
 generalize ((w.alloc (Obj.cells #[.int .i64 3, .int .i64 (re : Int), .int .i64 X] 67)).alloc (Obj.cells #[.int .i64 0, .int .i64 0] 97)) = W0 at U PW ⊢
 have ne := Sub.ne W0.heap.size W0
 have c1 : ∀ s : Sub W0.heap.size W0, s.w.cell? ⟨g, 257, none⟩ = some (.slice (some ⟨gr, 0, none⟩) 8 rc) := fun s => by have := ((uh PW).later s.h).r; rw [(uh H8).1] at this; exact this
 have c2 : ∀ s : Sub W0.heap.size W0, s.w.cell? ⟨gr, re, none⟩ = some (.int .i64 (nAt d.r re)) := fun s => ((uh PW).later s.h).cell re (uh HRL)
 have b0 : ∀ s : Sub W0.heap.size W0, s.w.cell? ⟨w.heap.size, 0, none⟩ = some (.int .i64 3) := fun s => ((uh U).later s.h).c0
 have b1 : ∀ s : Sub W0.heap.size W0, s.w.cell? ⟨w.heap.size, 1, none⟩ = some (.int .i64 (re : Int)) := fun s => ((uh U).later s.h).c1
 have hri : (re : Int) < 8 := by omega
 clear h8
 refine wp_region_sub (⟨W0, Below.refl _ _⟩ : Sub W0.heap.size W0) (by kernel_rfl) (by kernel_rfl) ?_
 repeat (go_big_quiet_step (fail))
 refine wpQuiet_nil ?_
 intro s
 have US := hide ((uh U).later s.h)
 have PS := hide ((uh PW).later s.h)
 go_wp2_with fail
 refine (goOn_any g B gr rc re y d _ (uh PS) (uh HRL) v0 v1).mono ?_
 rintro e w1 ⟨rfl, p2, g2⟩
 have U1 := hide ((uh US).past g2)
 have P1 := hide p2
 clear p2 g2
 go_wp2_with fail
 refine (uh T _ (uh P1)).mono ?_
 rintro e w2 ⟨rfl, hb⟩
 have U2 := hide ((uh U1).later hb)
 have P2 := hide ((uh P1).later hb)
 clear hb
 go_wp2_with (first | (refine wpList_store_row rfl 97 _ _ rfl (w.heap.size + 1) #[.int .i64 (rr), .int .i64 (aa)] rfl rfl 97 #[.int .i64 0, .int .i64 0] (uh U2).rp (by kernel_rfl) rfl (by simp [Value.oneCell']) ?_))
 obtain ⟨r1, r2⟩ := (uh U2).done #[.int .i64 (rr), .int .i64 (aa)]
 refine bodyPost_ret (results_row2 (P := Tryz.prog) rfl _ _ (w.heap.size + 1) 97 #[.int .i64 (rr), .int .i64 (aa)] (0, 0) _ rfl r1 Tryz.underlying97 rfl (by kernel_rfl)) rfl ?_
 exact ⟨rfl, (uh P2).setRow (w := w) (uh GL) (uh AT) (by omega) _, r2⟩
theorem po_5 (P : Pg w g B gr rc y d) (h8 : d.R8) (hr : re < 8) (hs : y.small) (hlt : gr < w.heap.size) (hgl : g < w.heap.size) : PoIs g B gr rc re X y w 5 (if (d.reg re ((nAt d.r re - 2) % 65536)).has ((nAt d.r re - 2) % 65536) = true then -1 else 0) (if (d.reg re ((nAt d.r re - 2) % 65536)).has ((nAt d.r re - 2) % 65536) = true then (d.reg re ((nAt d.r re - 2) % 65536)).get ((nAt d.r re - 2) % 65536) else 0) ((d.reg re ((nAt d.r re - 2) % 65536)).has ((nAt d.r re - 2) % 65536)) (d.reg re ((nAt d.r re - 2) % 65536)) := by
 unfold PoIs
 have U := hide (bu_new (w := w) 5 (re : Int) X hlt)
 have PW := hide (P.later (below_two w (Obj.cells #[.int .i64 5, .int .i64 (re : Int), .int .i64 X] 67) (Obj.cells #[.int .i64 0, .int .i64 0] 97)))
 have AT := hide (fun b (hb : y.at b) => own_at_lt P.own hb)
 have GL := hide hgl
 obtain ⟨v0, v1⟩ := h8.2 re hr
 have hrl : re < d.r.length := by rw [h8.1]; exact hr
 have T := hide (fun w P => through_any g B gr rc ((nAt d.r re - 2) % 65536) y (d.reg re ((nAt d.r re - 2) % 65536)) w P hs)
 obtain ⟨ok, hok⟩ : ∃ b, (d.reg re ((nAt d.r re - 2) % 65536)).has ((nAt d.r re - 2) % 65536) = b := ⟨_, rfl⟩
 obtain ⟨rr, hrr⟩ : ∃ b : Int, (if (d.reg re ((nAt d.r re - 2) % 65536)).has ((nAt d.r re - 2) % 65536) = true then -1 else 0) = b := ⟨_, rfl⟩
 obtain ⟨aa, haa⟩ : ∃ b : Int, (if (d.reg re ((nAt d.r re - 2) % 65536)).has ((nAt d.r re - 2) % 65536) = true then (d.reg re ((nAt d.r re - 2) % 65536)).get ((nAt d.r re - 2) % 65536) else 0) = b := ⟨_, rfl⟩
 rw [hrr, haa, hok] at T
 rw [hrr, haa, hok]
 clear hrr haa hok
 have HRL := hide hrl
 have H8 := hide h8
 have HS := hide hs
 clear P hlt hgl hs
 go_enter Tryz.func139, Tryz.ntmps139
 go_wp2_with fail
 generalize ((w.alloc (Obj.cells #[.int .i64 5, .int .i64 (re : Int), .int .i64 X] 67)).alloc (Obj.cells #[.int .i64 0, .int .i64 0] 97)) = W0 at U PW ⊢
 have ne := Sub.ne W0.heap.size W0
 have c1 : ∀ s : Sub W0.heap.size W0, s.w.cell? ⟨g, 257, none⟩ = some (.slice (some ⟨gr, 0, none⟩) 8 rc) := fun s => by have := ((uh PW).later s.h).r; rw [(uh H8).1] at this; exact this
 have c2 : ∀ s : Sub W0.heap.size W0, s.w.cell? ⟨gr, re, none⟩ = some (.int .i64 (nAt d.r re)) := fun s => ((uh PW).later s.h).cell re (uh HRL)
 have b0 : ∀ s : Sub W0.heap.size W0, s.w.cell? ⟨w.heap.size, 0, none⟩ = some (.int .i64 5) := fun s => ((uh U).later s.h).c0
 have b1 : ∀ s : Sub W0.heap.size W0, s.w.cell? ⟨w.heap.size, 1, none⟩ = some (.int .i64 (re : Int)) := fun s => ((uh U).later s.h).c1
 have hri : (re : Int) < 8 := by omega
 clear h8
 refine wp_region_sub (⟨W0, Below.refl _ _⟩ : Sub W0.heap.size W0) (by kernel_rfl) (by kernel_rfl) ?_
 repeat (go_big_quiet_step (fail))
 refine wpQuiet_nil ?_
 intro s
 have US := hide ((uh U).later s.h)
 have PS := hide ((uh PW).later s.h)
 go_wp2_with fail
 refine (goBack_any g B gr rc re y d _ (uh PS) (uh HRL) v0 v1).mono ?_
 rintro e w1 ⟨rfl, p2, g2⟩
 have U1 := hide ((uh US).past g2)
 have P1 := hide p2
 clear p2 g2
 go_wp2_with fail
 refine (uh T _ (uh P1)).mono ?_
 rintro e w2 ⟨rfl, hb⟩
 have U2 := hide ((uh U1).later hb)
 have P2 := hide ((uh P1).later hb)
 clear hb
 go_wp2_with (first | (refine wpList_store_row rfl 97 _ _ rfl (w.heap.size + 1) #[.int .i64 (rr), .int .i64 (aa)] rfl rfl 97 #[.int .i64 0, .int .i64 0] (uh U2).rp (by kernel_rfl) rfl (by simp [Value.oneCell']) ?_))
 obtain ⟨r1, r2⟩ := (uh U2).done #[.int .i64 (rr), .int .i64 (aa)]
 refine bodyPost_ret (results_row2 (P := Tryz.prog) rfl _ _ (w.heap.size + 1) 97 #[.int .i64 (rr), .int .i64 (aa)] (0, 0) _ rfl r1 Tryz.underlying97 rfl (by kernel_rfl)) rfl ?_
 exact ⟨rfl, (uh P2).setRow (w := w) (uh GL) (uh AT) (by omega) _, r2⟩
theorem po_6n (P : Pg w g B gr rc y d) (h8 : d.R8) (hr : re < 8) (hs : y.small) (hlt : gr < w.heap.size) (hgl : g < w.heap.size) (hx : 0 ≤ d.get (nAt d.r 7) ∧ d.get (nAt d.r 7) ≤ 65535) (hq : d.has (nAt d.r 7) = false) : PoIs g B gr rc re X y w 6 (0) (0) false (d.reg 7 ((nAt d.r 7 + 2) % 65536)) := by
 unfold PoIs
 have U := hide (bu_new (w := w) 6 (re : Int) X hlt)
 have PW := hide (P.later (below_two w (Obj.cells #[.int .i64 6, .int .i64 (re : Int), .int .i64 X] 67) (Obj.cells #[.int .i64 0, .int .i64 0] 97)))
 have AT := hide (fun b (hb : y.at b) => own_at_lt P.own hb)
 have GL := hide hgl
 obtain ⟨v0, v1⟩ := h8.2 re hr
 have hrl : re < d.r.length := by rw [h8.1]; exact hr
 have I := hide (fun w P => indexed_any g B gr rc re y d w P h8 hr hs hx)
 rw [hq] at I
 simp only [Bool.false_eq_true, if_false] at I
 clear hx hq
 have HRL := hide hrl
 have H8 := hide h8
 have HS := hide hs
 clear P hlt hgl hs
 go_enter Tryz.func139, Tryz.ntmps139
 go_wp2_with fail
 generalize ((w.alloc (Obj.cells #[.int .i64 6, .int .i64 (re : Int), .int .i64 X] 67)).alloc (Obj.cells #[.int .i64 0, .int .i64 0] 97)) = W0 at U PW ⊢
 have ne := Sub.ne W0.heap.size W0
 have c1 : ∀ s : Sub W0.heap.size W0, s.w.cell? ⟨g, 257, none⟩ = some (.slice (some ⟨gr, 0, none⟩) 8 rc) := fun s => by have := ((uh PW).later s.h).r; rw [(uh H8).1] at this; exact this
 have c2 : ∀ s : Sub W0.heap.size W0, s.w.cell? ⟨gr, re, none⟩ = some (.int .i64 (nAt d.r re)) := fun s => ((uh PW).later s.h).cell re (uh HRL)
 have b0 : ∀ s : Sub W0.heap.size W0, s.w.cell? ⟨w.heap.size, 0, none⟩ = some (.int .i64 6) := fun s => ((uh U).later s.h).c0
 have b1 : ∀ s : Sub W0.heap.size W0, s.w.cell? ⟨w.heap.size, 1, none⟩ = some (.int .i64 (re : Int)) := fun s => ((uh U).later s.h).c1
 have hri : (re : Int) < 8 := by omega
 clear h8
 refine wp_region_sub (⟨W0, Below.refl _ _⟩ : Sub W0.heap.size W0) (by kernel_rfl) (by kernel_rfl) ?_
 repeat (go_big_quiet_step (fail))
 refine wpQuiet_nil ?_
 intro s
 have US := hide ((uh U).later s.h)
 have PS := hide ((uh PW).later s.h)
 go_wp2_with fail
 refine (uh I _ (uh PS)).mono ?_
 rintro e w1 ⟨rfl, p2, g2⟩
 have U1 := hide ((uh US).past g2)
 have P1 := hide p2
 clear p2 g2
 go_wp2_with (first | (refine wpList_store_row rfl 97 _ _ rfl (w.heap.size + 1) #[.int .i64 (0), .int .i64 (0)] rfl rfl 97 #[.int .i64 0, .int .i64 0] (uh U1).rp (by kernel_rfl) rfl (by simp [Value.oneCell']) ?_))
 obtain ⟨r1, r2⟩ := (uh U1).done #[.int .i64 (0), .int .i64 (0)]
 refine bodyPost_ret (results_row2 (P := Tryz.prog) rfl _ _ (w.heap.size + 1) 97 #[.int .i64 (0), .int .i64 (0)] (0, 0) _ rfl r1 Tryz.underlying97 rfl (by kernel_rfl)) rfl ?_
 exact ⟨rfl, (uh P1).setRow (w := w) (uh GL) (uh AT) (by omega) _, r2⟩
theorem po_7n (P : Pg w g B gr rc y d) (h8 : d.R8) (hr : re < 8) (hs : y.small) (hlt : gr < w.heap.size) (hgl : g < w.heap.size) (hx : 0 ≤ d.get (nAt d.r 7) ∧ d.get (nAt d.r 7) ≤ 65535) (hq : d.has (nAt d.r 7) = false) : PoIs g B gr rc re X y w 7 (0) (0) false (d.reg 7 ((nAt d.r 7 + 2) % 65536)) := by
 unfold PoIs
 have U := hide (bu_new (w := w) 7 (re : Int) X hlt)
 have PW := hide (P.later (below_two w (Obj.cells #[.int .i64 7, .int .i64 (re : Int), .int .i64 X] 67) (Obj.cells #[.int .i64 0, .int .i64 0] 97)))
 have AT := hide (fun b (hb : y.at b) => own_at_lt P.own hb)
 have GL := hide hgl
 obtain ⟨v0, v1⟩ := h8.2 re hr
 have hrl : re < d.r.length := by rw [h8.1]; exact hr
 have I := hide (fun w P => indexed_any g B gr rc re y d w P h8 hr hs hx)
 rw [hq] at I
 simp only [Bool.false_eq_true, if_false] at I
 clear hx hq
 have HRL := hide hrl
 have H8 := hide h8
 have HS := hide hs
 clear P hlt hgl hs
 go_enter Tryz.func139, Tryz.ntmps139
 go_wp2_with fail
 generalize ((w.alloc (Obj.cells #[.int .i64 7, .int .i64 (re : Int), .int .i64 X] 67)).alloc (Obj.cells #[.int .i64 0, .int .i64 0] 97)) = W0 at U PW ⊢
 have ne := Sub.ne W0.heap.size W0
 have c1 : ∀ s : Sub W0.heap.size W0, s.w.cell? ⟨g, 257, none⟩ = some (.slice (some ⟨gr, 0, none⟩) 8 rc) := fun s => by have := ((uh PW).later s.h).r; rw [(uh H8).1] at this; exact this
 have c2 : ∀ s : Sub W0.heap.size W0, s.w.cell? ⟨gr, re, none⟩ = some (.int .i64 (nAt d.r re)) := fun s => ((uh PW).later s.h).cell re (uh HRL)
 have b0 : ∀ s : Sub W0.heap.size W0, s.w.cell? ⟨w.heap.size, 0, none⟩ = some (.int .i64 7) := fun s => ((uh U).later s.h).c0
 have b1 : ∀ s : Sub W0.heap.size W0, s.w.cell? ⟨w.heap.size, 1, none⟩ = some (.int .i64 (re : Int)) := fun s => ((uh U).later s.h).c1
 have hri : (re : Int) < 8 := by omega
 clear h8
 refine wp_region_sub (⟨W0, Below.refl _ _⟩ : Sub W0.heap.size W0) (by kernel_rfl) (by kernel_rfl) ?_
 repeat (go_big_quiet_step (fail))
 refine wpQuiet_nil ?_
 intro s
 have US := hide ((uh U).later s.h)
 have PS := hide ((uh PW).later s.h)
 go_wp2_with fail
 refine (uh I _ (uh PS)).mono ?_
 rintro e w1 ⟨rfl, p2, g2⟩
 have U1 := hide ((uh US).past g2)
 have P1 := hide p2
 clear p2 g2
 go_wp2_with (first | (refine wpList_store_row rfl 97 _ _ rfl (w.heap.size + 1) #[.int .i64 (0), .int .i64 (0)] rfl rfl 97 #[.int .i64 0, .int .i64 0] (uh U1).rp (by kernel_rfl) rfl (by simp [Value.oneCell']) ?_))
 obtain ⟨r1, r2⟩ := (uh U1).done #[.int .i64 (0), .int .i64 (0)]
 refine bodyPost_ret (results_row2 (P := Tryz.prog) rfl _ _ (w.heap.size + 1) 97 #[.int .i64 (0), .int .i64 (0)] (0, 0) _ rfl r1 Tryz.underlying97 rfl (by kernel_rfl)) rfl ?_
 exact ⟨rfl, (uh P1).setRow (w := w) (uh GL) (uh AT) (by omega) _, r2⟩
theorem po_6y (P : Pg w g B gr rc y d) (h8 : d.R8) (hr : re < 8) (hs : y.small) (hlt : gr < w.heap.size) (hgl : g < w.heap.size) (hx : 0 ≤ d.get (nAt d.r 7) ∧ d.get (nAt d.r 7) ≤ 65535) (hq : d.has (nAt d.r 7) = true) : PoIs g B gr rc re X y w 6 (-1) ((d.get (nAt d.r 7) + nAt d.fet.r re) % 65536) true (d.reg 7 ((nAt d.r 7 + 2) % 65536)) := by
 unfold PoIs
 have U := hide (bu_new (w := w) 6 (re : Int) X hlt)
 have PW := hide (P.later (below_two w (Obj.cells #[.int .i64 6, .int .i64 (re : Int), .int .i64 X] 67) (Obj.cells #[.int .i64 0, .int .i64 0] 97)))
 have AT := hide (fun b (hb : y.at b) => own_at_lt P.own hb)
 have GL := hide hgl
 obtain ⟨v0, v1⟩ := h8.2 re hr
 have hrl : re < d.r.length := by rw [h8.1]; exact hr
 have I := hide (fun w P => indexed_any g B gr rc re y d w P h8 hr hs hx)
 rw [hq] at I
 simp only [if_true] at I
 clear hx hq
 have HRL := hide hrl
 have H8 := hide h8
 have HS := hide hs
 clear P hlt hgl hs
 go_enter Tryz.func139, Tryz.ntmps139
 go_wp2_with fail
 generalize ((w.alloc (Obj.cells #[.int .i64 6, .int .i64 (re : Int), .int .i64 X] 67)).alloc (Obj.cells #[.int .i64 0, .int .i64 0] 97)) = W0 at U PW ⊢
 have ne := Sub.ne W0.heap.size W0
 have c1 : ∀ s : Sub W0.heap.size W0, s.w.cell? ⟨g, 257, none⟩ = some (.slice (some ⟨gr, 0, none⟩) 8 rc) := fun s => by have := ((uh PW).later s.h).r; rw [(uh H8).1] at this; exact this
 have c2 : ∀ s : Sub W0.heap.size W0, s.w.cell? ⟨gr, re, none⟩ = some (.int .i64 (nAt d.r re)) := fun s => ((uh PW).later s.h).cell re (uh HRL)
 have b0 : ∀ s : Sub W0.heap.size W0, s.w.cell? ⟨w.heap.size, 0, none⟩ = some (.int .i64 6) := fun s => ((uh U).later s.h).c0
 have b1 : ∀ s : Sub W0.heap.size W0, s.w.cell? ⟨w.heap.size, 1, none⟩ = some (.int .i64 (re : Int)) := fun s => ((uh U).later s.h).c1
 have hri : (re : Int) < 8 := by omega
 clear h8
 refine wp_region_sub (⟨W0, Below.refl _ _⟩ : Sub W0.heap.size W0) (by kernel_rfl) (by kernel_rfl) ?_
 repeat (go_big_quiet_step (fail))
 refine wpQuiet_nil ?_
 intro s
 have US := hide ((uh U).later s.h)
 have PS := hide ((uh PW).later s.h)
 go_wp2_with fail
 refine (uh I _ (uh PS)).mono ?_
 rintro e w1 ⟨rfl, p2, g2⟩
 have U1 := hide ((uh US).past g2)
 have P1 := hide p2
 clear p2 g2
 have k0 := (uh U1).c0
 go_wp2_with fail
 refine (adPlace_any _ _).mono ?_
 rintro e w2 ⟨rfl, hb⟩
 have U2 := hide ((uh U1).later hb)
 have P2 := hide ((uh P1).later hb)
 clear hb
 go_wp2_with (first | (refine wpList_store_row rfl 97 _ _ rfl (w.heap.size + 1) #[.int .i64 (-1), .int .i64 ((d.get (nAt d.r 7) + nAt d.fet.r re) % 65536)] rfl rfl 97 #[.int .i64 0, .int .i64 0] (uh U2).rp (by kernel_rfl) rfl (by simp [Value.oneCell']) ?_))
 obtain ⟨r1, r2⟩ := (uh U2).done #[.int .i64 (-1), .int .i64 ((d.get (nAt d.r 7) + nAt d.fet.r re) % 65536)]
 refine bodyPost_ret (results_row2 (P := Tryz.prog) rfl _ _ (w.heap.size + 1) 97 #[.int .i64 (-1), .int .i64 ((d.get (nAt d.r 7) + nAt d.fet.r re) % 65536)] (0, 0) _ rfl r1 Tryz.underlying97 rfl (by kernel_rfl)) rfl ?_
 exact ⟨rfl, (uh P2).setRow (w := w) (uh GL) (uh AT) (by omega) _, r2⟩
theorem po_7y (P : Pg w g B gr rc y d) (h8 : d.R8) (hr : re < 8) (hs : y.small) (hlt : gr < w.heap.size) (hgl : g < w.heap.size) (hx : 0 ≤ d.get (nAt d.r 7) ∧ d.get (nAt d.r 7) ≤ 65535) (hq : d.has (nAt d.r 7) = true) : PoIs g B gr rc re X y w 7 (if (d.reg 7 ((nAt d.r 7 + 2) % 65536)).has ((d.get (nAt d.r 7) + nAt d.fet.r re) % 65536) = true then -1 else 0) (if (d.reg 7 ((nAt d.r 7 + 2) % 65536)).has ((d.get (nAt d.r 7) + nAt d.fet.r re) % 65536) = true then (d.reg 7 ((nAt d.r 7 + 2) % 65536)).get ((d.get (nAt d.r 7) + nAt d.fet.r re) % 65536) else 0) ((d.reg 7 ((nAt d.r 7 + 2) % 65536)).has ((d.get (nAt d.r 7) + nAt d.fet.r re) % 65536)) (d.reg 7 ((nAt d.r 7 + 2) % 65536)) := by
 unfold PoIs
 have U := hide (bu_new (w := w) 7 (re : Int) X hlt)
 have PW := hide (P.later (below_two w (Obj.cells #[.int .i64 7, .int .i64 (re : Int), .int .i64 X] 67) (Obj.cells #[.int .i64 0, .int .i64 0] 97)))
 have AT := hide (fun b (hb : y.at b) => own_at_lt P.own hb)
 have GL := hide hgl
 obtain ⟨v0, v1⟩ := h8.2 re hr
 have hrl : re < d.r.length := by rw [h8.1]; exact hr
 have I := hide (fun w P => indexed_any g B gr rc re y d w P h8 hr hs hx)
 rw [hq] at I
 simp only [if_true] at I
 clear hx hq
 have T := hide (fun w P => through_any g B gr rc ((d.get (nAt d.r 7) + nAt d.fet.r re) % 65536) y (d.reg 7 ((nAt d.r 7 + 2) % 65536)) w P hs)
 obtain ⟨ok, hok⟩ : ∃ b, (d.reg 7 ((nAt d.r 7 + 2) % 65536)).has ((d.get (nAt d.r 7) + nAt d.fet.r re) % 65536) = b := ⟨_, rfl⟩
 obtain ⟨rr, hrr⟩ : ∃ b : Int, (if (d.reg 7 ((nAt d.r 7 + 2) % 65536)).has ((d.get (nAt d.r 7) + nAt d.fet.r re) % 65536) = true then -1 else 0) = b := ⟨_, rfl⟩
 obtain ⟨aa, haa⟩ : ∃ b : Int, (if (d.reg 7 ((nAt d.r 7 + 2) % 65536)).has ((d.get (nAt d.r 7) + nAt d.fet.r re) % 65536) = true then (d.reg 7 ((nAt d.r 7 + 2) % 65536)).get ((d.get (nAt d.r 7) + nAt d.fet.r re) % 65536) else 0) = b := ⟨_, rfl⟩
 rw [hrr, haa, hok] at T
 rw [hrr, haa, hok]
 clear hrr haa hok
 have HRL := hide hrl
 have H8 := hide h8
 have HS := hide hs
 clear P hlt hgl hs
 go_enter Tryz.func139, Tryz.ntmps139
 go_wp2_with fail
 generalize ((w.alloc (Obj.cells #[.int .i64 7, .int .i64 (re : Int), .int .i64 X] 67)).alloc (Obj.cells #[.int .i64 0, .int .i64 0] 97)) = W0 at U PW ⊢
 have ne := Sub.ne W0.heap.size W0
 have c1 : ∀ s : Sub W0.heap.size W0, s.w.cell? ⟨g, 257, none⟩ = some (.slice (some ⟨gr, 0, none⟩) 8 rc) := fun s => by have := ((uh PW).later s.h).r; rw [(uh H8).1] at this; exact this
 have c2 : ∀ s : Sub W0.heap.size W0, s.w.cell? ⟨gr, re, none⟩ = some (.int .i64 (nAt d.r re)) := fun s => ((uh PW).later s.h).cell re (uh HRL)
 have b0 : ∀ s : Sub W0.heap.size W0, s.w.cell? ⟨w.heap.size, 0, none⟩ = some (.int .i64 7) := fun s => ((uh U).later s.h).c0
 have b1 : ∀ s : Sub W0.heap.size W0, s.w.cell? ⟨w.heap.size, 1, none⟩ = some (.int .i64 (re : Int)) := fun s => ((uh U).later s.h).c1
 have hri : (re : Int) < 8 := by omega
 clear h8
 refine wp_region_sub (⟨W0, Below.refl _ _⟩ : Sub W0.heap.size W0) (by kernel_rfl) (by kernel_rfl) ?_
 repeat (go_big_quiet_step (fail))
 refine wpQuiet_nil ?_
 intro s
 have US := hide ((uh U).later s.h)
 have PS := hide ((uh PW).later s.h)
 go_wp2_with fail
 refine (uh I _ (uh PS)).mono ?_
 rintro e w1 ⟨rfl, p2, g2⟩
 have U1 := hide ((uh US).past g2)
 have P1 := hide p2
 clear p2 g2
 have k0 := (uh U1).c0
 go_wp2_with fail
 refine (uh T _ (uh P1)).mono ?_
 rintro e w2 ⟨rfl, hb⟩
 have U2 := hide ((uh U1).later hb)
 have P2 := hide ((uh P1).later hb)
 clear hb
 go_wp2_with (first | (refine wpList_store_row rfl 97 _ _ rfl (w.heap.size + 1) #[.int .i64 (rr), .int .i64 (aa)] rfl rfl 97 #[.int .i64 0, .int .i64 0] (uh U2).rp (by kernel_rfl) rfl (by simp [Value.oneCell']) ?_))
 obtain ⟨r1, r2⟩ := (uh U2).done #[.int .i64 (rr), .int .i64 (aa)]
 refine bodyPost_ret (results_row2 (P := Tryz.prog) rfl _ _ (w.heap.size + 1) 97 #[.int .i64 (rr), .int .i64 (aa)] (0, 0) _ rfl r1 Tryz.underlying97 rfl (by kernel_rfl)) rfl ?_
 exact ⟨rfl, (uh P2).setRow (w := w) (uh GL) (uh AT) (by omega) _, r2⟩
end
end
theorem po_all (g B gr rc mo re : Nat) (X : Int) (y : Mv) (d : Md) (w : World) (P : Pg w g B gr rc y d) (h8 : d.R8) (hr : re < 8) (hs : y.small) (hx : 0 ≤ d.get (nAt d.r 7) ∧ d.get (nAt d.r 7) ≤ 65535) (h7 : mo ≤ 7) (hlt : gr < w.heap.size) (hgl : g < w.heap.size) :
  ∃ d2, PoIs g B gr rc re X y w (mo : Int) (d.plR mo re) (d.plA mo re) (d.plO mo re) d2 ∧ (d.plO mo re = true → d2 = d.plD mo re) ∧ (d2 = d.plD mo re ∨ d2 = d.reg 7 ((nAt d.r 7 + 2) % 65536)) := by
 rcases (show mo = 0 ∨ mo = 1 ∨ mo = 2 ∨ mo = 3 ∨ mo = 4 ∨ mo = 5 ∨ mo = 6 ∨ mo = 7 by omega) with rfl | rfl | rfl | rfl | rfl | rfl | rfl | rfl
 · exact ⟨d.plD _ re, by simpa [Md.plR, Md.plA, Md.plO, Md.plD] using po_0 g B gr rc re X y d w P h8 hr hs hlt hgl, fun _ => rfl, .inl rfl⟩
 · exact ⟨d.plD _ re, by simpa [Md.plR, Md.plA, Md.plO, Md.plD, Md.adD, Md.adV, Md.adO, oddM] using po_1 g B gr rc re X y d w P h8 hr hs hlt hgl, fun _ => rfl, .inl rfl⟩
 · exact ⟨d.plD _ re, by simpa [Md.plR, Md.plA, Md.plO, Md.plD, Md.adD, Md.adV, Md.adO, oddM] using po_2 g B gr rc re X y d w P h8 hr hs hlt hgl, fun _ => rfl, .inl rfl⟩
 · exact ⟨d.plD _ re, by simpa [Md.plR, Md.plA, Md.plO, Md.plD, Md.adD, Md.adV, Md.adO, oddM] using po_3 g B gr rc re X y d w P h8 hr hs hlt hgl, fun _ => rfl, .inl rfl⟩
 · exact ⟨d.plD _ re, by simpa [Md.plR, Md.plA, Md.plO, Md.plD, Md.adD, Md.adV, Md.adO, oddM] using po_4 g B gr rc re X y d w P h8 hr hs hlt hgl, fun _ => rfl, .inl rfl⟩
 · exact ⟨d.plD _ re, by simpa [Md.plR, Md.plA, Md.plO, Md.plD, Md.adD, Md.adV, Md.adO, oddM] using po_5 g B gr rc re X y d w P h8 hr hs hlt hgl, fun _ => rfl, .inl rfl⟩
 ·
  cases hq : d.has (nAt d.r 7)
  ·
   have h := po_6n g B gr rc re X y d w P h8 hr hs hlt hgl hx hq
   exact ⟨_, by simpa [Md.plR, Md.plA, Md.plO, Md.adO, oddM, hq] using h, fun e => absurd e (by simp [Md.plO, Md.adO, hq]), .inr rfl⟩
  ·
   have h := po_6y g B gr rc re X y d w P h8 hr hs hlt hgl hx hq
   have hf : d.fet = d.reg 7 ((nAt d.r 7 + 2) % 65536) := by unfold Md.fet; rw [if_pos hq]
   rw [← hf] at h
   exact ⟨d.plD _ re, by simpa [Md.plR, Md.plA, Md.plO, Md.plD, Md.adD, Md.adV, Md.adO, oddM, hq] using h, fun _ => rfl, .inl rfl⟩
 ·
  cases hq : d.has (nAt d.r 7)
  ·
   have h := po_7n g B gr rc re X y d w P h8 hr hs hlt hgl hx hq
   exact ⟨_, by simpa [Md.plR, Md.plA, Md.plO, Md.adO, oddM, hq] using h, fun e => absurd e (by simp [Md.plO, Md.adO, hq]), .inr rfl⟩
  ·
   have h := po_7y g B gr rc re X y d w P h8 hr hs hlt hgl hx hq
   have hf : d.fet = d.reg 7 ((nAt d.r 7 + 2) % 65536) := by unfold Md.fet; rw [if_pos hq]
   rw [← hf] at h
   exact ⟨d.plD _ re, by simpa [Md.plR, Md.plA, Md.plO, Md.plD, Md.adD, Md.adV, Md.adO, oddM, hq] using h, fun _ => rfl, .inl rfl⟩
def PoIs0 (g B gr rc re : Nat) (X : Int) (y : Mv) (w : World) (mo rr aa : Int) (ok : Bool) (d2 : Md) : Prop := Calls Tryz.prog 139 #[.pointer (some ⟨g, 0, none⟩), .agg #[.int .i64 mo, .int .i64 (re : Int), .int .i64 X]] w fun e w' => e = .returned (.tuple #[.agg #[.int .i64 rr, .int .i64 aa], .bool ok]) ∧ (ok = true → Pg w' g B gr rc y d2) ∧ w.grownBy w' (some gr)
theorem po_any (g B gr rc mo re : Nat) (X : Int) (y : Mv) (d : Md) (w : World) (P : Pg w g B gr rc y d) (h8 : d.R8) (hr : re < 8) (hs : y.small) (hx : 0 ≤ d.get (nAt d.r 7) ∧ d.get (nAt d.r 7) ≤ 65535) (h7 : mo ≤ 7) (hlt : gr < w.heap.size) (hgl : g < w.heap.size) :
  PoIs0 g B gr rc re X y w (mo : Int) (d.plR mo re) (d.plA mo re) (d.plO mo re) (d.plD mo re) := by
 obtain ⟨d2, h, e, _⟩ := po_all g B gr rc mo re X y d w P h8 hr hs hx h7 hlt hgl
 unfold PoIs at h
 unfold PoIs0
 exact h.mono fun e2 w' ⟨a, b, c⟩ => ⟨a, fun ho => (e ho) ▸ b, c⟩
theorem sl_form {w : World} {B : Nat} {s : Sl} {ns : List Int} (h : OwnN w B s.v ns) (h0 : 0 < ns.length) : ∃ g c, s = ⟨some ⟨g, 0, none⟩, ns.length, c⟩ := by
 obtain ⟨sa, sn, sc⟩ := s
 rcases h.form with ⟨_, e0⟩ | ⟨g, cap, e, _⟩
 · rw [e0] at h0; simp at h0
 ·
  unfold Sl.v at e
  simp at e
  exact ⟨g, cap, by rw [e.1, e.2.1, e.2.2]⟩
section
section
variable {W w w' : World} {im ins : Sl} {ni nn ns : List Int} {row : Option Nat} {y : Mv} {d : Md} {s : Sl} {B : Nat}
theorem row_gb {g : Nat} {o : Obj} (h : w.heap[g]? = some o) (hg : w.grownBy w' row) (hn : ∀ b, row = some b → g ≠ b) : w'.heap[g]? = some o := (hg.block g (row_lt h) (fun e => hn g e.symm rfl)).trans h
theorem OwnM.gb (h : OwnM w B y d) (hg : w.grownBy w' row) (hn : ∀ b, row = some b → ¬ y.at b) : OwnM w' B y d := h.keepH fun g ha hl => hg.block g hl (fun e => hn g e.symm ha)
theorem OwnN.gb (h : OwnN w B s.v ns) (hg : w.grownBy w' row) (hn : ∀ b, row = some b → s.v.ownBlock ≠ some b) : OwnN w' B s.v ns := h.keep fun g hv hl => hg.block g hl (fun e => hn g e.symm hv)
end
end
end Go.Proofs.YtjpbjbnialehbaaGreatDoor
