/- Contracts over this seat's translation, laid together; conditions stand as hypotheses of each. -/
import Derived.Test.YtboedaofbchdkaaGreatDoorRsF
import Derived.Test.YtboedaofbchdkaaGreatDoorRsG
namespace Go.Proofs.YtboedaofbchdkaaGreatDoor
open Go.ChangeShapes Go.WideShapes Go.ChangeAt Go.RowKit
set_option maxHeartbeats 16000000
set_option linter.unusedVariables false
set_option maxRecDepth 8000
set_option linter.unusedSimpArgs false
section
theorem Pg.setRow {w w1 : World} {g B gr rc b : Nat} {y : Mv} {d : Md} (h : Pg w1 g B gr rc y d) (hg : g < w.heap.size) (ha : ∀ b, y.at b → b < w.heap.size) (hb : w.heap.size ≤ b) (cs : Array Value) : Pg (w1.setRow b cs) g B gr rc y d :=
 ⟨(setRow_other w1 b g cs (by omega)).trans h.row, h.len, h.own.keepH fun k hk _ => setRow_other w1 b k cs (by have := ha k hk; omega), h.er, h.ne⟩
structure Bu (w wr : World) (gr : Nat) (mo re X : Int) : Prop where
 bo : wr.heap[w.heap.size]? = some (.cells #[.int .i64 mo, .int .i64 re, .int .i64 X] 46 (0, 0))
 rp : wr.heap[w.heap.size + 1]? = some (.cells #[.int .i64 0, .int .i64 0] 57 (0, 0))
 gw : w.grownBy wr (some gr)
 lt : gr < w.heap.size
 sz : w.heap.size + 2 ≤ wr.heap.size
section
variable {w wr w' : World} {gr : Nat} {mo re X : Int}
theorem bu_new (mo re X : Int) (h : gr < w.heap.size) : Bu w ((w.alloc (.cells #[.int .i64 mo, .int .i64 re, .int .i64 X] 46)).alloc (.cells #[.int .i64 0, .int .i64 0] 57)) gr mo re X :=
 ⟨row_lat (heap_alloc_last w _) (below_new _ _), by have := heap_alloc_last (w.alloc (.cells #[.int .i64 mo, .int .i64 re, .int .i64 X] 46)) (.cells #[.int .i64 0, .int .i64 0] 57); simpa using this, grown_below (grownBy_below (below_new w _)) (below_new _ _), h, by simp⟩
theorem Bu.later (h : Bu w wr gr mo re X) (hb : Below wr.heap.size wr w') : Bu w w' gr mo re X := ⟨row_lat h.bo hb, row_lat h.rp hb, grown_below h.gw hb, h.lt, Nat.le_trans h.sz hb.size⟩
theorem Bu.past (h : Bu w wr gr mo re X) (hg : wr.grownBy w' (some gr)) : Bu w w' gr mo re X := ⟨row_past h.bo hg (by have := h.lt; omega), row_past h.rp hg (by have := h.lt; omega), h.gw.trans hg, h.lt, Nat.le_trans h.sz hg.size⟩
theorem Bu.done (h : Bu w wr gr mo re X) (cs : Array Value) : (wr.setRow (w.heap.size + 1) cs).heap[w.heap.size + 1]? = some (.cells cs 57 (0, 0)) ∧ w.grownBy (wr.setRow (w.heap.size + 1) cs) (some gr) :=
 ⟨setRow_heap wr _ _ _ 57 _ h.rp, grown_setRow h.gw (by omega) _⟩
theorem Bu.c0 (h : Bu w wr gr mo re X) : wr.cell? ⟨w.heap.size, 0, none⟩ = some (.int .i64 mo) := (cell_of_row wr _ 0 _ 46 _ h.bo).trans rfl
theorem Bu.c1 (h : Bu w wr gr mo re X) : wr.cell? ⟨w.heap.size, 1, none⟩ = some (.int .i64 re) := (cell_of_row wr _ 1 _ 46 _ h.bo).trans rfl
theorem below_two (w : World) (o p : Obj) : Below w.heap.size w ((w.alloc o).alloc p) := ((below_new w o).alloc (by simp) p)
end
section
variable (g B gr rc re : Nat) (X : Int) (y : Mv) (d : Md) (w : World)
def PoIs (mo rr aa : Int) (ok : Bool) (d2 : Md) : Prop := Calls Tryz.prog 126 #[.pointer (some ⟨g, 0, none⟩), .agg #[.int .i64 mo, .int .i64 (re : Int), .int .i64 X]] w fun e w' => e = .returned (.tuple #[.agg #[.int .i64 rr, .int .i64 aa], .bool ok]) ∧ Pg w' g B gr rc y d2 ∧ w.grownBy w' (some gr)
theorem po_0 (P : Pg w g B gr rc y d) (h8 : d.R8) (hr : re < 8) (hs : y.small) (hlt : gr < w.heap.size) (hgl : g < w.heap.size) : PoIs g B gr rc re X y w 0 (re : Int) (-1) true (d) := by
 unfold PoIs
 have U := hide (bu_new (w := w) 0 (re : Int) X hlt)
 have PW := hide (P.later (below_two w (Obj.cells #[.int .i64 0, .int .i64 (re : Int), .int .i64 X] 46) (Obj.cells #[.int .i64 0, .int .i64 0] 57)))
 have AT := hide (fun b (hb : y.at b) => own_at_lt P.own hb)
 have GL := hide hgl
 obtain ⟨v0, v1⟩ := h8.2 re hr
 have hrl : re < d.r.length := by rw [h8.1]; exact hr
 have HRL := hide hrl
 have H8 := hide h8
 have HS := hide hs
 clear P hlt hgl hs
 go_enter Tryz.func126, Tryz.ntmps126
 go_wp2_with fail
 generalize ((w.alloc (Obj.cells #[.int .i64 0, .int .i64 (re : Int), .int .i64 X] 46)).alloc (Obj.cells #[.int .i64 0, .int .i64 0] 57)) = W0 at U PW ⊢
 have ne := Sub.ne W0.heap.size W0
 have c1 : ∀ s : Sub W0.heap.size W0, s.w.cell? ⟨g, 257, none⟩ = some (.slice (some ⟨gr, 0, none⟩) 8 rc) := fun s => by have := ((uh PW).later s.h).r; rw [(uh H8).1] at this; exact this
 have c2 : ∀ s : Sub W0.heap.size W0, s.w.cell? ⟨gr, re, none⟩ = some (.int .i64 (nAt d.r re)) := fun s => ((uh PW).later s.h).cell re (uh HRL)
 have b0 : ∀ s : Sub W0.heap.size W0, s.w.cell? ⟨w.heap.size, 0, none⟩ = some (.int .i64 0) := fun s => ((uh U).later s.h).c0
 have b1 : ∀ s : Sub W0.heap.size W0, s.w.cell? ⟨w.heap.size, 1, none⟩ = some (.int .i64 (re : Int)) := fun s => ((uh U).later s.h).c1
 have hri : (re : Int) < 8 := by omega
 clear h8
 refine wp_region_sub (⟨W0, Below.refl _ _⟩ : Sub W0.heap.size W0) (by kernel_rfl) (by kernel_rfl) ?_
 repeat (go_big_quiet_step (fail))
 refine wpQuiet_nil ?_
 intro s
 have US := hide ((uh U).later s.h)
 have PS := hide ((uh PW).later s.h)
 go_wp2_with fail
 refine (regPlace_any _ _).mono ?_
 rintro e w1 ⟨rfl, hb⟩
 have U1 := hide ((uh US).later hb)
 have P1 := hide ((uh PS).later hb)
 clear hb
 go_wp2_with (first | (refine wpList_store_row rfl 57 _ _ rfl (w.heap.size + 1) #[.int .i64 (re : Int), .int .i64 (-1)] rfl rfl 57 #[.int .i64 0, .int .i64 0] (uh U1).rp (by kernel_rfl) rfl (by simp [Value.oneCell']) ?_))
 obtain ⟨r1, r2⟩ := (uh U1).done #[.int .i64 (re : Int), .int .i64 (-1)]
 refine bodyPost_ret (results_row2 (P := Tryz.prog) rfl _ _ (w.heap.size + 1) 57 #[.int .i64 (re : Int), .int .i64 (-1)] (0, 0) _ rfl r1 Tryz.underlying57 rfl (by kernel_rfl)) rfl ?_
 exact ⟨rfl, (uh P1).setRow (w := w) (uh GL) (uh AT) (by omega) _, r2⟩
theorem po_1 (P : Pg w g B gr rc y d) (h8 : d.R8) (hr : re < 8) (hs : y.small) (hlt : gr < w.heap.size) (hgl : g < w.heap.size) : PoIs g B gr rc re X y w 1 (-1) (nAt d.r re) true (d) := by
 unfold PoIs
 have U := hide (bu_new (w := w) 1 (re : Int) X hlt)
 have PW := hide (P.later (below_two w (Obj.cells #[.int .i64 1, .int .i64 (re : Int), .int .i64 X] 46) (Obj.cells #[.int .i64 0, .int .i64 0] 57)))
 have AT := hide (fun b (hb : y.at b) => own_at_lt P.own hb)
 have GL := hide hgl
 obtain ⟨v0, v1⟩ := h8.2 re hr
 have hrl : re < d.r.length := by rw [h8.1]; exact hr
 have HRL := hide hrl
 have H8 := hide h8
 have HS := hide hs
 clear P hlt hgl hs
 go_enter Tryz.func126, Tryz.ntmps126
 go_wp2_with fail
 generalize ((w.alloc (Obj.cells #[.int .i64 1, .int .i64 (re : Int), .int .i64 X] 46)).alloc (Obj.cells #[.int .i64 0, .int .i64 0] 57)) = W0 at U PW ⊢
 have ne := Sub.ne W0.heap.size W0
 have c1 : ∀ s : Sub W0.heap.size W0, s.w.cell? ⟨g, 257, none⟩ = some (.slice (some ⟨gr, 0, none⟩) 8 rc) := fun s => by have := ((uh PW).later s.h).r; rw [(uh H8).1] at this; exact this
 have c2 : ∀ s : Sub W0.heap.size W0, s.w.cell? ⟨gr, re, none⟩ = some (.int .i64 (nAt d.r re)) := fun s => ((uh PW).later s.h).cell re (uh HRL)
 have b0 : ∀ s : Sub W0.heap.size W0, s.w.cell? ⟨w.heap.size, 0, none⟩ = some (.int .i64 1) := fun s => ((uh U).later s.h).c0
 have b1 : ∀ s : Sub W0.heap.size W0, s.w.cell? ⟨w.heap.size, 1, none⟩ = some (.int .i64 (re : Int)) := fun s => ((uh U).later s.h).c1
 have hri : (re : Int) < 8 := by omega
 clear h8
 refine wp_region_sub (⟨W0, Below.refl _ _⟩ : Sub W0.heap.size W0) (by kernel_rfl) (by kernel_rfl) ?_
 repeat (go_big_quiet_step (fail))
 refine wpQuiet_nil ?_
 intro s
 have US := hide ((uh U).later s.h)
 have PS := hide ((uh PW).later s.h)
 go_wp2_with fail
 refine (adPlace_any _ _).mono ?_
 rintro e w1 ⟨rfl, hb⟩
 have U1 := hide ((uh US).later hb)
 have P1 := hide ((uh PS).later hb)
 clear hb
 go_wp2_with (first | (refine wpList_store_row rfl 57 _ _ rfl (w.heap.size + 1) #[.int .i64 (-1), .int .i64 (nAt d.r re)] rfl rfl 57 #[.int .i64 0, .int .i64 0] (uh U1).rp (by kernel_rfl) rfl (by simp [Value.oneCell']) ?_))
 obtain ⟨r1, r2⟩ := (uh U1).done #[.int .i64 (-1), .int .i64 (nAt d.r re)]
 refine bodyPost_ret (results_row2 (P := Tryz.prog) rfl _ _ (w.heap.size + 1) 57 #[.int .i64 (-1), .int .i64 (nAt d.r re)] (0, 0) _ rfl r1 Tryz.underlying57 rfl (by kernel_rfl)) rfl ?_
 exact ⟨rfl, (uh P1).setRow (w := w) (uh GL) (uh AT) (by omega) _, r2⟩
theorem po_2 (P : Pg w g B gr rc y d) (h8 : d.R8) (hr : re < 8) (hs : y.small) (hlt : gr < w.heap.size) (hgl : g < w.heap.size) : PoIs g B gr rc re X y w 2 (-1) (nAt d.r re) true (d.reg re ((nAt d.r re + 2) % 65536)) := by
 unfold PoIs
 have U := hide (bu_new (w := w) 2 (re : Int) X hlt)
 have PW := hide (P.later (below_two w (Obj.cells #[.int .i64 2, .int .i64 (re : Int), .int .i64 X] 46) (Obj.cells #[.int .i64 0, .int .i64 0] 57)))
 have AT := hide (fun b (hb : y.at b) => own_at_lt P.own hb)
 have GL := hide hgl
 obtain ⟨v0, v1⟩ := h8.2 re hr
 have hrl : re < d.r.length := by rw [h8.1]; exact hr
 have HRL := hide hrl
 have H8 := hide h8
 have HS := hide hs
 clear P hlt hgl hs
 go_enter Tryz.func126, Tryz.ntmps126
 go_wp2_with fail
 generalize ((w.alloc (Obj.cells #[.int .i64 2, .int .i64 (re : Int), .int .i64 X] 46)).alloc (Obj.cells #[.int .i64 0, .int .i64 0] 57)) = W0 at U PW ⊢
 have ne := Sub.ne W0.heap.size W0
 have c1 : ∀ s : Sub W0.heap.size W0, s.w.cell? ⟨g, 257, none⟩ = some (.slice (some ⟨gr, 0, none⟩) 8 rc) := fun s => by have := ((uh PW).later s.h).r; rw [(uh H8).1] at this; exact this
 have c2 : ∀ s : Sub W0.heap.size W0, s.w.cell? ⟨gr, re, none⟩ = some (.int .i64 (nAt d.r re)) := fun s => ((uh PW).later s.h).cell re (uh HRL)
 have b0 : ∀ s : Sub W0.heap.size W0, s.w.cell? ⟨w.heap.size, 0, none⟩ = some (.int .i64 2) := fun s => ((uh U).later s.h).c0
 have b1 : ∀ s : Sub W0.heap.size W0, s.w.cell? ⟨w.heap.size, 1, none⟩ = some (.int .i64 (re : Int)) := fun s => ((uh U).later s.h).c1
 have hri : (re : Int) < 8 := by omega
 clear h8
 refine wp_region_sub (⟨W0, Below.refl _ _⟩ : Sub W0.heap.size W0) (by kernel_rfl) (by kernel_rfl) ?_
 repeat (go_big_quiet_step (fail))
 refine wpQuiet_nil ?_
 intro s
 have US := hide ((uh U).later s.h)
 have PS := hide ((uh PW).later s.h)
 go_wp2_with fail
 refine (goOn_any g B gr rc re y d _ (uh PS) (uh HRL) v0 v1).mono ?_
 rintro e w1 ⟨rfl, p2, g2⟩
 have U1 := hide ((uh US).past g2)
 have P1 := hide p2
 clear p2 g2
 go_wp2_with fail
 refine (adPlace_any _ _).mono ?_
 rintro e w2 ⟨rfl, hb⟩
 have U2 := hide ((uh U1).later hb)
 have P2 := hide ((uh P1).later hb)
 clear hb
 go_wp2_with (first | (refine wpList_store_row rfl 57 _ _ rfl (w.heap.size + 1) #[.int .i64 (-1), .int .i64 (nAt d.r re)] rfl rfl 57 #[.int .i64 0, .int .i64 0] (uh U2).rp (by kernel_rfl) rfl (by simp [Value.oneCell']) ?_))
 obtain ⟨r1, r2⟩ := (uh U2).done #[.int .i64 (-1), .int .i64 (nAt d.r re)]
 refine bodyPost_ret (results_row2 (P := Tryz.prog) rfl _ _ (w.heap.size + 1) 57 #[.int .i64 (-1), .int .i64 (nAt d.r re)] (0, 0) _ rfl r1 Tryz.underlying57 rfl (by kernel_rfl)) rfl ?_
 exact ⟨rfl, (uh P2).setRow (w := w) (uh GL) (uh AT) (by omega) _, r2⟩
theorem po_4 (P : Pg w g B gr rc y d) (h8 : d.R8) (hr : re < 8) (hs : y.small) (hlt : gr < w.heap.size) (hgl : g < w.heap.size) : PoIs g B gr rc re X y w 4 (-1) ((nAt d.r re - 2) % 65536) true (d.reg re ((nAt d.r re - 2) % 65536)) := by
 unfold PoIs
 have U := hide (bu_new (w := w) 4 (re : Int) X hlt)
 have PW := hide (P.later (below_two w (Obj.cells #[.int .i64 4, .int .i64 (re : Int), .int .i64 X] 46) (Obj.cells #[.int .i64 0, .int .i64 0] 57)))
 have AT := hide (fun b (hb : y.at b) => own_at_lt P.own hb)
 have GL := hide hgl
 obtain ⟨v0, v1⟩ := h8.2 re hr
 have hrl : re < d.r.length := by rw [h8.1]; exact hr
 have HRL := hide hrl
 have H8 := hide h8
 have HS := hide hs
 clear P hlt hgl hs
 go_enter Tryz.func126, Tryz.ntmps126
 go_wp2_with fail
 generalize ((w.alloc (Obj.cells #[.int .i64 4, .int .i64 (re : Int), .int .i64 X] 46)).alloc (Obj.cells #[.int .i64 0, .int .i64 0] 57)) = W0 at U PW ⊢
 have ne := Sub.ne W0.heap.size W0
 have c1 : ∀ s : Sub W0.heap.size W0, s.w.cell? ⟨g, 257, none⟩ = some (.slice (some ⟨gr, 0, none⟩) 8 rc) := fun s => by have := ((uh PW).later s.h).r; rw [(uh H8).1] at this; exact this
 have c2 : ∀ s : Sub W0.heap.size W0, s.w.cell? ⟨gr, re, none⟩ = some (.int .i64 (nAt d.r re)) := fun s => ((uh PW).later s.h).cell re (uh HRL)
 have b0 : ∀ s : Sub W0.heap.size W0, s.w.cell? ⟨w.heap.size, 0, none⟩ = some (.int .i64 4) := fun s => ((uh U).later s.h).c0
 have b1 : ∀ s : Sub W0.heap.size W0, s.w.cell? ⟨w.heap.size, 1, none⟩ = some (.int .i64 (re : Int)) := fun s => ((uh U).later s.h).c1
 have hri : (re : Int) < 8 := by omega
 clear h8
 refine wp_region_sub (⟨W0, Below.refl _ _⟩ : Sub W0.heap.size W0) (by kernel_rfl) (by kernel_rfl) ?_
 repeat (go_big_quiet_step (fail))
 refine wpQuiet_nil ?_
 intro s
 have US := hide ((uh U).later s.h)
 have PS := hide ((uh PW).later s.h)
 go_wp2_with fail
 refine (goBack_any g B gr rc re y d _ (uh PS) (uh HRL) v0 v1).mono ?_
 rintro e w1 ⟨rfl, p2, g2⟩
 have U1 := hide ((uh US).past g2)
 have P1 := hide p2
 clear p2 g2
 go_wp2_with fail
 refine (adPlace_any _ _).mono ?_
 rintro e w2 ⟨rfl, hb⟩
 have U2 := hide ((uh U1).later hb)
 have P2 := hide ((uh P1).later hb)
 clear hb
 go_wp2_with (first | (refine wpList_store_row rfl 57 _ _ rfl (w.heap.size + 1) #[.int .i64 (-1), .int .i64 ((nAt d.r re - 2) % 65536)] rfl rfl 57 #[.int .i64 0, .int .i64 0] (uh U2).rp (by kernel_rfl) rfl (by simp [Value.oneCell']) ?_))
 obtain ⟨r1, r2⟩ := (uh U2).done #[.int .i64 (-1), .int .i64 ((nAt d.r re - 2) % 65536)]
 refine bodyPost_ret (results_row2 (P := Tryz.prog) rfl _ _ (w.heap.size + 1) 57 #[.int .i64 (-1), .int .i64 ((nAt d.r re - 2) % 65536)] (0, 0) _ rfl r1 Tryz.underlying57 rfl (by kernel_rfl)) rfl ?_
 exact ⟨rfl, (uh P2).setRow (w := w) (uh GL) (uh AT) (by omega) _, r2⟩
end
end
section
section
variable (g B gr rc re : Nat) (X : Int) (y : Mv) (d : Md) (w : World)
theorem po_3 (P : Pg w g B gr rc y d) (h8 : d.R8) (hr : re < 8) (hs : y.small) (hlt : gr < w.heap.size) (hgl : g < w.heap.size) : PoIs g B gr rc re X y w 3 (if (d.reg re ((nAt d.r re + 2) % 65536)).has (nAt d.r re) = true then -1 else 0) (if (d.reg re ((nAt d.r re + 2) % 65536)).has (nAt d.r re) = true then (d.reg re ((nAt d.r re + 2) % 65536)).get (nAt d.r re) else 0) ((d.reg re ((nAt d.r re + 2) % 65536)).has (nAt d.r re)) (d.reg re ((nAt d.r re + 2) % 65536)) := by
 unfold PoIs
 have U := hide (bu_new (w := w) 3 (re : Int) X hlt)
 have PW := hide (P.later (below_two w (Obj.cells #[.int .i64 3, .int .i64 (re : Int), .int .i64 X] 46) (Obj.cells #[.int .i64 0, .int .i64 0] 57)))
 have AT := hide (fun b (hb : y.at b) => own_at_lt P.own hb)
 have GL := hide hgl
 obtain ⟨v0, v1⟩ := h8.2 re hr
 have hrl : re < d.r.length := by rw [h8.1]; exact hr
 have T := hide (fun w P => through_any g B gr rc (nAt d.r re) y (d.reg re ((nAt d.r re + 2) % 65536)) w P hs)
 obtain ⟨ok, hok⟩ : ∃ b, (d.reg re ((nAt d.r re + 2) % 65536)).has (nAt d.r re) = b := ⟨_, rfl⟩
 obtain ⟨rr, hrr⟩ : ∃ b : Int, (if (d.reg re ((nAt d.r re + 2) % 65536)).has (nAt d.r re) = true then -1 else 0) = b := ⟨_, rfl⟩
 obtain ⟨aa, haa⟩ : ∃ b : Int, (if (d.reg re ((nAt d.r re + 2) % 65536)).has (nAt d.r re) = true then (d.reg re ((nAt d.r re + 2) % 65536)).get (nAt d.r re) else 0) = b := ⟨_, rfl⟩
 rw [hrr, haa, hok] at T
 rw [hrr, haa, hok]
 clear hrr haa hok
 have HRL := hide hrl
 have H8 := hide h8
 have HS := hide hs
 clear P hlt hgl hs
 go_enter Tryz.func126, Tryz.ntmps126
 go_wp2_with fail
 generalize ((w.alloc (Obj.cells #[.int .i64 3, .int .i64 (re : Int), .int .i64 X] 46)).alloc (Obj.cells #[.int .i64 0, .int .i64 0] 57)) = W0 at U PW ⊢
 have ne := Sub.ne W0.heap.size W0
 have c1 : ∀ s : Sub W0.heap.size W0, s.w.cell? ⟨g, 257, none⟩ = some (.slice (some ⟨gr, 0, none⟩) 8 rc) := fun s => by have := ((uh PW).later s.h).r; rw [(uh H8).1] at this; exact this
 have c2 : ∀ s : Sub W0.heap.size W0, s.w.cell? ⟨gr, re, none⟩ = some (.int .i64 (nAt d.r re)) := fun s => ((uh PW).later s.h).cell re (uh HRL)
 have b0 : ∀ s : Sub W0.heap.size W0, s.w.cell? ⟨w.heap.size, 0, none⟩ = some (.int .i64 3) := fun s => ((uh U).later s.h).c0
 have b1 : ∀ s : Sub W0.heap.size W0, s.w.cell? ⟨w.heap.size, 1, none⟩ = some (.int .i64 (re : Int)) := fun s => ((uh U).later s.h).c1
 have hri : (re : Int) < 8 := by omega
 clear h8
 refine wp_region_sub (⟨W0, Below.refl _ _⟩ : Sub W0.heap.size W0) (by kernel_rfl) (by kernel_rfl) ?_
 repeat (go_big_quiet_step (fail))
 refine wpQuiet_nil ?_
 intro s
 have US := hide ((uh U).later s.h)
 have PS := hide ((uh PW).later s.h)
 go_wp2_with fail
 refine (goOn_any g B gr rc re y d _ (uh PS) (uh HRL) v0 v1).mono ?_
 rintro e w1 ⟨rfl, p2, g2⟩
 have U1 := hide ((uh US).past g2)
 have P1 := hide p2
 clear p2 g2
 go_wp2_with fail
 refine (uh T _ (uh P1)).mono ?_
 rintro e w2 ⟨rfl, hb⟩
 have U2 := hide ((uh U1).later hb)
 have P2 := hide ((uh P1).later hb)
 clear hb
 go_wp2_with (first | (refine wpList_store_row rfl 57 _ _ rfl (w.heap.size + 1) #[.int .i64 (rr), .int .i64 (aa)] rfl rfl 57 #[.int .i64 0, .int .i64 0] (uh U2).rp (by kernel_rfl) rfl (by simp [Value.oneCell']) ?_))
 obtain ⟨r1, r2⟩ := (uh U2).done #[.int .i64 (rr), .int .i64 (aa)]
 refine bodyPost_ret (results_row2 (P := Tryz.prog) rfl _ _ (w.heap.size + 1) 57 #[.int .i64 (rr), .int .i64 (aa)] (0, 0) _ rfl r1 Tryz.underlying57 rfl (by kernel_rfl)) rfl ?_
 exact ⟨rfl, (uh P2).setRow (w := w) (uh GL) (uh AT) (by omega) _, r2⟩
theorem po_5 (P : Pg w g B gr rc y d) (h8 : d.R8) (hr : re < 8) (hs : y.small) (hlt : gr < w.heap.size) (hgl : g < w.heap.size) : PoIs g B gr rc re X y w 5 (if (d.reg re ((nAt d.r re - 2) % 65536)).has ((nAt d.r re - 2) % 65536) = true then -1 else 0) (if (d.reg re ((nAt d.r re - 2) % 65536)).has ((nAt d.r re - 2) % 65536) = true then (d.reg re ((nAt d.r re - 2) % 65536)).get ((nAt d.r re - 2) % 65536) else 0) ((d.reg re ((nAt d.r re - 2) % 65536)).has ((nAt d.r re - 2) % 65536)) (d.reg re ((nAt d.r re - 2) % 65536)) := by
 unfold PoIs
 have U := hide (bu_new (w := w) 5 (re : Int) X hlt)
 have PW := hide (P.later (below_two w (Obj.cells #[.int .i64 5, .int .i64 (re : Int), .int .i64 X] 46) (Obj.cells #[.int .i64 0, .int .i64 0] 57)))
 have AT := hide (fun b (hb : y.at b) => own_at_lt P.own hb)
 have GL := hide hgl
 obtain ⟨v0, v1⟩ := h8.2 re hr
 have hrl : re < d.r.length := by rw [h8.1]; exact hr
 have T := hide (fun w P => through_any g B gr rc ((nAt d.r re - 2) % 65536) y (d.reg re ((nAt d.r re - 2) % 65536)) w P hs)
 obtain ⟨ok, hok⟩ : ∃ b, (d.reg re ((nAt d.r re - 2) % 65536)).has ((nAt d.r re - 2) % 65536) = b := ⟨_, rfl⟩
 obtain ⟨rr, hrr⟩ : ∃ b : Int, (if (d.reg re ((nAt d.r re - 2) % 65536)).has ((nAt d.r re - 2) % 65536) = true then -1 else 0) = b := ⟨_, rfl⟩
 obtain ⟨aa, haa⟩ : ∃ b : Int, (if (d.reg re ((nAt d.r re - 2) % 65536)).has ((nAt d.r re - 2) % 65536) = true then (d.reg re ((nAt d.r re - 2) % 65536)).get ((nAt d.r re - 2) % 65536) else 0) = b := ⟨_, rfl⟩
 rw [hrr, haa, hok] at T
 rw [hrr, haa, hok]
 clear hrr haa hok
 have HRL := hide hrl
 have H8 := hide h8
 have HS := hide hs
 clear P hlt hgl hs
 go_enter Tryz.func126, Tryz.ntmps126
 go_wp2_with fail
 generalize ((w.alloc (Obj.cells #[.int .i64 5, .int .i64 (re : Int), .int .i64 X] 46)).alloc (Obj.cells #[.int .i64 0, .int .i64 0] 57)) = W0 at U PW ⊢
 have ne := Sub.ne W0.heap.size W0
 have c1 : ∀ s : Sub W0.heap.size W0, s.w.cell? ⟨g, 257, none⟩ = some (.slice (some ⟨gr, 0, none⟩) 8 rc) := fun s => by have := ((uh PW).later s.h).r; rw [(uh H8).1] at this; exact this
 have c2 : ∀ s : Sub W0.heap.size W0, s.w.cell? ⟨gr, re, none⟩ = some (.int .i64 (nAt d.r re)) := fun s => ((uh PW).later s.h).cell re (uh HRL)
 have b0 : ∀ s : Sub W0.heap.size W0, s.w.cell? ⟨w.heap.size, 0, none⟩ = some (.int .i64 5) := fun s => ((uh U).later s.h).c0
 have b1 : ∀ s : Sub W0.heap.size W0, s.w.cell? ⟨w.heap.size, 1, none⟩ = some (.int .i64 (re : Int)) := fun s => ((uh U).later s.h).c1
 have hri : (re : Int) < 8 := by omega
 clear h8
 refine wp_region_sub (⟨W0, Below.refl _ _⟩ : Sub W0.heap.size W0) (by kernel_rfl) (by kernel_rfl) ?_
 repeat (go_big_quiet_step (fail))
 refine wpQuiet_nil ?_
 intro s
 have US := hide ((uh U).later s.h)
 have PS := hide ((uh PW).later s.h)
 go_wp2_with fail
 refine (goBack_any g B gr rc re y d _ (uh PS) (uh HRL) v0 v1).mono ?_
 rintro e w1 ⟨rfl, p2, g2⟩
 have U1 := hide ((uh US).past g2)
 have P1 := hide p2
 clear p2 g2
 go_wp2_with fail
 refine (uh T _ (uh P1)).mono ?_
 rintro e w2 ⟨rfl, hb⟩
 have U2 := hide ((uh U1).later hb)
 have P2 := hide ((uh P1).later hb)
 clear hb
 go_wp2_with (first | (refine wpList_store_row rfl 57 _ _ rfl (w.heap.size + 1) #[.int .i64 (rr), .int .i64 (aa)] rfl rfl 57 #[.int .i64 0, .int .i64 0] (uh U2).rp (by kernel_rfl) rfl (by simp [Value.oneCell']) ?_))
 obtain ⟨r1, r2⟩ := (uh U2).done #[.int .i64 (rr), .int .i64 (aa)]
 refine bodyPost_ret (results_row2 (P := Tryz.prog) rfl _ _ (w.heap.size + 1) 57 #[.int .i64 (rr), .int .i64 (aa)] (0, 0) _ rfl r1 Tryz.underlying57 rfl (by kernel_rfl)) rfl ?_
 exact ⟨rfl, (uh P2).setRow (w := w) (uh GL) (uh AT) (by omega) _, r2⟩
theorem po_6n (P : Pg w g B gr rc y d) (h8 : d.R8) (hr : re < 8) (hs : y.small) (hlt : gr < w.heap.size) (hgl : g < w.heap.size) (hx : 0 ≤ d.get (nAt d.r 7) ∧ d.get (nAt d.r 7) ≤ 65535) (hq : d.has (nAt d.r 7) = false) : PoIs g B gr rc re X y w 6 (0) (0) false (d.reg 7 ((nAt d.r 7 + 2) % 65536)) := by
 unfold PoIs
 have U := hide (bu_new (w := w) 6 (re : Int) X hlt)
 have PW := hide (P.later (below_two w (Obj.cells #[.int .i64 6, .int .i64 (re : Int), .int .i64 X] 46) (Obj.cells #[.int .i64 0, .int .i64 0] 57)))
 have AT := hide (fun b (hb : y.at b) => own_at_lt P.own hb)
 have GL := hide hgl
 obtain ⟨v0, v1⟩ := h8.2 re hr
 have hrl : re < d.r.length := by rw [h8.1]; exact hr
 have I := hide (fun w P => indexed_any g B gr rc re y d w P h8 hr hs hx)
 rw [hq] at I
 simp only [Bool.false_eq_true, if_false] at I
 clear hx hq
 have HRL := hide hrl
 have H8 := hide h8
 have HS := hide hs
 clear P hlt hgl hs
 go_enter Tryz.func126, Tryz.ntmps126
 go_wp2_with fail
 generalize ((w.alloc (Obj.cells #[.int .i64 6, .int .i64 (re : Int), .int .i64 X] 46)).alloc (Obj.cells #[.int .i64 0, .int .i64 0] 57)) = W0 at U PW ⊢
 have ne := Sub.ne W0.heap.size W0
 have c1 : ∀ s : Sub W0.heap.size W0, s.w.cell? ⟨g, 257, none⟩ = some (.slice (some ⟨gr, 0, none⟩) 8 rc) := fun s => by have := ((uh PW).later s.h).r; rw [(uh H8).1] at this; exact this
 have c2 : ∀ s : Sub W0.heap.size W0, s.w.cell? ⟨gr, re, none⟩ = some (.int .i64 (nAt d.r re)) := fun s => ((uh PW).later s.h).cell re (uh HRL)
 have b0 : ∀ s : Sub W0.heap.size W0, s.w.cell? ⟨w.heap.size, 0, none⟩ = some (.int .i64 6) := fun s => ((uh U).later s.h).c0
 have b1 : ∀ s : Sub W0.heap.size W0, s.w.cell? ⟨w.heap.size, 1, none⟩ = some (.int .i64 (re : Int)) := fun s => ((uh U).later s.h).c1
 have hri : (re : Int) < 8 := by omega
 clear h8
 refine wp_region_sub (⟨W0, Below.refl _ _⟩ : Sub W0.heap.size W0) (by kernel_rfl) (by kernel_rfl) ?_
 repeat (go_big_quiet_step (fail))
 refine wpQuiet_nil ?_
 intro s
 have US := hide ((uh U).later s.h)
 have PS := hide ((uh PW).later s.h)
 go_wp2_with fail
 refine (uh I _ (uh PS)).mono ?_
 rintro e w1 ⟨rfl, p2, g2⟩
 have U1 := hide ((uh US).past g2)
 have P1 := hide p2
 clear p2 g2
 go_wp2_with (first | (refine wpList_store_row rfl 57 _ _ rfl (w.heap.size + 1) #[.int .i64 (0), .int .i64 (0)] rfl rfl 57 #[.int .i64 0, .int .i64 0] (uh U1).rp (by kernel_rfl) rfl (by simp [Value.oneCell']) ?_))
 obtain ⟨r1, r2⟩ := (uh U1).done #[.int .i64 (0), .int .i64 (0)]
 refine bodyPost_ret (results_row2 (P := Tryz.prog) rfl _ _ (w.heap.size + 1) 57 #[.int .i64 (0), .int .i64 (0)] (0, 0) _ rfl r1 Tryz.underlying57 rfl (by kernel_rfl)) rfl ?_
 exact ⟨rfl, (uh P1).setRow (w := w) (uh GL) (uh AT) (by omega) _, r2⟩
theorem po_7n (P : Pg w g B gr rc y d) (h8 : d.R8) (hr : re < 8) (hs : y.small) (hlt : gr < w.heap.size) (hgl : g < w.heap.size) (hx : 0 ≤ d.get (nAt d.r 7) ∧ d.get (nAt d.r 7) ≤ 65535) (hq : d.has (nAt d.r 7) = false) : PoIs g B gr rc re X y w 7 (0) (0) false (d.reg 7 ((nAt d.r 7 + 2) % 65536)) := by
 unfold PoIs
 have U := hide (bu_new (w := w) 7 (re : Int) X hlt)
 have PW := hide (P.later (below_two w (Obj.cells #[.int .i64 7, .int .i64 (re : Int), .int .i64 X] 46) (Obj.cells #[.int .i64 0, .int .i64 0] 57)))
 have AT := hide (fun b (hb : y.at b) => own_at_lt P.own hb)
 have GL := hide hgl
 obtain ⟨v0, v1⟩ := h8.2 re hr
 have hrl : re < d.r.length := by rw [h8.1]; exact hr
 have I := hide (fun w P => indexed_any g B gr rc re y d w P h8 hr hs hx)
 rw [hq] at I
 simp only [Bool.false_eq_true, if_false] at I
 clear hx hq
 have HRL := hide hrl
 have H8 := hide h8
 have HS := hide hs
 clear P hlt hgl hs
 go_enter Tryz.func126, Tryz.ntmps126
 go_wp2_with fail
 generalize ((w.alloc (Obj.cells #[.int .i64 7, .int .i64 (re : Int), .int .i64 X] 46)).alloc (Obj.cells #[.int .i64 0, .int .i64 0] 57)) = W0 at U PW ⊢
 have ne := Sub.ne W0.heap.size W0
 have c1 : ∀ s : Sub W0.heap.size W0, s.w.cell? ⟨g, 257, none⟩ = some (.slice (some ⟨gr, 0, none⟩) 8 rc) := fun s => by have := ((uh PW).later s.h).r; rw [(uh H8).1] at this; exact this
 have c2 : ∀ s : Sub W0.heap.size W0, s.w.cell? ⟨gr, re, none⟩ = some (.int .i64 (nAt d.r re)) := fun s => ((uh PW).later s.h).cell re (uh HRL)
 have b0 : ∀ s : Sub W0.heap.size W0, s.w.cell? ⟨w.heap.size, 0, none⟩ = some (.int .i64 7) := fun s => ((uh U).later s.h).c0
 have b1 : ∀ s : Sub W0.heap.size W0, s.w.cell? ⟨w.heap.size, 1, none⟩ = some (.int .i64 (re : Int)) := fun s => ((uh U).later s.h).c1
 have hri : (re : Int) < 8 := by omega
 clear h8
 refine wp_region_sub (⟨W0, Below.refl _ _⟩ : Sub W0.heap.size W0) (by kernel_rfl) (by kernel_rfl) ?_
 repeat (go_big_quiet_step (fail))
 refine wpQuiet_nil ?_
 intro s
 have US := hide ((uh U).later s.h)
 have PS := hide ((uh PW).later s.h)
 go_wp2_with fail
 refine (uh I _ (uh PS)).mono ?_
 rintro e w1 ⟨rfl, p2, g2⟩
 have U1 := hide ((uh US).past g2)
 have P1 := hide p2
 clear p2 g2
 go_wp2_with (first | (refine wpList_store_row rfl 57 _ _ rfl (w.heap.size + 1) #[.int .i64 (0), .int .i64 (0)] rfl rfl 57 #[.int .i64 0, .int .i64 0] (uh U1).rp (by kernel_rfl) rfl (by simp [Value.oneCell']) ?_))
 obtain ⟨r1, r2⟩ := (uh U1).done #[.int .i64 (0), .int .i64 (0)]
 refine bodyPost_ret (results_row2 (P := Tryz.prog) rfl _ _ (w.heap.size + 1) 57 #[.int .i64 (0), .int .i64 (0)] (0, 0) _ rfl r1 Tryz.underlying57 rfl (by kernel_rfl)) rfl ?_
 exact ⟨rfl, (uh P1).setRow (w := w) (uh GL) (uh AT) (by omega) _, r2⟩
theorem po_6y (P : Pg w g B gr rc y d) (h8 : d.R8) (hr : re < 8) (hs : y.small) (hlt : gr < w.heap.size) (hgl : g < w.heap.size) (hx : 0 ≤ d.get (nAt d.r 7) ∧ d.get (nAt d.r 7) ≤ 65535) (hq : d.has (nAt d.r 7) = true) : PoIs g B gr rc re X y w 6 (-1) ((d.get (nAt d.r 7) + nAt d.fet.r re) % 65536) true (d.reg 7 ((nAt d.r 7 + 2) % 65536)) := by
 unfold PoIs
 have U := hide (bu_new (w := w) 6 (re : Int) X hlt)
 have PW := hide (P.later (below_two w (Obj.cells #[.int .i64 6, .int .i64 (re : Int), .int .i64 X] 46) (Obj.cells #[.int .i64 0, .int .i64 0] 57)))
 have AT := hide (fun b (hb : y.at b) => own_at_lt P.own hb)
 have GL := hide hgl
 obtain ⟨v0, v1⟩ := h8.2 re hr
 have hrl : re < d.r.length := by rw [h8.1]; exact hr
 have I := hide (fun w P => indexed_any g B gr rc re y d w P h8 hr hs hx)
 rw [hq] at I
 simp only [if_true] at I
 clear hx hq
 have HRL := hide hrl
 have H8 := hide h8
 have HS := hide hs
 clear P hlt hgl hs
 go_enter Tryz.func126, Tryz.ntmps126
 go_wp2_with fail
 generalize ((w.alloc (Obj.cells #[.int .i64 6, .int .i64 (re : Int), .int .i64 X] 46)).alloc (Obj.cells #[.int .i64 0, .int .i64 0] 57)) = W0 at U PW ⊢
 have ne := Sub.ne W0.heap.size W0
 have c1 : ∀ s : Sub W0.heap.size W0, s.w.cell? ⟨g, 257, none⟩ = some (.slice (some ⟨gr, 0, none⟩) 8 rc) := fun s => by have := ((uh PW).later s.h).r; rw [(uh H8).1] at this; exact this
 have c2 : ∀ s : Sub W0.heap.size W0, s.w.cell? ⟨gr, re, none⟩ = some (.int .i64 (nAt d.r re)) := fun s => ((uh PW).later s.h).cell re (uh HRL)
 have b0 : ∀ s : Sub W0.heap.size W0, s.w.cell? ⟨w.heap.size, 0, none⟩ = some (.int .i64 6) := fun s => ((uh U).later s.h).c0
 have b1 : ∀ s : Sub W0.heap.size W0, s.w.cell? ⟨w.heap.size, 1, none⟩ = some (.int .i64 (re : Int)) := fun s => ((uh U).later s.h).c1
 have hri : (re : Int) < 8 := by omega
 clear h8
 refine wp_region_sub (⟨W0, Below.refl _ _⟩ : Sub W0.heap.size W0) (by kernel_rfl) (by kernel_rfl) ?_
 repeat (go_big_quiet_step (fail))
 refine wpQuiet_nil ?_
 intro s
 have US := hide ((uh U).later s.h)
 have PS := hide ((uh PW).later s.h)
 go_wp2_with fail
 refine (uh I _ (uh PS)).mono ?_
 rintro e w1 ⟨rfl, p2, g2⟩
 have U1 := hide ((uh US).past g2)
 have P1 := hide p2
 clear p2 g2
 have k0 := (uh U1).c0
 go_wp2_with fail
 refine (adPlace_any _ _).mono ?_
 rintro e w2 ⟨rfl, hb⟩
 have U2 := hide ((uh U1).later hb)
 have P2 := hide ((uh P1).later hb)
 clear hb
 go_wp2_with (first | (refine wpList_store_row rfl 57 _ _ rfl (w.heap.size + 1) #[.int .i64 (-1), .int .i64 ((d.get (nAt d.r 7) + nAt d.fet.r re) % 65536)] rfl rfl 57 #[.int .i64 0, .int .i64 0] (uh U2).rp (by kernel_rfl) rfl (by simp [Value.oneCell']) ?_))
 obtain ⟨r1, r2⟩ := (uh U2).done #[.int .i64 (-1), .int .i64 ((d.get (nAt d.r 7) + nAt d.fet.r re) % 65536)]
 refine bodyPost_ret (results_row2 (P := Tryz.prog) rfl _ _ (w.heap.size + 1) 57 #[.int .i64 (-1), .int .i64 ((d.get (nAt d.r 7) + nAt d.fet.r re) % 65536)] (0, 0) _ rfl r1 Tryz.underlying57 rfl (by kernel_rfl)) rfl ?_
 exact ⟨rfl, (uh P2).setRow (w := w) (uh GL) (uh AT) (by omega) _, r2⟩
theorem po_7y (P : Pg w g B gr rc y d) (h8 : d.R8) (hr : re < 8) (hs : y.small) (hlt : gr < w.heap.size) (hgl : g < w.heap.size) (hx : 0 ≤ d.get (nAt d.r 7) ∧ d.get (nAt d.r 7) ≤ 65535) (hq : d.has (nAt d.r 7) = true) : PoIs g B gr rc re X y w 7 (if (d.reg 7 ((nAt d.r 7 + 2) % 65536)).has ((d.get (nAt d.r 7) + nAt d.fet.r re) % 65536) = true then -1 else 0) (if (d.reg 7 ((nAt d.r 7 + 2) % 65536)).has ((d.get (nAt d.r 7) + nAt d.fet.r re) % 65536) = true then (d.reg 7 ((nAt d.r 7 + 2) % 65536)).get ((d.get (nAt d.r 7) + nAt d.fet.r re) % 65536) else 0) ((d.reg 7 ((nAt d.r 7 + 2) % 65536)).has ((d.get (nAt d.r 7) + nAt d.fet.r re) % 65536)) (d.reg 7 ((nAt d.r 7 + 2) % 65536)) := by
 unfold PoIs
 have U := hide (bu_new (w := w) 7 (re : Int) X hlt)
 have PW := hide (P.later (below_two w (Obj.cells #[.int .i64 7, .int .i64 (re : Int), .int .i64 X] 46) (Obj.cells #[.int .i64 0, .int .i64 0] 57)))
 have AT := hide (fun b (hb : y.at b) => own_at_lt P.own hb)
 have GL := hide hgl
 obtain ⟨v0, v1⟩ := h8.2 re hr
 have hrl : re < d.r.length := by rw [h8.1]; exact hr
 have I := hide (fun w P => indexed_any g B gr rc re y d w P h8 hr hs hx)
 rw [hq] at I
 simp only [if_true] at I
 clear hx hq
 have T := hide (fun w P => through_any g B gr rc ((d.get (nAt d.r 7) + nAt d.fet.r re) % 65536) y (d.reg 7 ((nAt d.r 7 + 2) % 65536)) w P hs)
 obtain ⟨ok, hok⟩ : ∃ b, (d.reg 7 ((nAt d.r 7 + 2) % 65536)).has ((d.get (nAt d.r 7) + nAt d.fet.r re) % 65536) = b := ⟨_, rfl⟩
 obtain ⟨rr, hrr⟩ : ∃ b : Int, (if (d.reg 7 ((nAt d.r 7 + 2) % 65536)).has ((d.get (nAt d.r 7) + nAt d.fet.r re) % 65536) = true then -1 else 0) = b := ⟨_, rfl⟩
 obtain ⟨aa, haa⟩ : ∃ b : Int, (if (d.reg 7 ((nAt d.r 7 + 2) % 65536)).has ((d.get (nAt d.r 7) + nAt d.fet.r re) % 65536) = true then (d.reg 7 ((nAt d.r 7 + 2) % 65536)).get ((d.get (nAt d.r 7) + nAt d.fet.r re) % 65536) else 0) = b := ⟨_, rfl⟩
 rw [hrr, haa, hok] at T
 rw [hrr, haa, hok]
 clear hrr haa hok
 have HRL := hide hrl
 have H8 := hide h8
 have HS := hide hs
 clear P hlt hgl hs
 go_enter Tryz.func126, Tryz.ntmps126
 go_wp2_with fail
 generalize ((w.alloc (Obj.cells #[.int .i64 7, .int .i64 (re : Int), .int .i64 X] 46)).alloc (Obj.cells #[.int .i64 0, .int .i64 0] 57)) = W0 at U PW ⊢
 have ne := Sub.ne W0.heap.size W0
 have c1 : ∀ s : Sub W0.heap.size W0, s.w.cell? ⟨g, 257, none⟩ = some (.slice (some ⟨gr, 0, none⟩) 8 rc) := fun s => by have := ((uh PW).later s.h).r; rw [(uh H8).1] at this; exact this
 have c2 : ∀ s : Sub W0.heap.size W0, s.w.cell? ⟨gr, re, none⟩ = some (.int .i64 (nAt d.r re)) := fun s => ((uh PW).later s.h).cell re (uh HRL)
 have b0 : ∀ s : Sub W0.heap.size W0, s.w.cell? ⟨w.heap.size, 0, none⟩ = some (.int .i64 7) := fun s => ((uh U).later s.h).c0
 have b1 : ∀ s : Sub W0.heap.size W0, s.w.cell? ⟨w.heap.size, 1, none⟩ = some (.int .i64 (re : Int)) := fun s => ((uh U).later s.h).c1
 have hri : (re : Int) < 8 := by omega
 clear h8
 refine wp_region_sub (⟨W0, Below.refl _ _⟩ : Sub W0.heap.size W0) (by kernel_rfl) (by kernel_rfl) ?_
 repeat (go_big_quiet_step (fail))
 refine wpQuiet_nil ?_
 intro s
 have US := hide ((uh U).later s.h)
 have PS := hide ((uh PW).later s.h)
 go_wp2_with fail
 refine (uh I _ (uh PS)).mono ?_
 rintro e w1 ⟨rfl, p2, g2⟩
 have U1 := hide ((uh US).past g2)
 have P1 := hide p2
 clear p2 g2
 have k0 := (uh U1).c0
 go_wp2_with fail
 refine (uh T _ (uh P1)).mono ?_
 rintro e w2 ⟨rfl, hb⟩
 have U2 := hide ((uh U1).later hb)
 have P2 := hide ((uh P1).later hb)
 clear hb
 go_wp2_with (first | (refine wpList_store_row rfl 57 _ _ rfl (w.heap.size + 1) #[.int .i64 (rr), .int .i64 (aa)] rfl rfl 57 #[.int .i64 0, .int .i64 0] (uh U2).rp (by kernel_rfl) rfl (by simp [Value.oneCell']) ?_))
 obtain ⟨r1, r2⟩ := (uh U2).done #[.int .i64 (rr), .int .i64 (aa)]
 refine bodyPost_ret (results_row2 (P := Tryz.prog) rfl _ _ (w.heap.size + 1) 57 #[.int .i64 (rr), .int .i64 (aa)] (0, 0) _ rfl r1 Tryz.underlying57 rfl (by kernel_rfl)) rfl ?_
 exact ⟨rfl, (uh P2).setRow (w := w) (uh GL) (uh AT) (by omega) _, r2⟩
end
end
theorem po_all (g B gr rc mo re : Nat) (X : Int) (y : Mv) (d : Md) (w : World) (P : Pg w g B gr rc y d) (h8 : d.R8) (hr : re < 8) (hs : y.small) (hx : 0 ≤ d.get (nAt d.r 7) ∧ d.get (nAt d.r 7) ≤ 65535) (h7 : mo ≤ 7) (hlt : gr < w.heap.size) (hgl : g < w.heap.size) :
  ∃ d2, PoIs g B gr rc re X y w (mo : Int) (d.plR mo re) (d.plA mo re) (d.plO mo re) d2 ∧ (d.plO mo re = true → d2 = d.plD mo re) ∧ (d2 = d.plD mo re ∨ d2 = d.reg 7 ((nAt d.r 7 + 2) % 65536)) := by
 rcases (show mo = 0 ∨ mo = 1 ∨ mo = 2 ∨ mo = 3 ∨ mo = 4 ∨ mo = 5 ∨ mo = 6 ∨ mo = 7 by omega) with rfl | rfl | rfl | rfl | rfl | rfl | rfl | rfl
 · exact ⟨d.plD _ re, by simpa [Md.plR, Md.plA, Md.plO, Md.plD] using po_0 g B gr rc re X y d w P h8 hr hs hlt hgl, fun _ => rfl, .inl rfl⟩
 · exact ⟨d.plD _ re, by simpa [Md.plR, Md.plA, Md.plO, Md.plD, Md.adD, Md.adV, Md.adO, oddM] using po_1 g B gr rc re X y d w P h8 hr hs hlt hgl, fun _ => rfl, .inl rfl⟩
 · exact ⟨d.plD _ re, by simpa [Md.plR, Md.plA, Md.plO, Md.plD, Md.adD, Md.adV, Md.adO, oddM] using po_2 g B gr rc re X y d w P h8 hr hs hlt hgl, fun _ => rfl, .inl rfl⟩
 · exact ⟨d.plD _ re, by simpa [Md.plR, Md.plA, Md.plO, Md.plD, Md.adD, Md.adV, Md.adO, oddM] using po_3 g B gr rc re X y d w P h8 hr hs hlt hgl, fun _ => rfl, .inl rfl⟩
 · exact ⟨d.plD _ re, by simpa [Md.plR, Md.plA, Md.plO, Md.plD, Md.adD, Md.adV, Md.adO, oddM] using po_4 g B gr rc re X y d w P h8 hr hs hlt hgl, fun _ => rfl, .inl rfl⟩
 · exact ⟨d.plD _ re, by simpa [Md.plR, Md.plA, Md.plO, Md.plD, Md.adD, Md.adV, Md.adO, oddM] using po_5 g B gr rc re X y d w P h8 hr hs hlt hgl, fun _ => rfl, .inl rfl⟩
 ·
  cases hq : d.has (nAt d.r 7)
  ·
   have h := po_6n g B gr rc re X y d w P h8 hr hs hlt hgl hx hq
   exact ⟨_, by simpa [Md.plR, Md.plA, Md.plO, Md.adO, oddM, hq] using h, fun e => absurd e (by simp [Md.plO, Md.adO, hq]), .inr rfl⟩
  ·
   have h := po_6y g B gr rc re X y d w P h8 hr hs hlt hgl hx hq
   have hf : d.fet = d.reg 7 ((nAt d.r 7 + 2) % 65536) := by unfold Md.fet; rw [if_pos hq]
   rw [← hf] at h
   exact ⟨d.plD _ re, by simpa [Md.plR, Md.plA, Md.plO, Md.plD, Md.adD, Md.adV, Md.adO, oddM, hq] using h, fun _ => rfl, .inl rfl⟩
 ·
  cases hq : d.has (nAt d.r 7)
  ·
   have h := po_7n g B gr rc re X y d w P h8 hr hs hlt hgl hx hq
   exact ⟨_, by simpa [Md.plR, Md.plA, Md.plO, Md.adO, oddM, hq] using h, fun e => absurd e (by simp [Md.plO, Md.adO, hq]), .inr rfl⟩
  ·
   have h := po_7y g B gr rc re X y d w P h8 hr hs hlt hgl hx hq
   have hf : d.fet = d.reg 7 ((nAt d.r 7 + 2) % 65536) := by unfold Md.fet; rw [if_pos hq]
   rw [← hf] at h
   exact ⟨d.plD _ re, by simpa [Md.plR, Md.plA, Md.plO, Md.plD, Md.adD, Md.adV, Md.adO, oddM, hq] using h, fun _ => rfl, .inl rfl⟩
def PoIs0 (g B gr rc re : Nat) (X : Int) (y : Mv) (w : World) (mo rr aa : Int) (ok : Bool) (d2 : Md) : Prop := Calls Tryz.prog 126 #[.pointer (some ⟨g, 0, none⟩), .agg #[.int .i64 mo, .int .i64 (re : Int), .int .i64 X]] w fun e w' => e = .returned (.tuple #[.agg #[.int .i64 rr, .int .i64 aa], .bool ok]) ∧ (ok = true → Pg w' g B gr rc y d2) ∧ w.grownBy w' (some gr)
theorem po_any (g B gr rc mo re : Nat) (X : Int) (y : Mv) (d : Md) (w : World) (P : Pg w g B gr rc y d) (h8 : d.R8) (hr : re < 8) (hs : y.small) (hx : 0 ≤ d.get (nAt d.r 7) ∧ d.get (nAt d.r 7) ≤ 65535) (h7 : mo ≤ 7) (hlt : gr < w.heap.size) (hgl : g < w.heap.size) :
  PoIs0 g B gr rc re X y w (mo : Int) (d.plR mo re) (d.plA mo re) (d.plO mo re) (d.plD mo re) := by
 obtain ⟨d2, h, e, _⟩ := po_all g B gr rc mo re X y d w P h8 hr hs hx h7 hlt hgl
 unfold PoIs at h
 unfold PoIs0
 exact h.mono fun e2 w' ⟨a, b, c⟩ => ⟨a, fun ho => (e ho) ▸ b, c⟩
def baseL : List Int := [0, 4096, 8192, 16384, 20480, 24576, 57344, 2560, 2688, 2752, 2816, 3008, 3200, 3264, 64, 2048, 128, 256, 512, 768, 1024, 1280, 0, 34816]
def baseAt (k : Nat) : Int := baseL.getD k 0
theorem base_bd : ∀ i : Fin 24, 0 ≤ baseAt i.val ∧ baseAt i.val ≤ 57344 := by decide +kernel
theorem base_lit (k : Nat) (hk : k < 24) : ((baseL.map (Value.int .i64)).toArray)[k]? = some (.int .i64 (baseAt k)) := by
 rw [List.getElem?_toArray, List.getElem?_map]
 have : k < baseL.length := hk
 rw [List.getElem?_eq_getElem this]
 unfold baseAt
 rw [List.getD_eq_getElem?_getD, List.getElem?_eq_getElem this]
 rfl
theorem base_any (k : Nat) (hk : k < 24) (w : World) : Calls Tryz.prog 45 #[.int .i64 k] w fun e w' => e = .returned (.int .i64 (baseAt k)) ∧ Below w.heap.size w w' := by
 have hl := hide (base_lit k hk)
 go_enter Tryz.func45, Tryz.ntmps45
 go_wp2
 go_ret
 have hl2 := uh hl
 rw [List.getElem?_toArray] at hl2
 obtain ⟨_, hv⟩ := List.getElem?_eq_some_iff.1 hl2
 exact ⟨congrArg Ending.returned hv, (Below.refl _ _).alloc (Nat.le_refl _) _⟩
theorem is_ok {i : Is} (h : i.ok = true) : (1 ≤ i.op ∧ i.op ≤ 23) ∧ (i.op ≤ 6 → i.s.ok = true) ∧ (i.op ≤ 15 → i.d.ok = true) ∧ (6 < i.op → i.s.zero = true) ∧ (15 < i.op → i.d.zero = true) ∧ (-128 ≤ i.n ∧ i.n ≤ 255) ∧ ((i.op ≤ 14 ∨ i.op = 22) → i.n = 0) ∧ ((i.op = 15 ∨ i.op = 16) → 0 ≤ i.n ∧ i.n ≤ 7) ∧ (17 ≤ i.op ∧ i.op ≤ 21 → i.n ≤ 127) ∧ (i.op = 23 → 0 ≤ i.n) := by
 unfold Is.ok at h
 simp only [inB, Bool.and_eq_true, decide_eq_true_eq, beq_iff_eq, Bool.or_eq_true, Bool.not_eq_true'] at h
 split at h
 ·
  simp only [Bool.and_eq_true, beq_iff_eq] at h
  obtain ⟨⟨h1, h2⟩, h3⟩ := h
  refine ⟨by omega, fun _ => h1, fun _ => h2, fun _ => by omega, fun _ => by omega, by omega, fun _ => h3, fun _ => by omega, fun _ => by omega, fun _ => by omega⟩
 split at h
 ·
  simp only [Bool.and_eq_true, beq_iff_eq] at h
  obtain ⟨⟨h1, h2⟩, h3⟩ := h
  refine ⟨by omega, fun _ => by omega, fun _ => h2, fun _ => h1, fun _ => by omega, by omega, fun _ => h3, fun _ => by omega, fun _ => by omega, fun _ => by omega⟩
 split at h
 ·
  simp only [Bool.and_eq_true, decide_eq_true_eq] at h
  obtain ⟨⟨h1, h2⟩, h3⟩ := h
  refine ⟨by omega, fun _ => by omega, fun _ => h2, fun _ => h1, fun _ => by omega, by omega, fun _ => by omega, fun _ => by omega, fun _ => by omega, fun _ => by omega⟩
 split at h
 · cases h
 rename_i hz
 have hs : i.s.zero = true := by cases e : i.s.zero <;> simp_all
 have hd : i.d.zero = true := by cases e : i.d.zero <;> simp_all
 clear hz
 split at h
 ·
  simp only [Bool.and_eq_true, decide_eq_true_eq] at h
  refine ⟨by omega, fun _ => by omega, fun _ => by omega, fun _ => hs, fun _ => hd, by omega, fun _ => by omega, fun _ => by omega, fun _ => by omega, fun _ => by omega⟩
 split at h
 ·
  simp only [Bool.and_eq_true, decide_eq_true_eq] at h
  refine ⟨by omega, fun _ => by omega, fun _ => by omega, fun _ => hs, fun _ => hd, by omega, fun _ => by omega, fun _ => by omega, fun _ => by omega, fun _ => by omega⟩
 split at h
 ·
  simp only [beq_iff_eq] at h
  refine ⟨by omega, fun _ => by omega, fun _ => by omega, fun _ => hs, fun _ => hd, by omega, fun _ => by omega, fun _ => by omega, fun _ => by omega, fun _ => by omega⟩
 split at h
 ·
  simp only [Bool.and_eq_true, decide_eq_true_eq] at h
  refine ⟨by omega, fun _ => by omega, fun _ => by omega, fun _ => hs, fun _ => hd, by omega, fun _ => by omega, fun _ => by omega, fun _ => by omega, fun _ => by omega⟩
 · cases h
theorem alloc_cell {w : World} {p : Addr} {v : Value} (h : w.cell? p = some v) (o : Obj) : (w.alloc o).cell? p = some v :=
 ((Below.refl w.heap.size w).alloc (Nat.le_refl _) o).cell (World.block_lt_of_cell? w _ h) |>.trans h
def Wd (ns : List Int) : Prop := ∀ x ∈ ns, 0 ≤ x ∧ x ≤ 65535
theorem nAt_mem {ns : List Int} {i : Nat} (h : i < ns.length) : nAt ns i ∈ ns := by
 unfold nAt
 rw [List.getD_eq_getElem?_getD, List.getElem?_eq_getElem h]
 exact List.getElem_mem h
section
theorem Wd.set {ns : List Int} (h : Wd ns) (k : Nat) (v : Int) (h0 : 0 ≤ v) (h1 : v ≤ 65535) : Wd (ns.set k v) := fun x hx => by
 rcases List.mem_or_eq_of_mem_set hx with h' | h'
 · exact h x h'
 · omega
theorem wdB_of {ns : List Int} (h : Wd ns) : wdB ns = true := by
 unfold wdB
 rw [List.all_eq_true]
 intro x hx
 have := h x hx
 exact inB_t _ _ _ this
theorem Wd.of {ns : List Int} (h : wdB ns = true) : Wd ns := fun x hx => by
 unfold wdB at h
 rw [List.all_eq_true] at h
 exact inB_b (h x hx)
structure Dk (d : Md) : Prop where
 ml : d.m.length = 256
 mw : Wd d.m
 rl : d.r.length = 8
 rw : Wd d.r
 il : d.i.length ≤ 50
 iw : Wd d.i
 ol : d.o.length ≤ 50
 ow : Wd d.o
theorem Dk.ok {d : Md} (h : Dk d) (st : Int) (h0 : 0 ≤ st) (h1 : st ≤ 2) : d.ok st = true := by
 unfold Md.ok
 rw [h.ml, h.rl, wdB_of h.mw, wdB_of h.rw, wdB_of h.iw, wdB_of h.ow, decide_eq_true (show (d.i.length : Int) ≤ 50 by have := h.il; omega), decide_eq_true (show (d.o.length : Int) ≤ 50 by have := h.ol; omega), inB_t st 0 2 ⟨h0, h1⟩]
 rfl
theorem Dk.setM {d : Md} (h : Dk d) (k : Nat) (v : Int) (h0 : 0 ≤ v) (h1 : v ≤ 65535) : Dk ⟨d.m.set k v, d.r, d.i, d.o⟩ := { h with ml := by simp [h.ml], mw := h.mw.set k v h0 h1 }
theorem Dk.setR {d : Md} (h : Dk d) (k : Nat) (v : Int) (h0 : 0 ≤ v) (h1 : v ≤ 65535) : Dk ⟨d.m, d.r.set k v, d.i, d.o⟩ := { h with rl := by simp [h.rl], rw := h.rw.set k v h0 h1 }
theorem Dk.small {d : Md} (h : Dk d) : d.small := ⟨by have := h.ml; omega, by have := h.rl; omega, by have := h.il; omega, by have := h.ol; omega⟩
section
variable {w wr w' : World} {cb : Nat} {a : Option Addr} {len cap : Nat} {xs : List UInt8} {y : Mv} {g5 gm gr n c : Nat} {d : Md}
end
end
section
theorem Dk.regS {d : Md} (h : Dk d) (k : Nat) (v : Int) : Dk (d.reg k (v % 65536)) := h.setR k _ (by omega) (by omega)
theorem dk_plS {d : Md} (h : Dk d) (mo re : Nat) : Dk (d.plD mo re) := by
 unfold Md.plD Md.adD Md.fet
 repeat' split
 all_goals first | exact h | exact h.regS _ _
theorem dk_stS {d : Md} (h : Dk d) (r p n : Int) : Dk (d.stD r p n) := by
 unfold Md.stD Md.put
 repeat' split
 all_goals first | exact h | exact h.setM _ _ (by omega) (by omega) | exact h.setR _ _ (by omega) (by omega)
theorem Dk.r8 {d : Md} (h : Dk d) : d.R8 := ⟨h.rl, fun j hj => h.rw _ (nAt_mem (by have := h.rl; omega))⟩
theorem Dk.getb {d : Md} (h : Dk d) (a : Int) : 0 ≤ d.get a ∧ d.get a ≤ 65535 := by
 unfold Md.get
 split
 ·
  rename_i hh
  obtain ⟨ha, hl⟩ := has_t hh
  obtain ⟨a0, _, _⟩ := adB_t ha
  exact h.mw _ (nAt_mem (by omega))
 · omega
theorem Dk.ldb {d : Md} (h : Dk d) (r a : Int) : 0 ≤ d.ldV r a ∧ d.ldV r a ≤ 65535 := by
 unfold Md.ldV
 split
 · exact h.getb a
 ·
  split
  ·
   rename_i h1 h2
   unfold Md.ldB at h2
   rw [if_neg h1] at h2
   simp only [Bool.and_eq_true] at h2
   obtain ⟨b3, b4⟩ := inB_b h2.1
   exact h.rw _ (nAt_mem (by omega))
  · omega
def sgB (n : Int) : Bool := decide (32768 ≤ n % 65536)
structure Ms where
 d : Md
 n : Bool
 z : Bool
 v : Bool
 c : Bool
def Ms.fl (t : Ms) (st : Int) : Bool × Bool × Bool × Bool × Int := (t.n, t.z, t.v, t.c, st)
structure Sm (w : World) (B g : Nat) (y : Mv) (t : Ms) (st : Int) : Prop where
 row : w.heap[g]? = some (.cells y.cs 26 (0, 0))
 own : OwnM w B y t.d
 fl : y.fl = t.fl st
 lo : B ≤ g
 ne : ∀ b, y.at b → b ≠ g
section
variable {w w' : World} {B g : Nat} {y : Mv} {t : Ms} {st : Int}
theorem Sm.later (h : Sm w B g y t st) (hb : Below w.heap.size w w') : Sm w' B g y t st := ⟨row_lat h.row hb, h.own.later hb, h.fl, h.lo, h.ne⟩
theorem Sm.setF (h : Sm w B g y t st) (j : Nat) (v : Value) (y' : Mv) (t' : Ms) (st' : Int) (he : y.cs.setIfInBounds j v = y'.cs) (em : y'.m = y.m) (er : y'.r = y.r) (ei : y'.i = y.i) (eo : y'.o = y.o) (hd : t'.d = t.d) (hf : y'.fl = t'.fl st') : Sm (w.setCell ⟨g, j, none⟩ v) B g y' t' st' := by
 have hat : ∀ b, y'.at b → y.at b := fun b hb => by unfold Mv.at at hb ⊢; rw [em, er, ei, eo] at hb; exact hb
 have o2 : OwnM (w.setCell ⟨g, j, none⟩ v) B y t.d := h.own.keepH fun b hb _ => Below.heap_setCell w ⟨g, j, none⟩ v b (h.ne b hb)
 refine ⟨row_put h.row j v y' he, ?_, hf, h.lo, fun b hb => h.ne b (hat b hb)⟩
 rw [hd]
 obtain ⟨o1, o3, o4, o5, a1, a2, a3, a4, a5, a6⟩ := o2
 exact ⟨by rw [em]; exact o1, by rw [er]; exact o3, by rw [ei]; exact o4, by rw [eo]; exact o5, by rw [em, er]; exact a1, by rw [em, ei]; exact a2, by rw [em, eo]; exact a3, by rw [er, ei]; exact a4, by rw [er, eo]; exact a5, by rw [ei, eo]; exact a6⟩
end
structure Fm (w w' : World) (g : Nat) (y y' : Mv) : Prop where
 os : w'.os = w.os
 tape : w'.tape = w.tape
 output : w'.output = w.output
 size : w.heap.size ≤ w'.heap.size
 blk : ∀ k, k < w.heap.size → k ≠ g → ¬ y.at k → w'.heap[k]? = w.heap[k]?
 new : ∀ b, y'.at b → y.at b ∨ w.heap.size ≤ b
section
variable {w w1 w2 : World} {g : Nat} {y y1 y2 : Mv}
theorem Fm.trans (h : Fm w w1 g y y1) (k : Fm w1 w2 g y1 y2) : Fm w w2 g y y2 :=
 ⟨k.os.trans h.os, k.tape.trans h.tape, k.output.trans h.output, Nat.le_trans h.size k.size,
  fun b hb hg hy => (k.blk b (Nat.lt_of_lt_of_le hb h.size) hg (fun e => (h.new b e).elim hy (fun l => by omega))).trans (h.blk b hb hg hy),
  fun b hb => (k.new b hb).elim (fun e => h.new b e) (fun l => .inr (Nat.le_trans h.size l))⟩
theorem Fm.of (h : Below w.heap.size w w1) : Fm w w1 g y y := ⟨h.os, h.tape, h.output, h.size, fun k hk _ _ => h.block k hk, fun b hb => .inl hb⟩
theorem Fm.grown {b : Nat} (h : w.grownBy w1 (some b)) (hb : b = g ∨ y.at b) (ha : ∀ k, y1.at k → y.at k) : Fm w w1 g y y1 :=
 ⟨h.os, h.tape, h.output, h.size, fun k hk hg hy => h.block k hk (fun e => by cases e; exact hb.elim hg hy), fun k hk => .inl (ha k hk)⟩
theorem Fm.over {C : Nat} {d2 : Md} (h : Below w.heap.size w w1) (o2 : OwnM w1 C y2 d2) (hC : w.heap.size ≤ C) (cs : Array Value) : Fm w (w1.setRow g cs) g y y2 :=
 ⟨h.os, h.tape, h.output, by rw [setRow_size]; exact h.size, fun k hk hg _ => (setRow_other w1 g k cs hg).trans (h.block k hk), fun b hb => .inr (Nat.le_trans hC (o2.lo hb).1)⟩
theorem Fm.row {k : Nat} {o : Obj} (h : Fm w w1 g y y1) (hr : w.heap[k]? = some o) (hg : k ≠ g) (hy : ¬ y.at k) : w1.heap[k]? = some o := (h.blk k (row_lt hr) hg hy).trans hr
theorem Fm.bel {B : Nat} (h : Fm w w1 g y y1) (hB : B ≤ w.heap.size) (hg : B ≤ g) (hy : ∀ b, y.at b → B ≤ b) : Below B w w1 :=
 ⟨h.os, h.tape, h.output, h.size, fun k hk => h.blk k (by omega) (by omega) (fun e => by have := hy k e; omega)⟩
end
theorem sign_any (n : Int) (w : World) : Calls Tryz.prog 52 #[.int .i64 n] w fun e w' => e = .returned (.bool (sgB n)) ∧ w' = w := by
 have WR := hide (fun w => wrapS_any n w)
 unfold sgB
 generalize n % 65536 = q at WR ⊢
 go_enter Tryz.func52, Tryz.ntmps52
 go_wp2_with fail
 refine (uh WR _).mono ?_
 rintro e w' ⟨rfl, rfl⟩
 go_wp2
 go_ret
 exact ⟨rfl, rfl⟩
def Ms.nz (t : Ms) (r : Int) (v : Bool) : Ms := { t with n := sgB r, z := (r % 65536 == 0), v := v }
def Mv.nzv (y : Mv) (r : Int) (v : Bool) : Mv := { y with n := sgB r, z := (r % 65536 == 0), v := v }
theorem nz_any (B g : Nat) (y : Mv) (t : Ms) (st : Int) (r : Int) (v : Bool) (w : World) (h : Sm w B g y t st) :
  Calls Tryz.prog 50 #[.pointer (some ⟨g, 0, none⟩), .int .i64 r, .bool v] w fun e w' => e = .returned (.tuple #[]) ∧ Sm w' B g (y.nzv r v) (t.nz r v) st ∧ Fm w w' g y (y.nzv r v) := by
 have SG := hide (fun w => sign_any r w)
 have WR := hide (fun w => wrapS_any r w)
 have H := hide h
 unfold Mv.nzv Ms.nz
 generalize sgB r = q1 at SG ⊢
 generalize r % 65536 = q2 at WR ⊢
 clear h
 have c2 := row_n (uh H).row
 have f2 := row_fz (uh H).row 2
 go_enter Tryz.func50, Tryz.ntmps50
 go_wp2_with fail
 refine (uh SG _).mono ?_
 rintro e w' ⟨rfl, hw'⟩
 rw [hw']
 clear hw' w'
 have H1 := hide ((uh H).setF 2 (.bool q1) { y with n := q1 } { t with n := q1 } st rfl rfl rfl rfl rfl rfl (by have := (uh H).fl; unfold Mv.fl Ms.fl at *; simp at *; exact ⟨this.2.1, this.2.2⟩))
 have c3 := row_z (uh H1).row
 have f3 := row_fz (uh H1).row 3
 go_wp2_with fail
 refine (uh WR _).mono ?_
 rintro e w' ⟨rfl, hw'⟩
 rw [hw']
 clear hw' w'
 have H2 := hide ((uh H1).setF 3 (.bool (q2 == 0)) { y with n := q1, z := (q2 == 0) } { t with n := q1, z := (q2 == 0) } st rfl rfl rfl rfl rfl rfl (by have := (uh H1).fl; unfold Mv.fl Ms.fl at *; simp at *; exact this.2))
 have c4 := row_v (uh H2).row
 have f4 := row_fz (uh H2).row 4
 have H3 := hide ((uh H2).setF 4 (.bool v) { y with n := q1, z := (q2 == 0), v := v } { t with n := q1, z := (q2 == 0), v := v } st rfl rfl rfl rfl rfl rfl (by have := (uh H2).fl; unfold Mv.fl Ms.fl at *; simp at *; exact this.2))
 have B3 := hide (Fm.grown (y := y) (y1 := { y with n := q1, z := (q2 == 0), v := v }) (grownBy_trans (grownBy_trans (grownBy_set (w := w) (b := g) (o := 2) (.bool q1)) (grownBy_set (b := g) (o := 3) (.bool (q2 == 0)))) (grownBy_set (b := g) (o := 4) (.bool v))) (.inl rfl) (fun k hk => (hk : y.at k)))
 clear c2 f2
 go_wp2
 go_end0
 exact ⟨rfl, uh H3, uh B3⟩
end
end Go.Proofs.YtboedaofbchdkaaGreatDoor
