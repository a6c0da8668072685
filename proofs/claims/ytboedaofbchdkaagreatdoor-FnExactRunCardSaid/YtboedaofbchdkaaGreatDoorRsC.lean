/- Contracts over this seat's translation, laid together; conditions stand as hypotheses of each. -/
import Derived.Test.YtboedaofbchdkaaGreatDoorRsB
import Derived.Great.Walk
namespace Go.Proofs.YtboedaofbchdkaaGreatDoor
open Go.ChangeShapes Go.WideShapes Go.ChangeAt Go.RowKit
set_option maxHeartbeats 16000000
set_option linter.unusedVariables false
set_option maxRecDepth 8000
set_option linter.unusedSimpArgs false
def z256 : List Int := List.replicate 256 0
theorem z256_len : z256.length = 256 := List.length_replicate ..
def bigA (mem : List Int) (y : Mv) : Array Value := (cellsN mem ++ y.cs.toList).toArray
theorem info60 : (Tryz.prog.info? 69).map (fun i => (i.zero, i.size)) = some (some (.agg (bigA z256 zMv)), 265) := by kernel_rfl
theorem built60 (y : Mv) : Tryz.prog.built 69 [(1, .agg y.cs)] = some (bigA z256 y) := by kernel_rfl
theorem bigA_size {mem : List Int} (y : Mv) (h : mem.length = 256) : (bigA mem y).size = 265 := by
 simp [bigA, cellsN_length, h, Mv.cs]
theorem bigA_one (mem : List Int) (y : Mv) : (bigA mem y).all (·.oneCell') = true := by
 rw [Array.all_eq_true_iff_forall_mem]
 intro v hv
 simp only [bigA, List.mem_toArray, List.mem_append] at hv
 rcases hv with hv | hv
 · exact cellsN_one _ v hv
 · exact Array.all_eq_true_iff_forall_mem.1 (Mv.cs_one y) v (by simpa using hv)
theorem bigA_mem {mem : List Int} (y : Mv) {j : Nat} (h : mem.length = 256) (hj : j < 256) : (bigA mem y)[j]? = some (.int .i64 (nAt mem j)) := by
 simp only [bigA, List.getElem?_toArray]
 rw [List.getElem?_append_left (by rw [cellsN_length]; omega)]
 simp [cellsN, nAt, List.getElem?_eq_getElem (show j < mem.length by omega)]
theorem bigA_mach {mem : List Int} (y : Mv) {k : Nat} (h : mem.length = 256) : (bigA mem y)[256 + k]? = y.cs[k]? := by
 simp only [bigA, List.getElem?_toArray]
 rw [List.getElem?_append_right (by rw [cellsN_length]; omega), cellsN_length, h]
 simp
theorem wpList_alloc60 {w : World} {ops : Array Oper} {rest : List Oper} {o : Oper} {a : Act} {Q : Exit → Act → World → Prop} (hgd : o.guard = none) (ho : o.op = .alloc 69)
  (h : wpList Tryz.prog ops Q rest (a.put o.dst (.pointer (some ⟨w.heap.size, 0, none⟩))) (w.alloc (.cells (bigA z256 zMv) 69))) : wpList Tryz.prog ops Q (o :: rest) a w := by
 have hz := (zero_of_info info60).1
 refine wpList_plain hgd fun K hK => ?_
 unfold Oper.wp execOp
 simp only [ho, Instr.alloc, hz, Sem.run_bind, Sem.run_pure, Result.andThen_ok]
 simp [go_sem]
 exact hK _ _ h
theorem wpList_build60 {w : World} {ops : Array Oper} {rest : List Oper} {o : Oper} {a : Act} {Q : Exit → Act → World → Prop} (hgd : o.guard = none) (x : Operand) (ho : o.op = .build 69 #[(1, x)]) (y : Mv) (hx : a.eval x = .agg y.cs)
  (h : wpList Tryz.prog ops Q rest (a.put o.dst (.agg (bigA z256 y))) w) : wpList Tryz.prog ops Q (o :: rest) a w := by
 refine wpList_buildTo hgd 69 _ ho _ rfl (bigA z256 y) ?_ h
 simp only [List.map_toArray, List.map_cons, List.map_nil, hx]
 exact built60 y
theorem size60 (y : Mv) (mem : List Int) (h : mem.length = 256) : (Tryz.prog.info? 69).map (·.size) = some (bigA mem y).size := by
 rw [bigA_size y h]
 kernel_rfl
theorem wpList_store60 {w : World} {ops : Array Oper} {rest : List Oper} {o : Oper} {a : Act} {Q : Exit → Act → World → Prop} (hgd : o.guard = none) (x z : Operand) (ho : o.op = .store 69 x z) (mem : List Int) (y : Mv) (hm : mem.length = 256)
  (hx : a.eval x = .pointer (some ⟨w.heap.size, 0, none⟩)) (hy : a.eval z = .agg (bigA mem y)) (h : wpList Tryz.prog ops Q rest (a.put o.dst undef) (w.alloc (.cells (bigA mem y) 69))) : wpList Tryz.prog ops Q (o :: rest) a (w.alloc (.cells (bigA z256 zMv) 69)) :=
 wpList_store_new hgd 69 x z ho (bigA mem y) hx hy _ (size60 y mem hm) (by rw [bigA_size y hm, bigA_size zMv z256_len]) (bigA_one _ _) h
theorem wpList_load60 {w : World} {ops : Array Oper} {rest : List Oper} {o : Oper} {a : Act} {Q : Exit → Act → World → Prop} (hgd : o.guard = none) (x : Operand) (ho : o.op = .load 69 x) (g : Nat) (mem : List Int) (y : Mv) (hm : mem.length = 256)
  (hx : a.eval x = .pointer (some ⟨g, 0, none⟩)) (hg : w.heap[g]? = some (.cells (bigA mem y) 69 (0, 0))) (h : wpList Tryz.prog ops Q rest (a.put o.dst (.agg (bigA mem y))) w) : wpList Tryz.prog ops Q (o :: rest) a w :=
 wpList_load_row hgd 69 x ho g hx 69 (bigA mem y) (0, 0) _ hg Tryz.underlying69 rfl (size60 y mem hm) h
theorem wpList_over60 {w : World} {ops : Array Oper} {rest : List Oper} {o : Oper} {a : Act} {Q : Exit → Act → World → Prop} (hgd : o.guard = none) (x z : Operand) (ho : o.op = .store 69 x z) (g : Nat) (mem mem0 : List Int) (y y0 : Mv) (hm : mem.length = 256) (hm0 : mem0.length = 256)
  (hx : a.eval x = .pointer (some ⟨g, 0, none⟩)) (hy : a.eval z = .agg (bigA mem y)) (hg : w.heap[g]? = some (.cells (bigA mem0 y0) 69 (0, 0))) (h : wpList Tryz.prog ops Q rest (a.put o.dst undef) (w.setRow g (bigA mem y))) : wpList Tryz.prog ops Q (o :: rest) a w :=
 wpList_store_row hgd 69 x z ho g (bigA mem y) hx hy 69 (bigA mem0 y0) hg (size60 y mem hm) (by rw [bigA_size y hm, bigA_size y0 hm0]) (bigA_one _ _) h
theorem grownBy_setRow {w : World} {g : Nat} (cs : Array Value) : w.grownBy (w.setRow g cs) (some g) :=
 ⟨rfl, rfl, rfl, by simp [World.setRow], fun k _ hk => setRow_other w g k cs (fun e => hk (by rw [e]))⟩
theorem info3s : (Tryz.prog.info? 3).map (·.size) = some 1 := by kernel_rfl
def laidM (ns mem : List Int) : List Int := ns.take 256 ++ mem.drop ns.length
theorem laidM_len {ns mem : List Int} (h : mem.length = 256) : (laidM ns mem).length = 256 := by
 unfold laidM
 rw [List.length_append, List.length_take, List.length_drop, h]
 omega
theorem copy_in (s : Sl) (ns mem : List Int) (y : Mv) (g : Nat) (w : World) (hg : w.heap[g]? = some (.cells (bigA mem y) 69 (0, 0))) (hmem : mem.length = 256) (hr : RdN w s.a ns) (hl : ns.length = s.n) :
  ∃ (w' : World) (k : Int), (∀ ty, (Builtin.copy_ #[22, 22] ty #[.slice (some ⟨g, 0, none⟩) 256 256, .slice s.a s.n s.c]).run Tryz.prog w = .ok (.int .i64 k) w') ∧ w'.heap[g]? = some (.cells (bigA (laidM ns mem) y) 69 (0, 0)) ∧ w.grownBy w' (some g) := by
 by_cases h0 : ns = []
 ·
  subst h0
  have hn : s.n = 0 := by simpa using hl.symm
  refine ⟨w, 0, fun ty => ?_, by simpa [laidM] using hg, World.grownBy.refl _ _⟩
  have := run_copy_none (P := Tryz.prog) w 22 22 ty 3 (some ⟨g, 0, none⟩) s.a 256 256 s.n s.c Tryz.underlying22 info3s (by rw [hn]; rfl)
  simpa [goInt] using this
 ·
  rcases hr with h1 | ⟨b, off, ha, hb, hc⟩
  · exact absurd h1 h0
  have hrd : RdN w (some ⟨b, off, none⟩) (ns.take 256) := .inr ⟨b, off, rfl, hb, fun i hi => by
   have hi' : i < ns.length ∧ i < 256 := by simp at hi; omega
   rw [hc i hi'.1]
   congr 2
   unfold nAt
   rw [List.getD_eq_getElem?_getD, List.getD_eq_getElem?_getD, List.getElem?_take, if_pos hi'.2]⟩
  refine ⟨_, _, fun ty => by rw [ha]; exact run_copy_row (P := Tryz.prog) w 22 22 ty 3 g 0 256 256 ⟨b, off, none⟩ s.n s.c (bigA mem y) 69 (cellsN (ns.take 256)) Tryz.underlying22 info3s hg (by rw [cellsN_length, List.length_take, hl, Nat.min_comm]) (rdN_cells hrd) (by rw [cellsN_length, List.length_take, bigA_size y hmem]; omega) (cellsN_one _), ?_, grownBy_setRow _⟩
  rw [setRow_heap w g _ _ 69 _ hg]
  congr 2
  unfold bigA laidM
  congr 1
  rw [List.take_zero, List.nil_append, Nat.zero_add, cellsN_length, cellsN_append, List.append_assoc]
  congr 1
  rw [List.toList_toArray, List.drop_append]
  have e1 : (cellsN mem).drop (ns.take 256).length = cellsN (mem.drop ns.length) := by
   unfold cellsN
   rw [← List.map_drop]
   congr 1
   rw [List.length_take]
   by_cases h : ns.length ≤ 256
   · rw [Nat.min_eq_right h]
   · rw [List.drop_eq_nil_of_le (by omega), List.drop_eq_nil_of_le (by omega)]
  rw [e1, cellsN_length, show (ns.take 256).length - mem.length = 0 by rw [List.length_take]; omega]
  rfl
theorem copy_out (s : Sl) (ns mem : List Int) (y : Mv) (g B : Nat) (w : World) (hg : w.heap[g]? = some (.cells (bigA mem y) 69 (0, 0))) (hmem : mem.length = 256) (ho : OwnN w B s.v ns) :
  ∃ (w' : World) (k : Int), (∀ ty, (Builtin.copy_ #[22, 22] ty #[.slice s.a s.n s.c, .slice (some ⟨g, 0, none⟩) 256 256]).run Tryz.prog w = .ok (.int .i64 k) w') ∧ OwnN w' B s.v (mem.take ns.length ++ ns.drop 256) ∧ w.grownBy w' s.v.ownBlock := by
 have hlen := ho.len
 obtain ⟨h1, ⟨h2, h3⟩ | ⟨gm, cap, cur, e, hB, hh, hn, hm, hs, ht⟩⟩ := id ho
 ·
  obtain rfl : ns = [] := List.eq_nil_of_length_eq_zero h3
  have hn : s.n = 0 := by simpa using hlen.symm
  refine ⟨w, 0, fun ty => ?_, by simpa using ho, World.grownBy.refl _ _⟩
  have := run_copy_none (P := Tryz.prog) w 22 22 ty 3 s.a (some ⟨g, 0, none⟩) s.n s.c 256 256 Tryz.underlying22 info3s (by rw [hn]; rfl)
  simpa [goInt] using this
 ·
  obtain ⟨sa, sn, sc⟩ := s
  unfold Sl.v at e
  simp at e
  obtain ⟨rfl, hsn, rfl⟩ := e
  simp only at hlen
  have hrd : RdN w (some ⟨g, 0, none⟩) (mem.take ns.length) := .inr ⟨g, 0, rfl, row_lt hg, fun i hi => by
   have hi' : i < ns.length ∧ i < 256 := by simp at hi; omega
   rw [cell_of_row w g _ _ 69 _ hg, Nat.zero_add, bigA_mem y hmem hi'.2]
   congr 2
   unfold nAt
   rw [List.getD_eq_getElem?_getD, List.getD_eq_getElem?_getD, List.getElem?_take, if_pos hi'.1]⟩
  have hcl : (cellsN (mem.take ns.length)).length = Nat.min 256 sn := by rw [cellsN_length, List.length_take, hmem, hlen, Nat.min_comm]
  have hmn : Nat.min 256 sn ≤ sn := Nat.min_le_right _ _
  refine ⟨_, _, fun ty => run_copy_row (P := Tryz.prog) w 22 22 ty 3 gm 0 sn sc ⟨g, 0, none⟩ 256 256 cur 3 (cellsN (mem.take ns.length)) Tryz.underlying22 info3s hh hcl (rdN_cells hrd) (by rw [hcl]; omega) (cellsN_one _), ?_, grownBy_setRow _⟩
  have hL : (mem.take ns.length ++ ns.drop 256).length = ns.length := by rw [List.length_append, List.length_take, List.length_drop, hmem]; omega
  unfold OwnN
  rw [hL]
  refine ⟨by rw [cellsN_length, hL]; omega, .inr ⟨gm, sc, _, ?_, hB, setRow_heap w gm _ _ 3 _ hh, hn, hm, ?_, ?_⟩⟩
  · unfold Sl.v; simp [hsn]
  ·
   simp only [List.size_toArray, List.length_append, List.length_take, List.length_drop, Array.length_toList, cellsN_length, hmem]
   omega
  ·
   rw [List.toList_toArray, List.take_zero, List.nil_append, Nat.zero_add, cellsN_length, cellsN_append, Nat.mul_one]
   have hq : (mem.take ns.length).length = min 256 ns.length := by rw [List.length_take, hmem, Nat.min_comm]
   rw [List.take_append, cellsN_length, List.take_of_length_le (by rw [cellsN_length, hq]; omega)]
   congr 1
   rw [hq, List.take_drop]
   have e2 : min 256 ns.length + (ns.length - min 256 ns.length) = ns.length * 1 := by omega
   rw [e2, ht]
   unfold cellsN
   rw [← List.map_drop]
   congr 1
   by_cases h : ns.length ≤ 256
   · rw [Nat.min_eq_right h, List.drop_eq_nil_of_le (Nat.le_refl _), List.drop_eq_nil_of_le h]
   · rw [Nat.min_eq_left (by omega)]
section
structure Mo (w wr : World) (x : Mv) : Prop where
 bx : wr.heap[w.heap.size]? = some (.cells x.cs 26 (0, 0))
 re : wr.heap[w.heap.size + 1]? = some (.cells (bigA z256 zMv) 69 (0, 0))
 bel : Below w.heap.size w wr
 sz : w.heap.size + 2 ≤ wr.heap.size
section
variable {w wr w' : World} {x : Mv}
theorem Mo.later (h : Mo w wr x) (hb : Below wr.heap.size wr w') : Mo w w' x :=
 ⟨row_lat h.bx hb, row_lat h.re hb, h.bel.trans (hb.mono (by have := h.bel.size; omega)), Nat.le_trans h.sz hb.size⟩
theorem Mo.past {g : Nat} (h : Mo w wr x) (hg : wr.grownBy w' (some g)) (hB : w.heap.size + 2 ≤ g) : Mo w w' x :=
 ⟨(hg.block _ (row_lt h.bx) (by simp; omega)).trans h.bx, (hg.block _ (row_lt h.re) (by simp; omega)).trans h.re, h.bel.grown hg h.bel.size (fun k e => by cases e; omega), Nat.le_trans h.sz hg.size⟩
theorem mo_new (w : World) (x : Mv) : Mo w ((w.alloc (.cells x.cs 26)).alloc (.cells (bigA z256 zMv) 69)) x := by
 have z1 : (w.alloc (.cells x.cs 26)).heap.size = w.heap.size + 1 := by simp
 have a1 := row_lat (heap_alloc_last w (.cells x.cs 26)) (below_new _ (.cells (bigA z256 zMv) 69))
 have a2 := heap_alloc_last (w.alloc (.cells x.cs 26)) (.cells (bigA z256 zMv) 69)
 rw [z1] at a2
 exact ⟨a1, a2, ((Below.refl _ _).alloc (Nat.le_refl _) _).alloc (by omega) _, by simp⟩
end
theorem OwnM.row {w : World} {B g : Nat} {x : Mv} {d : Md} (h : OwnM w B x d) (hb : g < B) (cs : Array Value) : OwnM (w.setRow g cs) B x d := h.keep fun j h1 _ => setRow_other w g j cs (by omega)
theorem machineOf_any (x : Mv) (d : Md) (w : World) (hs : x.small) (hz : x.nz) (hr : RdM w x d) : Calls Tryz.prog 41 #[.agg x.cs] w fun e w' => ∃ y : Mv, e = .returned (.agg (bigA (laidM d.m z256) y)) ∧ y.fl = x.fl ∧ OwnM w' (w.heap.size + 2) y d ∧ Below w.heap.size w w' := by
 have C := hide (mo_new w x)
 have R := hide (hr.later (uh C).bel)
 have T := hide (copyM_any x d _ hs hz (uh R))
 have HR := hide hr
 have z1 : (w.alloc (.cells x.cs 26)).heap.size = w.heap.size + 1 := by simp
 have Z1 := hide z1
 clear hr hs hz z1
 go_enter Tryz.func41, Tryz.ntmps41
 go_wp2_with (first | (refine wpList_alloc60 rfl rfl ?_) | (refine wpList_load_row rfl 26 _ rfl w.heap.size rfl 26 x.cs (0, 0) _ (uh C).bx Tryz.underlying26 rfl (by kernel_rfl) ?_))
 refine (uh T).mono ?_
 rintro e w1 ⟨y, rfl, fy, oy, hb⟩
 have C1 := hide (((uh C).later hb).later (below_new w1 (.cells (bigA z256 y) 69)))
 have R1 := hide (((uh R).later hb).later (below_new w1 (.cells (bigA z256 y) 69)))
 have O1 := hide (oy.base (C := w.heap.size + 2) (by have := (uh C).sz; omega))
 have hsz := hide (Nat.le_trans (uh C).sz hb.size)
 have FY := hide fy
 clear C R T hb fy oy
 have hrow := hide (heap_alloc_last w1 (.cells (bigA z256 y) 69))
 obtain ⟨w2, k, hcp, hr2, hg2⟩ := copy_in x.m d.m z256 y w1.heap.size (w1.alloc (.cells (bigA z256 y) 69)).drew (uh hrow) z256_len ((uh R1).later below_drew).m (uh R1).ml
 have C2 := hide (((uh C1).later below_drew).past hg2 (uh hsz))
 have O2 := hide ((uh O1).keep (w' := w2) (fun g h1 h2 => (hg2.block g (Nat.lt_of_lt_of_le h2 (below_new w1 (.cells (bigA z256 y) 69)).size) (by simp; omega)).trans ((below_new w1 (.cells (bigA z256 y) 69)).block g h2)))
 have R2 := hide hr2
 clear R1 O1 hr2 hg2
 have c0 := row_m ((uh C1).later below_drew).bx
 have CP := hide hcp
 have D0 := hide c0
 clear hcp c0
 go_wp2_with (first | (refine wpList_build60 rfl _ rfl y rfl ?_) | (refine wpList_alloc60 rfl rfl ?_) | (refine wpList_store60 rfl _ _ rfl z256 y z256_len rfl rfl ?_))
 refine wp_region_held_drew (S := fun w' => w'.cell? ⟨w.heap.size, 0, none⟩ = some (.slice x.m.a x.m.n x.m.c)) (by kernel_rfl) (uh D0) (fun hS => ?_)
 have HS := hide hS
 clear hS
 go_simp
 refine tkA 0 (.pointer (some ⟨w1.heap.size, 0, none⟩)) rfl (.inl ⟨by rfl, fun w _ => ?_⟩) (uh HS) ?_
 · go_simp
 go_simp
 refine tkA 1 (.slice (some ⟨w1.heap.size, 0, none⟩) 256 256) rfl (.inl ⟨by rfl, fun w _ => ?_⟩) (uh HS) ?_
 · go_simp
 go_simp
 refine tkA 2 (.pointer (some ⟨w.heap.size, 0, none⟩)) rfl (.inl ⟨by rfl, fun w _ => ?_⟩) (uh HS) ?_
 · go_simp
 go_simp
 refine tkA 3 (.slice x.m.a x.m.n x.m.c) rfl (.inl ⟨by rfl, fun w hc => ?_⟩) (uh HS) ?_
 · go_simp
 go_simp
 refine wpAnyH_ready (rs := [4]) (by kernel_rfl) (by simp) ?_
 refine AllReadyH.cons rfl (fun K hK => ?_) AllReadyH.nil
 have hcp := uh CP
 go_simp
 refine hK.out _ _ (row_m (uh C2).bx) (fun _ => ?_)
 clear hK K hcp CP D0 HS hrow C1
 refine wpAnyH_done (by kernel_rfl) ?_ _
 go_wp2_with (first | (refine wpList_load60 rfl _ rfl w1.heap.size (laidM d.m z256) y (laidM_len z256_len) rfl (uh R2) ?_) | (refine wpList_over60 rfl _ _ rfl (w.heap.size + 1) (laidM d.m z256) z256 y zMv (laidM_len z256_len) z256_len rfl rfl (uh C2).re ?_))
 refine bodyPost_ret (results_cell_row (P := Tryz.prog) rfl _ _ (w.heap.size + 1) 69 (bigA (laidM d.m z256) y) (0, 0) _ rfl (setRow_heap w2 _ _ _ 69 _ (uh C2).re) Tryz.underlying69 rfl (size60 y _ (laidM_len z256_len))) rfl ?_
 exact ⟨y, rfl, uh FY, (uh O2).row (by omega) _, below_setRow (uh C2).bel (by omega) _⟩
theorem cell_at (g : Nat) (a : Int) (w : World) (h0 : 0 ≤ a) (h1 : a < 512) :
  Calls Tryz.prog 129 #[.pointer (some ⟨g, 0, none⟩), .int .i64 a] w fun e w' => e = .returned (.pointer (some ⟨g, (a / 2).toNat, none⟩)) ∧ w' = w := by
 obtain ⟨k, hk⟩ := Int.eq_ofNat_of_zero_le (show 0 ≤ a / 2 by omega)
 have hk2 : k < 256 := by omega
 rw [hk, show ((k : Int)).toNat = k by omega]
 have HK := hide hk
 go_enter Tryz.func129, Tryz.ntmps129
 go_wp2
 go_ret
 exact ⟨rfl, rfl⟩
end
def adB (a : Int) : Bool := inB a 0 510 && (a % 2 == 0)
theorem adB_t {a : Int} (h : adB a = true) : 0 ≤ a ∧ a ≤ 510 ∧ a % 2 = 0 := by
 unfold adB inB at h
 simp at h
 omega
theorem adB_f {a : Int} (h : a < 0 ∨ 511 ≤ a ∨ a % 2 ≠ 0) : adB a = false := by
 cases hb : adB a
 · rfl
 · have := adB_t hb; omega
theorem adB_i {a : Int} (h0 : 0 ≤ a) (h1 : a ≤ 510) (h2 : a % 2 = 0) : adB a = true := by
 unfold adB inB
 simp
 omega
def Md.has (d : Md) (a : Int) : Bool := adB a && decide (a / 2 < (d.m.length : Int))
def Md.get (d : Md) (a : Int) : Int := if d.has a = true then nAt d.m (a / 2).toNat else 0
theorem has_t {d : Md} {a : Int} (h : d.has a = true) : adB a = true ∧ a / 2 < (d.m.length : Int) := by
 unfold Md.has at h
 simpa using h
theorem isAddr_any (a : Int) (w : World) : Calls Tryz.prog 56 #[.int .i64 a] w fun e w' => e = .returned (.bool (adB a)) ∧ w' = w := by
 by_cases h0 : 0 ≤ a
 ·
  by_cases h1 : a < 512
  ·
   cases h2 : (a % 2 == 0)
   ·
    have F := hide (adB_f (a := a) (.inr (.inr (by simpa using h2))))
    go_enter Tryz.func56, Tryz.ntmps56
    go_wp2
    go_ret
    exact ⟨ret_bool (uh F).symm, rfl⟩
   ·
    have e2 : a % 2 = 0 := by simpa using h2
    have F := hide (adB_i h0 (by omega) e2)
    clear e2
    go_enter Tryz.func56, Tryz.ntmps56
    go_wp2
    go_ret
    exact ⟨ret_bool (uh F).symm, rfl⟩
  ·
   have F := hide (adB_f (a := a) (.inr (.inl (by omega))))
   go_enter Tryz.func56, Tryz.ntmps56
   go_wp2
   go_ret
   exact ⟨ret_bool (uh F).symm, rfl⟩
 ·
  have F := hide (adB_f (a := a) (.inl (by omega)))
  go_enter Tryz.func56, Tryz.ntmps56
  go_wp2
  go_ret
  exact ⟨ret_bool (uh F).symm, rfl⟩
theorem has_any (x : Mv) (d : Md) (a : Int) (w : World) (hl : d.m.length = x.m.n) (hs : x.m.n ≤ 1048576) : Calls Tryz.prog 128 #[.agg x.cs, .int .i64 a] w fun e w' => e = .returned (.bool (d.has a)) ∧ Below w.heap.size w w' := by
 have HB := hide ((Below.refl w.heap.size w).alloc (Nat.le_refl _) (.cells x.cs 26))
 have c0 : x.cs[0]? = some (.slice x.m.a x.m.n x.m.c) := rfl
 have I := hide (fun w => isAddr_any a w)
 unfold Md.has
 rw [hl]
 have T := hide (adB_t (a := a))
 generalize adB a = q at I T ⊢
 cases q
 ·
  go_enter Tryz.func128, Tryz.ntmps128
  go_wp2_with (go_at_call 56; refine (uh I _).mono ?_; rintro e w' ⟨rfl, rfl⟩)
  go_ret
  exact ⟨rfl, uh HB⟩
 ·
  obtain ⟨t0, t1, _⟩ := uh T (by trivial)
  go_enter Tryz.func128, Tryz.ntmps128
  go_wp2_with (go_at_call 56; refine (uh I _).mono ?_; rintro e w' ⟨rfl, rfl⟩)
  go_ret
  exact ⟨rfl, uh HB⟩
theorem readS_any (x : Mv) (d : Md) (a : Int) (w : World) (hs : x.small) (hr : RdM w x d) : Calls Tryz.prog 22 #[.agg x.cs, .int .i64 a] w fun e w' => e = .returned (.tuple #[.int .i64 (d.get a), .bool (d.has a)]) ∧ Below w.heap.size w w' := by
 have HB := hide ((Below.refl w.heap.size w).alloc (Nat.le_refl _) (.cells x.cs 26))
 have X := hide (hr.later (uh HB))
 have c0 : x.cs[0]? = some (.slice x.m.a x.m.n x.m.c) := rfl
 have hl := hr.ml
 have hs0 := hs.1
 unfold Md.get
 have I := hide (fun w => in_any a 0 510 w)
 clear hr hs
 by_cases h0 : inB a 0 510 = true
 ·
  have hb : 0 ≤ a ∧ a ≤ 510 := by unfold inB at h0; simpa using h0
  obtain ⟨b0, b1⟩ := hb
  rw [h0] at I
  by_cases h2 : a % 2 = 0
  ·
   have e2 := hide h2
   have g2 : a % 2 ≤ 0 := by omega
   by_cases h3 : a / 2 < (x.m.n : Int)
   ·
    have hh : d.has a = true := by unfold Md.has; rw [adB_i b0 b1 h2, hl]; simpa using h3
    rw [hh, if_pos rfl]
    obtain ⟨k, hk⟩ := Int.eq_ofNat_of_zero_le (show 0 ≤ a / 2 by omega)
    have hkl : k < x.m.n := by omega
    rcases (uh X).m with h00 | ⟨b, off, ha, hbl, hc⟩
    · rw [h00] at hl; simp at hl; omega
    have hcx := hc k (by omega)
    rw [hk, show ((k : Int)).toNat = k by omega]
    rw [ha] at c0
    have HK := hide hk
    have HX := hide X
    clear h2 hl hh hc X ha
    go_enter Tryz.func22, Tryz.ntmps22
    go_wp2_with (go_at_call 13; refine (uh I _).mono ?_; rintro e w' ⟨rfl, hw'⟩; rw [hw']; clear hw' w')
    go_ret2
    exact ⟨rfl, uh HB⟩
   ·
    have hh : d.has a = false := by unfold Md.has; rw [hl]; simp; intro _; omega
    rw [hh, if_neg (by simp)]
    clear h2 hl hh
    go_enter Tryz.func22, Tryz.ntmps22
    go_wp2_with (go_at_call 13; refine (uh I _).mono ?_; rintro e w' ⟨rfl, hw'⟩; rw [hw']; clear hw' w')
    go_ret2
    exact ⟨rfl, uh HB⟩
  ·
   have hh : d.has a = false := by unfold Md.has; rw [adB_f (.inr (.inr h2))]; rfl
   rw [hh, if_neg (by simp)]
   have g2 : 0 < a % 2 := by omega
   clear hl hh
   go_enter Tryz.func22, Tryz.ntmps22
   go_wp2_with (go_at_call 13; refine (uh I _).mono ?_; rintro e w' ⟨rfl, hw'⟩; rw [hw']; clear hw' w')
   go_ret2
   exact ⟨rfl, uh HB⟩
 ·
  have h0' : inB a 0 510 = false := by simpa using h0
  have hh : d.has a = false := by unfold Md.has adB; rw [h0']; rfl
  rw [hh, if_neg (by simp)]
  rw [h0'] at I
  clear hl hh h0 h0'
  go_enter Tryz.func22, Tryz.ntmps22
  go_wp2_with (go_at_call 13; refine (uh I _).mono ?_; rintro e w' ⟨rfl, hw'⟩; rw [hw']; clear hw' w')
  go_ret2
  exact ⟨rfl, uh HB⟩
def Md.ldB (d : Md) (r a : Int) : Bool := if r = -1 then d.has a else (inB r 0 ((d.r.length : Int) - 1) && (a == -1))
def Md.ldV (d : Md) (r a : Int) : Int := if r = -1 then d.get a else if d.ldB r a = true then nAt d.r r.toNat else 0
structure Bp (w wr : World) (x : Mv) (r a : Int) : Prop where
 bx : wr.heap[w.heap.size]? = some (.cells x.cs 26 (0, 0))
 bp : wr.heap[w.heap.size + 1]? = some (.cells #[.int .i64 r, .int .i64 a] 57 (0, 0))
 bel : Below w.heap.size w wr
 sz : w.heap.size + 2 ≤ wr.heap.size
theorem bp_new (w : World) (x : Mv) (r a : Int) : Bp w ((w.alloc (.cells x.cs 26)).alloc (.cells #[.int .i64 r, .int .i64 a] 57)) x r a :=
 ⟨row_lat (heap_alloc_last w _) ((Below.refl _ _).alloc (Nat.le_refl _) _), by have := heap_alloc_last (w.alloc (.cells x.cs 26)) (.cells #[.int .i64 r, .int .i64 a] 57); simpa using this, ((Below.refl _ _).alloc (Nat.le_refl _) _).alloc (by simp) _, by simp⟩
theorem Bp.later {w wr w' : World} {x : Mv} {r a : Int} (h : Bp w wr x r a) (hb : Below wr.heap.size wr w') : Bp w w' x r a :=
 ⟨row_lat h.bx hb, row_lat h.bp hb, h.bel.trans (hb.mono (by have := h.sz; omega)), Nat.le_trans h.sz hb.size⟩
theorem loadS_any (x : Mv) (d : Md) (r a : Int) (w : World) (hs : x.small) (hr : RdM w x d) :
  Calls Tryz.prog 32 #[.agg x.cs, .agg #[.int .i64 r, .int .i64 a]] w fun e w' => e = .returned (.tuple #[.int .i64 (d.ldV r a), .bool (d.ldB r a)]) ∧ Below w.heap.size w w' := by
 have B := hide (bp_new w x r a)
 have X := hide (hr.later (uh B).bel)
 have R := hide (fun w (h : RdM w x d) => readS_any x d a w hs h)
 by_cases h1 : r = -1
 ·
  subst h1
  unfold Md.ldV Md.ldB
  rw [if_pos rfl, if_pos rfl]
  go_enter Tryz.func32, Tryz.ntmps32
  go_wp2_with (first | (refine wpList_load_row rfl 26 _ rfl w.heap.size rfl 26 x.cs (0, 0) _ (uh B).bx Tryz.underlying26 rfl (by kernel_rfl) ?_) | (go_at_call 22; refine (uh R _ (uh X)).mono ?_; rintro e w' ⟨rfl, hb⟩; have BB := hide ((uh B).later hb).bel; clear hb))
  go_ret2
  exact ⟨rfl, uh BB⟩
 ·
  have c1 : x.cs[1]? = some (.slice x.r.a x.r.n x.r.c) := rfl
  have I := hide (fun w => in_any r 0 ((x.r.n : Int) - 1) w)
  have hn := hs.2.1
  have hw1 : IntKind.i64.wrap ((x.r.n : Int) - 1) = (x.r.n : Int) - 1 := by rw [IntKind.wrap_i64]; omega
  unfold Md.ldV Md.ldB
  rw [if_neg h1, if_neg h1, hr.rl]
  obtain ⟨q, hq⟩ : ∃ q, inB r 0 ((x.r.n : Int) - 1) = q := ⟨_, rfl⟩
  rw [hq] at I ⊢
  cases q
  ·
   clear hq hr hs R X
   go_enter Tryz.func32, Tryz.ntmps32
   go_wp2_with (go_at_call 13; refine (uh I _).mono ?_; rintro e w' ⟨rfl, hw'⟩; rw [hw']; clear hw' w')
   go_ret2
   exact ⟨rfl, (uh B).bel⟩
  ·
   by_cases ha : a = -1
   ·
    subst ha
    obtain ⟨r0, r1⟩ : 0 ≤ r ∧ r ≤ (x.r.n : Int) - 1 := by unfold inB at hq; simpa using hq
    obtain ⟨k, rfl⟩ := Int.eq_ofNat_of_zero_le r0
    have hkl : k < x.r.n := by omega
    have hrl := hr.rl
    rcases (uh X).r with h00 | ⟨b, off, hra, hbl, hc⟩
    · rw [h00] at hrl; simp at hrl; omega
    have hcx := hc k (by omega)
    have hki : (k : Int) < (x.r.n : Int) := by omega
    rw [hra] at c1
    rw [show ((k : Int)).toNat = k by omega]
    clear hq hr hs R X hra hc hrl
    go_enter Tryz.func32, Tryz.ntmps32
    go_wp2_with (go_at_call 13; refine (uh I _).mono ?_; rintro e w' ⟨rfl, hw'⟩; rw [hw']; clear hw' w')
    go_ret2
    exact ⟨rfl, (uh B).bel⟩
   ·
    rw [show (a == -1) = false by simpa using ha]
    clear hq hr hs R X
    go_enter Tryz.func32, Tryz.ntmps32
    go_wp2_with (go_at_call 13; refine (uh I _).mono ?_; rintro e w' ⟨rfl, hw'⟩; rw [hw']; clear hw' w')
    go_ret2
    exact ⟨rfl, (uh B).bel⟩
theorem quo2 {a : Int} {k : Nat} (h0 : 0 ≤ a) (h1 : a < 9223372036854775807) (hk : a / 2 = (k : Int)) : IntKind.i64.wrap (a.tdiv 2) = (k : Int) := by
 rw [Int.tdiv_eq_ediv_of_nonneg h0, IntKind.wrap_i64]
 omega
theorem big_cell {w : World} {g : Nat} {mem : List Int} {y : Mv} (h : w.heap[g]? = some (.cells (bigA mem y) 69 (0, 0))) (hm : mem.length = 256) (k : Nat) (v : Value) (hv : y.cs[k]? = some v) : w.cell? ⟨g, 256 + k, none⟩ = some v :=
 (cell_of_row w g _ _ 69 _ h).trans ((bigA_mach y hm).trans hv)
theorem OwnM.putM {w w' : World} {B : Nat} {x : Mv} {d : Md} {ns : List Int} (h : OwnM w B x d) (hg : w.grownBy w' x.m.v.ownBlock) (hn : OwnN w' B x.m.v ns) : OwnM w' B x ⟨ns, d.r, d.i, d.o⟩ :=
 { h with
   m := hn
   r := h.r.keep fun q hv hq => hg.block q hq (fun e => h.mr q e.symm hv)
   i := h.i.keep fun q hv hq => hg.block q hq (fun e => h.mi q e.symm hv)
   o := h.o.keep fun q hv hq => hg.block q hq (fun e => h.mo q e.symm hv) }
def zC : Array Value := #[Value.slice none 0 0, Value.slice none 0 0, Value.bool false, Value.bool false, Value.bool false, Value.bool false, Value.slice none 0 0, Value.slice none 0 0, Value.int .i64 0]
theorem own_ne {w : World} {B g : Nat} {s : Sl} {ns : List Int} (h : OwnN w B s.v ns) (hg : g < B ∨ w.heap.size ≤ g) : some g ≠ s.v.ownBlock := fun e => by
 have := h.lt e.symm
 omega
theorem results_row2 {P : Program} {fn : Func} {p u : Tmp} {ty : TypeId} (h : fn.results = #[.cell p ty, .tmp u]) (tmps : Array Value) (w : World) (g : Nat) (t : TypeId) (cs : Array Value) (fr : Nat × Nat) (d : TypeDesc)
  (hp : tmps.getD p undef = .pointer (some ⟨g, 0, none⟩)) (hg : w.heap[g]? = some (.cells cs t fr))
  (hu : P.underlying ty = some d) (hd : (match d with | .struct _ | .array _ _ => true | _ => false) = true) (hi : (P.info? ty).map (·.size) = some cs.size) :
  (results fn tmps).run P w = .ok (.tuple #[.agg cs, tmps.getD u undef]) w := by
 have hp' : tmps[p]?.getD undef = .pointer (some ⟨g, 0, none⟩) := by simpa using hp
 simp [results, h, hp', asAddr, run_loadVar_row w g t ty cs fr d hg hu hd hi]
def Md.put (d : Md) (a n : Int) : Md := if d.has a = true then ⟨d.m.set (a / 2).toNat (n % 65536), d.r, d.i, d.o⟩ else d
theorem Cc.pastR {w wr w' : World} {x : Mv} {row : Option Nat} (h : Cc w wr x) (hg : wr.grownBy w' row) (hr : ∀ g, row = some g → w.heap.size + 2 ≤ g) : Cc w w' x :=
 ⟨(hg.block _ (row_lt h.bx) (fun e => by have := hr _ e.symm; omega)).trans h.bx, (hg.block _ (row_lt h.re) (fun e => by have := hr _ e.symm; omega)).trans h.re, h.bel.grown hg h.bel.size (fun k e => by have := hr _ e; omega), Nat.le_trans h.sz hg.size⟩
theorem cm_copy0 (w : World) (x : Mv) : Cm w (((w.alloc (.cells x.cs 26)).alloc (.cells zMv.cs 26)).alloc (.cells x.cs 26)) 26 x x := by
 have z1 : (w.alloc (.cells x.cs 26)).heap.size = w.heap.size + 1 := by simp
 have z2 : ((w.alloc (.cells x.cs 26)).alloc (.cells zMv.cs 26)).heap.size = w.heap.size + 1 + 1 := by simp
 have a1 := row_lat (row_lat (heap_alloc_last w (.cells x.cs 26)) (below_new _ (.cells zMv.cs 26))) (below_new _ (.cells x.cs 26))
 have a2 := row_lat (heap_alloc_last (w.alloc (.cells x.cs 26)) (.cells zMv.cs 26)) (below_new _ (.cells x.cs 26))
 have a3 := heap_alloc_last ((w.alloc (.cells x.cs 26)).alloc (.cells zMv.cs 26)) (.cells x.cs 26)
 rw [z1] at a2
 rw [z2] at a3
 exact ⟨a1, a2, a3, (((Below.refl _ _).alloc (Nat.le_refl _) _).alloc (by omega) _).alloc (by omega) _, by simp⟩
theorem cm_copy (w : World) (x : Mv) : Cm w (((w.alloc (.cells x.cs 26)).alloc (.cells #[Value.slice none 0 0, Value.slice none 0 0, Value.bool false, Value.bool false, Value.bool false, Value.bool false, Value.slice none 0 0, Value.slice none 0 0, Value.int .i64 0] 26)).alloc (.cells x.cs 26)) 26 x x := cm_copy0 w x
theorem wpList_store_newG {P : Program} {ops : Array Oper} {rest : List Oper} {o : Oper} {a : Act} {w : World} {Q : Exit → Act → World → Prop} (hgd : o.guard = none) (ty : TypeId) (x y : Operand) (ho : o.op = .store ty x y)
  (cells : Array Value) (g : Nat) (hgz : w.heap.size = g) (hx : a.eval x = .pointer (some ⟨g, 0, none⟩)) (hy : a.eval y = .agg cells) (old : Array Value) (hi : (P.info? ty).map (·.size) = some cells.size)
  (hold : old.size = cells.size) (h1 : cells.all (·.oneCell') = true) (h : wpList P ops Q rest (a.put o.dst undef) (w.alloc (.cells cells ty))) : wpList P ops Q (o :: rest) a (w.alloc (.cells old ty)) := by
 subst hgz
 exact wpList_store_new hgd ty x y ho cells hx hy old hi hold h1 h
theorem Cm.past {w wr w' : World} {tb : TypeId} {x o : Mv} {row : Option Nat} (h : Cm w wr tb x o) (hg : wr.grownBy w' row) (hr : ∀ g, row = some g → w.heap.size + 3 ≤ g) : Cm w w' tb x o :=
 ⟨(hg.block _ (row_lt h.bx) (fun e => by have := hr _ e.symm; omega)).trans h.bx, (hg.block _ (row_lt h.re) (fun e => by have := hr _ e.symm; omega)).trans h.re, (hg.block _ (row_lt h.out) (fun e => by have := hr _ e.symm; omega)).trans h.out, h.bel.grown hg h.bel.size (fun k e => by have := hr _ e; omega), Nat.le_trans h.sz hg.size⟩
theorem RdN.pastR {w w' : World} {a : Option Addr} {ns : List Int} {row : Option Nat} (h : RdN w a ns) (hg : w.grownBy w' row) (hne : ∀ b, row = some b → ns = [] ∨ ∀ ad, a = some ad → ad.block ≠ b) : RdN w' a ns := by
 rcases h with h | ⟨c, off, rfl, hlt, hc⟩
 · exact .inl h
 ·
  by_cases h0 : ns = []
  · exact .inl h0
  exact .inr ⟨c, off, rfl, Nat.lt_of_lt_of_le hlt hg.size, fun i hi => (World.cell?_of_block (w := w) (hg.block c hlt (fun e => by
   rcases hne c e.symm with h1 | h1
   · exact h0 h1
   · exact h1 _ rfl rfl))).trans (hc i hi)⟩
theorem RdM.pastR {w wr w' : World} {x : Mv} {d : Md} {row : Option Nat} (h : RdM wr x d) (hw : RdM w x d) (hg : wr.grownBy w' row) (hr : ∀ g, row = some g → w.heap.size ≤ g) : RdM w' x d := by
 have key : ∀ {a : Option Addr} {ns : List Int}, RdN w a ns → ∀ b, row = some b → ns = [] ∨ ∀ ad, a = some ad → ad.block ≠ b := fun hr' b e => by
  rcases hr' with h0 | ⟨b', off, rfl, hb', _⟩
  · exact .inl h0
  · exact .inr fun ad e' => by cases e'; have := hr b e; show b' ≠ b; omega
 exact ⟨h.m.pastR hg (key hw.m), h.r.pastR hg (key hw.r), h.i.pastR hg (key hw.i), h.o.pastR hg (key hw.o), h.ml, h.rl, h.il, h.ol⟩
theorem ownN_new (w : World) (B g : Nat) (hg : w.heap.size = g) (hB : B ≤ w.heap.size) : OwnN (w.alloc (.cells #[] 3)) B (.slice (some ⟨g, 0, none⟩) 0 0) [] := by
 subst hg
 exact (ownN_empty w).base hB
theorem copyS_any (x : Mv) (d : Md) (w : World) (hs : x.small) (hz : x.nz) (hr : RdM w x d) : Calls Tryz.prog 12 #[.agg x.cs] w fun e w' => ∃ y : Mv, e = .returned (.agg y.cs) ∧ y.fl = x.fl ∧ OwnM w' (w.heap.size + 3) y d ∧ Below w.heap.size w w' := by
 obtain ⟨s0, s1, s2, s3⟩ := hs
 have NZ := hide hz
 have C := hide (cm_copy w x)
 have HR := hide hr
 have R := hide (hr.later (uh C).bel)
 have R0 : Hid (((w.alloc (.cells x.cs 26)).alloc (.cells #[Value.slice none 0 0, Value.slice none 0 0, Value.bool false, Value.bool false, Value.bool false, Value.bool false, Value.slice none 0 0, Value.slice none 0 0, Value.int .i64 0] 26)).heap[w.heap.size]? = some (.cells x.cs 26 (0, 0))) := hide (row_lat (heap_alloc_last w (.cells x.cs 26)) (below_new _ (.cells #[Value.slice none 0 0, Value.slice none 0 0, Value.bool false, Value.bool false, Value.bool false, Value.bool false, Value.slice none 0 0, Value.slice none 0 0, Value.int .i64 0] 26)))
 clear hr hz
 go_enter Tryz.func12, Tryz.ntmps12
 have E := hide (below_new (((w.alloc (.cells x.cs 26)).alloc (.cells #[Value.slice none 0 0, Value.slice none 0 0, Value.bool false, Value.bool false, Value.bool false, Value.bool false, Value.slice none 0 0, Value.slice none 0 0, Value.int .i64 0] 26)).alloc (.cells x.cs 26)) (.cells #[] 3))
 have SZ : Hid ((((w.alloc (.cells x.cs 26)).alloc (.cells #[Value.slice none 0 0, Value.slice none 0 0, Value.bool false, Value.bool false, Value.bool false, Value.bool false, Value.slice none 0 0, Value.slice none 0 0, Value.int .i64 0] 26)).alloc (.cells x.cs 26)).heap.size = w.heap.size + 1 + 1 + 1) := hide (by simp)
 have q0 := row_m ((uh C).later (uh E)).bx
 have STAGE0 := hide trivial
 go_wp2_with (first
  | (have hst := STAGE0; refine wpList_load_row rfl 26 _ rfl w.heap.size rfl 26 x.cs (0, 0) _ (uh R0) Tryz.underlying26 rfl (by kernel_rfl) ?_)
  | (have hst := STAGE0; refine wpList_store_newG rfl 26 _ _ rfl x.cs (w.heap.size + 1 + 1) (by simp) rfl rfl _ (by kernel_rfl) rfl (Mv.cs_one _) ?_)
  | (at_builtin; have hst := STAGE0; clear hst STAGE0; go_must (
   refine wpList_app rfl _ _ rfl (w.heap.size + 1 + 1 + 1) (.slice (some ⟨w.heap.size + 1 + 1 + 1, 0, none⟩) 0 0) [] rfl (ownN_new _ _ _ (uh SZ) (Nat.le_of_eq (uh SZ).symm)) x.m d.m rfl ((uh R).later (uh E)).m (uh R).ml (uh NZ).1 (by simp; omega) (Nat.le_trans (Nat.le_of_eq (uh SZ).symm) (uh E).size) ?_
   intro v w0 ho hg
   rw [List.nil_append] at ho
   obtain ⟨a0, n0, c0, rfl⟩ : ∃ a n c, v = .slice a n c := (by obtain ⟨a, c, e, _⟩ := ho.rd; exact ⟨_, _, _, e⟩)
   have hgr := fun b (e : (Value.slice (some ⟨w.heap.size + 1 + 1 + 1, 0, none⟩) 0 0).ownBlock = some b) => (show w.heap.size + 3 ≤ b by simp [Value.ownBlock] at e; have := uh SZ; have := (uh C).sz; omega)
   have Cn := hide (((uh C).later (uh E)).past hg hgr)
   have Rn := hide (((uh R).later (uh E)).pastR (uh HR) hg (fun b e => by have := hgr b e; omega))
   have o0 := row_m (uh Cn).out
   have f0 := row_fz (uh Cn).out 0
   have O0 := hide (OwnN.base ho (B' := w.heap.size + 3) (by have := uh SZ; have := (uh C).sz; omega))
   clear ho hg hgr C R E SZ q0
   have C := hide ((uh Cn).put 0 (.slice a0 n0 c0) (⟨⟨a0, n0, c0⟩, x.r, x.n, x.z, x.v, x.c, x.i, x.o, x.st⟩ : Mv) rfl)
   have R := hide ((uh Rn).setB (uh HR) (by omega : w.heap.size ≤ w.heap.size + 1 + 1) 0 (.slice a0 n0 c0))
   have On := hide ((uh O0).put (b := w.heap.size + 1 + 1) (j := 0) (u := .slice a0 n0 c0) (by omega))
   clear O0
   have O0 := hide (uh On)
   clear On
   clear Cn Rn
   have E := hide (below_new (w0.setCell ⟨w.heap.size + 1 + 1, 0, none⟩ (.slice a0 n0 c0)) (.cells #[] 3))
   have SZ : Hid ((w0.setCell ⟨w.heap.size + 1 + 1, 0, none⟩ (.slice a0 n0 c0)).heap.size = w0.heap.size) := hide (by simp)
   have q1 := row_r ((uh C).later (uh E)).bx
   have STAGE1 := hide trivial
   skip))
  | (at_builtin; have hst := STAGE1; clear hst STAGE1; go_must (
   refine wpList_app rfl _ _ rfl (w0.heap.size) (.slice (some ⟨w0.heap.size, 0, none⟩) 0 0) [] rfl (ownN_new _ _ _ (uh SZ) (Nat.le_of_eq (uh SZ).symm)) x.r d.r rfl ((uh R).later (uh E)).r (uh R).rl (uh NZ).2.1 (by simp; omega) (Nat.le_trans (Nat.le_of_eq (uh SZ).symm) (uh E).size) ?_
   intro v w1 ho hg
   rw [List.nil_append] at ho
   obtain ⟨a1, n1, c1, rfl⟩ : ∃ a n c, v = .slice a n c := (by obtain ⟨a, c, e, _⟩ := ho.rd; exact ⟨_, _, _, e⟩)
   have hgr := fun b (e : (Value.slice (some ⟨w0.heap.size, 0, none⟩) 0 0).ownBlock = some b) => (show w.heap.size + 3 ≤ b by simp [Value.ownBlock] at e; have := uh SZ; have := (uh C).sz; omega)
   have Cn := hide (((uh C).later (uh E)).past hg hgr)
   have Rn := hide (((uh R).later (uh E)).pastR (uh HR) hg (fun b e => by have := hgr b e; omega))
   have o1 := row_r (uh Cn).out
   have f1 := row_fz (uh Cn).out 1
   have O1 := hide (OwnN.base ho (B' := w.heap.size + 3) (by have := uh SZ; have := (uh C).sz; omega))
   have On := hide ((((uh O0).later (uh E)).keep (fun g hv hl => hg.block g hl (fun e => by have := ((uh O0).lt hv).2; have := uh SZ; simp [Value.ownBlock] at e; omega))))
   have A01 : Hid (Ap ⟨a0, n0, c0⟩ ⟨a1, n1, c1⟩) := hide (fun g e1 e2 => by
    have := ((uh O0).lt e1).2
    have := (ho.lt e2).1
    have := uh SZ
    omega)
   clear O0
   have O0 := hide (uh On)
   clear On
   clear ho hg hgr C R E SZ q1
   have C := hide ((uh Cn).put 1 (.slice a1 n1 c1) (⟨⟨a0, n0, c0⟩, ⟨a1, n1, c1⟩, x.n, x.z, x.v, x.c, x.i, x.o, x.st⟩ : Mv) rfl)
   have R := hide ((uh Rn).setB (uh HR) (by omega : w.heap.size ≤ w.heap.size + 1 + 1) 1 (.slice a1 n1 c1))
   have On := hide ((uh O0).put (b := w.heap.size + 1 + 1) (j := 1) (u := .slice a1 n1 c1) (by omega))
   clear O0
   have O0 := hide (uh On)
   clear On
   have On := hide ((uh O1).put (b := w.heap.size + 1 + 1) (j := 1) (u := .slice a1 n1 c1) (by omega))
   clear O1
   have O1 := hide (uh On)
   clear On
   clear Cn Rn
   have E := hide (below_new (w1.setCell ⟨w.heap.size + 1 + 1, 1, none⟩ (.slice a1 n1 c1)) (.cells #[] 3))
   have SZ : Hid ((w1.setCell ⟨w.heap.size + 1 + 1, 1, none⟩ (.slice a1 n1 c1)).heap.size = w1.heap.size) := hide (by simp)
   have q2 := row_i ((uh C).later (uh E)).bx
   have STAGE2 := hide trivial
   skip))
  | (at_builtin; have hst := STAGE2; clear hst STAGE2; go_must (
   refine wpList_app rfl _ _ rfl (w1.heap.size) (.slice (some ⟨w1.heap.size, 0, none⟩) 0 0) [] rfl (ownN_new _ _ _ (uh SZ) (Nat.le_of_eq (uh SZ).symm)) x.i d.i rfl ((uh R).later (uh E)).i (uh R).il (uh NZ).2.2.1 (by simp; omega) (Nat.le_trans (Nat.le_of_eq (uh SZ).symm) (uh E).size) ?_
   intro v w2 ho hg
   rw [List.nil_append] at ho
   obtain ⟨a2, n2, c2, rfl⟩ : ∃ a n c, v = .slice a n c := (by obtain ⟨a, c, e, _⟩ := ho.rd; exact ⟨_, _, _, e⟩)
   have hgr := fun b (e : (Value.slice (some ⟨w1.heap.size, 0, none⟩) 0 0).ownBlock = some b) => (show w.heap.size + 3 ≤ b by simp [Value.ownBlock] at e; have := uh SZ; have := (uh C).sz; omega)
   have Cn := hide (((uh C).later (uh E)).past hg hgr)
   have Rn := hide (((uh R).later (uh E)).pastR (uh HR) hg (fun b e => by have := hgr b e; omega))
   have o6 := row_i (uh Cn).out
   have f6 := row_fz (uh Cn).out 6
   have O2 := hide (OwnN.base ho (B' := w.heap.size + 3) (by have := uh SZ; have := (uh C).sz; omega))
   have On := hide ((((uh O0).later (uh E)).keep (fun g hv hl => hg.block g hl (fun e => by have := ((uh O0).lt hv).2; have := uh SZ; simp [Value.ownBlock] at e; omega))))
   have A02 : Hid (Ap ⟨a0, n0, c0⟩ ⟨a2, n2, c2⟩) := hide (fun g e1 e2 => by
    have := ((uh O0).lt e1).2
    have := (ho.lt e2).1
    have := uh SZ
    omega)
   clear O0
   have O0 := hide (uh On)
   clear On
   have On := hide ((((uh O1).later (uh E)).keep (fun g hv hl => hg.block g hl (fun e => by have := ((uh O1).lt hv).2; have := uh SZ; simp [Value.ownBlock] at e; omega))))
   have A12 : Hid (Ap ⟨a1, n1, c1⟩ ⟨a2, n2, c2⟩) := hide (fun g e1 e2 => by
    have := ((uh O1).lt e1).2
    have := (ho.lt e2).1
    have := uh SZ
    omega)
   clear O1
   have O1 := hide (uh On)
   clear On
   clear ho hg hgr C R E SZ q2
   have C := hide ((uh Cn).put 6 (.slice a2 n2 c2) (⟨⟨a0, n0, c0⟩, ⟨a1, n1, c1⟩, x.n, x.z, x.v, x.c, ⟨a2, n2, c2⟩, x.o, x.st⟩ : Mv) rfl)
   have R := hide ((uh Rn).setB (uh HR) (by omega : w.heap.size ≤ w.heap.size + 1 + 1) 6 (.slice a2 n2 c2))
   have On := hide ((uh O0).put (b := w.heap.size + 1 + 1) (j := 6) (u := .slice a2 n2 c2) (by omega))
   clear O0
   have O0 := hide (uh On)
   clear On
   have On := hide ((uh O1).put (b := w.heap.size + 1 + 1) (j := 6) (u := .slice a2 n2 c2) (by omega))
   clear O1
   have O1 := hide (uh On)
   clear On
   have On := hide ((uh O2).put (b := w.heap.size + 1 + 1) (j := 6) (u := .slice a2 n2 c2) (by omega))
   clear O2
   have O2 := hide (uh On)
   clear On
   clear Cn Rn
   have E := hide (below_new (w2.setCell ⟨w.heap.size + 1 + 1, 6, none⟩ (.slice a2 n2 c2)) (.cells #[] 3))
   have SZ : Hid ((w2.setCell ⟨w.heap.size + 1 + 1, 6, none⟩ (.slice a2 n2 c2)).heap.size = w2.heap.size) := hide (by simp)
   have q3 := row_o ((uh C).later (uh E)).bx
   have STAGE3 := hide trivial
   skip))
  | (at_builtin; have hst := STAGE3; clear hst STAGE3; go_must (
   refine wpList_app rfl _ _ rfl (w2.heap.size) (.slice (some ⟨w2.heap.size, 0, none⟩) 0 0) [] rfl (ownN_new _ _ _ (uh SZ) (Nat.le_of_eq (uh SZ).symm)) x.o d.o rfl ((uh R).later (uh E)).o (uh R).ol (uh NZ).2.2.2 (by simp; omega) (Nat.le_trans (Nat.le_of_eq (uh SZ).symm) (uh E).size) ?_
   intro v w3 ho hg
   rw [List.nil_append] at ho
   obtain ⟨a3, n3, c3, rfl⟩ : ∃ a n c, v = .slice a n c := (by obtain ⟨a, c, e, _⟩ := ho.rd; exact ⟨_, _, _, e⟩)
   have hgr := fun b (e : (Value.slice (some ⟨w2.heap.size, 0, none⟩) 0 0).ownBlock = some b) => (show w.heap.size + 3 ≤ b by simp [Value.ownBlock] at e; have := uh SZ; have := (uh C).sz; omega)
   have Cn := hide (((uh C).later (uh E)).past hg hgr)
   have Rn := hide (((uh R).later (uh E)).pastR (uh HR) hg (fun b e => by have := hgr b e; omega))
   have o7 := row_o (uh Cn).out
   have f7 := row_fz (uh Cn).out 7
   have O3 := hide (OwnN.base ho (B' := w.heap.size + 3) (by have := uh SZ; have := (uh C).sz; omega))
   have On := hide ((((uh O0).later (uh E)).keep (fun g hv hl => hg.block g hl (fun e => by have := ((uh O0).lt hv).2; have := uh SZ; simp [Value.ownBlock] at e; omega))))
   have A03 : Hid (Ap ⟨a0, n0, c0⟩ ⟨a3, n3, c3⟩) := hide (fun g e1 e2 => by
    have := ((uh O0).lt e1).2
    have := (ho.lt e2).1
    have := uh SZ
    omega)
   clear O0
   have O0 := hide (uh On)
   clear On
   have On := hide ((((uh O1).later (uh E)).keep (fun g hv hl => hg.block g hl (fun e => by have := ((uh O1).lt hv).2; have := uh SZ; simp [Value.ownBlock] at e; omega))))
   have A13 : Hid (Ap ⟨a1, n1, c1⟩ ⟨a3, n3, c3⟩) := hide (fun g e1 e2 => by
    have := ((uh O1).lt e1).2
    have := (ho.lt e2).1
    have := uh SZ
    omega)
   clear O1
   have O1 := hide (uh On)
   clear On
   have On := hide ((((uh O2).later (uh E)).keep (fun g hv hl => hg.block g hl (fun e => by have := ((uh O2).lt hv).2; have := uh SZ; simp [Value.ownBlock] at e; omega))))
   have A23 : Hid (Ap ⟨a2, n2, c2⟩ ⟨a3, n3, c3⟩) := hide (fun g e1 e2 => by
    have := ((uh O2).lt e1).2
    have := (ho.lt e2).1
    have := uh SZ
    omega)
   clear O2
   have O2 := hide (uh On)
   clear On
   clear ho hg hgr C R E SZ q3
   have C := hide ((uh Cn).put 7 (.slice a3 n3 c3) (⟨⟨a0, n0, c0⟩, ⟨a1, n1, c1⟩, x.n, x.z, x.v, x.c, ⟨a2, n2, c2⟩, ⟨a3, n3, c3⟩, x.st⟩ : Mv) rfl)
   have R := hide ((uh Rn).setB (uh HR) (by omega : w.heap.size ≤ w.heap.size + 1 + 1) 7 (.slice a3 n3 c3))
   have On := hide ((uh O0).put (b := w.heap.size + 1 + 1) (j := 7) (u := .slice a3 n3 c3) (by omega))
   clear O0
   have O0 := hide (uh On)
   clear On
   have On := hide ((uh O1).put (b := w.heap.size + 1 + 1) (j := 7) (u := .slice a3 n3 c3) (by omega))
   clear O1
   have O1 := hide (uh On)
   clear On
   have On := hide ((uh O2).put (b := w.heap.size + 1 + 1) (j := 7) (u := .slice a3 n3 c3) (by omega))
   clear O2
   have O2 := hide (uh On)
   clear On
   have On := hide ((uh O3).put (b := w.heap.size + 1 + 1) (j := 7) (u := .slice a3 n3 c3) (by omega))
   clear O3
   have O3 := hide (uh On)
   clear On
   clear Cn Rn
   skip))
  | (refine wpList_load_row rfl 26 _ rfl (w.heap.size + 1 + 1) rfl 26 (Mv.cs (⟨⟨a0, n0, c0⟩, ⟨a1, n1, c1⟩, x.n, x.z, x.v, x.c, ⟨a2, n2, c2⟩, ⟨a3, n3, c3⟩, x.st⟩ : Mv)) (0, 0) _ (uh C).out Tryz.underlying26 rfl (by kernel_rfl) ?_)
  | (refine wpList_store_row rfl 26 _ _ rfl (w.heap.size + 1) (Mv.cs (⟨⟨a0, n0, c0⟩, ⟨a1, n1, c1⟩, x.n, x.z, x.v, x.c, ⟨a2, n2, c2⟩, ⟨a3, n3, c3⟩, x.st⟩ : Mv)) rfl rfl 26 zMv.cs (uh C).re (by kernel_rfl) rfl (Mv.cs_one _) ?_))
 refine bodyPost_ret (results_cell_row (P := Tryz.prog) rfl _ _ (w.heap.size + 1) 26 (Mv.cs (⟨⟨a0, n0, c0⟩, ⟨a1, n1, c1⟩, x.n, x.z, x.v, x.c, ⟨a2, n2, c2⟩, ⟨a3, n3, c3⟩, x.st⟩ : Mv)) (0, 0) _ rfl (uh C).done.re Tryz.underlying26 rfl (by kernel_rfl)) rfl ?_
 exact ⟨(⟨⟨a0, n0, c0⟩, ⟨a1, n1, c1⟩, x.n, x.z, x.v, x.c, ⟨a2, n2, c2⟩, ⟨a3, n3, c3⟩, x.st⟩ : Mv), rfl, rfl, ⟨(uh O0).row (by omega) _, (uh O1).row (by omega) _, (uh O2).row (by omega) _, (uh O3).row (by omega) _, uh A01, uh A02, uh A03, uh A12, uh A13, uh A23⟩, (uh C).done.bel⟩
theorem OwnN.set {w : World} {B b n cap : Nat} {ns : List Int} (h : OwnN w B (.slice (some ⟨b, 0, none⟩) n cap) ns) (k : Nat) (v : Int) (hk : k < ns.length) :
  OwnN (w.setCell ⟨b, k, none⟩ (.int .i64 v)) B (.slice (some ⟨b, 0, none⟩) n cap) (ns.set k v) ∧ w.grownBy (w.setCell ⟨b, k, none⟩ (.int .i64 v)) (some b) := by
 have hl : ns.length = n := by obtain ⟨a, c, e, _⟩ := h.rd; simp at e; omega
 subst hl
 have st := World.ownsRow.stored h k (.int .i64 v)
 refine ⟨?_, st.2⟩
 have e : cellsN (ns.set k v) = (cellsN ns).set k (.int .i64 v) := by unfold cellsN; rw [List.map_set]
 unfold OwnN
 rw [List.length_set, e]
 exact st.1
theorem OwnN.cellAt {w : World} {B b n cap : Nat} {ns : List Int} (h : OwnN w B (.slice (some ⟨b, 0, none⟩) n cap) ns) (k : Nat) (hk : k < ns.length) : w.cell? ⟨b, k, none⟩ = some (.int .i64 (nAt ns k)) ∧ w.frozen? ⟨b, k, none⟩ = false := by
 have hl : ns.length = n := by obtain ⟨a, c, e, _⟩ := h.rd; simp at e; omega
 subst hl
 refine ⟨?_, World.ownsRow.frozenAt h k⟩
 rw [World.ownsRow.cellAt h k (by omega)]
 simp only [cellsN, List.getElem?_map, List.getElem?_eq_getElem hk, Option.map_some, nAt, List.getD_eq_getElem?_getD, Option.getD_some]
theorem writeS_any (x : Mv) (d : Md) (a n : Int) (w : World) (hs : x.small) (hz : x.nz) (hr : RdM w x d) : Calls Tryz.prog 94 #[.agg x.cs, .int .i64 a, .int .i64 n] w fun e w' => ∃ y : Mv, e = .returned (.tuple #[.agg y.cs, .bool (d.has a)]) ∧ y.fl = x.fl ∧ OwnM w' (w.heap.size + 2) y (d.put a n) ∧ Below w.heap.size w w' := by
 have C := hide (cc_new w x)
 have X := hide (hr.later (uh C).bel)
 have M := hide (copyS_any x d _ hs hz (uh X))
 have HT := hide (has_t (d := d) (a := a))
 have S := hide hs
 unfold Md.put
 obtain ⟨q, hq⟩ : ∃ q, d.has a = q := ⟨_, rfl⟩
 rw [hq] at HT ⊢
 have HQ := hide hq
 clear hr hs hz hq
 go_enter Tryz.func94, Tryz.ntmps94
 go_wp2_with (refine wpList_load_row rfl 26 _ rfl w.heap.size rfl 26 x.cs (0, 0) _ (uh C).bx Tryz.underlying26 rfl (by kernel_rfl) ?_)
 refine (uh M).mono ?_
 rintro e w1 ⟨y, rfl, fy, oy, hb⟩
 have FY := hide fy
 have O1 := hide (oy.base (C := w.heap.size + 2) (by have := (uh C).sz; omega))
 have C1 := hide (((uh C).later hb).later (below_new w1 (.cells y.cs 26)))
 have X1 := hide (((uh X).later hb).later (below_new w1 (.cells y.cs 26)))
 have H1 := hide (readS_any x d a (w1.alloc (.cells y.cs 26)) (uh S) (uh X1))
 rw [uh HQ] at H1
 have G1 := hide (heap_alloc_last w1 (.cells y.cs 26))
 have Z1 := hide (Nat.le_trans (uh C).sz hb.size)
 clear fy oy hb M C X
 go_wp2_with (first | (refine wpList_store_new rfl 26 _ _ rfl y.cs rfl rfl _ (by kernel_rfl) rfl (Mv.cs_one _) ?_) | (refine wpList_load_row rfl 26 _ rfl w.heap.size rfl 26 x.cs (0, 0) _ (uh C1).bx Tryz.underlying26 rfl (by kernel_rfl) ?_))
 refine (uh H1).mono ?_
 rintro e w2 ⟨rfl, hb⟩
 have C2 := hide ((uh C1).later hb)
 have G2 := hide (row_lat (uh G1) hb)
 have O2 := hide (((uh O1).later (below_new w1 (.cells y.cs 26))).later hb)
 clear hb C1 G1 H1 X1
 cases q
 ·
  go_wp2_with (first | (refine wpList_load_row rfl 26 _ rfl w1.heap.size rfl 26 y.cs (0, 0) _ (uh G2) Tryz.underlying26 rfl (by kernel_rfl) ?_) | (refine wpList_store_row rfl 26 _ _ rfl (w.heap.size + 1) y.cs rfl rfl 26 zMv.cs (uh C2).re (by kernel_rfl) rfl (Mv.cs_one _) ?_))
  refine bodyPost_ret (results_row2 (P := Tryz.prog) rfl _ _ (w.heap.size + 1) 26 y.cs (0, 0) _ rfl (setRow_heap w2 _ _ _ 26 _ (uh C2).re) Tryz.underlying26 rfl (by kernel_rfl)) rfl ?_
  exact ⟨y, rfl, uh FY, (uh O2).row (by omega) _, below_setRow (uh C2).bel (by omega) _⟩
 ·
  obtain ⟨ta, tl⟩ := uh HT (by trivial)
  obtain ⟨t0, t1, _⟩ := adB_t ta
  obtain ⟨k, hk⟩ := Int.eq_ofNat_of_zero_le (show 0 ≤ a / 2 by omega)
  have hkl : k < d.m.length := by omega
  have hml := (uh O2).m.len
  obtain ⟨gm, hgm⟩ : ∃ gm, y.m.a = some ⟨gm, 0, none⟩ := by
   rcases (uh O2).m.form with ⟨_, h0⟩ | ⟨g, cap, e, _⟩
   · rw [h0] at hkl; simp at hkl
   · unfold Sl.v at e; simp at e; exact ⟨g, e.1⟩
  have hmv : y.m.v = .slice (some ⟨gm, 0, none⟩) y.m.n y.m.c := by unfold Sl.v; rw [hgm]
  have o2 := (uh O2).m
  rw [hmv] at o2
  have o2d := o2.later (below_drew (w := w2))
  have cA := hide (o2d.cellAt k hkl)
  have sA := o2d.set k (n % 65536) hkl
  have gA : w2.drew.grownBy (w2.drew.setCell ⟨gm, k, none⟩ (.int .i64 (n % 65536))) y.m.v.ownBlock := by rw [hmv]; exact sA.2
  have O3 := hide (((uh O2).later (below_drew (w := w2))).putM gA (by rw [hmv]; exact sA.1))
  have gmB := (o2.lt (g := gm) rfl).1
  have gm1 : gm < w1.heap.size := by
   have := (uh O1).m
   rw [hmv] at this
   exact (this.lt (g := gm) rfl).2
  have C3 := hide (((uh C2).later (below_drew (w := w2))).pastR sA.2 (fun b e => by cases e; exact gmB))
  have G3 := hide ((sA.2.block w1.heap.size (row_lt (row_lat (uh G2) (below_drew (w := w2)))) (by simp; omega)).trans (row_lat (uh G2) (below_drew (w := w2))))
  have D0 : Hid (w2.drew.cell? ⟨w1.heap.size, 0, none⟩ = some (.slice (some ⟨gm, 0, none⟩) y.m.n y.m.c)) := hide (by rw [← hgm]; exact row_m (row_lat (uh G2) (below_drew (w := w2))))
  have HKK := hide (show (a / 2).toNat = k by omega)
  have GM := hide hgm
  have HQ2 := hide (quo2 t0 (by omega) hk)
  have WR := hide (fun w => wrapS_any n w)
  have kn : (k : Int) < (y.m.n : Int) := by omega
  have kn0 : k < y.m.n := by omega
  obtain ⟨q, hq⟩ : ∃ q, n % 65536 = q := ⟨_, rfl⟩
  rw [hq] at O3 C3 G3 WR
  have HQQ := hide hq
  clear hq sA gA o2 o2d hmv hml ta HT C2 O2 G2 HQ tl hk hgm gmB gm1 hkl O1
  go_wp2_with fail
  refine wp_region_held_drew (S := fun w' => w'.cell? ⟨w1.heap.size, 0, none⟩ = some (.slice (some ⟨gm, 0, none⟩) y.m.n y.m.c)) (by kernel_rfl) (uh D0) (fun hS => ?_)
  have HS := hide hS
  clear hS
  refine tkB 0 (.pointer (some ⟨w1.heap.size, 0, none⟩)) rfl (uh HS) ?_
  go_simp
  refine tkA 1 (.slice (some ⟨gm, 0, none⟩) y.m.n y.m.c) rfl (.inl ⟨by rfl, fun w hc => ?_⟩) (uh HS) ?_
  · go_simp
  go_simp
  refine tkB 2 (.int .i64 a) rfl (uh HS) ?_
  go_simp
  refine tkA 3 (.int .i64 (k : Int)) rfl (.inl ⟨by rfl, fun w hc => ?_⟩) (uh HS) ?_
  · clear hc; have hq2 := uh HQ2; go_simp
  go_simp
  refine tkB 4 (.int .i64 n) rfl (uh HS) ?_
  go_simp
  refine wpAnyH_ready (rs := [5]) (by kernel_rfl) (by simp) ?_
  refine AllReadyH.cons rfl (fun K hK => ?_) AllReadyH.nil
  go_simp
  refine (uh WR _).mono ?_
  rintro e w' ⟨rfl, hw'⟩
  rw [hw']
  clear hw' w'
  refine hK.out _ _ (uh D0) (fun _ => ?_)
  clear hK K
  refine tkB 6 (.pointer (some ⟨gm, k, none⟩)) rfl (uh HS) ?_
  go_simp
  refine wpAnyH_ready (rs := [7]) (by kernel_rfl) (by simp) ?_
  refine AllReadyH.cons rfl (fun K hK => ?_) AllReadyH.nil
  obtain ⟨cA1, cA2⟩ := uh cA
  go_simp
  refine hK.out _ _ ((row_m (uh G3)).trans (by rw [uh GM])) (fun _ => ?_)
  clear hK K
  refine wpAnyH_done (by kernel_rfl) ?_ _
  go_wp2_with (first | (refine wpList_load_row rfl 26 _ rfl w1.heap.size rfl 26 y.cs (0, 0) _ (uh G3) Tryz.underlying26 rfl (by kernel_rfl) ?_) | (refine wpList_store_row rfl 26 _ _ rfl (w.heap.size + 1) y.cs rfl rfl 26 zMv.cs (uh C3).re (by kernel_rfl) rfl (Mv.cs_one _) ?_))
  refine bodyPost_ret (results_row2 (P := Tryz.prog) rfl _ _ (w.heap.size + 1) 26 y.cs (0, 0) _ rfl (setRow_heap _ _ _ _ 26 _ (uh C3).re) Tryz.underlying26 rfl (by kernel_rfl)) rfl ?_
  refine ⟨y, rfl, uh FY, ?_, below_setRow (uh C3).bel (by omega) _⟩
  rw [uh HKK, uh HQQ]
  exact (uh O3).row (by omega) _
end Go.Proofs.YtboedaofbchdkaaGreatDoor
