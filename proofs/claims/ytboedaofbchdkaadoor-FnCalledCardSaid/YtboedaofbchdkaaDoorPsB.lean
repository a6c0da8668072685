/- Contracts over this seat's translation, laid together; conditions stand as hypotheses of each. -/
import Derived.Test.YtboedaofbchdkaaDoorPsA
import Derived.Maps.AppendAt
import Derived.Orders
import Derived.RegionTactic
import Derived.Great.Walk
import Derived.Laws.CopyOwn

namespace Go.Proofs.YtboedaofbchdkaaDoor
open Go.ChangeShapes Go.WideShapes Go.ChangeAt Go.RowKit
set_option linter.unusedVariables false
set_option maxRecDepth 8000
set_option linter.unusedSimpArgs false
def z256 : List Int := List.replicate 256 0
theorem z256_len : z256.length = 256 := List.length_replicate ..
/-- The cells of a memory and a machine. -/
def bigA (mem : List Int) (y : Mv) : Array Value := (cellsN mem ++ y.cs.toList).toArray
theorem info60 : (Tryd.prog.info? 55).map (fun i => (i.zero, i.size)) = some (some (.agg (bigA z256 zMv)), 265) := by kernel_rfl
theorem built60 (y : Mv) : Tryd.prog.built 55 [(1, .agg y.cs)] = some (bigA z256 y) := by kernel_rfl
theorem bigA_size {mem : List Int} (y : Mv) (h : mem.length = 256) : (bigA mem y).size = 265 := by
  simp [bigA, cellsN_length, h, Mv.cs]
theorem bigA_one (mem : List Int) (y : Mv) : (bigA mem y).all (·.oneCell') = true := by
  rw [Array.all_eq_true_iff_forall_mem]
  intro v hv
  simp only [bigA, List.mem_toArray, List.mem_append] at hv
  rcases hv with hv | hv
  · exact cellsN_one _ v hv
  · exact Array.all_eq_true_iff_forall_mem.1 (Mv.cs_one y) v (by simpa using hv)
theorem bigA_mem {mem : List Int} (y : Mv) {j : Nat} (h : mem.length = 256) (hj : j < 256) : (bigA mem y)[j]? = some (.int .i64 (nAt mem j)) := by
  simp only [bigA, List.getElem?_toArray]
  rw [List.getElem?_append_left (by rw [cellsN_length]; omega)]
  simp [cellsN, nAt, List.getElem?_eq_getElem (show j < mem.length by omega)]
theorem bigA_mach {mem : List Int} (y : Mv) {k : Nat} (h : mem.length = 256) : (bigA mem y)[256 + k]? = y.cs[k]? := by
  simp only [bigA, List.getElem?_toArray]
  rw [List.getElem?_append_right (by rw [cellsN_length]; omega), cellsN_length, h]
  simp
theorem wpList_alloc60 {w : World} {ops : Array Oper} {rest : List Oper} {o : Oper} {a : Act} {Q : Exit → Act → World → Prop} (hgd : o.guard = none) (ho : o.op = .alloc 55)
    (h : wpList Tryd.prog ops Q rest (a.put o.dst (.pointer (some ⟨w.heap.size, 0, none⟩))) (w.alloc (.cells (bigA z256 zMv) 55))) : wpList Tryd.prog ops Q (o :: rest) a w := by
  have hz := (zero_of_info info60).1
  refine wpList_plain hgd fun K hK => ?_
  unfold Oper.wp execOp
  simp only [ho, Instr.alloc, hz, Sem.run_bind, Sem.run_pure, Result.andThen_ok]
  simp [go_sem]
  exact hK _ _ h
theorem wpList_build60 {w : World} {ops : Array Oper} {rest : List Oper} {o : Oper} {a : Act} {Q : Exit → Act → World → Prop} (hgd : o.guard = none) (x : Operand) (ho : o.op = .build 55 #[(1, x)]) (y : Mv) (hx : a.eval x = .agg y.cs)
    (h : wpList Tryd.prog ops Q rest (a.put o.dst (.agg (bigA z256 y))) w) : wpList Tryd.prog ops Q (o :: rest) a w := by
  refine wpList_buildTo hgd 55 _ ho _ rfl (bigA z256 y) ?_ h
  simp only [List.map_toArray, List.map_cons, List.map_nil, hx]
  exact built60 y
theorem size60 (y : Mv) (mem : List Int) (h : mem.length = 256) : (Tryd.prog.info? 55).map (·.size) = some (bigA mem y).size := by
  rw [bigA_size y h]
  kernel_rfl
/-- A memory and a machine stored whole into the row made last. -/
theorem wpList_store60 {w : World} {ops : Array Oper} {rest : List Oper} {o : Oper} {a : Act} {Q : Exit → Act → World → Prop} (hgd : o.guard = none) (x z : Operand) (ho : o.op = .store 55 x z) (mem : List Int) (y : Mv) (hm : mem.length = 256)
    (hx : a.eval x = .pointer (some ⟨w.heap.size, 0, none⟩)) (hy : a.eval z = .agg (bigA mem y)) (h : wpList Tryd.prog ops Q rest (a.put o.dst undef) (w.alloc (.cells (bigA mem y) 55))) : wpList Tryd.prog ops Q (o :: rest) a (w.alloc (.cells (bigA z256 zMv) 55)) :=
  wpList_store_new hgd 55 x z ho (bigA mem y) hx hy _ (size60 y mem hm) (by rw [bigA_size y hm, bigA_size zMv z256_len]) (bigA_one _ _) h
/-- A memory and a machine loaded whole. -/
theorem wpList_load60 {w : World} {ops : Array Oper} {rest : List Oper} {o : Oper} {a : Act} {Q : Exit → Act → World → Prop} (hgd : o.guard = none) (x : Operand) (ho : o.op = .load 55 x) (g : Nat) (mem : List Int) (y : Mv) (hm : mem.length = 256)
    (hx : a.eval x = .pointer (some ⟨g, 0, none⟩)) (hg : w.heap[g]? = some (.cells (bigA mem y) 55 (0, 0))) (h : wpList Tryd.prog ops Q rest (a.put o.dst (.agg (bigA mem y))) w) : wpList Tryd.prog ops Q (o :: rest) a w :=
  wpList_load_row hgd 55 x ho g hx 55 (bigA mem y) (0, 0) _ hg Tryd.underlying55 rfl (size60 y mem hm) h
/-- A memory and a machine stored whole into a row that holds one. -/
theorem wpList_over60 {w : World} {ops : Array Oper} {rest : List Oper} {o : Oper} {a : Act} {Q : Exit → Act → World → Prop} (hgd : o.guard = none) (x z : Operand) (ho : o.op = .store 55 x z) (g : Nat) (mem mem0 : List Int) (y y0 : Mv) (hm : mem.length = 256) (hm0 : mem0.length = 256)
    (hx : a.eval x = .pointer (some ⟨g, 0, none⟩)) (hy : a.eval z = .agg (bigA mem y)) (hg : w.heap[g]? = some (.cells (bigA mem0 y0) 55 (0, 0))) (h : wpList Tryd.prog ops Q rest (a.put o.dst undef) (w.setRow g (bigA mem y))) : wpList Tryd.prog ops Q (o :: rest) a w :=
  wpList_store_row hgd 55 x z ho g (bigA mem y) hx hy 55 (bigA mem0 y0) hg (size60 y mem hm) (by rw [bigA_size y hm, bigA_size y0 hm0]) (bigA_one _ _) h
theorem grownBy_setRow {w : World} {g : Nat} (cs : Array Value) : w.grownBy (w.setRow g cs) (some g) :=
  ⟨rfl, rfl, rfl, by simp [World.setRow], fun k _ hk => setRow_other w g k cs (fun e => hk (by rw [e]))⟩
theorem info3s : (Tryd.prog.info? 3).map (·.size) = some 1 := by kernel_rfl
/-- What a copy leaves: the first of the list over the memory. -/
def laidM (ns mem : List Int) : List Int := ns.take 256 ++ mem.drop ns.length
theorem laidM_len {ns mem : List Int} (h : mem.length = 256) : (laidM ns mem).length = 256 := by
  unfold laidM
  rw [List.length_append, List.length_take, List.length_drop, h]
  omega
theorem copy_in (s : Sl) (ns mem : List Int) (y : Mv) (g : Nat) (w : World) (hg : w.heap[g]? = some (.cells (bigA mem y) 55 (0, 0))) (hmem : mem.length = 256) (hr : RdN w s.a ns) (hl : ns.length = s.n) :
    ∃ (w' : World) (k : Int), (∀ ty, (Builtin.copy_ #[25, 25] ty #[.slice (some ⟨g, 0, none⟩) 256 256, .slice s.a s.n s.c]).run Tryd.prog w = .ok (.int .i64 k) w') ∧ w'.heap[g]? = some (.cells (bigA (laidM ns mem) y) 55 (0, 0)) ∧ w.grownBy w' (some g) := by
  by_cases h0 : ns = []
  · subst h0
    have hn : s.n = 0 := by simpa using hl.symm
    refine ⟨w, 0, fun ty => ?_, by simpa [laidM] using hg, World.grownBy.refl _ _⟩
    have := run_copy_none (P := Tryd.prog) w 25 25 ty 3 (some ⟨g, 0, none⟩) s.a 256 256 s.n s.c Tryd.underlying25 info3s (by rw [hn]; rfl)
    simpa [goInt] using this
  · rcases hr with h1 | ⟨b, off, ha, hb, hc⟩
    · exact absurd h1 h0
    have hrd : RdN w (some ⟨b, off, none⟩) (ns.take 256) := .inr ⟨b, off, rfl, hb, fun i hi => by
      have hi' : i < ns.length ∧ i < 256 := by simp at hi; omega
      rw [hc i hi'.1]
      congr 2
      unfold nAt
      rw [List.getD_eq_getElem?_getD, List.getD_eq_getElem?_getD, List.getElem?_take, if_pos hi'.2]⟩
    refine ⟨_, _, fun ty => by rw [ha]; exact run_copy_row (P := Tryd.prog) w 25 25 ty 3 g 0 256 256 ⟨b, off, none⟩ s.n s.c (bigA mem y) 55 (cellsN (ns.take 256)) Tryd.underlying25 info3s hg (by rw [cellsN_length, List.length_take, hl, Nat.min_comm]) (rdN_cells hrd) (by rw [cellsN_length, List.length_take, bigA_size y hmem]; omega) (cellsN_one _), ?_, grownBy_setRow _⟩
    rw [setRow_heap w g _ _ 55 _ hg]
    congr 2
    unfold bigA laidM
    congr 1
    rw [List.take_zero, List.nil_append, Nat.zero_add, cellsN_length, cellsN_append, List.append_assoc]
    congr 1
    rw [List.toList_toArray, List.drop_append]
    have e1 : (cellsN mem).drop (ns.take 256).length = cellsN (mem.drop ns.length) := by
      unfold cellsN
      rw [← List.map_drop]
      congr 1
      rw [List.length_take]
      by_cases h : ns.length ≤ 256
      · rw [Nat.min_eq_right h]
      · rw [List.drop_eq_nil_of_le (by omega), List.drop_eq_nil_of_le (by omega)]
    rw [e1, cellsN_length, show (ns.take 256).length - mem.length = 0 by rw [List.length_take]; omega]
    rfl
theorem copy_out (s : Sl) (ns mem : List Int) (y : Mv) (g B : Nat) (w : World) (hg : w.heap[g]? = some (.cells (bigA mem y) 55 (0, 0))) (hmem : mem.length = 256) (ho : OwnN w B s.v ns) :
    ∃ (w' : World) (k : Int), (∀ ty, (Builtin.copy_ #[25, 25] ty #[.slice s.a s.n s.c, .slice (some ⟨g, 0, none⟩) 256 256]).run Tryd.prog w = .ok (.int .i64 k) w') ∧ OwnN w' B s.v (mem.take ns.length ++ ns.drop 256) ∧ w.grownBy w' s.v.ownBlock := by
  have hlen := ho.len
  obtain ⟨h1, ⟨h2, h3⟩ | ⟨gm, cap, cur, e, hB, hh, hn, hm, hs, ht⟩⟩ := id ho
  · obtain rfl : ns = [] := List.eq_nil_of_length_eq_zero h3
    have hn : s.n = 0 := by simpa using hlen.symm
    refine ⟨w, 0, fun ty => ?_, by simpa using ho, World.grownBy.refl _ _⟩
    have := run_copy_none (P := Tryd.prog) w 25 25 ty 3 s.a (some ⟨g, 0, none⟩) s.n s.c 256 256 Tryd.underlying25 info3s (by rw [hn]; rfl)
    simpa [goInt] using this
  · obtain ⟨sa, sn, sc⟩ := s
    unfold Sl.v at e
    simp at e
    obtain ⟨rfl, hsn, rfl⟩ := e
    simp only at hlen
    have hrd : RdN w (some ⟨g, 0, none⟩) (mem.take ns.length) := .inr ⟨g, 0, rfl, row_lt hg, fun i hi => by
      have hi' : i < ns.length ∧ i < 256 := by simp at hi; omega
      rw [cell_of_row w g _ _ 55 _ hg, Nat.zero_add, bigA_mem y hmem hi'.2]
      congr 2
      unfold nAt
      rw [List.getD_eq_getElem?_getD, List.getD_eq_getElem?_getD, List.getElem?_take, if_pos hi'.1]⟩
    have hcl : (cellsN (mem.take ns.length)).length = Nat.min 256 sn := by rw [cellsN_length, List.length_take, hmem, hlen, Nat.min_comm]
    have hmn : Nat.min 256 sn ≤ sn := Nat.min_le_right _ _
    refine ⟨_, _, fun ty => run_copy_row (P := Tryd.prog) w 25 25 ty 3 gm 0 sn sc ⟨g, 0, none⟩ 256 256 cur 3 (cellsN (mem.take ns.length)) Tryd.underlying25 info3s hh hcl (rdN_cells hrd) (by rw [hcl]; omega) (cellsN_one _), ?_, grownBy_setRow _⟩
    have hL : (mem.take ns.length ++ ns.drop 256).length = ns.length := by rw [List.length_append, List.length_take, List.length_drop, hmem]; omega
    unfold OwnN
    rw [hL]
    refine ⟨by rw [cellsN_length, hL]; omega, .inr ⟨gm, sc, _, ?_, hB, setRow_heap w gm _ _ 3 _ hh, hn, hm, ?_, ?_⟩⟩
    · unfold Sl.v; simp [hsn]
    · simp only [List.size_toArray, List.length_append, List.length_take, List.length_drop, Array.length_toList, cellsN_length, hmem]
      omega
    · rw [List.toList_toArray, List.take_zero, List.nil_append, Nat.zero_add, cellsN_length, cellsN_append, Nat.mul_one]
      have hq : (mem.take ns.length).length = min 256 ns.length := by rw [List.length_take, hmem, Nat.min_comm]
      rw [List.take_append, cellsN_length, List.take_of_length_le (by rw [cellsN_length, hq]; omega)]
      congr 1
      rw [hq, List.take_drop]
      have e2 : min 256 ns.length + (ns.length - min 256 ns.length) = ns.length * 1 := by omega
      rw [e2, ht]
      unfold cellsN
      rw [← List.map_drop]
      congr 1
      by_cases h : ns.length ≤ 256
      · rw [Nat.min_eq_right h, List.drop_eq_nil_of_le (Nat.le_refl _), List.drop_eq_nil_of_le h]
      · rw [Nat.min_eq_left (by omega)]
end Go.Proofs.YtboedaofbchdkaaDoor

namespace Go.Proofs.YtboedaofbchdkaaDoor
open Go.ChangeShapes Go.WideShapes Go.ChangeAt Go.RowKit
set_option linter.unusedVariables false
set_option maxRecDepth 8000
set_option linter.unusedSimpArgs false
/-- While a machine is made: its box, the answer's place. -/
structure Mo (w wr : World) (x : Mv) : Prop where
  bx : wr.heap[w.heap.size]? = some (.cells x.cs 32 (0, 0))
  re : wr.heap[w.heap.size + 1]? = some (.cells (bigA z256 zMv) 55 (0, 0))
  bel : Below w.heap.size w wr
  sz : w.heap.size + 2 ≤ wr.heap.size
section
variable {w wr w' : World} {x : Mv}
theorem Mo.later (h : Mo w wr x) (hb : Below wr.heap.size wr w') : Mo w w' x :=
  ⟨row_lat h.bx hb, row_lat h.re hb, h.bel.trans (hb.mono (by have := h.bel.size; omega)), Nat.le_trans h.sz hb.size⟩
theorem Mo.past {g : Nat} (h : Mo w wr x) (hg : wr.grownBy w' (some g)) (hB : w.heap.size + 2 ≤ g) : Mo w w' x :=
  ⟨(hg.block _ (row_lt h.bx) (by simp; omega)).trans h.bx, (hg.block _ (row_lt h.re) (by simp; omega)).trans h.re, h.bel.grown hg h.bel.size (fun k e => by cases e; omega), Nat.le_trans h.sz hg.size⟩
theorem mo_new (w : World) (x : Mv) : Mo w ((w.alloc (.cells x.cs 32)).alloc (.cells (bigA z256 zMv) 55)) x := by
  have z1 : (w.alloc (.cells x.cs 32)).heap.size = w.heap.size + 1 := by simp
  have a1 := row_lat (heap_alloc_last w (.cells x.cs 32)) (below_new _ (.cells (bigA z256 zMv) 55))
  have a2 := heap_alloc_last (w.alloc (.cells x.cs 32)) (.cells (bigA z256 zMv) 55)
  rw [z1] at a2
  exact ⟨a1, a2, ((Below.refl _ _).alloc (Nat.le_refl _) _).alloc (by omega) _, by simp⟩
end
theorem OwnM.row {w : World} {B g : Nat} {x : Mv} {d : Md} (h : OwnM w B x d) (hb : g < B) (cs : Array Value) : OwnM (w.setRow g cs) B x d := h.keep fun j h1 _ => setRow_other w g j cs (by omega)
set_option maxHeartbeats 1000000 in
theorem machineOf_any (x : Mv) (d : Md) (w : World) (hs : x.small) (hz : x.nz) (hr : RdM w x d) : Calls Tryd.prog 25 #[.agg x.cs] w fun e w' => ∃ y : Mv, e = .returned (.agg (bigA (laidM d.m z256) y)) ∧ y.fl = x.fl ∧ OwnM w' (w.heap.size + 2) y d ∧ Below w.heap.size w w' := by
  have C := hide (mo_new w x)
  have R := hide (hr.later (unhide C).bel)
  have T := hide (copyM_any x d _ hs hz (unhide R))
  have HR := hide hr
  have z1 : (w.alloc (.cells x.cs 32)).heap.size = w.heap.size + 1 := by simp
  have Z1 := hide z1
  clear hr hs hz z1
  go_enter Tryd.func25, Tryd.ntmps25
  go_wp2_with (first | (refine wpList_alloc60 rfl rfl ?_) | (refine wpList_load_row rfl 32 _ rfl w.heap.size rfl 32 x.cs (0, 0) _ (unhide C).bx Tryd.underlying32 rfl (by kernel_rfl) ?_))
  refine (unhide T).mono ?_
  rintro e w1 ⟨y, rfl, fy, oy, hb⟩
  have C1 := hide (((unhide C).later hb).later (below_new w1 (.cells (bigA z256 y) 55)))
  have R1 := hide (((unhide R).later hb).later (below_new w1 (.cells (bigA z256 y) 55)))
  have O1 := hide (oy.base (C := w.heap.size + 2) (by have := (unhide C).sz; omega))
  have hsz := hide (Nat.le_trans (unhide C).sz hb.size)
  have FY := hide fy
  clear C R T hb fy oy
  have hrow := hide (heap_alloc_last w1 (.cells (bigA z256 y) 55))
  obtain ⟨w2, k, hcp, hr2, hg2⟩ := copy_in x.m d.m z256 y w1.heap.size (w1.alloc (.cells (bigA z256 y) 55)).drew (unhide hrow) z256_len ((unhide R1).later below_drew).m (unhide R1).ml
  have C2 := hide (((unhide C1).later below_drew).past hg2 (unhide hsz))
  have O2 := hide ((unhide O1).keep (w' := w2) (fun g h1 h2 => (hg2.block g (Nat.lt_of_lt_of_le h2 (below_new w1 (.cells (bigA z256 y) 55)).size) (by simp; omega)).trans ((below_new w1 (.cells (bigA z256 y) 55)).block g h2)))
  have R2 := hide hr2
  clear R1 O1 hr2 hg2
  have c0 := row_m ((unhide C1).later below_drew).bx
  have CP := hide hcp
  have D0 := hide c0
  clear hcp c0
  go_wp2_with (first | (refine wpList_build60 rfl _ rfl y rfl ?_) | (refine wpList_alloc60 rfl rfl ?_) | (refine wpList_store60 rfl _ _ rfl z256 y z256_len rfl rfl ?_))
  refine wp_region_held_drew (S := fun w' => w'.cell? ⟨w.heap.size, 0, none⟩ = some (.slice x.m.a x.m.n x.m.c)) (by kernel_rfl) (unhide D0) (fun hS => ?_)
  have HS := hide hS
  clear hS
  go_simp
  refine wpAnyH_take (i := 0) (v := .pointer (some ⟨w1.heap.size, 0, none⟩)) rfl (by kernel_rfl) (by kernel_rfl) (by kernel_rfl) (fun _ _ _ h => h) (Or.inl ⟨by rfl, fun w _ => ?_⟩) (unhide HS) ?_
  · go_simp
  go_simp
  refine wpAnyH_take (i := 1) (v := .slice (some ⟨w1.heap.size, 0, none⟩) 256 256) rfl (by kernel_rfl) (by kernel_rfl) (by kernel_rfl) (fun _ _ _ h => h) (Or.inl ⟨by rfl, fun w _ => ?_⟩) (unhide HS) ?_
  · go_simp
  go_simp
  refine wpAnyH_take (i := 2) (v := .pointer (some ⟨w.heap.size, 0, none⟩)) rfl (by kernel_rfl) (by kernel_rfl) (by kernel_rfl) (fun _ _ _ h => h) (Or.inl ⟨by rfl, fun w _ => ?_⟩) (unhide HS) ?_
  · go_simp
  go_simp
  refine wpAnyH_take (i := 3) (v := .slice x.m.a x.m.n x.m.c) rfl (by kernel_rfl) (by kernel_rfl) (by kernel_rfl) (fun _ _ _ h => h) (Or.inl ⟨by rfl, fun w hc => ?_⟩) (unhide HS) ?_
  · go_simp
  go_simp
  refine wpAnyH_ready (rs := [4]) (by kernel_rfl) (by simp) ?_
  refine AllReadyH.cons rfl (fun K hK => ?_) AllReadyH.nil
  have hcp := unhide CP
  go_simp
  refine hK.out _ _ (row_m (unhide C2).bx) (fun _ => ?_)
  clear hK K hcp CP D0 HS hrow C1
  refine wpAnyH_done (by kernel_rfl) ?_ _
  go_wp2_with (first | (refine wpList_load60 rfl _ rfl w1.heap.size (laidM d.m z256) y (laidM_len z256_len) rfl (unhide R2) ?_) | (refine wpList_over60 rfl _ _ rfl (w.heap.size + 1) (laidM d.m z256) z256 y zMv (laidM_len z256_len) z256_len rfl rfl (unhide C2).re ?_))
  refine bodyPost_ret (results_cell_row (P := Tryd.prog) rfl _ _ (w.heap.size + 1) 55 (bigA (laidM d.m z256) y) (0, 0) _ rfl (setRow_heap w2 _ _ _ 55 _ (unhide C2).re) Tryd.underlying55 rfl (size60 y _ (laidM_len z256_len))) rfl ?_
  exact ⟨y, rfl, unhide FY, (unhide O2).row (by omega) _, below_setRow (unhide C2).bel (by omega) _⟩
set_option maxHeartbeats 1000000 in
theorem cell_at (g : Nat) (a : Int) (w : World) (h0 : 0 ≤ a) (h1 : a < 512) :
    Calls Tryd.prog 49 #[.pointer (some ⟨g, 0, none⟩), .int .i64 a] w fun e w' => e = .returned (.pointer (some ⟨g, (a / 2).toNat, none⟩)) ∧ w' = w := by
  obtain ⟨k, hk⟩ := Int.eq_ofNat_of_zero_le (show 0 ≤ a / 2 by omega)
  have hk2 : k < 256 := by omega
  rw [hk, show ((k : Int)).toNat = k by omega]
  have HK := hide hk
  go_enter Tryd.func49, Tryd.ntmps49
  go_wp2
  go_ret
  exact ⟨rfl, rfl⟩
end Go.Proofs.YtboedaofbchdkaaDoor

namespace Go.Proofs.YtboedaofbchdkaaDoor
open Go.ChangeShapes Go.WideShapes Go.ChangeAt Go.RowKit
set_option linter.unusedVariables false
set_option maxRecDepth 8000
set_option linter.unusedSimpArgs false
/-- Is it an address? -/
def adB (a : Int) : Bool := inB a 0 510 && (a % 2 == 0)
theorem adB_t {a : Int} (h : adB a = true) : 0 ≤ a ∧ a ≤ 510 ∧ a % 2 = 0 := by
  unfold adB inB at h
  simp at h
  omega
theorem adB_f {a : Int} (h : a < 0 ∨ 511 ≤ a ∨ a % 2 ≠ 0) : adB a = false := by
  cases hb : adB a
  · rfl
  · have := adB_t hb; omega
theorem adB_i {a : Int} (h0 : 0 ≤ a) (h1 : a ≤ 510) (h2 : a % 2 = 0) : adB a = true := by
  unfold adB inB
  simp
  omega
/-- Has it a word there? -/
def Md.has (d : Md) (a : Int) : Bool := adB a && decide (a / 2 < (d.m.length : Int))
def Md.get (d : Md) (a : Int) : Int := if d.has a = true then nAt d.m (a / 2).toNat else 0
theorem has_t {d : Md} {a : Int} (h : d.has a = true) : adB a = true ∧ a / 2 < (d.m.length : Int) := by
  unfold Md.has at h
  simpa using h
set_option maxHeartbeats 1000000 in
theorem isAddr_any (a : Int) (w : World) : Calls Tryd.prog 22 #[.int .i64 a] w fun e w' => e = .returned (.bool (adB a)) ∧ w' = w := by
  by_cases h0 : 0 ≤ a
  · by_cases h1 : a < 512
    · cases h2 : (a % 2 == 0)
      · have F := hide (adB_f (a := a) (.inr (.inr (by simpa using h2))))
        go_enter Tryd.func22, Tryd.ntmps22
        go_wp2
        go_ret
        exact ⟨ret_bool (unhide F).symm, rfl⟩
      · have e2 : a % 2 = 0 := by simpa using h2
        have F := hide (adB_i h0 (by omega) e2)
        clear e2
        go_enter Tryd.func22, Tryd.ntmps22
        go_wp2
        go_ret
        exact ⟨ret_bool (unhide F).symm, rfl⟩
    · have F := hide (adB_f (a := a) (.inr (.inl (by omega))))
      go_enter Tryd.func22, Tryd.ntmps22
      go_wp2
      go_ret
      exact ⟨ret_bool (unhide F).symm, rfl⟩
  · have F := hide (adB_f (a := a) (.inl (by omega)))
    go_enter Tryd.func22, Tryd.ntmps22
    go_wp2
    go_ret
    exact ⟨ret_bool (unhide F).symm, rfl⟩
set_option maxHeartbeats 1000000 in
theorem has_any (x : Mv) (d : Md) (a : Int) (w : World) (hl : d.m.length = x.m.n) (hs : x.m.n ≤ 1048576) : Calls Tryd.prog 28 #[.agg x.cs, .int .i64 a] w fun e w' => e = .returned (.bool (d.has a)) ∧ Below w.heap.size w w' := by
  have HB := hide ((Below.refl w.heap.size w).alloc (Nat.le_refl _) (.cells x.cs 32))
  have c0 : x.cs[0]? = some (.slice x.m.a x.m.n x.m.c) := rfl
  have I := hide (fun w => isAddr_any a w)
  unfold Md.has
  rw [hl]
  have T := hide (adB_t (a := a))
  generalize adB a = q at I T ⊢
  cases q
  · go_enter Tryd.func28, Tryd.ntmps28
    go_wp2_with (go_at_call 22; refine (unhide I _).mono ?_; rintro e w' ⟨rfl, rfl⟩)
    go_ret
    exact ⟨rfl, unhide HB⟩
  · obtain ⟨t0, t1, _⟩ := unhide T (by trivial)
    go_enter Tryd.func28, Tryd.ntmps28
    go_wp2_with (go_at_call 22; refine (unhide I _).mono ?_; rintro e w' ⟨rfl, rfl⟩)
    go_ret
    exact ⟨rfl, unhide HB⟩
end Go.Proofs.YtboedaofbchdkaaDoor

namespace Go.Proofs.YtboedaofbchdkaaDoor
open Go.ChangeShapes Go.WideShapes Go.ChangeAt Go.RowKit
set_option linter.unusedVariables false
set_option maxRecDepth 8000
set_option linter.unusedSimpArgs false
/-- Is there such a place. -/
def Md.ldB (d : Md) (r a : Int) : Bool := if r = -1 then d.has a else (inB r 0 ((d.r.length : Int) - 1) && (a == -1))
/-- What stands there. -/
def Md.ldV (d : Md) (r a : Int) : Int := if r = -1 then d.get a else if d.ldB r a = true then nAt d.r r.toNat else 0
end Go.Proofs.YtboedaofbchdkaaDoor

namespace Go.Proofs.YtboedaofbchdkaaDoor
open Go.ChangeShapes Go.WideShapes Go.ChangeAt Go.RowKit
set_option linter.unusedVariables false
set_option maxRecDepth 8000
set_option linter.unusedSimpArgs false
theorem bigA_set {mem : List Int} (y : Mv) (k : Nat) (v : Int) (hm : mem.length = 256) (hk : k < 256) : (bigA mem y).setIfInBounds k (.int .i64 v) = bigA (mem.set k v) y := by
  unfold bigA
  rw [List.setIfInBounds_toArray, List.set_append_left _ _ (by rw [cellsN_length]; omega)]
  congr 2
  unfold cellsN
  rw [List.map_set]
theorem quo2 {a : Int} {k : Nat} (h0 : 0 ≤ a) (h1 : a < 9223372036854775807) (hk : a / 2 = (k : Int)) : IntKind.i64.wrap (a.tdiv 2) = (k : Int) := by
  rw [Int.tdiv_eq_ediv_of_nonneg h0, IntKind.wrap_i64]
  omega
set_option maxHeartbeats 1000000 in
theorem setWord_any (g : Nat) (a n : Int) (mem : List Int) (y : Mv) (w : World) (h0 : 0 ≤ a) (h1 : a < 512) (hm : mem.length = 256) (hg : w.heap[g]? = some (.cells (bigA mem y) 55 (0, 0))) :
    Calls Tryd.prog 29 #[.pointer (some ⟨g, 0, none⟩), .int .i64 a, .int .i64 n] w fun e w' => e = .returned (.tuple #[]) ∧ w'.heap[g]? = some (.cells (bigA (mem.set (a / 2).toNat (n % 65536)) y) 55 (0, 0)) ∧ w.grownBy w' (some g) := by
  obtain ⟨k, hk⟩ := Int.eq_ofNat_of_zero_le (show 0 ≤ a / 2 by omega)
  have hk2 : k < 256 := by omega
  have hc : w.cell? ⟨g, k, none⟩ = some (.int .i64 (nAt mem k)) := (cell_of_row w g k _ 55 _ hg).trans (bigA_mem y hm hk2)
  have hf : w.frozen? ⟨g, k, none⟩ = false := by simp [World.frozen?, hg]
  rw [hk, show ((k : Int)).toNat = k by omega]
  have E1 := hide ((show (w.setCell ⟨g, k, none⟩ (.int .i64 (n % 65536))).heap[g]? = some (.cells (bigA (mem.set k (n % 65536)) y) 55 (0, 0)) by rw [setCell_eq_setRow w g k _ 55 (0, 0) _ hg, bigA_set y k _ hm hk2]; exact setRow_heap w g _ _ 55 _ hg))
  have E2 := hide (grownBy_set (w := w) (b := g) (o := k) (.int .i64 (n % 65536)))
  have WR := hide (fun w => wrapI_any n w)
  generalize n % 65536 = q at E1 E2 WR ⊢
  have CL := hide (fun w => cell_at g a w h0 h1)
  rw [hk, show ((k : Int)).toNat = k by omega] at CL
  clear hg hk
  go_enter Tryd.func29, Tryd.ntmps29
  go_wp2_with fail
  refine (unhide CL _).mono ?_
  rintro e w' ⟨rfl, rfl⟩
  go_wp2_with fail
  refine (unhide WR _).mono ?_
  rintro e w' ⟨rfl, rfl⟩
  go_wp2
  go_end0
  exact ⟨rfl, unhide E1, unhide E2⟩
end Go.Proofs.YtboedaofbchdkaaDoor

namespace Go.Proofs.YtboedaofbchdkaaDoor
open Go.ChangeShapes Go.WideShapes Go.ChangeAt Go.RowKit
set_option linter.unusedVariables false
set_option maxRecDepth 8000
set_option linter.unusedSimpArgs false
theorem big_cell {w : World} {g : Nat} {mem : List Int} {y : Mv} (h : w.heap[g]? = some (.cells (bigA mem y) 55 (0, 0))) (hm : mem.length = 256) (k : Nat) (v : Value) (hv : y.cs[k]? = some v) : w.cell? ⟨g, 256 + k, none⟩ = some v :=
  (cell_of_row w g _ _ 55 _ h).trans ((bigA_mach y hm).trans hv)
/-- One list written: the others stay. -/
theorem OwnM.putM {w w' : World} {B : Nat} {x : Mv} {d : Md} {ns : List Int} (h : OwnM w B x d) (hg : w.grownBy w' x.m.v.ownBlock) (hn : OwnN w' B x.m.v ns) : OwnM w' B x ⟨ns, d.r, d.i, d.o⟩ :=
  { h with
    m := hn
    r := h.r.keep fun q hv hq => hg.block q hq (fun e => h.mr q e.symm hv)
    i := h.i.keep fun q hv hq => hg.block q hq (fun e => h.mi q e.symm hv)
    o := h.o.keep fun q hv hq => hg.block q hq (fun e => h.mo q e.symm hv) }
theorem OwnM.rowN {w w2 : World} {B B' : Nat} {x : Mv} {d d' : Md} (h : OwnM w2 B x d) (h0 : OwnM w B' x d') (cs : Array Value) : OwnM (w2.setRow w.heap.size cs) B x d :=
  { h with
    m := h.m.keep fun q hv _ => setRow_other w2 _ q cs (by have := (h0.m.lt hv).2; omega)
    r := h.r.keep fun q hv _ => setRow_other w2 _ q cs (by have := (h0.r.lt hv).2; omega)
    i := h.i.keep fun q hv _ => setRow_other w2 _ q cs (by have := (h0.i.lt hv).2; omega)
    o := h.o.keep fun q hv _ => setRow_other w2 _ q cs (by have := (h0.o.lt hv).2; omega) }
def zC : Array Value := #[Value.slice none 0 0, Value.slice none 0 0, Value.bool false, Value.bool false, Value.bool false, Value.bool false, Value.slice none 0 0, Value.slice none 0 0, Value.int .i64 0]
theorem own_ne {w : World} {B g : Nat} {s : Sl} {ns : List Int} (h : OwnN w B s.v ns) (hg : g < B ∨ w.heap.size ≤ g) : some g ≠ s.v.ownBlock := fun e => by
  have := h.lt e.symm
  omega
set_option maxHeartbeats 2000000 in
theorem answer_any (g B : Nat) (mem : List Int) (y : Mv) (d : Md) (w : World) (hm : mem.length = 256) (hg : w.heap[g]? = some (.cells (bigA mem y) 55 (0, 0))) (ho : OwnM w B y d) (hB : some g ≠ y.m.v.ownBlock) :
    Calls Tryd.prog 27 #[.pointer (some ⟨g, 0, none⟩)] w fun e w' => e = .returned (.agg y.cs) ∧ OwnM w' B y ⟨mem.take d.m.length ++ d.m.drop 256, d.r, d.i, d.o⟩ ∧ w.grownBy w' y.m.v.ownBlock := by
  have b1 := (below_new w (.cells #[Value.slice none 0 0, Value.slice none 0 0, Value.bool false, Value.bool false, Value.bool false, Value.bool false, Value.slice none 0 0, Value.slice none 0 0, Value.int .i64 0] 32)).trans ((below_drew (w := w.alloc (.cells #[Value.slice none 0 0, Value.slice none 0 0, Value.bool false, Value.bool false, Value.bool false, Value.bool false, Value.slice none 0 0, Value.slice none 0 0, Value.int .i64 0] 32))).mono (below_new w (.cells #[Value.slice none 0 0, Value.slice none 0 0, Value.bool false, Value.bool false, Value.bool false, Value.bool false, Value.slice none 0 0, Value.slice none 0 0, Value.int .i64 0] 32)).size)
  have g1 := row_lat hg b1
  have r1 : (w.alloc (.cells #[Value.slice none 0 0, Value.slice none 0 0, Value.bool false, Value.bool false, Value.bool false, Value.bool false, Value.slice none 0 0, Value.slice none 0 0, Value.int .i64 0] 32)).drew.heap[w.heap.size]? = some (.cells #[Value.slice none 0 0, Value.slice none 0 0, Value.bool false, Value.bool false, Value.bool false, Value.bool false, Value.slice none 0 0, Value.slice none 0 0, Value.int .i64 0] 32 (0, 0)) := heap_alloc_last w _
  have o1 := ho.later b1
  obtain ⟨w2, k, hcp, hn, hgr⟩ := copy_out y.m d.m mem y g B (w.alloc (.cells #[Value.slice none 0 0, Value.slice none 0 0, Value.bool false, Value.bool false, Value.bool false, Value.bool false, Value.slice none 0 0, Value.slice none 0 0, Value.int .i64 0] 32)).drew g1 hm o1.m
  have O2 := hide (o1.putM hgr hn)
  have G2 := hide ((hgr.block g (row_lt g1) hB).trans g1)
  have R2 := hide ((hgr.block w.heap.size (row_lt r1) (own_ne ho.m (.inr (Nat.le_refl _)))).trans r1)
  have GR := hide (grownBy_trans (grownBy_below b1) hgr)
  have HO := hide ho
  have C1 := hide (big_cell g1 hm 0 _ rfl)
  have CP := hide hcp
  clear hcp hn hgr o1 r1 b1 ho hg
  go_enter Tryd.func27, Tryd.ntmps27
  go_wp2_with fail
  refine wp_region_held_drew (S := fun w' => w'.cell? ⟨g, 256, none⟩ = some (.slice y.m.a y.m.n y.m.c)) (by kernel_rfl) (unhide C1) (fun hS => ?_)
  have HS := hide hS
  clear hS
  refine wpAnyH_take (i := 0) (v := .pointer (some ⟨g, 0, none⟩)) rfl (by kernel_rfl) (by kernel_rfl) (by kernel_rfl) (fun _ _ _ h => h) (Or.inl ⟨by rfl, fun w hc => ?_⟩) (unhide HS) ?_
  · clear hc; go_simp
  go_simp
  refine wpAnyH_take (i := 1) (v := .pointer (some ⟨g, 0, none⟩)) rfl (by kernel_rfl) (by kernel_rfl) (by kernel_rfl) (fun _ _ _ h => h) (Or.inl ⟨by rfl, fun w hc => ?_⟩) (unhide HS) ?_
  · clear hc; go_simp
  go_simp
  refine wpAnyH_take (i := 2) (v := .pointer (some ⟨g, 256, none⟩)) rfl (by kernel_rfl) (by kernel_rfl) (by kernel_rfl) (fun _ _ _ h => h) (Or.inl ⟨by rfl, fun w hc => ?_⟩) (unhide HS) ?_
  · clear hc; go_simp
  go_simp
  refine wpAnyH_take (i := 3) (v := .pointer (some ⟨g, 256, none⟩)) rfl (by kernel_rfl) (by kernel_rfl) (by kernel_rfl) (fun _ _ _ h => h) (Or.inl ⟨by rfl, fun w hc => ?_⟩) (unhide HS) ?_
  · clear hc; go_simp
  go_simp
  refine wpAnyH_take (i := 4) (v := .slice y.m.a y.m.n y.m.c) rfl (by kernel_rfl) (by kernel_rfl) (by kernel_rfl) (fun _ _ _ h => h) (Or.inl ⟨by rfl, fun w hc => ?_⟩) (unhide HS) ?_
  · go_simp
  go_simp
  refine wpAnyH_take (i := 5) (v := .pointer (some ⟨g, 0, none⟩)) rfl (by kernel_rfl) (by kernel_rfl) (by kernel_rfl) (fun _ _ _ h => h) (Or.inl ⟨by rfl, fun w hc => ?_⟩) (unhide HS) ?_
  · clear hc; go_simp
  go_simp
  refine wpAnyH_take (i := 6) (v := .pointer (some ⟨g, 0, none⟩)) rfl (by kernel_rfl) (by kernel_rfl) (by kernel_rfl) (fun _ _ _ h => h) (Or.inl ⟨by rfl, fun w hc => ?_⟩) (unhide HS) ?_
  · clear hc; go_simp
  go_simp
  refine wpAnyH_take (i := 7) (v := .pointer (some ⟨g, 0, none⟩)) rfl (by kernel_rfl) (by kernel_rfl) (by kernel_rfl) (fun _ _ _ h => h) (Or.inl ⟨by rfl, fun w hc => ?_⟩) (unhide HS) ?_
  · clear hc; go_simp
  go_simp
  refine wpAnyH_take (i := 8) (v := .slice (some ⟨g, 0, none⟩) 256 256) rfl (by kernel_rfl) (by kernel_rfl) (by kernel_rfl) (fun _ _ _ h => h) (Or.inl ⟨by rfl, fun w hc => ?_⟩) (unhide HS) ?_
  · clear hc; go_simp
  go_simp
  refine wpAnyH_ready (rs := [9]) (by kernel_rfl) (by simp) ?_
  refine AllReadyH.cons rfl (fun K hK => ?_) AllReadyH.nil
  have hcp := unhide CP
  go_simp
  refine hK.out _ _ (big_cell (unhide G2) hm 0 _ rfl) (fun _ => ?_)
  clear hK K hcp CP HS C1
  refine wpAnyH_done (by kernel_rfl) ?_ _
  have c0 : w2.cell? ⟨g, 256, none⟩ = some (.slice y.m.a y.m.n y.m.c) := big_cell (unhide G2) hm 0 _ rfl
  have c1 : w2.cell? ⟨g, 257, none⟩ = some (.slice y.r.a y.r.n y.r.c) := big_cell (unhide G2) hm 1 _ rfl
  have c2 : w2.cell? ⟨g, 258, none⟩ = some (.bool y.n) := big_cell (unhide G2) hm 2 _ rfl
  have c3 : w2.cell? ⟨g, 259, none⟩ = some (.bool y.z) := big_cell (unhide G2) hm 3 _ rfl
  have c4 : w2.cell? ⟨g, 260, none⟩ = some (.bool y.v) := big_cell (unhide G2) hm 4 _ rfl
  have c5 : w2.cell? ⟨g, 261, none⟩ = some (.bool y.c) := big_cell (unhide G2) hm 5 _ rfl
  have c6 : w2.cell? ⟨g, 262, none⟩ = some (.slice y.i.a y.i.n y.i.c) := big_cell (unhide G2) hm 6 _ rfl
  have c7 : w2.cell? ⟨g, 263, none⟩ = some (.slice y.o.a y.o.n y.o.c) := big_cell (unhide G2) hm 7 _ rfl
  have c8 : w2.cell? ⟨g, 264, none⟩ = some (.int .i64 y.st) := big_cell (unhide G2) hm 8 _ rfl
  go_wp2_with (refine wpList_store_row rfl 32 _ _ rfl w.heap.size y.cs rfl rfl 32 zC (unhide R2) (by kernel_rfl) rfl (Mv.cs_one _) ?_)
  refine bodyPost_ret (results_cell_row (P := Tryd.prog) rfl _ _ w.heap.size 32 y.cs (0, 0) _ rfl (setRow_heap w2 _ _ _ 32 _ (unhide R2)) Tryd.underlying32 rfl (by kernel_rfl)) rfl ?_
  exact ⟨rfl, (unhide O2).rowN (unhide HO) _, grownBy_own (unhide GR) (grownBy_setRow _) (fun b e => by cases e; exact Nat.le_refl _)⟩
end Go.Proofs.YtboedaofbchdkaaDoor

namespace Go.Proofs.YtboedaofbchdkaaDoor
open Go.ChangeShapes Go.WideShapes Go.ChangeAt Go.RowKit
set_option linter.unusedVariables false
set_option maxRecDepth 8000
set_option linter.unusedSimpArgs false
theorem results_row2 {P : Program} {fn : Func} {p u : Tmp} {ty : TypeId} (h : fn.results = #[.cell p ty, .tmp u]) (tmps : Array Value) (w : World) (g : Nat) (t : TypeId) (cs : Array Value) (fr : Nat × Nat) (d : TypeDesc)
    (hp : tmps.getD p undef = .pointer (some ⟨g, 0, none⟩)) (hg : w.heap[g]? = some (.cells cs t fr))
    (hu : P.underlying ty = some d) (hd : (match d with | .struct _ | .array _ _ => true | _ => false) = true) (hi : (P.info? ty).map (·.size) = some cs.size) :
    (results fn tmps).run P w = .ok (.tuple #[.agg cs, tmps.getD u undef]) w := by
  have hp' : tmps[p]?.getD undef = .pointer (some ⟨g, 0, none⟩) := by simpa using hp
  simp [results, h, hp', asAddr, run_loadVar_row w g t ty cs fr d hg hu hd hi]
/-- What stands behind a write. -/
def Md.put (d : Md) (a n : Int) : Md := if d.has a = true then ⟨d.m.set (a / 2).toNat (n % 65536), d.r, d.i, d.o⟩ else d
theorem back_same (ns : List Int) : (laidM ns z256).take ns.length ++ ns.drop 256 = ns := by
  unfold laidM
  by_cases h : ns.length ≤ 256
  · rw [List.take_of_length_le h, List.drop_eq_nil_of_le h, List.append_nil, List.take_append_of_le_length (Nat.le_refl _), List.take_of_length_le (Nat.le_refl _)]
  · have hz : z256.drop ns.length = [] := List.drop_eq_nil_of_le (by rw [z256_len]; omega)
    rw [hz, List.append_nil, List.take_of_length_le (by rw [List.length_take]; omega), List.take_append_drop]
theorem back_set (ns : List Int) (k : Nat) (v : Int) (h : k < 256) (hk : k < ns.length) : ((laidM ns z256).set k v).take ns.length ++ ns.drop 256 = ns.set k v := by
  have hb := back_same ns
  rw [List.take_set, ← List.set_append_left _ _ (by rw [List.length_take, laidM_len z256_len]; omega), hb]
theorem Cc.pastR {w wr w' : World} {x : Mv} {row : Option Nat} (h : Cc w wr x) (hg : wr.grownBy w' row) (hr : ∀ g, row = some g → w.heap.size + 2 ≤ g) : Cc w w' x :=
  ⟨(hg.block _ (row_lt h.bx) (fun e => by have := hr _ e.symm; omega)).trans h.bx, (hg.block _ (row_lt h.re) (fun e => by have := hr _ e.symm; omega)).trans h.re, h.bel.grown hg h.bel.size (fun k e => by have := hr _ e; omega), Nat.le_trans h.sz hg.size⟩
/-- Rows that the machine's lists do not lie in may be written. -/
theorem OwnM.pastN {w w' w1 : World} {B B' : Nat} {x : Mv} {d d' : Md} (h : OwnM w B x d) (h0 : OwnM w1 B' x d') (hg : w.grownBy w' (some w1.heap.size)) : OwnM w' B x d :=
  { h with
    m := h.m.keep fun q hv hq => hg.block q hq (by have := (h0.m.lt hv).2; simp; omega)
    r := h.r.keep fun q hv hq => hg.block q hq (by have := (h0.r.lt hv).2; simp; omega)
    i := h.i.keep fun q hv hq => hg.block q hq (by have := (h0.i.lt hv).2; simp; omega)
    o := h.o.keep fun q hv hq => hg.block q hq (by have := (h0.o.lt hv).2; simp; omega) }
set_option maxHeartbeats 2000000 in
theorem writeI_any (x : Mv) (d : Md) (a n : Int) (w : World) (hs : x.small) (hz : x.nz) (hr : RdM w x d) : Calls Tryd.prog 11 #[.agg x.cs, .int .i64 a, .int .i64 n] w fun e w' => ∃ y : Mv, e = .returned (.tuple #[.agg y.cs, .bool (d.has a)]) ∧ y.fl = x.fl ∧ OwnM w' (w.heap.size + 2) y (d.put a n) ∧ Below w.heap.size w w' := by
  have C := hide (cc_new w x)
  have X := hide (hr.later (unhide C).bel)
  have M := hide (machineOf_any x d _ hs hz (unhide X))
  have HT := hide (has_t (d := d) (a := a))
  have S := hide hs
  have HL := hide hr.ml
  unfold Md.put
  obtain ⟨q, hq⟩ : ∃ q, d.has a = q := ⟨_, rfl⟩
  rw [hq] at HT ⊢
  have HQ := hide hq
  clear hr hs hz hq
  go_enter Tryd.func11, Tryd.ntmps11
  go_wp2_with (refine wpList_load_row rfl 32 _ rfl w.heap.size rfl 32 x.cs (0, 0) _ (unhide C).bx Tryd.underlying32 rfl (by kernel_rfl) ?_)
  refine (unhide M).mono ?_
  rintro e w1 ⟨y, rfl, fy, oy, hb⟩
  have FY := hide fy
  have O1 := hide (oy.base (C := w.heap.size + 2) (by have := (unhide C).sz; omega))
  have C1 := hide (((unhide C).later hb).later (below_new w1 (.cells (bigA (laidM d.m z256) y) 55)))
  have H1 := hide (has_any x d a (w1.alloc (.cells (bigA (laidM d.m z256) y) 55)) (unhide HL) (unhide S).1)
  rw [unhide HQ] at H1
  have G1 := hide (heap_alloc_last w1 (.cells (bigA (laidM d.m z256) y) 55))
  have Z1 := hide (Nat.le_trans (unhide C).sz hb.size)
  clear fy oy hb M C X
  go_wp2_with (first | (refine wpList_alloc60 rfl rfl ?_) | (refine wpList_store60 rfl _ _ rfl (laidM d.m z256) y (laidM_len z256_len) rfl rfl ?_) | (refine wpList_load_row rfl 32 _ rfl w.heap.size rfl 32 x.cs (0, 0) _ (unhide C1).bx Tryd.underlying32 rfl (by kernel_rfl) ?_))
  refine (unhide H1).mono ?_
  rintro e w2 ⟨rfl, hb⟩
  have C2 := hide ((unhide C1).later hb)
  have G2 := hide (row_lat (unhide G1) hb)
  have O2 := hide (((unhide O1).later (below_new w1 (.cells (bigA (laidM d.m z256) y) 55))).later hb)
  clear hb C1 G1 H1
  cases q
  · have A := hide (answer_any w1.heap.size (w.heap.size + 2) (laidM d.m z256) y d w2 (laidM_len z256_len) (unhide G2) (unhide O2) (own_ne (unhide O1).m (.inr (Nat.le_refl _))))
    go_wp2_with fail
    refine (unhide A).mono ?_
    rintro e w3 ⟨rfl, o3, g3⟩
    rw [back_same] at o3
    have C3 := hide ((unhide C2).pastR g3 (fun b e => ((unhide O2).m.lt e).1))
    have O3 := hide o3
    clear o3 g3 A
    go_wp2_with (refine wpList_store_row rfl 32 _ _ rfl (w.heap.size + 1) y.cs rfl rfl 32 zMv.cs (unhide C3).re (by kernel_rfl) rfl (Mv.cs_one _) ?_)
    refine bodyPost_ret (results_row2 (P := Tryd.prog) rfl _ _ (w.heap.size + 1) 32 y.cs (0, 0) _ rfl (setRow_heap w3 _ _ _ 32 _ (unhide C3).re) Tryd.underlying32 rfl (by kernel_rfl)) rfl ?_
    exact ⟨y, rfl, unhide FY, (unhide O3).row (by omega) _, below_setRow (unhide C3).bel (by omega) _⟩
  · obtain ⟨ta, tl⟩ := unhide HT (by trivial)
    obtain ⟨t0, t1, _⟩ := adB_t ta
    clear ta HT
    have W2 := hide (setWord_any w1.heap.size a n (laidM d.m z256) y w2 t0 (by omega) (laidM_len z256_len) (unhide G2))
    have TL := hide tl
    clear tl
    go_wp2_with fail
    refine (unhide W2).mono ?_
    rintro e w3 ⟨rfl, r3, g3⟩
    have G3 := hide r3
    have O3 := hide ((unhide O2).pastN (unhide O1) g3)
    have C3 := hide ((unhide C2).pastR g3 (fun b e => by cases e; exact unhide Z1))
    have A := hide (answer_any w1.heap.size (w.heap.size + 2) ((laidM d.m z256).set (a / 2).toNat (n % 65536)) y d w3 (by rw [List.length_set, laidM_len z256_len]) (unhide G3) (unhide O3) (own_ne (unhide O1).m (.inr (Nat.le_refl _))))
    rw [back_set d.m (a / 2).toNat (n % 65536) (by omega) (by have := unhide TL; omega)] at A
    clear r3 g3 W2 C2 O2 G2
    go_wp2_with fail
    refine (unhide A).mono ?_
    rintro e w4 ⟨rfl, o4, g4⟩
    have C4 := hide ((unhide C3).pastR g4 (fun b e => ((unhide O3).m.lt e).1))
    have O4 := hide o4
    clear o4 g4 A
    go_wp2_with (refine wpList_store_row rfl 32 _ _ rfl (w.heap.size + 1) y.cs rfl rfl 32 zMv.cs (unhide C4).re (by kernel_rfl) rfl (Mv.cs_one _) ?_)
    refine bodyPost_ret (results_row2 (P := Tryd.prog) rfl _ _ (w.heap.size + 1) 32 y.cs (0, 0) _ rfl (setRow_heap w4 _ _ _ 32 _ (unhide C4).re) Tryd.underlying32 rfl (by kernel_rfl)) rfl ?_
    exact ⟨y, rfl, unhide FY, (unhide O4).row (by omega) _, below_setRow (unhide C4).bel (by omega) _⟩
end Go.Proofs.YtboedaofbchdkaaDoor

namespace Go.Proofs.YtboedaofbchdkaaDoor
open Go.ChangeShapes Go.WideShapes Go.ChangeAt Go.RowKit
set_option linter.unusedVariables false
set_option maxRecDepth 8000
set_option linter.unusedSimpArgs false
theorem RdN.pastR {w w' : World} {a : Option Addr} {ns : List Int} {row : Option Nat} (h : RdN w a ns) (hg : w.grownBy w' row) (hne : ∀ b, row = some b → ns = [] ∨ ∀ ad, a = some ad → ad.block ≠ b) : RdN w' a ns := by
  rcases h with h | ⟨c, off, rfl, hlt, hc⟩
  · exact .inl h
  · by_cases h0 : ns = []
    · exact .inl h0
    exact .inr ⟨c, off, rfl, Nat.lt_of_lt_of_le hlt hg.size, fun i hi => (World.cell?_of_block (w := w) (hg.block c hlt (fun e => by
      rcases hne c e.symm with h1 | h1
      · exact h0 h1
      · exact h1 _ rfl rfl))).trans (hc i hi)⟩
end Go.Proofs.YtboedaofbchdkaaDoor

namespace Go.Proofs.YtboedaofbchdkaaDoor
open Go.ChangeShapes Go.WideShapes Go.ChangeAt Go.RowKit
set_option linter.unusedVariables false
set_option maxRecDepth 8000
set_option linter.unusedSimpArgs false
/-- One number of an owned list written. -/
theorem OwnN.set {w : World} {B b n cap : Nat} {ns : List Int} (h : OwnN w B (.slice (some ⟨b, 0, none⟩) n cap) ns) (k : Nat) (v : Int) (hk : k < ns.length) :
    OwnN (w.setCell ⟨b, k, none⟩ (.int .i64 v)) B (.slice (some ⟨b, 0, none⟩) n cap) (ns.set k v) ∧ w.grownBy (w.setCell ⟨b, k, none⟩ (.int .i64 v)) (some b) := by
  have hl : ns.length = n := by obtain ⟨a, c, e, _⟩ := h.rd; simp at e; omega
  subst hl
  have st := World.ownsRow.stored h k (.int .i64 v)
  refine ⟨?_, st.2⟩
  have e : cellsN (ns.set k v) = (cellsN ns).set k (.int .i64 v) := by unfold cellsN; rw [List.map_set]
  unfold OwnN
  rw [List.length_set, e]
  exact st.1
theorem OwnN.cellAt {w : World} {B b n cap : Nat} {ns : List Int} (h : OwnN w B (.slice (some ⟨b, 0, none⟩) n cap) ns) (k : Nat) (hk : k < ns.length) : w.cell? ⟨b, k, none⟩ = some (.int .i64 (nAt ns k)) ∧ w.frozen? ⟨b, k, none⟩ = false := by
  have hl : ns.length = n := by obtain ⟨a, c, e, _⟩ := h.rd; simp at e; omega
  subst hl
  refine ⟨?_, World.ownsRow.frozenAt h k⟩
  rw [World.ownsRow.cellAt h k (by omega)]
  simp only [cellsN, List.getElem?_map, List.getElem?_eq_getElem hk, Option.map_some, nAt, List.getD_eq_getElem?_getD, Option.getD_some]
end Go.Proofs.YtboedaofbchdkaaDoor

namespace Go.Proofs.YtboedaofbchdkaaDoor
open Go.ChangeShapes Go.WideShapes Go.ChangeAt Go.RowKit
set_option linter.unusedVariables false
set_option maxRecDepth 8000
set_option linter.unusedSimpArgs false
def Md.small (d : Md) : Prop := d.m.length ≤ 1048576 ∧ d.r.length ≤ 1048576 ∧ d.i.length ≤ 1048576 ∧ d.o.length ≤ 1048576
/-- The blocks that a machine's lists lie in. -/
def Mv.at (x : Mv) (b : Nat) : Prop := x.m.v.ownBlock = some b ∨ x.r.v.ownBlock = some b ∨ x.i.v.ownBlock = some b ∨ x.o.v.ownBlock = some b
section
variable {w w' w1 : World} {B : Nat} {x y : Mv} {d : Md} {s : Sl} {row : Option Nat}
theorem OwnM.lo (h : OwnM w B x d) {b : Nat} (hb : x.at b) : B ≤ b ∧ b < w.heap.size := by
  rcases hb with hb | hb | hb | hb
  · exact h.m.lt hb
  · exact h.r.lt hb
  · exact h.i.lt hb
  · exact h.o.lt hb
theorem OwnM.keepH (h : OwnM w B x d) (hs : ∀ g, x.at g → g < w.heap.size → w'.heap[g]? = w.heap[g]?) : OwnM w' B x d :=
  { h with m := h.m.keep fun g hv hg => hs g (.inl hv) hg, r := h.r.keep fun g hv hg => hs g (.inr (.inl hv)) hg, i := h.i.keep fun g hv hg => hs g (.inr (.inr (.inl hv))) hg, o := h.o.keep fun g hv hg => hs g (.inr (.inr (.inr hv))) hg }
end
end Go.Proofs.YtboedaofbchdkaaDoor

namespace Go.Proofs.YtboedaofbchdkaaDoor
open Go.ChangeShapes Go.WideShapes Go.ChangeAt Go.RowKit
set_option linter.unusedVariables false
set_option maxRecDepth 8000
set_option linter.unusedSimpArgs false
theorem small_md {w : World} {x : Mv} {d : Md} (h : RdM w x d) (hs : x.small) : d.small := ⟨by rw [h.ml]; exact hs.1, by rw [h.rl]; exact hs.2.1, by rw [h.il]; exact hs.2.2.1, by rw [h.ol]; exact hs.2.2.2⟩
theorem small_mv {w : World} {x : Mv} {d : Md} (h : RdM w x d) (hs : d.small) : x.small := ⟨by rw [← h.ml]; exact hs.1, by rw [← h.rl]; exact hs.2.1, by rw [← h.il]; exact hs.2.2.1, by rw [← h.ol]; exact hs.2.2.2⟩
theorem alloc_size (w : World) (o : Obj) : (w.alloc o).heap.size = w.heap.size + 1 := by simp
end Go.Proofs.YtboedaofbchdkaaDoor

namespace Go.Proofs.YtboedaofbchdkaaDoor
theorem countP_one (p p' : Nat → Bool) (i : Nat) (hp : p i = true) (hi : p' i = false) (hj : ∀ j, j ≠ i → p' j = p j) : ∀ l : List Nat, l.Nodup → i ∈ l → l.countP p' + 1 = l.countP p
  | [], _, h => by cases h
  | b :: l, hn, h => by
    rw [List.nodup_cons] at hn
    by_cases hb : b = i
    · subst hb
      have e : l.countP p' = l.countP p := List.countP_congr fun j hjl => by
        have : j ≠ b := fun e => hn.1 (e ▸ hjl)
        rw [hj j this]
      rw [List.countP_cons, List.countP_cons, hp, hi, e]
      simp
    · have ih := countP_one p p' i hp hi hj l hn.2 (by rcases List.mem_cons.1 h with h | h; exact absurd h.symm hb; exact h)
      rw [List.countP_cons, List.countP_cons, hj b hb]
      omega
theorem getD_set (listed : Array Bool) (i : Nat) (hi : i < listed.size) : (fun j => (listed.setIfInBounds i true).getD j false) = fun j => if j = i then true else listed.getD j false := by
  funext j
  by_cases h : j = i
  · subst h; simp [hi]
  · simp only [Array.getD_eq_getD_getElem?, if_neg h]
    rw [Array.getElem?_setIfInBounds_ne (fun e => h e.symm)]
section
variable {P : Program} {ops : Array Oper} {Q : Exit → Act → World → Prop}
theorem wpAny_inv (I : (Nat → Bool) → Act → World → Prop)
    (hstep : ∀ (i : Nat) (o : Oper), ops[i]? = some o → ∀ (f : Nat → Bool) (a : Act) (w : World), I f a w → f i = false → (∀ e ∈ o.after, Region.binds .any e = true → f e.on = true) →
      ∀ K : Act → World → Prop, (∀ a' w', I (fun j => if j = i then true else f j) a' w' → K a' w') → if Region.wanted o (yielded ops a.tmps) = true then Oper.wp P o a w K Q else K (a.put o.dst undef) w)
    (hdone : ∀ (f : Nat → Bool) (a : Act) (w : World), I f a w → (∀ i, i < ops.size → f i = true) → Q .normal a w)
    (hac : ∀ (i : Nat) (o : Oper), ops[i]? = some o → ∀ e ∈ o.after, e.on < i) :
    ∀ (fuel : Nat) (listed : Array Bool) (a : Act) (w : World), listed.size = ops.size → (List.range ops.size).countP (fun j => !listed.getD j false) ≤ fuel → I (fun j => listed.getD j false) a w → wpAny P .any ops Q fuel listed a w := by
  have hnil : ∀ (listed : Array Bool), listed.size = ops.size → Region.ready .any ops listed = [] → ∀ i, i < ops.size → listed.getD i false = true := by
    intro listed hsz hr i
    induction i using Nat.strongRecOn with
    | ind i ih =>
      intro hi
      cases hb : listed.getD i false with
      | true => rfl
      | false =>
        have hm : i ∈ Region.ready .any ops listed := mem_ready.2 ⟨by
          have hi' : i < listed.size := by omega
          simpa [hi'] using hb, ops[i], by simp [hi], fun e he _ => ih e.on (hac i _ (by simp [hi]) e he) (Nat.lt_trans (hac i _ (by simp [hi]) e he) hi)⟩
        rw [hr] at hm
        cases hm
  intro fuel
  induction fuel with
  | zero =>
    intro listed a w hsz hc hI
    have hall : ∀ i, i < ops.size → listed.getD i false = true := fun i hi => by
      have h0 : (List.range ops.size).countP (fun j => !listed.getD j false) = 0 := by omega
      rw [List.countP_eq_zero] at h0
      have := h0 i (List.mem_range.2 hi)
      simpa using this
    refine ⟨?_, hdone _ a w hI hall⟩
    apply List.eq_nil_iff_forall_not_mem.2
    intro i hi
    obtain ⟨h1, o, ho, _⟩ := mem_ready.1 hi
    have hi' := (Array.getElem?_eq_some_iff.1 ho).1
    have := hall i hi'
    have hi'' : i < listed.size := by omega
    simp [hi''] at this h1
    rw [this] at h1
    cases h1
  | succ fuel ih =>
    intro listed a w hsz hc hI
    refine ⟨fun hr => hdone _ a w hI (hnil listed hsz hr), fun i hi => ?_⟩
    obtain ⟨h1, o, ho, hd⟩ := mem_ready.1 hi
    have hi' := (Array.getElem?_eq_some_iff.1 ho).1
    have hi'' : i < listed.size := by omega
    have hf : listed.getD i false = false := by simpa [hi''] using h1
    refine wpOp_step ho fun K hK => ?_
    refine hstep i o ho _ a w hI hf (fun e he hb => hd e he hb) K fun a' w' hI' => hK a' w' ?_
    refine ih _ a' w' (by simpa using hsz) ?_ (by rw [getD_set listed i hi'']; exact hI')
    have := countP_one (fun j => !listed.getD j false) (fun j => !(listed.setIfInBounds i true).getD j false) i (by simp [hf]) (by
      have := congrFun (getD_set listed i hi'') i
      simp only [if_true] at this
      rw [this]; rfl) (fun j hj => by
      have := congrFun (getD_set listed i hi'') j
      simp only [if_neg hj] at this
      rw [this]) (List.range ops.size) List.nodup_range (List.mem_range.2 hi')
    omega
/-- Each operation waits for earlier ones alone. -/
def waitsB (ops : Array Oper) : Bool := (List.range ops.size).all fun i => ((ops[i]?).map fun o => o.after.all fun e => decide (e.on < i)).getD true
theorem waits_of (h : waitsB ops = true) : ∀ (i : Nat) (o : Oper), ops[i]? = some o → ∀ e ∈ o.after, e.on < i := by
  intro i o ho e he
  unfold waitsB at h
  rw [List.all_eq_true] at h
  have := h i (List.mem_range.2 (Array.getElem?_eq_some_iff.1 ho).1)
  rw [ho] at this
  simp only [Option.map_some, Option.getD_some] at this
  have := Array.all_eq_true_iff_forall_mem.1 this e he
  simpa using this
/-- The whole region: what holds of it at its beginning, behind each operation, and what that gives at its end. -/
theorem wp_region_inv {id : Nat} {a : Act} {w : World} (I : (Nat → Bool) → Act → World → Prop) (hm : P.follows .mixedOrders = true) (h0 : I (fun _ => false) a w.drew)
    (hac : waitsB ops = true)
    (hstep : ∀ (i : Nat) (o : Oper), ops[i]? = some o → ∀ (f : Nat → Bool) (a : Act) (w : World), I f a w → f i = false → (∀ e ∈ o.after, Region.binds .any e = true → f e.on = true) →
      ∀ K : Act → World → Prop, (∀ a' w', I (fun j => if j = i then true else f j) a' w' → K a' w') → if Region.wanted o (yielded ops a.tmps) = true then Oper.wp P o a w K Q else K (a.put o.dst undef) w)
    (hdone : ∀ (f : Nat → Bool) (a : Act) (w : World), I f a w → (∀ i, i < ops.size → f i = true) → Q .normal a w) : (Code.region id ops true).wp P Q a w := by
  refine wp_region_any hm ?_
  refine wpAny_inv I hstep hdone (waits_of hac) ops.size _ a _ (by simp) ?_ ?_
  · exact Nat.le_trans (List.countP_le_length) (by simp)
  · have e : (fun j => (Array.replicate ops.size false).getD j false) = fun _ => false := by
      funext j
      simp only [Array.getD_eq_getD_getElem?]
      by_cases hj : j < ops.size
      · rw [Array.getElem?_eq_getElem (by simpa using hj)]; simp
      · rw [Array.getElem?_eq_none (by simpa using hj)]; rfl
    rw [e]
    exact h0
end
end Go.Proofs.YtboedaofbchdkaaDoor

namespace Go.Proofs.YtboedaofbchdkaaDoor
open Go.ChangeShapes Go.WideShapes Go.ChangeAt Go.RowKit
set_option linter.unusedVariables false
set_option maxRecDepth 8000
set_option linter.unusedSimpArgs false
/-- Can a machine be made of this? -/
def newB (im : List Int) (a st : Int) (ins : List Int) : Bool :=
  inB a 0 510 && ((a % 2 == 0) && (decide ((im.length : Int) ≤ 256 - a / 2) && (wdB im && (inB st 0 65535 && (decide ((ins.length : Int) ≤ 50) && wdB ins)))))
/-- Numbers laid over a list from a place on. -/
def over (ns : List Int) (k : Nat) (im : List Int) : List Int := ns.take k ++ (im ++ ns.drop (k + im.length))
def newR (st : Int) : List Int := [0, 0, 0, 0, 0, 0, 512, st]
/-- What a new machine holds. -/
def newD (im : List Int) (a st : Int) (ins : List Int) : Md := if newB im a st ins = true then ⟨over z256 (a / 2).toNat im, newR st, ins, []⟩ else ⟨[], [], [], []⟩
theorem ap_none (s t : Sl) (h : s.a = none) : Ap s t := fun g e _ => by unfold Sl.v at e; rw [h] at e; simp [Value.ownBlock] at e
theorem own_zero (w : World) (B : Nat) : OwnM w B zMv ⟨[], [], [], []⟩ :=
  ⟨ownN_none _ _, ownN_none _ _, ownN_none _ _, ownN_none _ _, ap_none _ _ rfl, ap_none _ _ rfl, ap_none _ _ rfl, ap_none _ _ rfl, ap_none _ _ rfl, ap_none _ _ rfl⟩
theorem inB_t (x a b : Int) (h : a ≤ x ∧ x ≤ b) : inB x a b = true := by simp [inB, h]
theorem inB_b {x a b : Int} (h : inB x a b = true) : a ≤ x ∧ x ≤ b := by unfold inB at h; simpa using h
end Go.Proofs.YtboedaofbchdkaaDoor

namespace Go.Proofs.YtboedaofbchdkaaDoor
open Go.ChangeShapes Go.WideShapes Go.ChangeAt Go.RowKit
set_option linter.unusedVariables false
set_option maxRecDepth 8000
set_option linter.unusedSimpArgs false
/-- The cells of so many noughts. -/
def zA (n : Nat) : Array Value := (cellsN (List.replicate n 0)).toArray
theorem zA_size (n : Nat) : (zA n).size = n := by simp [zA, cellsN]
theorem made256 : madeCells #[Value.int .i64 0] 256 = zA 256 := by kernel_rfl
theorem made8 : madeCells #[Value.int .i64 0] 8 = zA 8 := by kernel_rfl
section
variable {o : Oper} {a : Act} {w : World} {K : Act → World → Prop} {Q : Exit → Act → World → Prop}
theorem wp_make (n : Nat) (hn : madeCells #[Value.int .i64 0] n = zA n) (hb : n ≤ 1048576) (ho : o.op = .makeSlice 25 (.const (.int .i64 (n : Int))) (.const (.int .i64 (n : Int))))
    (h : K (a.put o.dst (.slice (some ⟨w.heap.size, 0, none⟩) n n)) (w.alloc (.cells (zA n) 3))) : o.wp Tryd.prog a w K Q := by
  have hr := run_make_row' (P := Tryd.prog) 25 3 (.int .i64 0) 8 Tryd.underlying25 info3 rfl .i64 .i64 n (by omega) (by omega) w
  rw [hn] at hr
  unfold Oper.wp execOp
  simp only [ho, Act.eval, hr, Sem.run_bind, Sem.run_pure, Result.andThen_ok]
  exact h
/-- 'append(v, s...)' as one operation: where the answer lies, too. -/
theorem wp_app (p q : Operand) (ho : o.op = .call { callee := .builtin .append, args := #[p, q], argTypes := #[25, 25] })
    (B : Nat) (v : Value) (xs : List Int) (hs : a.eval p = v) (hown : OwnN w B v xs) (s : Sl) (ns : List Int) (hx : a.eval q = .slice s.a s.n s.c) (hr : RdN w s.a ns) (hl : ns.length = s.n) (hz : s.nz) (hm : xs.length + s.n ≤ 4194304) (hB : B ≤ w.heap.size)
    (h : ∀ v' w', OwnN w' B v' (xs ++ ns) → w.grownBy w' v.ownBlock → (v'.ownBlock = v.ownBlock ∨ v'.ownBlock = some w.heap.size) → K (a.put o.dst v') w') : o.wp Tryd.prog a w K Q := by
  obtain ⟨i0, hi, hz0, hz1, hz2⟩ := info_parts info3
  obtain ⟨sa, sn, sc⟩ := s
  simp only at hx hr hl hm
  cases sa with
  | none =>
    have h0 : ns = [] := by
      rcases hr with h0 | ⟨_, _, e, _⟩
      · exact h0
      · cases e
    subst h0
    have hn : sn = 0 := by simp at hl; omega
    have hc : sc = 0 := hz rfl
    subst hn hc
    have hrun := run_append_owned_none (P := Tryd.prog) (w := w) B 25 o.type 3 i0 1 Tryd.underlying25 hi v xs.length (cellsN xs) hown
    have hk := h v w (by rw [List.append_nil]; exact hown) (World.grownBy.refl _ _) (.inl rfl)
    unfold Oper.wp
    simp [execOp, ho, resolve, invoke, builtin, hs, hx, hrun, Result.andThen]
    exact hk
  | some ad =>
    obtain ⟨v', w', hr', h2, h3, _, h5⟩ := run_append_own_at (P := Tryd.prog) w B 25 o.type 3 i0 (.int .i64 0) 1 8 Tryd.underlying25 hi hz0 hz1 hz2 rfl (by decide) v xs.length (cellsN xs) hown ad sn sc (cellsN ns) (by rw [cellsN_length]; omega) (rdN_cells hr) (cellsN_one _) (by unfold maxLen; omega) (by omega) hB
    unfold Oper.wp execOp
    simp only [ho, resolve, invoke, builtin, Sem.run_bind, Sem.run_pure, Result.andThen_ok, List.map_toArray, List.map_cons, List.map_nil, hs, hx, hr']
    refine h v' w' ?_ h3 h5
    unfold OwnN
    rw [cellsN_append, List.length_append, hl]
    exact h2
theorem wp_move (x : Operand) (ho : o.op = .move x) (h : K (a.put o.dst (a.eval x)) w) : o.wp Tryd.prog a w K Q := by
  unfold Oper.wp execOp
  simp only [ho, Sem.run_bind, Sem.run_pure, Result.andThen_ok]
  exact h
end
theorem own_made {w : World} {g n B : Nat} (h : w.heap[g]? = some (.cells (zA n) 3 (0, 0))) (hB : B ≤ g) (hn : n ≤ 1048576) : OwnN w B (.slice (some ⟨g, 0, none⟩) n n) (List.replicate n 0) := by
  unfold OwnN
  rw [List.length_replicate]
  refine ⟨by rw [cellsN_length, List.length_replicate]; omega, .inr ⟨g, n, zA n, rfl, hB, h, Nat.le_refl _, by unfold maxLen; omega, by rw [zA_size]; omega, ?_⟩⟩
  unfold zA
  rw [List.toList_toArray, List.take_of_length_le (by rw [cellsN_length, List.length_replicate]; omega)]
end Go.Proofs.YtboedaofbchdkaaDoor

namespace Go.Proofs.YtboedaofbchdkaaDoor
open Go.ChangeShapes Go.WideShapes Go.ChangeAt Go.RowKit
set_option linter.unusedVariables false
set_option maxRecDepth 8000
set_option linter.unusedSimpArgs false
theorem newB_parts {im : List Int} {a st : Int} {ins : List Int} (h : newB im a st ins = true) : inB a 0 510 = true ∧ a % 2 = 0 ∧ (im.length : Int) ≤ 256 - a / 2 ∧ wdB im = true ∧ inB st 0 65535 = true ∧ (ins.length : Int) ≤ 50 ∧ wdB ins = true := by
  unfold newB at h
  simpa using h
section
variable {w w' : World} {ins : Sl} {nn : List Int} {b0 b1 b2 b3 b4 b5 b6 b7 : Bool} {v9 v48 v49 v50 v51 v52 v53 : Value}
end
end Go.Proofs.YtboedaofbchdkaaDoor

namespace Go.Proofs.YtboedaofbchdkaaDoor
open Go.ChangeShapes Go.WideShapes Go.ChangeAt Go.RowKit
set_option linter.unusedVariables false
set_option maxRecDepth 8000
set_option linter.unusedSimpArgs false
theorem no {p : Prop} (h : false = true) : p := by cases h
theorem f_no {b c : Bool} (h : b = true → c = true) (hc : c = false) : b = false := by
  cases hb : b
  · rfl
  · rw [h hb] at hc; cases hc
theorem built28 (s0 s1 s2 : Sl) : Tryd.prog.built 32 [(0, s0.v), (1, s1.v), (6, s2.v)] = some #[s0.v, s1.v, .bool false, .bool false, .bool false, .bool false, s2.v, .slice none 0 0, .int .i64 0] := by kernel_rfl
theorem wp_build28 {o : Oper} {a : Act} {w : World} {K : Act → World → Prop} {Q : Exit → Act → World → Prop} (x0 x1 x2 : Operand) (ho : o.op = .build 32 #[(0, x0), (1, x1), (6, x2)]) (s0 s1 s2 : Sl) (h0 : a.eval x0 = s0.v) (h1 : a.eval x1 = s1.v) (h2 : a.eval x2 = s2.v)
    (h : K (a.put o.dst (.agg #[s0.v, s1.v, .bool false, .bool false, .bool false, .bool false, s2.v, .slice none 0 0, .int .i64 0])) w) : o.wp Tryd.prog a w K Q := by
  have e : Tryd.prog.built 32 ((#[(0, x0), (1, x1), (6, x2)] : Array (Nat × Operand)).map fun (i, x) => (i, a.eval x)).toList = some #[s0.v, s1.v, .bool false, .bool false, .bool false, .bool false, s2.v, .slice none 0 0, .int .i64 0] := by
    simp only [List.map_toArray, List.map_cons, List.map_nil, h0, h1, h2]
    exact built28 s0 s1 s2
  refine wp_build 32 _ ho (by rw [e]; rfl) ?_
  rw [e]
  exact h
theorem over_nil (ns : List Int) (k : Nat) : over ns k [] = ns := by simp [over]
theorem over_len (ns im : List Int) (k : Nat) (h : k + im.length ≤ ns.length) : (over ns k im).length = ns.length := by
  unfold over
  simp only [List.length_append, List.length_take, List.length_drop]
  omega
theorem over_set (ns im : List Int) (k j : Nat) (hj : j < im.length) (h : k + im.length ≤ ns.length) : (over ns k (im.take j)).set (k + j) (nAt im j) = over ns k (im.take (j + 1)) := by
  have e1 : (im.take j).length = j := by rw [List.length_take]; omega
  have e2 : (im.take (j + 1)).length = j + 1 := by rw [List.length_take]; omega
  have e3 : (ns.take k).length = k := by rw [List.length_take]; omega
  unfold over
  rw [e1, e2, take_nAt im j hj]
  have e4 : ns.drop (k + j) = ns[k + j]'(by omega) :: ns.drop (k + (j + 1)) := List.drop_eq_getElem_cons (by omega)
  rw [e4, List.set_append_right _ _ (by omega), e3, List.set_append_right _ _ (by omega), e1, show k + j - k - j = 0 by omega, List.set_cons_zero, List.append_assoc]
  rfl
theorem OwnM.putR {w w' : World} {B : Nat} {x : Mv} {d : Md} {ns : List Int} (h : OwnM w B x d) (hg : w.grownBy w' x.r.v.ownBlock) (hn : OwnN w' B x.r.v ns) : OwnM w' B x ⟨d.m, ns, d.i, d.o⟩ :=
  { h with
    r := hn
    m := h.m.keep fun q hv hq => hg.block q hq (fun e => h.mr q hv e.symm)
    i := h.i.keep fun q hv hq => hg.block q hq (fun e => h.ri q e.symm hv)
    o := h.o.keep fun q hv hq => hg.block q hq (fun e => h.ro q e.symm hv) }
section
variable {w w' : World} {ins : Sl} {nn : List Int} {f : Nat → Bool} {v9 v48 v49 v50 v51 v52 v53 : Value}
end
end Go.Proofs.YtboedaofbchdkaaDoor

namespace Go.Proofs.YtboedaofbchdkaaDoor
open Go.ChangeShapes Go.WideShapes Go.ChangeAt Go.RowKit
set_option linter.unusedVariables false
set_option maxRecDepth 8000
set_option linter.unusedSimpArgs false
/-- What is there behind a store. -/
def Md.stD (d : Md) (r a n : Int) : Md := if r = -1 then d.put a n else if d.ldB r a = true then ⟨d.m, d.r.set r.toNat (n % 65536), d.i, d.o⟩ else d
section
variable {w wr w' : World} {x : Mv} {r a : Int}
end
theorem sl_formP {w : World} {B : Nat} {s : Sl} {ns : List Int} (h : OwnN w B s.v ns) (h0 : 0 < ns.length) : ∃ g c, s = ⟨some ⟨g, 0, none⟩, ns.length, c⟩ := by
  obtain ⟨sa, sn, sc⟩ := s
  rcases h.form with ⟨_, e0⟩ | ⟨g, cap, e, _⟩
  · rw [e0] at h0; simp at h0
  · unfold Sl.v at e
    simp at e
    exact ⟨g, cap, by rw [e.1, e.2.1, e.2.2]⟩
/-- One register of an owned machine written. -/
theorem own_setR {w : World} {B gr n c : Nat} {y : Mv} {d : Md} (O : OwnM w B y d) (e : y.r = ⟨some ⟨gr, 0, none⟩, n, c⟩) (k : Nat) (v : Int) (hk : k < d.r.length) :
    OwnM (w.setCell ⟨gr, k, none⟩ (.int .i64 v)) B y ⟨d.m, d.r.set k v, d.i, d.o⟩ ∧ w.grownBy (w.setCell ⟨gr, k, none⟩ (.int .i64 v)) (some gr) ∧ B ≤ gr ∧ gr < w.heap.size ∧ w.cell? ⟨gr, k, none⟩ = some (.int .i64 (nAt d.r k)) ∧ w.frozen? ⟨gr, k, none⟩ = false := by
  have ev : y.r.v = .slice (some ⟨gr, 0, none⟩) n c := by rw [e]; rfl
  have o := O.r
  rw [ev] at o
  obtain ⟨c1, c2⟩ := o.cellAt k hk
  have st := o.set k v hk
  have lt := o.lt (g := gr) rfl
  exact ⟨O.putR (by rw [ev]; exact st.2) (by rw [ev]; exact st.1), st.2, lt.1, lt.2, c1, c2⟩
theorem row_past {w w' : World} {g gr : Nat} {o : Obj} (h : w.heap[g]? = some o) (hg : w.grownBy w' (some gr)) (hne : gr ≠ g) : w'.heap[g]? = some o := (hg.block g (row_lt h) (fun e => hne (by cases e; rfl))).trans h
end Go.Proofs.YtboedaofbchdkaaDoor

namespace Go.Proofs.YtboedaofbchdkaaDoor
open Go.ChangeShapes Go.WideShapes Go.ChangeAt Go.RowKit
set_option linter.unusedVariables false
set_option maxRecDepth 8000
set_option linter.unusedSimpArgs false
/-- A register set. -/
def Md.reg (d : Md) (k : Nat) (v : Int) : Md := ⟨d.m, d.r.set k v, d.i, d.o⟩
/-- Behind a fetch. -/
def Md.fet (d : Md) : Md := if d.has (nAt d.r 7) = true then d.reg 7 ((nAt d.r 7 + 2) % 65536) else d
section
variable {w w' : World} {g B gr rc : Nat} {x : Mv} {d : Md}
end
end Go.Proofs.YtboedaofbchdkaaDoor
