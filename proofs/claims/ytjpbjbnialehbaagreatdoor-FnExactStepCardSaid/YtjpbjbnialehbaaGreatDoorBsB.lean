/- Contracts over this seat's translation, laid together; conditions stand as hypotheses of each. -/
import Derived.Test.YtjpbjbnialehbaaGreatDoorBsA
import Derived.Maps.AppendAt
import Derived.Orders
import Derived.RegionTactic
import Derived.Great.Walk
import Derived.Laws.CopyOwn

namespace Go.Proofs.YtjpbjbnialehbaaGreatDoor
open Go.ChangeShapes Go.WideShapes Go.ChangeAt Go.RowKit
set_option linter.unusedVariables false
set_option maxRecDepth 8000
set_option linter.unusedSimpArgs false
def z256 : List Int := List.replicate 256 0
theorem z256_len : z256.length = 256 := List.length_replicate ..
/-- The cells of a memory and a machine. -/
def bigA (mem : List Int) (y : Mv) : Array Value := (cellsN mem ++ y.cs.toList).toArray
theorem info60 : (Tryz.prog.info? 44).map (fun i => (i.zero, i.size)) = some (some (.agg (bigA z256 zMv)), 265) := by kernel_rfl
theorem built60 (y : Mv) : Tryz.prog.built 44 [(1, .agg y.cs)] = some (bigA z256 y) := by kernel_rfl
theorem bigA_size {mem : List Int} (y : Mv) (h : mem.length = 256) : (bigA mem y).size = 265 := by
  simp [bigA, cellsN_length, h, Mv.cs]
theorem bigA_one (mem : List Int) (y : Mv) : (bigA mem y).all (·.oneCell') = true := by
  rw [Array.all_eq_true_iff_forall_mem]
  intro v hv
  simp only [bigA, List.mem_toArray, List.mem_append] at hv
  rcases hv with hv | hv
  · exact cellsN_one _ v hv
  · exact Array.all_eq_true_iff_forall_mem.1 (Mv.cs_one y) v (by simpa using hv)
theorem bigA_mem {mem : List Int} (y : Mv) {j : Nat} (h : mem.length = 256) (hj : j < 256) : (bigA mem y)[j]? = some (.int .i64 (nAt mem j)) := by
  simp only [bigA, List.getElem?_toArray]
  rw [List.getElem?_append_left (by rw [cellsN_length]; omega)]
  simp [cellsN, nAt, List.getElem?_eq_getElem (show j < mem.length by omega)]
theorem bigA_mach {mem : List Int} (y : Mv) {k : Nat} (h : mem.length = 256) : (bigA mem y)[256 + k]? = y.cs[k]? := by
  simp only [bigA, List.getElem?_toArray]
  rw [List.getElem?_append_right (by rw [cellsN_length]; omega), cellsN_length, h]
  simp
theorem wpList_alloc60 {w : World} {ops : Array Oper} {rest : List Oper} {o : Oper} {a : Act} {Q : Exit → Act → World → Prop} (hgd : o.guard = none) (ho : o.op = .alloc 44)
    (h : wpList Tryz.prog ops Q rest (a.put o.dst (.pointer (some ⟨w.heap.size, 0, none⟩))) (w.alloc (.cells (bigA z256 zMv) 44))) : wpList Tryz.prog ops Q (o :: rest) a w := by
  have hz := (zero_of_info info60).1
  refine wpList_plain hgd fun K hK => ?_
  unfold Oper.wp execOp
  simp only [ho, Instr.alloc, hz, Sem.run_bind, Sem.run_pure, Result.andThen_ok]
  simp [go_sem]
  exact hK _ _ h
theorem wpList_build60 {w : World} {ops : Array Oper} {rest : List Oper} {o : Oper} {a : Act} {Q : Exit → Act → World → Prop} (hgd : o.guard = none) (x : Operand) (ho : o.op = .build 44 #[(1, x)]) (y : Mv) (hx : a.eval x = .agg y.cs)
    (h : wpList Tryz.prog ops Q rest (a.put o.dst (.agg (bigA z256 y))) w) : wpList Tryz.prog ops Q (o :: rest) a w := by
  refine wpList_buildTo hgd 44 _ ho _ rfl (bigA z256 y) ?_ h
  simp only [List.map_toArray, List.map_cons, List.map_nil, hx]
  exact built60 y
theorem size60 (y : Mv) (mem : List Int) (h : mem.length = 256) : (Tryz.prog.info? 44).map (·.size) = some (bigA mem y).size := by
  rw [bigA_size y h]
  kernel_rfl
/-- A memory and a machine stored whole into the row made last. -/
theorem wpList_store60 {w : World} {ops : Array Oper} {rest : List Oper} {o : Oper} {a : Act} {Q : Exit → Act → World → Prop} (hgd : o.guard = none) (x z : Operand) (ho : o.op = .store 44 x z) (mem : List Int) (y : Mv) (hm : mem.length = 256)
    (hx : a.eval x = .pointer (some ⟨w.heap.size, 0, none⟩)) (hy : a.eval z = .agg (bigA mem y)) (h : wpList Tryz.prog ops Q rest (a.put o.dst undef) (w.alloc (.cells (bigA mem y) 44))) : wpList Tryz.prog ops Q (o :: rest) a (w.alloc (.cells (bigA z256 zMv) 44)) :=
  wpList_store_new hgd 44 x z ho (bigA mem y) hx hy _ (size60 y mem hm) (by rw [bigA_size y hm, bigA_size zMv z256_len]) (bigA_one _ _) h
/-- A memory and a machine loaded whole. -/
theorem wpList_load60 {w : World} {ops : Array Oper} {rest : List Oper} {o : Oper} {a : Act} {Q : Exit → Act → World → Prop} (hgd : o.guard = none) (x : Operand) (ho : o.op = .load 44 x) (g : Nat) (mem : List Int) (y : Mv) (hm : mem.length = 256)
    (hx : a.eval x = .pointer (some ⟨g, 0, none⟩)) (hg : w.heap[g]? = some (.cells (bigA mem y) 44 (0, 0))) (h : wpList Tryz.prog ops Q rest (a.put o.dst (.agg (bigA mem y))) w) : wpList Tryz.prog ops Q (o :: rest) a w :=
  wpList_load_row hgd 44 x ho g hx 44 (bigA mem y) (0, 0) _ hg Tryz.underlying44 rfl (size60 y mem hm) h
/-- A memory and a machine stored whole into a row that holds one. -/
theorem wpList_over60 {w : World} {ops : Array Oper} {rest : List Oper} {o : Oper} {a : Act} {Q : Exit → Act → World → Prop} (hgd : o.guard = none) (x z : Operand) (ho : o.op = .store 44 x z) (g : Nat) (mem mem0 : List Int) (y y0 : Mv) (hm : mem.length = 256) (hm0 : mem0.length = 256)
    (hx : a.eval x = .pointer (some ⟨g, 0, none⟩)) (hy : a.eval z = .agg (bigA mem y)) (hg : w.heap[g]? = some (.cells (bigA mem0 y0) 44 (0, 0))) (h : wpList Tryz.prog ops Q rest (a.put o.dst undef) (w.setRow g (bigA mem y))) : wpList Tryz.prog ops Q (o :: rest) a w :=
  wpList_store_row hgd 44 x z ho g (bigA mem y) hx hy 44 (bigA mem0 y0) hg (size60 y mem hm) (by rw [bigA_size y hm, bigA_size y0 hm0]) (bigA_one _ _) h
theorem grownBy_setRow {w : World} {g : Nat} (cs : Array Value) : w.grownBy (w.setRow g cs) (some g) :=
  ⟨rfl, rfl, rfl, by simp [World.setRow], fun k _ hk => setRow_other w g k cs (fun e => hk (by rw [e]))⟩
theorem info3s : (Tryz.prog.info? 3).map (·.size) = some 1 := by kernel_rfl
/-- What a copy leaves: the first of the list over the memory. -/
def laidM (ns mem : List Int) : List Int := ns.take 256 ++ mem.drop ns.length
theorem laidM_len {ns mem : List Int} (h : mem.length = 256) : (laidM ns mem).length = 256 := by
  unfold laidM
  rw [List.length_append, List.length_take, List.length_drop, h]
  omega
theorem copy_in (s : Sl) (ns mem : List Int) (y : Mv) (g : Nat) (w : World) (hg : w.heap[g]? = some (.cells (bigA mem y) 44 (0, 0))) (hmem : mem.length = 256) (hr : RdN w s.a ns) (hl : ns.length = s.n) :
    ∃ (w' : World) (k : Int), (∀ ty, (Builtin.copy_ #[24, 24] ty #[.slice (some ⟨g, 0, none⟩) 256 256, .slice s.a s.n s.c]).run Tryz.prog w = .ok (.int .i64 k) w') ∧ w'.heap[g]? = some (.cells (bigA (laidM ns mem) y) 44 (0, 0)) ∧ w.grownBy w' (some g) := by
  by_cases h0 : ns = []
  · subst h0
    have hn : s.n = 0 := by simpa using hl.symm
    refine ⟨w, 0, fun ty => ?_, by simpa [laidM] using hg, World.grownBy.refl _ _⟩
    have := run_copy_none (P := Tryz.prog) w 24 24 ty 3 (some ⟨g, 0, none⟩) s.a 256 256 s.n s.c Tryz.underlying24 info3s (by rw [hn]; rfl)
    simpa [goInt] using this
  · rcases hr with h1 | ⟨b, off, ha, hb, hc⟩
    · exact absurd h1 h0
    have hrd : RdN w (some ⟨b, off, none⟩) (ns.take 256) := .inr ⟨b, off, rfl, hb, fun i hi => by
      have hi' : i < ns.length ∧ i < 256 := by simp at hi; omega
      rw [hc i hi'.1]
      congr 2
      unfold nAt
      rw [List.getD_eq_getElem?_getD, List.getD_eq_getElem?_getD, List.getElem?_take, if_pos hi'.2]⟩
    refine ⟨_, _, fun ty => by rw [ha]; exact run_copy_row (P := Tryz.prog) w 24 24 ty 3 g 0 256 256 ⟨b, off, none⟩ s.n s.c (bigA mem y) 44 (cellsN (ns.take 256)) Tryz.underlying24 info3s hg (by rw [cellsN_length, List.length_take, hl, Nat.min_comm]) (rdN_cells hrd) (by rw [cellsN_length, List.length_take, bigA_size y hmem]; omega) (cellsN_one _), ?_, grownBy_setRow _⟩
    rw [setRow_heap w g _ _ 44 _ hg]
    congr 2
    unfold bigA laidM
    congr 1
    rw [List.take_zero, List.nil_append, Nat.zero_add, cellsN_length, cellsN_append, List.append_assoc]
    congr 1
    rw [List.toList_toArray, List.drop_append]
    have e1 : (cellsN mem).drop (ns.take 256).length = cellsN (mem.drop ns.length) := by
      unfold cellsN
      rw [← List.map_drop]
      congr 1
      rw [List.length_take]
      by_cases h : ns.length ≤ 256
      · rw [Nat.min_eq_right h]
      · rw [List.drop_eq_nil_of_le (by omega), List.drop_eq_nil_of_le (by omega)]
    rw [e1, cellsN_length, show (ns.take 256).length - mem.length = 0 by rw [List.length_take]; omega]
    rfl
theorem copy_out (s : Sl) (ns mem : List Int) (y : Mv) (g B : Nat) (w : World) (hg : w.heap[g]? = some (.cells (bigA mem y) 44 (0, 0))) (hmem : mem.length = 256) (ho : OwnN w B s.v ns) :
    ∃ (w' : World) (k : Int), (∀ ty, (Builtin.copy_ #[24, 24] ty #[.slice s.a s.n s.c, .slice (some ⟨g, 0, none⟩) 256 256]).run Tryz.prog w = .ok (.int .i64 k) w') ∧ OwnN w' B s.v (mem.take ns.length ++ ns.drop 256) ∧ w.grownBy w' s.v.ownBlock := by
  have hlen := ho.len
  obtain ⟨h1, ⟨h2, h3⟩ | ⟨gm, cap, cur, e, hB, hh, hn, hm, hs, ht⟩⟩ := id ho
  · obtain rfl : ns = [] := List.eq_nil_of_length_eq_zero h3
    have hn : s.n = 0 := by simpa using hlen.symm
    refine ⟨w, 0, fun ty => ?_, by simpa using ho, World.grownBy.refl _ _⟩
    have := run_copy_none (P := Tryz.prog) w 24 24 ty 3 s.a (some ⟨g, 0, none⟩) s.n s.c 256 256 Tryz.underlying24 info3s (by rw [hn]; rfl)
    simpa [goInt] using this
  · obtain ⟨sa, sn, sc⟩ := s
    unfold Sl.v at e
    simp at e
    obtain ⟨rfl, hsn, rfl⟩ := e
    simp only at hlen
    have hrd : RdN w (some ⟨g, 0, none⟩) (mem.take ns.length) := .inr ⟨g, 0, rfl, row_lt hg, fun i hi => by
      have hi' : i < ns.length ∧ i < 256 := by simp at hi; omega
      rw [cell_of_row w g _ _ 44 _ hg, Nat.zero_add, bigA_mem y hmem hi'.2]
      congr 2
      unfold nAt
      rw [List.getD_eq_getElem?_getD, List.getD_eq_getElem?_getD, List.getElem?_take, if_pos hi'.1]⟩
    have hcl : (cellsN (mem.take ns.length)).length = Nat.min 256 sn := by rw [cellsN_length, List.length_take, hmem, hlen, Nat.min_comm]
    have hmn : Nat.min 256 sn ≤ sn := Nat.min_le_right _ _
    refine ⟨_, _, fun ty => run_copy_row (P := Tryz.prog) w 24 24 ty 3 gm 0 sn sc ⟨g, 0, none⟩ 256 256 cur 3 (cellsN (mem.take ns.length)) Tryz.underlying24 info3s hh hcl (rdN_cells hrd) (by rw [hcl]; omega) (cellsN_one _), ?_, grownBy_setRow _⟩
    have hL : (mem.take ns.length ++ ns.drop 256).length = ns.length := by rw [List.length_append, List.length_take, List.length_drop, hmem]; omega
    unfold OwnN
    rw [hL]
    refine ⟨by rw [cellsN_length, hL]; omega, .inr ⟨gm, sc, _, ?_, hB, setRow_heap w gm _ _ 3 _ hh, hn, hm, ?_, ?_⟩⟩
    · unfold Sl.v; simp [hsn]
    · simp only [List.size_toArray, List.length_append, List.length_take, List.length_drop, Array.length_toList, cellsN_length, hmem]
      omega
    · rw [List.toList_toArray, List.take_zero, List.nil_append, Nat.zero_add, cellsN_length, cellsN_append, Nat.mul_one]
      have hq : (mem.take ns.length).length = min 256 ns.length := by rw [List.length_take, hmem, Nat.min_comm]
      rw [List.take_append, cellsN_length, List.take_of_length_le (by rw [cellsN_length, hq]; omega)]
      congr 1
      rw [hq, List.take_drop]
      have e2 : min 256 ns.length + (ns.length - min 256 ns.length) = ns.length * 1 := by omega
      rw [e2, ht]
      unfold cellsN
      rw [← List.map_drop]
      congr 1
      by_cases h : ns.length ≤ 256
      · rw [Nat.min_eq_right h, List.drop_eq_nil_of_le (Nat.le_refl _), List.drop_eq_nil_of_le h]
      · rw [Nat.min_eq_left (by omega)]
end Go.Proofs.YtjpbjbnialehbaaGreatDoor

namespace Go.Proofs.YtjpbjbnialehbaaGreatDoor
open Go.ChangeShapes Go.WideShapes Go.ChangeAt Go.RowKit
set_option linter.unusedVariables false
set_option maxRecDepth 8000
set_option linter.unusedSimpArgs false
/-- While a machine is made: its box, the answer's place. -/
structure Mo (w wr : World) (x : Mv) : Prop where
  bx : wr.heap[w.heap.size]? = some (.cells x.cs 26 (0, 0))
  re : wr.heap[w.heap.size + 1]? = some (.cells (bigA z256 zMv) 44 (0, 0))
  bel : Below w.heap.size w wr
  sz : w.heap.size + 2 ≤ wr.heap.size
section
variable {w wr w' : World} {x : Mv}
theorem Mo.later (h : Mo w wr x) (hb : Below wr.heap.size wr w') : Mo w w' x :=
  ⟨row_lat h.bx hb, row_lat h.re hb, h.bel.trans (hb.mono (by have := h.bel.size; omega)), Nat.le_trans h.sz hb.size⟩
theorem Mo.past {g : Nat} (h : Mo w wr x) (hg : wr.grownBy w' (some g)) (hB : w.heap.size + 2 ≤ g) : Mo w w' x :=
  ⟨(hg.block _ (row_lt h.bx) (by simp; omega)).trans h.bx, (hg.block _ (row_lt h.re) (by simp; omega)).trans h.re, h.bel.grown hg h.bel.size (fun k e => by cases e; omega), Nat.le_trans h.sz hg.size⟩
theorem mo_new (w : World) (x : Mv) : Mo w ((w.alloc (.cells x.cs 26)).alloc (.cells (bigA z256 zMv) 44)) x := by
  have z1 : (w.alloc (.cells x.cs 26)).heap.size = w.heap.size + 1 := by simp
  have a1 := row_lat (heap_alloc_last w (.cells x.cs 26)) (below_new _ (.cells (bigA z256 zMv) 44))
  have a2 := heap_alloc_last (w.alloc (.cells x.cs 26)) (.cells (bigA z256 zMv) 44)
  rw [z1] at a2
  exact ⟨a1, a2, ((Below.refl _ _).alloc (Nat.le_refl _) _).alloc (by omega) _, by simp⟩
end
theorem OwnM.row {w : World} {B g : Nat} {x : Mv} {d : Md} (h : OwnM w B x d) (hb : g < B) (cs : Array Value) : OwnM (w.setRow g cs) B x d := h.keep fun j h1 _ => setRow_other w g j cs (by omega)
set_option maxHeartbeats 1000000 in
theorem machineOf_any (x : Mv) (d : Md) (w : World) (hs : x.small) (hz : x.nz) (hr : RdM w x d) : Calls Tryz.prog 23 #[.agg x.cs] w fun e w' => ∃ y : Mv, e = .returned (.agg (bigA (laidM d.m z256) y)) ∧ y.fl = x.fl ∧ OwnM w' (w.heap.size + 2) y d ∧ Below w.heap.size w w' := by
  have C := hide (mo_new w x)
  have R := hide (hr.later (unhide C).bel)
  have T := hide (copyM_any x d _ hs hz (unhide R))
  have HR := hide hr
  have z1 : (w.alloc (.cells x.cs 26)).heap.size = w.heap.size + 1 := by simp
  have Z1 := hide z1
  clear hr hs hz z1
  go_enter Tryz.func23, Tryz.ntmps23
  go_wp2_with (first | (refine wpList_alloc60 rfl rfl ?_) | (refine wpList_load_row rfl 26 _ rfl w.heap.size rfl 26 x.cs (0, 0) _ (unhide C).bx Tryz.underlying26 rfl (by kernel_rfl) ?_))
  refine (unhide T).mono ?_
  rintro e w1 ⟨y, rfl, fy, oy, hb⟩
  have C1 := hide (((unhide C).later hb).later (below_new w1 (.cells (bigA z256 y) 44)))
  have R1 := hide (((unhide R).later hb).later (below_new w1 (.cells (bigA z256 y) 44)))
  have O1 := hide (oy.base (C := w.heap.size + 2) (by have := (unhide C).sz; omega))
  have hsz := hide (Nat.le_trans (unhide C).sz hb.size)
  have FY := hide fy
  clear C R T hb fy oy
  have hrow := hide (heap_alloc_last w1 (.cells (bigA z256 y) 44))
  obtain ⟨w2, k, hcp, hr2, hg2⟩ := copy_in x.m d.m z256 y w1.heap.size (w1.alloc (.cells (bigA z256 y) 44)).drew (unhide hrow) z256_len ((unhide R1).later below_drew).m (unhide R1).ml
  have C2 := hide (((unhide C1).later below_drew).past hg2 (unhide hsz))
  have O2 := hide ((unhide O1).keep (w' := w2) (fun g h1 h2 => (hg2.block g (Nat.lt_of_lt_of_le h2 (below_new w1 (.cells (bigA z256 y) 44)).size) (by simp; omega)).trans ((below_new w1 (.cells (bigA z256 y) 44)).block g h2)))
  have R2 := hide hr2
  clear R1 O1 hr2 hg2
  have c0 := row_m ((unhide C1).later below_drew).bx
  have CP := hide hcp
  have D0 := hide c0
  clear hcp c0
  go_wp2_with (first | (refine wpList_build60 rfl _ rfl y rfl ?_) | (refine wpList_alloc60 rfl rfl ?_) | (refine wpList_store60 rfl _ _ rfl z256 y z256_len rfl rfl ?_))
  refine wp_region_held_drew (S := fun w' => w'.cell? ⟨w.heap.size, 0, none⟩ = some (.slice x.m.a x.m.n x.m.c)) (by kernel_rfl) (unhide D0) (fun hS => ?_)
  have HS := hide hS
  clear hS
  go_simp
  refine wpAnyH_take (i := 0) (v := .pointer (some ⟨w1.heap.size, 0, none⟩)) rfl (by kernel_rfl) (by kernel_rfl) (by kernel_rfl) (fun _ _ _ h => h) (Or.inl ⟨by rfl, fun w _ => ?_⟩) (unhide HS) ?_
  · go_simp
  go_simp
  refine wpAnyH_take (i := 1) (v := .slice (some ⟨w1.heap.size, 0, none⟩) 256 256) rfl (by kernel_rfl) (by kernel_rfl) (by kernel_rfl) (fun _ _ _ h => h) (Or.inl ⟨by rfl, fun w _ => ?_⟩) (unhide HS) ?_
  · go_simp
  go_simp
  refine wpAnyH_take (i := 2) (v := .pointer (some ⟨w.heap.size, 0, none⟩)) rfl (by kernel_rfl) (by kernel_rfl) (by kernel_rfl) (fun _ _ _ h => h) (Or.inl ⟨by rfl, fun w _ => ?_⟩) (unhide HS) ?_
  · go_simp
  go_simp
  refine wpAnyH_take (i := 3) (v := .slice x.m.a x.m.n x.m.c) rfl (by kernel_rfl) (by kernel_rfl) (by kernel_rfl) (fun _ _ _ h => h) (Or.inl ⟨by rfl, fun w hc => ?_⟩) (unhide HS) ?_
  · go_simp
  go_simp
  refine wpAnyH_ready (rs := [4]) (by kernel_rfl) (by simp) ?_
  refine AllReadyH.cons rfl (fun K hK => ?_) AllReadyH.nil
  have hcp := unhide CP
  go_simp
  refine hK.out _ _ (row_m (unhide C2).bx) (fun _ => ?_)
  clear hK K hcp CP D0 HS hrow C1
  refine wpAnyH_done (by kernel_rfl) ?_ _
  go_wp2_with (first | (refine wpList_load60 rfl _ rfl w1.heap.size (laidM d.m z256) y (laidM_len z256_len) rfl (unhide R2) ?_) | (refine wpList_over60 rfl _ _ rfl (w.heap.size + 1) (laidM d.m z256) z256 y zMv (laidM_len z256_len) z256_len rfl rfl (unhide C2).re ?_))
  refine bodyPost_ret (results_cell_row (P := Tryz.prog) rfl _ _ (w.heap.size + 1) 44 (bigA (laidM d.m z256) y) (0, 0) _ rfl (setRow_heap w2 _ _ _ 44 _ (unhide C2).re) Tryz.underlying44 rfl (size60 y _ (laidM_len z256_len))) rfl ?_
  exact ⟨y, rfl, unhide FY, (unhide O2).row (by omega) _, below_setRow (unhide C2).bel (by omega) _⟩
set_option maxHeartbeats 1000000 in
theorem cell_at (g : Nat) (a : Int) (w : World) (h0 : 0 ≤ a) (h1 : a < 512) :
    Calls Tryz.prog 142 #[.pointer (some ⟨g, 0, none⟩), .int .i64 a] w fun e w' => e = .returned (.pointer (some ⟨g, (a / 2).toNat, none⟩)) ∧ w' = w := by
  obtain ⟨k, hk⟩ := Int.eq_ofNat_of_zero_le (show 0 ≤ a / 2 by omega)
  have hk2 : k < 256 := by omega
  rw [hk, show ((k : Int)).toNat = k by omega]
  have HK := hide hk
  go_enter Tryz.func142, Tryz.ntmps142
  go_wp2
  go_ret
  exact ⟨rfl, rfl⟩
end Go.Proofs.YtjpbjbnialehbaaGreatDoor

namespace Go.Proofs.YtjpbjbnialehbaaGreatDoor
open Go.ChangeShapes Go.WideShapes Go.ChangeAt Go.RowKit
set_option linter.unusedVariables false
set_option maxRecDepth 8000
set_option linter.unusedSimpArgs false
/-- Is it an address? -/
def adB (a : Int) : Bool := inB a 0 510 && (a % 2 == 0)
theorem adB_t {a : Int} (h : adB a = true) : 0 ≤ a ∧ a ≤ 510 ∧ a % 2 = 0 := by
  unfold adB inB at h
  simp at h
  omega
theorem adB_f {a : Int} (h : a < 0 ∨ 511 ≤ a ∨ a % 2 ≠ 0) : adB a = false := by
  cases hb : adB a
  · rfl
  · have := adB_t hb; omega
theorem adB_i {a : Int} (h0 : 0 ≤ a) (h1 : a ≤ 510) (h2 : a % 2 = 0) : adB a = true := by
  unfold adB inB
  simp
  omega
/-- Has it a word there? -/
def Md.has (d : Md) (a : Int) : Bool := adB a && decide (a / 2 < (d.m.length : Int))
def Md.get (d : Md) (a : Int) : Int := if d.has a = true then nAt d.m (a / 2).toNat else 0
theorem has_t {d : Md} {a : Int} (h : d.has a = true) : adB a = true ∧ a / 2 < (d.m.length : Int) := by
  unfold Md.has at h
  simpa using h
set_option maxHeartbeats 1000000 in
theorem isAddr_any (a : Int) (w : World) : Calls Tryz.prog 45 #[.int .i64 a] w fun e w' => e = .returned (.bool (adB a)) ∧ w' = w := by
  by_cases h0 : 0 ≤ a
  · by_cases h1 : a < 512
    · cases h2 : (a % 2 == 0)
      · have F := hide (adB_f (a := a) (.inr (.inr (by simpa using h2))))
        go_enter Tryz.func45, Tryz.ntmps45
        go_wp2
        go_ret
        exact ⟨ret_bool (unhide F).symm, rfl⟩
      · have e2 : a % 2 = 0 := by simpa using h2
        have F := hide (adB_i h0 (by omega) e2)
        clear e2
        go_enter Tryz.func45, Tryz.ntmps45
        go_wp2
        go_ret
        exact ⟨ret_bool (unhide F).symm, rfl⟩
    · have F := hide (adB_f (a := a) (.inr (.inl (by omega))))
      go_enter Tryz.func45, Tryz.ntmps45
      go_wp2
      go_ret
      exact ⟨ret_bool (unhide F).symm, rfl⟩
  · have F := hide (adB_f (a := a) (.inl (by omega)))
    go_enter Tryz.func45, Tryz.ntmps45
    go_wp2
    go_ret
    exact ⟨ret_bool (unhide F).symm, rfl⟩
set_option maxHeartbeats 1000000 in
theorem has_any (x : Mv) (d : Md) (a : Int) (w : World) (hl : d.m.length = x.m.n) (hs : x.m.n ≤ 1048576) : Calls Tryz.prog 141 #[.agg x.cs, .int .i64 a] w fun e w' => e = .returned (.bool (d.has a)) ∧ Below w.heap.size w w' := by
  have HB := hide ((Below.refl w.heap.size w).alloc (Nat.le_refl _) (.cells x.cs 26))
  have c0 : x.cs[0]? = some (.slice x.m.a x.m.n x.m.c) := rfl
  have I := hide (fun w => isAddr_any a w)
  unfold Md.has
  rw [hl]
  have T := hide (adB_t (a := a))
  generalize adB a = q at I T ⊢
  cases q
  · go_enter Tryz.func141, Tryz.ntmps141
    go_wp2_with (go_at_call 45; refine (unhide I _).mono ?_; rintro e w' ⟨rfl, rfl⟩)
    go_ret
    exact ⟨rfl, unhide HB⟩
  · obtain ⟨t0, t1, _⟩ := unhide T (by trivial)
    go_enter Tryz.func141, Tryz.ntmps141
    go_wp2_with (go_at_call 45; refine (unhide I _).mono ?_; rintro e w' ⟨rfl, rfl⟩)
    go_ret
    exact ⟨rfl, unhide HB⟩
set_option maxHeartbeats 1000000 in
theorem readS_any (x : Mv) (d : Md) (a : Int) (w : World) (hs : x.small) (hr : RdM w x d) : Calls Tryz.prog 48 #[.agg x.cs, .int .i64 a] w fun e w' => e = .returned (.tuple #[.int .i64 (d.get a), .bool (d.has a)]) ∧ Below w.heap.size w w' := by
  have HB := hide ((Below.refl w.heap.size w).alloc (Nat.le_refl _) (.cells x.cs 26))
  have X := hide (hr.later (unhide HB))
  have c0 : x.cs[0]? = some (.slice x.m.a x.m.n x.m.c) := rfl
  have hl := hr.ml
  have hs0 := hs.1
  unfold Md.get
  have I := hide (fun w => in_any a 0 510 w)
  clear hr hs
  by_cases h0 : inB a 0 510 = true
  · have hb : 0 ≤ a ∧ a ≤ 510 := by unfold inB at h0; simpa using h0
    obtain ⟨b0, b1⟩ := hb
    rw [h0] at I
    by_cases h2 : a % 2 = 0
    · have e2 := hide h2
      have g2 : a % 2 ≤ 0 := by omega
      by_cases h3 : a / 2 < (x.m.n : Int)
      · have hh : d.has a = true := by unfold Md.has; rw [adB_i b0 b1 h2, hl]; simpa using h3
        rw [hh, if_pos rfl]
        obtain ⟨k, hk⟩ := Int.eq_ofNat_of_zero_le (show 0 ≤ a / 2 by omega)
        have hkl : k < x.m.n := by omega
        rcases (unhide X).m with h00 | ⟨b, off, ha, hbl, hc⟩
        · rw [h00] at hl; simp at hl; omega
        have hcx := hc k (by omega)
        rw [hk, show ((k : Int)).toNat = k by omega]
        rw [ha] at c0
        have HK := hide hk
        have HX := hide X
        clear h2 hl hh hc X ha
        go_enter Tryz.func48, Tryz.ntmps48
        go_wp2_with (go_at_call 31; refine (unhide I _).mono ?_; rintro e w' ⟨rfl, hw'⟩; rw [hw']; clear hw' w')
        go_ret2
        exact ⟨rfl, unhide HB⟩
      · have hh : d.has a = false := by unfold Md.has; rw [hl]; simp; intro _; omega
        rw [hh, if_neg (by simp)]
        clear h2 hl hh
        go_enter Tryz.func48, Tryz.ntmps48
        go_wp2_with (go_at_call 31; refine (unhide I _).mono ?_; rintro e w' ⟨rfl, hw'⟩; rw [hw']; clear hw' w')
        go_ret2
        exact ⟨rfl, unhide HB⟩
    · have hh : d.has a = false := by unfold Md.has; rw [adB_f (.inr (.inr h2))]; rfl
      rw [hh, if_neg (by simp)]
      have g2 : 0 < a % 2 := by omega
      clear hl hh
      go_enter Tryz.func48, Tryz.ntmps48
      go_wp2_with (go_at_call 31; refine (unhide I _).mono ?_; rintro e w' ⟨rfl, hw'⟩; rw [hw']; clear hw' w')
      go_ret2
      exact ⟨rfl, unhide HB⟩
  · have h0' : inB a 0 510 = false := by simpa using h0
    have hh : d.has a = false := by unfold Md.has adB; rw [h0']; rfl
    rw [hh, if_neg (by simp)]
    rw [h0'] at I
    clear hl hh h0 h0'
    go_enter Tryz.func48, Tryz.ntmps48
    go_wp2_with (go_at_call 31; refine (unhide I _).mono ?_; rintro e w' ⟨rfl, hw'⟩; rw [hw']; clear hw' w')
    go_ret2
    exact ⟨rfl, unhide HB⟩
end Go.Proofs.YtjpbjbnialehbaaGreatDoor

namespace Go.Proofs.YtjpbjbnialehbaaGreatDoor
open Go.ChangeShapes Go.WideShapes Go.ChangeAt Go.RowKit
set_option linter.unusedVariables false
set_option maxRecDepth 8000
set_option linter.unusedSimpArgs false
/-- Is there such a place. -/
def Md.ldB (d : Md) (r a : Int) : Bool := if r = -1 then d.has a else (inB r 0 ((d.r.length : Int) - 1) && (a == -1))
/-- What stands there. -/
def Md.ldV (d : Md) (r a : Int) : Int := if r = -1 then d.get a else if d.ldB r a = true then nAt d.r r.toNat else 0
/-- The boxes of a machine and a place. -/
structure Bp (w wr : World) (x : Mv) (r a : Int) : Prop where
  bx : wr.heap[w.heap.size]? = some (.cells x.cs 26 (0, 0))
  bp : wr.heap[w.heap.size + 1]? = some (.cells #[.int .i64 r, .int .i64 a] 97 (0, 0))
  bel : Below w.heap.size w wr
  sz : w.heap.size + 2 ≤ wr.heap.size
theorem bp_new (w : World) (x : Mv) (r a : Int) : Bp w ((w.alloc (.cells x.cs 26)).alloc (.cells #[.int .i64 r, .int .i64 a] 97)) x r a :=
  ⟨row_lat (heap_alloc_last w _) ((Below.refl _ _).alloc (Nat.le_refl _) _), by have := heap_alloc_last (w.alloc (.cells x.cs 26)) (.cells #[.int .i64 r, .int .i64 a] 97); simpa using this, ((Below.refl _ _).alloc (Nat.le_refl _) _).alloc (by simp) _, by simp⟩
theorem Bp.later {w wr w' : World} {x : Mv} {r a : Int} (h : Bp w wr x r a) (hb : Below wr.heap.size wr w') : Bp w w' x r a :=
  ⟨row_lat h.bx hb, row_lat h.bp hb, h.bel.trans (hb.mono (by have := h.sz; omega)), Nat.le_trans h.sz hb.size⟩
theorem Bp.r {w wr : World} {x : Mv} {r a : Int} (h : Bp w wr x r a) : wr.cell? ⟨w.heap.size + 1, 0, none⟩ = some (.int .i64 r) := (cell_of_row wr _ 0 _ 97 _ h.bp).trans rfl
theorem Bp.a {w wr : World} {x : Mv} {r a : Int} (h : Bp w wr x r a) : wr.cell? ⟨w.heap.size + 1, 1, none⟩ = some (.int .i64 a) := (cell_of_row wr _ 1 _ 97 _ h.bp).trans rfl
set_option maxHeartbeats 4000000 in
theorem loadS_any (x : Mv) (d : Md) (r a : Int) (w : World) (hs : x.small) (hr : RdM w x d) :
    Calls Tryz.prog 90 #[.agg x.cs, .agg #[.int .i64 r, .int .i64 a]] w fun e w' => e = .returned (.tuple #[.int .i64 (d.ldV r a), .bool (d.ldB r a)]) ∧ Below w.heap.size w w' := by
  have B := hide (bp_new w x r a)
  have X := hide (hr.later (unhide B).bel)
  have R := hide (fun w (h : RdM w x d) => readS_any x d a w hs h)
  by_cases h1 : r = -1
  · subst h1
    unfold Md.ldV Md.ldB
    rw [if_pos rfl, if_pos rfl]
    go_enter Tryz.func90, Tryz.ntmps90
    go_wp2_with (first | (refine wpList_load_row rfl 26 _ rfl w.heap.size rfl 26 x.cs (0, 0) _ (unhide B).bx Tryz.underlying26 rfl (by kernel_rfl) ?_) | (go_at_call 48; refine (unhide R _ (unhide X)).mono ?_; rintro e w' ⟨rfl, hb⟩; have BB := hide ((unhide B).later hb).bel; clear hb))
    go_ret2
    exact ⟨rfl, unhide BB⟩
  · have c1 : x.cs[1]? = some (.slice x.r.a x.r.n x.r.c) := rfl
    have I := hide (fun w => in_any r 0 ((x.r.n : Int) - 1) w)
    have hn := hs.2.1
    have hw1 : IntKind.i64.wrap ((x.r.n : Int) - 1) = (x.r.n : Int) - 1 := by rw [IntKind.wrap_i64]; omega
    unfold Md.ldV Md.ldB
    rw [if_neg h1, if_neg h1, hr.rl]
    obtain ⟨q, hq⟩ : ∃ q, inB r 0 ((x.r.n : Int) - 1) = q := ⟨_, rfl⟩
    rw [hq] at I ⊢
    cases q
    · clear hq hr hs R X
      go_enter Tryz.func90, Tryz.ntmps90
      go_wp2_with (go_at_call 31; refine (unhide I _).mono ?_; rintro e w' ⟨rfl, hw'⟩; rw [hw']; clear hw' w')
      go_ret2
      exact ⟨rfl, (unhide B).bel⟩
    · by_cases ha : a = -1
      · subst ha
        obtain ⟨r0, r1⟩ : 0 ≤ r ∧ r ≤ (x.r.n : Int) - 1 := by unfold inB at hq; simpa using hq
        obtain ⟨k, rfl⟩ := Int.eq_ofNat_of_zero_le r0
        have hkl : k < x.r.n := by omega
        have hrl := hr.rl
        rcases (unhide X).r with h00 | ⟨b, off, hra, hbl, hc⟩
        · rw [h00] at hrl; simp at hrl; omega
        have hcx := hc k (by omega)
        have hki : (k : Int) < (x.r.n : Int) := by omega
        rw [hra] at c1
        rw [show ((k : Int)).toNat = k by omega]
        clear hq hr hs R X hra hc hrl
        go_enter Tryz.func90, Tryz.ntmps90
        go_wp2_with (go_at_call 31; refine (unhide I _).mono ?_; rintro e w' ⟨rfl, hw'⟩; rw [hw']; clear hw' w')
        go_ret2
        exact ⟨rfl, (unhide B).bel⟩
      · rw [show (a == -1) = false by simpa using ha]
        clear hq hr hs R X
        go_enter Tryz.func90, Tryz.ntmps90
        go_wp2_with (go_at_call 31; refine (unhide I _).mono ?_; rintro e w' ⟨rfl, hw'⟩; rw [hw']; clear hw' w')
        go_ret2
        exact ⟨rfl, (unhide B).bel⟩
end Go.Proofs.YtjpbjbnialehbaaGreatDoor

namespace Go.Proofs.YtjpbjbnialehbaaGreatDoor
open Go.ChangeShapes Go.WideShapes Go.ChangeAt Go.RowKit
set_option linter.unusedVariables false
set_option maxRecDepth 8000
set_option linter.unusedSimpArgs false
theorem quo2 {a : Int} {k : Nat} (h0 : 0 ≤ a) (h1 : a < 9223372036854775807) (hk : a / 2 = (k : Int)) : IntKind.i64.wrap (a.tdiv 2) = (k : Int) := by
  rw [Int.tdiv_eq_ediv_of_nonneg h0, IntKind.wrap_i64]
  omega
end Go.Proofs.YtjpbjbnialehbaaGreatDoor

namespace Go.Proofs.YtjpbjbnialehbaaGreatDoor
open Go.ChangeShapes Go.WideShapes Go.ChangeAt Go.RowKit
set_option linter.unusedVariables false
set_option maxRecDepth 8000
set_option linter.unusedSimpArgs false
theorem big_cell {w : World} {g : Nat} {mem : List Int} {y : Mv} (h : w.heap[g]? = some (.cells (bigA mem y) 44 (0, 0))) (hm : mem.length = 256) (k : Nat) (v : Value) (hv : y.cs[k]? = some v) : w.cell? ⟨g, 256 + k, none⟩ = some v :=
  (cell_of_row w g _ _ 44 _ h).trans ((bigA_mach y hm).trans hv)
/-- One list written: the others stay. -/
theorem OwnM.putM {w w' : World} {B : Nat} {x : Mv} {d : Md} {ns : List Int} (h : OwnM w B x d) (hg : w.grownBy w' x.m.v.ownBlock) (hn : OwnN w' B x.m.v ns) : OwnM w' B x ⟨ns, d.r, d.i, d.o⟩ :=
  { h with
    m := hn
    r := h.r.keep fun q hv hq => hg.block q hq (fun e => h.mr q e.symm hv)
    i := h.i.keep fun q hv hq => hg.block q hq (fun e => h.mi q e.symm hv)
    o := h.o.keep fun q hv hq => hg.block q hq (fun e => h.mo q e.symm hv) }
def zC : Array Value := #[Value.slice none 0 0, Value.slice none 0 0, Value.bool false, Value.bool false, Value.bool false, Value.bool false, Value.slice none 0 0, Value.slice none 0 0, Value.int .i64 0]
theorem own_ne {w : World} {B g : Nat} {s : Sl} {ns : List Int} (h : OwnN w B s.v ns) (hg : g < B ∨ w.heap.size ≤ g) : some g ≠ s.v.ownBlock := fun e => by
  have := h.lt e.symm
  omega
end Go.Proofs.YtjpbjbnialehbaaGreatDoor

namespace Go.Proofs.YtjpbjbnialehbaaGreatDoor
open Go.ChangeShapes Go.WideShapes Go.ChangeAt Go.RowKit
set_option linter.unusedVariables false
set_option maxRecDepth 8000
set_option linter.unusedSimpArgs false
theorem results_row2 {P : Program} {fn : Func} {p u : Tmp} {ty : TypeId} (h : fn.results = #[.cell p ty, .tmp u]) (tmps : Array Value) (w : World) (g : Nat) (t : TypeId) (cs : Array Value) (fr : Nat × Nat) (d : TypeDesc)
    (hp : tmps.getD p undef = .pointer (some ⟨g, 0, none⟩)) (hg : w.heap[g]? = some (.cells cs t fr))
    (hu : P.underlying ty = some d) (hd : (match d with | .struct _ | .array _ _ => true | _ => false) = true) (hi : (P.info? ty).map (·.size) = some cs.size) :
    (results fn tmps).run P w = .ok (.tuple #[.agg cs, tmps.getD u undef]) w := by
  have hp' : tmps[p]?.getD undef = .pointer (some ⟨g, 0, none⟩) := by simpa using hp
  simp [results, h, hp', asAddr, run_loadVar_row w g t ty cs fr d hg hu hd hi]
/-- What stands behind a write. -/
def Md.put (d : Md) (a n : Int) : Md := if d.has a = true then ⟨d.m.set (a / 2).toNat (n % 65536), d.r, d.i, d.o⟩ else d
theorem Cc.pastR {w wr w' : World} {x : Mv} {row : Option Nat} (h : Cc w wr x) (hg : wr.grownBy w' row) (hr : ∀ g, row = some g → w.heap.size + 2 ≤ g) : Cc w w' x :=
  ⟨(hg.block _ (row_lt h.bx) (fun e => by have := hr _ e.symm; omega)).trans h.bx, (hg.block _ (row_lt h.re) (fun e => by have := hr _ e.symm; omega)).trans h.re, h.bel.grown hg h.bel.size (fun k e => by have := hr _ e; omega), Nat.le_trans h.sz hg.size⟩
end Go.Proofs.YtjpbjbnialehbaaGreatDoor

namespace Go.Proofs.YtjpbjbnialehbaaGreatDoor
open Go.ChangeShapes Go.WideShapes Go.ChangeAt Go.RowKit
set_option linter.unusedVariables false
set_option maxRecDepth 8000
set_option linter.unusedSimpArgs false
theorem cm_copy0 (w : World) (x : Mv) : Cm w (((w.alloc (.cells x.cs 26)).alloc (.cells zMv.cs 26)).alloc (.cells x.cs 26)) 26 x x := by
  have z1 : (w.alloc (.cells x.cs 26)).heap.size = w.heap.size + 1 := by simp
  have z2 : ((w.alloc (.cells x.cs 26)).alloc (.cells zMv.cs 26)).heap.size = w.heap.size + 1 + 1 := by simp
  have a1 := row_lat (row_lat (heap_alloc_last w (.cells x.cs 26)) (below_new _ (.cells zMv.cs 26))) (below_new _ (.cells x.cs 26))
  have a2 := row_lat (heap_alloc_last (w.alloc (.cells x.cs 26)) (.cells zMv.cs 26)) (below_new _ (.cells x.cs 26))
  have a3 := heap_alloc_last ((w.alloc (.cells x.cs 26)).alloc (.cells zMv.cs 26)) (.cells x.cs 26)
  rw [z1] at a2
  rw [z2] at a3
  exact ⟨a1, a2, a3, (((Below.refl _ _).alloc (Nat.le_refl _) _).alloc (by omega) _).alloc (by omega) _, by simp⟩
theorem cm_copy (w : World) (x : Mv) : Cm w (((w.alloc (.cells x.cs 26)).alloc (.cells #[Value.slice none 0 0, Value.slice none 0 0, Value.bool false, Value.bool false, Value.bool false, Value.bool false, Value.slice none 0 0, Value.slice none 0 0, Value.int .i64 0] 26)).alloc (.cells x.cs 26)) 26 x x := cm_copy0 w x
theorem wpList_store_newG {P : Program} {ops : Array Oper} {rest : List Oper} {o : Oper} {a : Act} {w : World} {Q : Exit → Act → World → Prop} (hgd : o.guard = none) (ty : TypeId) (x y : Operand) (ho : o.op = .store ty x y)
    (cells : Array Value) (g : Nat) (hgz : w.heap.size = g) (hx : a.eval x = .pointer (some ⟨g, 0, none⟩)) (hy : a.eval y = .agg cells) (old : Array Value) (hi : (P.info? ty).map (·.size) = some cells.size)
    (hold : old.size = cells.size) (h1 : cells.all (·.oneCell') = true) (h : wpList P ops Q rest (a.put o.dst undef) (w.alloc (.cells cells ty))) : wpList P ops Q (o :: rest) a (w.alloc (.cells old ty)) := by
  subst hgz
  exact wpList_store_new hgd ty x y ho cells hx hy old hi hold h1 h
theorem Cm.past {w wr w' : World} {tb : TypeId} {x o : Mv} {row : Option Nat} (h : Cm w wr tb x o) (hg : wr.grownBy w' row) (hr : ∀ g, row = some g → w.heap.size + 3 ≤ g) : Cm w w' tb x o :=
  ⟨(hg.block _ (row_lt h.bx) (fun e => by have := hr _ e.symm; omega)).trans h.bx, (hg.block _ (row_lt h.re) (fun e => by have := hr _ e.symm; omega)).trans h.re, (hg.block _ (row_lt h.out) (fun e => by have := hr _ e.symm; omega)).trans h.out, h.bel.grown hg h.bel.size (fun k e => by have := hr _ e; omega), Nat.le_trans h.sz hg.size⟩
theorem RdN.pastR {w w' : World} {a : Option Addr} {ns : List Int} {row : Option Nat} (h : RdN w a ns) (hg : w.grownBy w' row) (hne : ∀ b, row = some b → ns = [] ∨ ∀ ad, a = some ad → ad.block ≠ b) : RdN w' a ns := by
  rcases h with h | ⟨c, off, rfl, hlt, hc⟩
  · exact .inl h
  · by_cases h0 : ns = []
    · exact .inl h0
    exact .inr ⟨c, off, rfl, Nat.lt_of_lt_of_le hlt hg.size, fun i hi => (World.cell?_of_block (w := w) (hg.block c hlt (fun e => by
      rcases hne c e.symm with h1 | h1
      · exact h0 h1
      · exact h1 _ rfl rfl))).trans (hc i hi)⟩
/-- What came in reads on while rows made behind it are written. -/
theorem RdM.pastR {w wr w' : World} {x : Mv} {d : Md} {row : Option Nat} (h : RdM wr x d) (hw : RdM w x d) (hg : wr.grownBy w' row) (hr : ∀ g, row = some g → w.heap.size ≤ g) : RdM w' x d := by
  have key : ∀ {a : Option Addr} {ns : List Int}, RdN w a ns → ∀ b, row = some b → ns = [] ∨ ∀ ad, a = some ad → ad.block ≠ b := fun hr' b e => by
    rcases hr' with h0 | ⟨b', off, rfl, hb', _⟩
    · exact .inl h0
    · exact .inr fun ad e' => by cases e'; have := hr b e; show b' ≠ b; omega
  exact ⟨h.m.pastR hg (key hw.m), h.r.pastR hg (key hw.r), h.i.pastR hg (key hw.i), h.o.pastR hg (key hw.o), h.ml, h.rl, h.il, h.ol⟩
/-- A list of no element, made for a copy. -/
theorem ownN_new (w : World) (B g : Nat) (hg : w.heap.size = g) (hB : B ≤ w.heap.size) : OwnN (w.alloc (.cells #[] 3)) B (.slice (some ⟨g, 0, none⟩) 0 0) [] := by
  subst hg
  exact (ownN_empty w).base hB
set_option maxHeartbeats 4000000 in
theorem copyS_any (x : Mv) (d : Md) (w : World) (hs : x.small) (hz : x.nz) (hr : RdM w x d) : Calls Tryz.prog 28 #[.agg x.cs] w fun e w' => ∃ y : Mv, e = .returned (.agg y.cs) ∧ y.fl = x.fl ∧ OwnM w' (w.heap.size + 3) y d ∧ Below w.heap.size w w' := by
  obtain ⟨s0, s1, s2, s3⟩ := hs
  have NZ := hide hz
  have C := hide (cm_copy w x)
  have HR := hide hr
  have R := hide (hr.later (unhide C).bel)
  have R0 : Hid (((w.alloc (.cells x.cs 26)).alloc (.cells #[Value.slice none 0 0, Value.slice none 0 0, Value.bool false, Value.bool false, Value.bool false, Value.bool false, Value.slice none 0 0, Value.slice none 0 0, Value.int .i64 0] 26)).heap[w.heap.size]? = some (.cells x.cs 26 (0, 0))) := hide (row_lat (heap_alloc_last w (.cells x.cs 26)) (below_new _ (.cells #[Value.slice none 0 0, Value.slice none 0 0, Value.bool false, Value.bool false, Value.bool false, Value.bool false, Value.slice none 0 0, Value.slice none 0 0, Value.int .i64 0] 26)))
  clear hr hz
  go_enter Tryz.func28, Tryz.ntmps28
  have E := hide (below_new (((w.alloc (.cells x.cs 26)).alloc (.cells #[Value.slice none 0 0, Value.slice none 0 0, Value.bool false, Value.bool false, Value.bool false, Value.bool false, Value.slice none 0 0, Value.slice none 0 0, Value.int .i64 0] 26)).alloc (.cells x.cs 26)) (.cells #[] 3))
  have SZ : Hid ((((w.alloc (.cells x.cs 26)).alloc (.cells #[Value.slice none 0 0, Value.slice none 0 0, Value.bool false, Value.bool false, Value.bool false, Value.bool false, Value.slice none 0 0, Value.slice none 0 0, Value.int .i64 0] 26)).alloc (.cells x.cs 26)).heap.size = w.heap.size + 1 + 1 + 1) := hide (by simp)
  have q0 := row_m ((unhide C).later (unhide E)).bx
  have STAGE0 := hide trivial
  go_wp2_with (first
    | (have hst := STAGE0; refine wpList_load_row rfl 26 _ rfl w.heap.size rfl 26 x.cs (0, 0) _ (unhide R0) Tryz.underlying26 rfl (by kernel_rfl) ?_)
    | (have hst := STAGE0; refine wpList_store_newG rfl 26 _ _ rfl x.cs (w.heap.size + 1 + 1) (by simp) rfl rfl _ (by kernel_rfl) rfl (Mv.cs_one _) ?_)
    | (at_builtin; have hst := STAGE0; clear hst STAGE0; go_must (
      refine wpList_app rfl _ _ rfl (w.heap.size + 1 + 1 + 1) (.slice (some ⟨w.heap.size + 1 + 1 + 1, 0, none⟩) 0 0) [] rfl (ownN_new _ _ _ (unhide SZ) (Nat.le_of_eq (unhide SZ).symm)) x.m d.m rfl ((unhide R).later (unhide E)).m (unhide R).ml (unhide NZ).1 (by simp; omega) (Nat.le_trans (Nat.le_of_eq (unhide SZ).symm) (unhide E).size) ?_
      intro v w0 ho hg
      rw [List.nil_append] at ho
      obtain ⟨a0, n0, c0, rfl⟩ : ∃ a n c, v = .slice a n c := (by obtain ⟨a, c, e, _⟩ := ho.rd; exact ⟨_, _, _, e⟩)
      have hgr := fun b (e : (Value.slice (some ⟨w.heap.size + 1 + 1 + 1, 0, none⟩) 0 0).ownBlock = some b) => (show w.heap.size + 3 ≤ b by simp [Value.ownBlock] at e; have := unhide SZ; have := (unhide C).sz; omega)
      have Cn := hide (((unhide C).later (unhide E)).past hg hgr)
      have Rn := hide (((unhide R).later (unhide E)).pastR (unhide HR) hg (fun b e => by have := hgr b e; omega))
      have o0 := row_m (unhide Cn).out
      have f0 := row_fz (unhide Cn).out 0
      have O0 := hide (OwnN.base ho (B' := w.heap.size + 3) (by have := unhide SZ; have := (unhide C).sz; omega))
      clear ho hg hgr C R E SZ q0
      have C := hide ((unhide Cn).put 0 (.slice a0 n0 c0) (⟨⟨a0, n0, c0⟩, x.r, x.n, x.z, x.v, x.c, x.i, x.o, x.st⟩ : Mv) rfl)
      have R := hide ((unhide Rn).setB (unhide HR) (by omega : w.heap.size ≤ w.heap.size + 1 + 1) 0 (.slice a0 n0 c0))
      have On := hide ((unhide O0).put (b := w.heap.size + 1 + 1) (j := 0) (u := .slice a0 n0 c0) (by omega))
      clear O0
      have O0 := hide (unhide On)
      clear On
      clear Cn Rn
      have E := hide (below_new (w0.setCell ⟨w.heap.size + 1 + 1, 0, none⟩ (.slice a0 n0 c0)) (.cells #[] 3))
      have SZ : Hid ((w0.setCell ⟨w.heap.size + 1 + 1, 0, none⟩ (.slice a0 n0 c0)).heap.size = w0.heap.size) := hide (by simp)
      have q1 := row_r ((unhide C).later (unhide E)).bx
      have STAGE1 := hide trivial
      skip))
    | (at_builtin; have hst := STAGE1; clear hst STAGE1; go_must (
      refine wpList_app rfl _ _ rfl (w0.heap.size) (.slice (some ⟨w0.heap.size, 0, none⟩) 0 0) [] rfl (ownN_new _ _ _ (unhide SZ) (Nat.le_of_eq (unhide SZ).symm)) x.r d.r rfl ((unhide R).later (unhide E)).r (unhide R).rl (unhide NZ).2.1 (by simp; omega) (Nat.le_trans (Nat.le_of_eq (unhide SZ).symm) (unhide E).size) ?_
      intro v w1 ho hg
      rw [List.nil_append] at ho
      obtain ⟨a1, n1, c1, rfl⟩ : ∃ a n c, v = .slice a n c := (by obtain ⟨a, c, e, _⟩ := ho.rd; exact ⟨_, _, _, e⟩)
      have hgr := fun b (e : (Value.slice (some ⟨w0.heap.size, 0, none⟩) 0 0).ownBlock = some b) => (show w.heap.size + 3 ≤ b by simp [Value.ownBlock] at e; have := unhide SZ; have := (unhide C).sz; omega)
      have Cn := hide (((unhide C).later (unhide E)).past hg hgr)
      have Rn := hide (((unhide R).later (unhide E)).pastR (unhide HR) hg (fun b e => by have := hgr b e; omega))
      have o1 := row_r (unhide Cn).out
      have f1 := row_fz (unhide Cn).out 1
      have O1 := hide (OwnN.base ho (B' := w.heap.size + 3) (by have := unhide SZ; have := (unhide C).sz; omega))
      have On := hide ((((unhide O0).later (unhide E)).keep (fun g hv hl => hg.block g hl (fun e => by have := ((unhide O0).lt hv).2; have := unhide SZ; simp [Value.ownBlock] at e; omega))))
      have A01 : Hid (Ap ⟨a0, n0, c0⟩ ⟨a1, n1, c1⟩) := hide (fun g e1 e2 => by
        have := ((unhide O0).lt e1).2
        have := (ho.lt e2).1
        have := unhide SZ
        omega)
      clear O0
      have O0 := hide (unhide On)
      clear On
      clear ho hg hgr C R E SZ q1
      have C := hide ((unhide Cn).put 1 (.slice a1 n1 c1) (⟨⟨a0, n0, c0⟩, ⟨a1, n1, c1⟩, x.n, x.z, x.v, x.c, x.i, x.o, x.st⟩ : Mv) rfl)
      have R := hide ((unhide Rn).setB (unhide HR) (by omega : w.heap.size ≤ w.heap.size + 1 + 1) 1 (.slice a1 n1 c1))
      have On := hide ((unhide O0).put (b := w.heap.size + 1 + 1) (j := 1) (u := .slice a1 n1 c1) (by omega))
      clear O0
      have O0 := hide (unhide On)
      clear On
      have On := hide ((unhide O1).put (b := w.heap.size + 1 + 1) (j := 1) (u := .slice a1 n1 c1) (by omega))
      clear O1
      have O1 := hide (unhide On)
      clear On
      clear Cn Rn
      have E := hide (below_new (w1.setCell ⟨w.heap.size + 1 + 1, 1, none⟩ (.slice a1 n1 c1)) (.cells #[] 3))
      have SZ : Hid ((w1.setCell ⟨w.heap.size + 1 + 1, 1, none⟩ (.slice a1 n1 c1)).heap.size = w1.heap.size) := hide (by simp)
      have q2 := row_i ((unhide C).later (unhide E)).bx
      have STAGE2 := hide trivial
      skip))
    | (at_builtin; have hst := STAGE2; clear hst STAGE2; go_must (
      refine wpList_app rfl _ _ rfl (w1.heap.size) (.slice (some ⟨w1.heap.size, 0, none⟩) 0 0) [] rfl (ownN_new _ _ _ (unhide SZ) (Nat.le_of_eq (unhide SZ).symm)) x.i d.i rfl ((unhide R).later (unhide E)).i (unhide R).il (unhide NZ).2.2.1 (by simp; omega) (Nat.le_trans (Nat.le_of_eq (unhide SZ).symm) (unhide E).size) ?_
      intro v w2 ho hg
      rw [List.nil_append] at ho
      obtain ⟨a2, n2, c2, rfl⟩ : ∃ a n c, v = .slice a n c := (by obtain ⟨a, c, e, _⟩ := ho.rd; exact ⟨_, _, _, e⟩)
      have hgr := fun b (e : (Value.slice (some ⟨w1.heap.size, 0, none⟩) 0 0).ownBlock = some b) => (show w.heap.size + 3 ≤ b by simp [Value.ownBlock] at e; have := unhide SZ; have := (unhide C).sz; omega)
      have Cn := hide (((unhide C).later (unhide E)).past hg hgr)
      have Rn := hide (((unhide R).later (unhide E)).pastR (unhide HR) hg (fun b e => by have := hgr b e; omega))
      have o6 := row_i (unhide Cn).out
      have f6 := row_fz (unhide Cn).out 6
      have O2 := hide (OwnN.base ho (B' := w.heap.size + 3) (by have := unhide SZ; have := (unhide C).sz; omega))
      have On := hide ((((unhide O0).later (unhide E)).keep (fun g hv hl => hg.block g hl (fun e => by have := ((unhide O0).lt hv).2; have := unhide SZ; simp [Value.ownBlock] at e; omega))))
      have A02 : Hid (Ap ⟨a0, n0, c0⟩ ⟨a2, n2, c2⟩) := hide (fun g e1 e2 => by
        have := ((unhide O0).lt e1).2
        have := (ho.lt e2).1
        have := unhide SZ
        omega)
      clear O0
      have O0 := hide (unhide On)
      clear On
      have On := hide ((((unhide O1).later (unhide E)).keep (fun g hv hl => hg.block g hl (fun e => by have := ((unhide O1).lt hv).2; have := unhide SZ; simp [Value.ownBlock] at e; omega))))
      have A12 : Hid (Ap ⟨a1, n1, c1⟩ ⟨a2, n2, c2⟩) := hide (fun g e1 e2 => by
        have := ((unhide O1).lt e1).2
        have := (ho.lt e2).1
        have := unhide SZ
        omega)
      clear O1
      have O1 := hide (unhide On)
      clear On
      clear ho hg hgr C R E SZ q2
      have C := hide ((unhide Cn).put 6 (.slice a2 n2 c2) (⟨⟨a0, n0, c0⟩, ⟨a1, n1, c1⟩, x.n, x.z, x.v, x.c, ⟨a2, n2, c2⟩, x.o, x.st⟩ : Mv) rfl)
      have R := hide ((unhide Rn).setB (unhide HR) (by omega : w.heap.size ≤ w.heap.size + 1 + 1) 6 (.slice a2 n2 c2))
      have On := hide ((unhide O0).put (b := w.heap.size + 1 + 1) (j := 6) (u := .slice a2 n2 c2) (by omega))
      clear O0
      have O0 := hide (unhide On)
      clear On
      have On := hide ((unhide O1).put (b := w.heap.size + 1 + 1) (j := 6) (u := .slice a2 n2 c2) (by omega))
      clear O1
      have O1 := hide (unhide On)
      clear On
      have On := hide ((unhide O2).put (b := w.heap.size + 1 + 1) (j := 6) (u := .slice a2 n2 c2) (by omega))
      clear O2
      have O2 := hide (unhide On)
      clear On
      clear Cn Rn
      have E := hide (below_new (w2.setCell ⟨w.heap.size + 1 + 1, 6, none⟩ (.slice a2 n2 c2)) (.cells #[] 3))
      have SZ : Hid ((w2.setCell ⟨w.heap.size + 1 + 1, 6, none⟩ (.slice a2 n2 c2)).heap.size = w2.heap.size) := hide (by simp)
      have q3 := row_o ((unhide C).later (unhide E)).bx
      have STAGE3 := hide trivial
      skip))
    | (at_builtin; have hst := STAGE3; clear hst STAGE3; go_must (
      refine wpList_app rfl _ _ rfl (w2.heap.size) (.slice (some ⟨w2.heap.size, 0, none⟩) 0 0) [] rfl (ownN_new _ _ _ (unhide SZ) (Nat.le_of_eq (unhide SZ).symm)) x.o d.o rfl ((unhide R).later (unhide E)).o (unhide R).ol (unhide NZ).2.2.2 (by simp; omega) (Nat.le_trans (Nat.le_of_eq (unhide SZ).symm) (unhide E).size) ?_
      intro v w3 ho hg
      rw [List.nil_append] at ho
      obtain ⟨a3, n3, c3, rfl⟩ : ∃ a n c, v = .slice a n c := (by obtain ⟨a, c, e, _⟩ := ho.rd; exact ⟨_, _, _, e⟩)
      have hgr := fun b (e : (Value.slice (some ⟨w2.heap.size, 0, none⟩) 0 0).ownBlock = some b) => (show w.heap.size + 3 ≤ b by simp [Value.ownBlock] at e; have := unhide SZ; have := (unhide C).sz; omega)
      have Cn := hide (((unhide C).later (unhide E)).past hg hgr)
      have Rn := hide (((unhide R).later (unhide E)).pastR (unhide HR) hg (fun b e => by have := hgr b e; omega))
      have o7 := row_o (unhide Cn).out
      have f7 := row_fz (unhide Cn).out 7
      have O3 := hide (OwnN.base ho (B' := w.heap.size + 3) (by have := unhide SZ; have := (unhide C).sz; omega))
      have On := hide ((((unhide O0).later (unhide E)).keep (fun g hv hl => hg.block g hl (fun e => by have := ((unhide O0).lt hv).2; have := unhide SZ; simp [Value.ownBlock] at e; omega))))
      have A03 : Hid (Ap ⟨a0, n0, c0⟩ ⟨a3, n3, c3⟩) := hide (fun g e1 e2 => by
        have := ((unhide O0).lt e1).2
        have := (ho.lt e2).1
        have := unhide SZ
        omega)
      clear O0
      have O0 := hide (unhide On)
      clear On
      have On := hide ((((unhide O1).later (unhide E)).keep (fun g hv hl => hg.block g hl (fun e => by have := ((unhide O1).lt hv).2; have := unhide SZ; simp [Value.ownBlock] at e; omega))))
      have A13 : Hid (Ap ⟨a1, n1, c1⟩ ⟨a3, n3, c3⟩) := hide (fun g e1 e2 => by
        have := ((unhide O1).lt e1).2
        have := (ho.lt e2).1
        have := unhide SZ
        omega)
      clear O1
      have O1 := hide (unhide On)
      clear On
      have On := hide ((((unhide O2).later (unhide E)).keep (fun g hv hl => hg.block g hl (fun e => by have := ((unhide O2).lt hv).2; have := unhide SZ; simp [Value.ownBlock] at e; omega))))
      have A23 : Hid (Ap ⟨a2, n2, c2⟩ ⟨a3, n3, c3⟩) := hide (fun g e1 e2 => by
        have := ((unhide O2).lt e1).2
        have := (ho.lt e2).1
        have := unhide SZ
        omega)
      clear O2
      have O2 := hide (unhide On)
      clear On
      clear ho hg hgr C R E SZ q3
      have C := hide ((unhide Cn).put 7 (.slice a3 n3 c3) (⟨⟨a0, n0, c0⟩, ⟨a1, n1, c1⟩, x.n, x.z, x.v, x.c, ⟨a2, n2, c2⟩, ⟨a3, n3, c3⟩, x.st⟩ : Mv) rfl)
      have R := hide ((unhide Rn).setB (unhide HR) (by omega : w.heap.size ≤ w.heap.size + 1 + 1) 7 (.slice a3 n3 c3))
      have On := hide ((unhide O0).put (b := w.heap.size + 1 + 1) (j := 7) (u := .slice a3 n3 c3) (by omega))
      clear O0
      have O0 := hide (unhide On)
      clear On
      have On := hide ((unhide O1).put (b := w.heap.size + 1 + 1) (j := 7) (u := .slice a3 n3 c3) (by omega))
      clear O1
      have O1 := hide (unhide On)
      clear On
      have On := hide ((unhide O2).put (b := w.heap.size + 1 + 1) (j := 7) (u := .slice a3 n3 c3) (by omega))
      clear O2
      have O2 := hide (unhide On)
      clear On
      have On := hide ((unhide O3).put (b := w.heap.size + 1 + 1) (j := 7) (u := .slice a3 n3 c3) (by omega))
      clear O3
      have O3 := hide (unhide On)
      clear On
      clear Cn Rn
      skip))
    | (refine wpList_load_row rfl 26 _ rfl (w.heap.size + 1 + 1) rfl 26 (Mv.cs (⟨⟨a0, n0, c0⟩, ⟨a1, n1, c1⟩, x.n, x.z, x.v, x.c, ⟨a2, n2, c2⟩, ⟨a3, n3, c3⟩, x.st⟩ : Mv)) (0, 0) _ (unhide C).out Tryz.underlying26 rfl (by kernel_rfl) ?_)
    | (refine wpList_store_row rfl 26 _ _ rfl (w.heap.size + 1) (Mv.cs (⟨⟨a0, n0, c0⟩, ⟨a1, n1, c1⟩, x.n, x.z, x.v, x.c, ⟨a2, n2, c2⟩, ⟨a3, n3, c3⟩, x.st⟩ : Mv)) rfl rfl 26 zMv.cs (unhide C).re (by kernel_rfl) rfl (Mv.cs_one _) ?_))
  refine bodyPost_ret (results_cell_row (P := Tryz.prog) rfl _ _ (w.heap.size + 1) 26 (Mv.cs (⟨⟨a0, n0, c0⟩, ⟨a1, n1, c1⟩, x.n, x.z, x.v, x.c, ⟨a2, n2, c2⟩, ⟨a3, n3, c3⟩, x.st⟩ : Mv)) (0, 0) _ rfl (unhide C).done.re Tryz.underlying26 rfl (by kernel_rfl)) rfl ?_
  exact ⟨(⟨⟨a0, n0, c0⟩, ⟨a1, n1, c1⟩, x.n, x.z, x.v, x.c, ⟨a2, n2, c2⟩, ⟨a3, n3, c3⟩, x.st⟩ : Mv), rfl, rfl, ⟨(unhide O0).row (by omega) _, (unhide O1).row (by omega) _, (unhide O2).row (by omega) _, (unhide O3).row (by omega) _, unhide A01, unhide A02, unhide A03, unhide A12, unhide A13, unhide A23⟩, (unhide C).done.bel⟩
end Go.Proofs.YtjpbjbnialehbaaGreatDoor

namespace Go.Proofs.YtjpbjbnialehbaaGreatDoor
open Go.ChangeShapes Go.WideShapes Go.ChangeAt Go.RowKit
set_option linter.unusedVariables false
set_option maxRecDepth 8000
set_option linter.unusedSimpArgs false
/-- One number of an owned list written. -/
theorem OwnN.set {w : World} {B b n cap : Nat} {ns : List Int} (h : OwnN w B (.slice (some ⟨b, 0, none⟩) n cap) ns) (k : Nat) (v : Int) (hk : k < ns.length) :
    OwnN (w.setCell ⟨b, k, none⟩ (.int .i64 v)) B (.slice (some ⟨b, 0, none⟩) n cap) (ns.set k v) ∧ w.grownBy (w.setCell ⟨b, k, none⟩ (.int .i64 v)) (some b) := by
  have hl : ns.length = n := by obtain ⟨a, c, e, _⟩ := h.rd; simp at e; omega
  subst hl
  have st := World.ownsRow.stored h k (.int .i64 v)
  refine ⟨?_, st.2⟩
  have e : cellsN (ns.set k v) = (cellsN ns).set k (.int .i64 v) := by unfold cellsN; rw [List.map_set]
  unfold OwnN
  rw [List.length_set, e]
  exact st.1
theorem OwnN.cellAt {w : World} {B b n cap : Nat} {ns : List Int} (h : OwnN w B (.slice (some ⟨b, 0, none⟩) n cap) ns) (k : Nat) (hk : k < ns.length) : w.cell? ⟨b, k, none⟩ = some (.int .i64 (nAt ns k)) ∧ w.frozen? ⟨b, k, none⟩ = false := by
  have hl : ns.length = n := by obtain ⟨a, c, e, _⟩ := h.rd; simp at e; omega
  subst hl
  refine ⟨?_, World.ownsRow.frozenAt h k⟩
  rw [World.ownsRow.cellAt h k (by omega)]
  simp only [cellsN, List.getElem?_map, List.getElem?_eq_getElem hk, Option.map_some, nAt, List.getD_eq_getElem?_getD, Option.getD_some]
set_option maxHeartbeats 2000000 in
theorem writeS_any (x : Mv) (d : Md) (a n : Int) (w : World) (hs : x.small) (hz : x.nz) (hr : RdM w x d) : Calls Tryz.prog 152 #[.agg x.cs, .int .i64 a, .int .i64 n] w fun e w' => ∃ y : Mv, e = .returned (.tuple #[.agg y.cs, .bool (d.has a)]) ∧ y.fl = x.fl ∧ OwnM w' (w.heap.size + 2) y (d.put a n) ∧ Below w.heap.size w w' := by
  have C := hide (cc_new w x)
  have X := hide (hr.later (unhide C).bel)
  have M := hide (copyS_any x d _ hs hz (unhide X))
  have HT := hide (has_t (d := d) (a := a))
  have S := hide hs
  unfold Md.put
  obtain ⟨q, hq⟩ : ∃ q, d.has a = q := ⟨_, rfl⟩
  rw [hq] at HT ⊢
  have HQ := hide hq
  clear hr hs hz hq
  go_enter Tryz.func152, Tryz.ntmps152
  go_wp2_with (refine wpList_load_row rfl 26 _ rfl w.heap.size rfl 26 x.cs (0, 0) _ (unhide C).bx Tryz.underlying26 rfl (by kernel_rfl) ?_)
  refine (unhide M).mono ?_
  rintro e w1 ⟨y, rfl, fy, oy, hb⟩
  have FY := hide fy
  have O1 := hide (oy.base (C := w.heap.size + 2) (by have := (unhide C).sz; omega))
  have C1 := hide (((unhide C).later hb).later (below_new w1 (.cells y.cs 26)))
  have X1 := hide (((unhide X).later hb).later (below_new w1 (.cells y.cs 26)))
  have H1 := hide (readS_any x d a (w1.alloc (.cells y.cs 26)) (unhide S) (unhide X1))
  rw [unhide HQ] at H1
  have G1 := hide (heap_alloc_last w1 (.cells y.cs 26))
  have Z1 := hide (Nat.le_trans (unhide C).sz hb.size)
  clear fy oy hb M C X
  go_wp2_with (first | (refine wpList_store_new rfl 26 _ _ rfl y.cs rfl rfl _ (by kernel_rfl) rfl (Mv.cs_one _) ?_) | (refine wpList_load_row rfl 26 _ rfl w.heap.size rfl 26 x.cs (0, 0) _ (unhide C1).bx Tryz.underlying26 rfl (by kernel_rfl) ?_))
  refine (unhide H1).mono ?_
  rintro e w2 ⟨rfl, hb⟩
  have C2 := hide ((unhide C1).later hb)
  have G2 := hide (row_lat (unhide G1) hb)
  have O2 := hide (((unhide O1).later (below_new w1 (.cells y.cs 26))).later hb)
  clear hb C1 G1 H1 X1
  cases q
  · go_wp2_with (first | (refine wpList_load_row rfl 26 _ rfl w1.heap.size rfl 26 y.cs (0, 0) _ (unhide G2) Tryz.underlying26 rfl (by kernel_rfl) ?_) | (refine wpList_store_row rfl 26 _ _ rfl (w.heap.size + 1) y.cs rfl rfl 26 zMv.cs (unhide C2).re (by kernel_rfl) rfl (Mv.cs_one _) ?_))
    refine bodyPost_ret (results_row2 (P := Tryz.prog) rfl _ _ (w.heap.size + 1) 26 y.cs (0, 0) _ rfl (setRow_heap w2 _ _ _ 26 _ (unhide C2).re) Tryz.underlying26 rfl (by kernel_rfl)) rfl ?_
    exact ⟨y, rfl, unhide FY, (unhide O2).row (by omega) _, below_setRow (unhide C2).bel (by omega) _⟩
  · obtain ⟨ta, tl⟩ := unhide HT (by trivial)
    obtain ⟨t0, t1, _⟩ := adB_t ta
    obtain ⟨k, hk⟩ := Int.eq_ofNat_of_zero_le (show 0 ≤ a / 2 by omega)
    have hkl : k < d.m.length := by omega
    have hml := (unhide O2).m.len
    obtain ⟨gm, hgm⟩ : ∃ gm, y.m.a = some ⟨gm, 0, none⟩ := by
      rcases (unhide O2).m.form with ⟨_, h0⟩ | ⟨g, cap, e, _⟩
      · rw [h0] at hkl; simp at hkl
      · unfold Sl.v at e; simp at e; exact ⟨g, e.1⟩
    have hmv : y.m.v = .slice (some ⟨gm, 0, none⟩) y.m.n y.m.c := by unfold Sl.v; rw [hgm]
    have o2 := (unhide O2).m
    rw [hmv] at o2
    have o2d := o2.later (below_drew (w := w2))
    have cA := hide (o2d.cellAt k hkl)
    have sA := o2d.set k (n % 65536) hkl
    have gA : w2.drew.grownBy (w2.drew.setCell ⟨gm, k, none⟩ (.int .i64 (n % 65536))) y.m.v.ownBlock := by rw [hmv]; exact sA.2
    have O3 := hide (((unhide O2).later (below_drew (w := w2))).putM gA (by rw [hmv]; exact sA.1))
    have gmB := (o2.lt (g := gm) rfl).1
    have gm1 : gm < w1.heap.size := by
      have := (unhide O1).m
      rw [hmv] at this
      exact (this.lt (g := gm) rfl).2
    have C3 := hide (((unhide C2).later (below_drew (w := w2))).pastR sA.2 (fun b e => by cases e; exact gmB))
    have G3 := hide ((sA.2.block w1.heap.size (row_lt (row_lat (unhide G2) (below_drew (w := w2)))) (by simp; omega)).trans (row_lat (unhide G2) (below_drew (w := w2))))
    have D0 : Hid (w2.drew.cell? ⟨w1.heap.size, 0, none⟩ = some (.slice (some ⟨gm, 0, none⟩) y.m.n y.m.c)) := hide (by rw [← hgm]; exact row_m (row_lat (unhide G2) (below_drew (w := w2))))
    have HKK := hide (show (a / 2).toNat = k by omega)
    have GM := hide hgm
    have HQ2 := hide (quo2 t0 (by omega) hk)
    have WR := hide (fun w => wrapS_any n w)
    have kn : (k : Int) < (y.m.n : Int) := by omega
    have kn0 : k < y.m.n := by omega
    obtain ⟨q, hq⟩ : ∃ q, n % 65536 = q := ⟨_, rfl⟩
    rw [hq] at O3 C3 G3 WR
    have HQQ := hide hq
    clear hq sA gA o2 o2d hmv hml ta HT C2 O2 G2 HQ tl hk hgm gmB gm1 hkl O1
    go_wp2_with fail
    refine wp_region_held_drew (S := fun w' => w'.cell? ⟨w1.heap.size, 0, none⟩ = some (.slice (some ⟨gm, 0, none⟩) y.m.n y.m.c)) (by kernel_rfl) (unhide D0) (fun hS => ?_)
    have HS := hide hS
    clear hS
    refine wpAnyH_take (i := 0) (v := .pointer (some ⟨w1.heap.size, 0, none⟩)) rfl (by kernel_rfl) (by kernel_rfl) (by kernel_rfl) (fun _ _ _ h => h) (Or.inl ⟨by rfl, fun w hc => ?_⟩) (unhide HS) ?_
    · clear hc; go_simp
    go_simp
    refine wpAnyH_take (i := 1) (v := .slice (some ⟨gm, 0, none⟩) y.m.n y.m.c) rfl (by kernel_rfl) (by kernel_rfl) (by kernel_rfl) (fun _ _ _ h => h) (Or.inl ⟨by rfl, fun w hc => ?_⟩) (unhide HS) ?_
    · go_simp
    go_simp
    refine wpAnyH_take (i := 2) (v := .int .i64 a) rfl (by kernel_rfl) (by kernel_rfl) (by kernel_rfl) (fun _ _ _ h => h) (Or.inl ⟨by rfl, fun w hc => ?_⟩) (unhide HS) ?_
    · clear hc; go_simp
    go_simp
    refine wpAnyH_take (i := 3) (v := .int .i64 (k : Int)) rfl (by kernel_rfl) (by kernel_rfl) (by kernel_rfl) (fun _ _ _ h => h) (Or.inl ⟨by rfl, fun w hc => ?_⟩) (unhide HS) ?_
    · clear hc; have hq2 := unhide HQ2; go_simp
    go_simp
    refine wpAnyH_take (i := 4) (v := .int .i64 n) rfl (by kernel_rfl) (by kernel_rfl) (by kernel_rfl) (fun _ _ _ h => h) (Or.inl ⟨by rfl, fun w hc => ?_⟩) (unhide HS) ?_
    · clear hc; go_simp
    go_simp
    refine wpAnyH_ready (rs := [5]) (by kernel_rfl) (by simp) ?_
    refine AllReadyH.cons rfl (fun K hK => ?_) AllReadyH.nil
    go_simp
    refine (unhide WR _).mono ?_
    rintro e w' ⟨rfl, hw'⟩
    rw [hw']
    clear hw' w'
    refine hK.out _ _ (unhide D0) (fun _ => ?_)
    clear hK K
    refine wpAnyH_take (i := 6) (v := .pointer (some ⟨gm, k, none⟩)) rfl (by kernel_rfl) (by kernel_rfl) (by kernel_rfl) (fun _ _ _ h => h) (Or.inl ⟨by rfl, fun w hc => ?_⟩) (unhide HS) ?_
    · clear hc; go_simp
    go_simp
    refine wpAnyH_ready (rs := [7]) (by kernel_rfl) (by simp) ?_
    refine AllReadyH.cons rfl (fun K hK => ?_) AllReadyH.nil
    obtain ⟨cA1, cA2⟩ := unhide cA
    go_simp
    refine hK.out _ _ ((row_m (unhide G3)).trans (by rw [unhide GM])) (fun _ => ?_)
    clear hK K
    refine wpAnyH_done (by kernel_rfl) ?_ _
    go_wp2_with (first | (refine wpList_load_row rfl 26 _ rfl w1.heap.size rfl 26 y.cs (0, 0) _ (unhide G3) Tryz.underlying26 rfl (by kernel_rfl) ?_) | (refine wpList_store_row rfl 26 _ _ rfl (w.heap.size + 1) y.cs rfl rfl 26 zMv.cs (unhide C3).re (by kernel_rfl) rfl (Mv.cs_one _) ?_))
    refine bodyPost_ret (results_row2 (P := Tryz.prog) rfl _ _ (w.heap.size + 1) 26 y.cs (0, 0) _ rfl (setRow_heap _ _ _ _ 26 _ (unhide C3).re) Tryz.underlying26 rfl (by kernel_rfl)) rfl ?_
    refine ⟨y, rfl, unhide FY, ?_, below_setRow (unhide C3).bel (by omega) _⟩
    rw [unhide HKK, unhide HQQ]
    exact (unhide O3).row (by omega) _
end Go.Proofs.YtjpbjbnialehbaaGreatDoor

namespace Go.Proofs.YtjpbjbnialehbaaGreatDoor
open Go.ChangeShapes Go.WideShapes Go.ChangeAt Go.RowKit
set_option linter.unusedVariables false
set_option maxRecDepth 8000
set_option linter.unusedSimpArgs false
set_option maxHeartbeats 400000 in
theorem markL_any (b len cap k0 : Nat) (xs : List Int) (B : Nat) (w : World) (hl : xs.length = len) (hm : len ≤ 1099511627776) (hk0 : k0 ≤ 8388608) (hown : OwnN w B (.slice (some ⟨b, 0, none⟩) len cap) xs) :
    Calls Tryz.prog 36 #[.slice (some ⟨b, 0, none⟩) len cap, .int .i64 k0] w fun e w' => e = .returned (.int .i64 ((k0 : Int) + len)) ∧ OwnN w' B (.slice (some ⟨b, 0, none⟩) len cap) (markN k0 len) ∧ w.grownBy w' (some b) := by
  go_enter Tryz.func36, Tryz.ntmps36
  go_wp2
  go_loopw [1, 5] (fun kk i wr => ∃ k : Nat, k ≤ len ∧ i = .int .i64 k ∧ kk = .int .i64 ((k0 : Int) + k) ∧ wr.ownsRow B 3 1 (.slice (some ⟨b, 0, none⟩) len cap) len (cellsN (markN k0 k ++ xs.drop k)) ∧ w.grownBy wr (some b)) (fun _ i _ => len - (intOf i).toNat)
  case atStart => exact ⟨0, Nat.zero_le _, rfl, by simp, by simpa [markN, hl, OwnN] using hown, World.grownBy.refl _ _⟩
  case round =>
    clear hown
    obtain ⟨k, hk, rfl, rfl, hown, hg⟩ := hrel
    by_cases hlt : k < len
    · have hfz := hown.frozenAt k
      obtain ⟨u, hcx⟩ : ∃ u, wr.cell? ⟨b, k, none⟩ = some u := by
        rw [hown.cellAt k (by omega)]
        exact ⟨_, List.getElem?_eq_getElem (by rw [cellsN_length, List.length_append, markN_length, List.length_drop]; omega)⟩
      have st := hown.stored k (.int .i64 ((k0 : Int) + k))
      rw [mark_step k0 k xs (by omega)] at st
      have st1 := hide st.1
      have st2 := hide (grownBy_trans hg st.2)
      clear hown st hg
      go_wp2
      go_roundw
      case rel => exact ⟨k + 1, by omega, by go_num, by go_num, unhide st1, unhide st2⟩
      case measure => simp [intOf]; omega
    · go_wp2
      go_ret
      obtain rfl : k = len := by omega
      refine ⟨rfl, ?_, hg⟩
      unfold OwnN
      rw [markN_length]
      rw [List.drop_eq_nil_of_le (by omega), List.append_nil] at hown
      exact hown
set_option maxHeartbeats 400000 in
theorem heldL_any (a : Option Addr) (len cap k0 : Nat) (w : World) (hm : len ≤ 1099511627776) (hk0 : k0 ≤ 8388608) (hr : RdN w a (markN k0 len)) :
    Calls Tryz.prog 37 #[.slice a len cap, .int .i64 k0] w fun e w' => e = .returned (.int .i64 ((k0 : Int) + len)) ∧ w' = w := by
  go_enter Tryz.func37, Tryz.ntmps37
  go_wp2
  go_loop [1, 5] (fun kk i => ∃ k : Nat, k ≤ len ∧ i = .int .i64 k ∧ kk = .int .i64 ((k0 : Int) + k)) (fun _ i => len - (intOf i).toNat)
  case atStart => exact ⟨0, Nat.zero_le _, rfl, by simp⟩
  case round =>
    obtain ⟨k, hk, rfl, rfl⟩ := hrel
    by_cases hlt : k < len
    · rcases hr with h0 | ⟨b, off, rfl, hb, hc⟩
      · have := markN_length k0 len; rw [h0] at this; simp at this; omega
      have hcx := hc k (by rw [markN_length]; exact hlt)
      rw [markN_at k0 len k hlt] at hcx
      clear hc
      go_wp2
      go_round
      case rel => exact ⟨k + 1, by omega, by go_num, by go_num⟩
      case measure => simp [intOf]; omega
    · go_wp2
      go_ret
      obtain rfl : k = len := by omega
      exact ⟨rfl, rfl⟩
theorem markL_none (k0 : Nat) (w : World) (hk0 : k0 ≤ 8388608) : Calls Tryz.prog 36 #[.slice none 0 0, .int .i64 k0] w fun e w' => e = .returned (.int .i64 (k0 : Int)) ∧ w' = w := by
  go_enter Tryz.func36, Tryz.ntmps36
  go_wp2
  go_loop [1, 5] (fun kk i => kk = .int .i64 k0 ∧ i = .int .i64 0) (fun _ _ => 0)
  case atStart => exact ⟨rfl, rfl⟩
  case round =>
    obtain ⟨rfl, rfl⟩ := hrel
    go_wp2
    go_ret
    exact ⟨rfl, rfl⟩
theorem markL_own (s : Sl) (ns : List Int) (B k0 : Nat) (w : World) (hm : ns.length ≤ 1048576) (hk : k0 ≤ 8388608) (h : OwnN w B s.v ns) :
    Calls Tryz.prog 36 #[.slice s.a s.n s.c, .int .i64 (k0 : Int)] w fun e w' => e = .returned (.int .i64 ((k0 : Int) + ns.length)) ∧ OwnN w' B s.v (markN k0 ns.length) ∧ w.grownBy w' s.v.ownBlock := by
  obtain ⟨sa, sn, sc⟩ := s
  rcases h.form with ⟨e, rfl⟩ | ⟨g, cap, e, hg, hlt, hc, hm2⟩
  · unfold Sl.v at e
    simp at e
    obtain ⟨rfl, rfl, rfl⟩ := e
    exact (markL_none k0 w (by omega)).mono fun e w' ⟨he, hw⟩ => by subst hw; exact ⟨by simpa using he, ownN_none _ _, World.grownBy.refl _ _⟩
  · unfold Sl.v at e h ⊢
    simp at e
    obtain ⟨rfl, rfl, rfl⟩ := e
    exact (markL_any g ns.length sc k0 ns B w rfl (by omega) (by omega) h).mono fun e w' ⟨he, ho, hg⟩ => ⟨he, ho, hg⟩
/-- What is written where a machine is marked from k on. -/
def Md.marks (d : Md) : Md := ⟨markN 1 d.m.length, markN (1 + d.m.length) d.r.length, markN (1 + d.m.length + d.r.length) d.i.length, markN (1 + d.m.length + d.r.length + d.i.length) d.o.length⟩
def Md.tot (d : Md) : Int := (((1 + d.m.length + d.r.length + d.i.length : Nat) : Int)) + (d.o.length : Int)
def Md.small (d : Md) : Prop := d.m.length ≤ 1048576 ∧ d.r.length ≤ 1048576 ∧ d.i.length ≤ 1048576 ∧ d.o.length ≤ 1048576
theorem Md.tot_pos (d : Md) : 0 < d.tot := by unfold Md.tot; omega
/-- The blocks that a machine's lists lie in. -/
def Mv.at (x : Mv) (b : Nat) : Prop := x.m.v.ownBlock = some b ∨ x.r.v.ownBlock = some b ∨ x.i.v.ownBlock = some b ∨ x.o.v.ownBlock = some b
/-- Nothing has turned but what lies in the machine's lists. -/
structure Tch (w w' : World) (x : Mv) : Prop where
  os : w'.os = w.os
  tape : w'.tape = w.tape
  output : w'.output = w.output
  size : w.heap.size ≤ w'.heap.size
  block : ∀ k, k < w.heap.size → ¬ x.at k → w'.heap[k]? = w.heap[k]?
section
variable {w w' w1 : World} {B : Nat} {x y : Mv} {d : Md} {s : Sl} {row : Option Nat}
theorem OwnM.lo (h : OwnM w B x d) {b : Nat} (hb : x.at b) : B ≤ b ∧ b < w.heap.size := by
  rcases hb with hb | hb | hb | hb
  · exact h.m.lt hb
  · exact h.r.lt hb
  · exact h.i.lt hb
  · exact h.o.lt hb
theorem Tch.below (h : Below w.heap.size w w') : Tch w w' x := ⟨h.os, h.tape, h.output, h.size, fun k hk _ => h.block k hk⟩
theorem Tch.grown (h : Tch w w1 x) (hg : w1.grownBy w' row) (hr : ∀ b, row = some b → x.at b) : Tch w w' x :=
  ⟨hg.os.trans h.os, hg.tape.trans h.tape, hg.output.trans h.output, Nat.le_trans h.size hg.size, fun k hk hn => (hg.block k (Nat.lt_of_lt_of_le hk h.size) (fun e => hn (hr k e.symm))).trans (h.block k hk hn)⟩
theorem Tch.toBelow {w0 : World} {C : Nat} (t : Tch w w' x) (h : Below C w0 w) (hC : C ≤ w.heap.size) (hb : ∀ b, x.at b → C ≤ b) : Below C w0 w' :=
  h.trans ⟨t.os, t.tape, t.output, t.size, fun k hk => t.block k (by omega) (fun e => by have := hb k e; omega)⟩
theorem OwnM.keepH (h : OwnM w B x d) (hs : ∀ g, x.at g → g < w.heap.size → w'.heap[g]? = w.heap[g]?) : OwnM w' B x d :=
  { h with m := h.m.keep fun g hv hg => hs g (.inl hv) hg, r := h.r.keep fun g hv hg => hs g (.inr (.inl hv)) hg, i := h.i.keep fun g hv hg => hs g (.inr (.inr (.inl hv))) hg, o := h.o.keep fun g hv hg => hs g (.inr (.inr (.inr hv))) hg }
theorem OwnM.tch (h : OwnM w B y d) (t : Tch w w' x) (hap : ∀ b, y.at b → x.at b → False) : OwnM w' B y d := h.keepH fun g hg hl => t.block g hl (fun e => hap g hg e)
theorem row_tch {g : Nat} {o : Obj} (h : w.heap[g]? = some o) (t : Tch w w' x) (hn : ¬ x.at g) : w'.heap[g]? = some o := (t.block g (row_lt h) hn).trans h
theorem RdM.tch {z : Mv} {e : Md} {W : World} (h : RdM w z e) (hW : RdM W z e) (t : Tch w w' x) (hx : ∀ b, x.at b → W.heap.size ≤ b) : RdM w' z e := by
  have key : ∀ {a : Option Addr} {ns : List Int}, RdN w a ns → RdN W a ns → RdN w' a ns := fun hr hq => by
    rcases hr with h0 | ⟨b, off, rfl, hb, hc⟩
    · exact .inl h0
    · rcases hq with h0 | ⟨b', off', e', hb', _⟩
      · exact .inl h0
      · cases e'
        exact .inr ⟨b, off, rfl, Nat.lt_of_lt_of_le hb t.size, fun i hi => (World.cell?_of_block (w := w) (t.block b hb (fun e => by have := hx b e; omega))).trans (hc i hi)⟩
  exact ⟨key h.m hW.m, key h.r hW.r, key h.i hW.i, key h.o hW.o, h.ml, h.rl, h.il, h.ol⟩
end
set_option maxHeartbeats 2000000 in
theorem markM_any (x : Mv) (d : Md) (B : Nat) (w : World) (hs : d.small) (ho : OwnM w B x d) : Calls Tryz.prog 15 #[.agg x.cs, .int .i64 1] w fun e w' => e = .returned (.int .i64 d.tot) ∧ OwnM w' B x d.marks ∧ Tch w w' x := by
  obtain ⟨s0, s1, s2, s3⟩ := hs
  have b0 := below_new w (.cells x.cs 26)
  have R0 := hide (heap_alloc_last w (.cells x.cs 26))
  have NB : Hid (¬ x.at w.heap.size) := hide (fun e => by have := (ho.lo e).2; omega)
  have T0 := hide (Tch.below (x := x) b0)
  have O := hide (ho.later b0)
  have q0 : x.cs[0]? = some (.slice x.m.a x.m.n x.m.c) := rfl
  have M := hide (markL_own x.m d.m B 1 (w.alloc (.cells x.cs 26)) s0 (by omega) (unhide O).m)
  clear ho b0
  go_enter Tryz.func15, Tryz.ntmps15
  go_wp2_with fail
  refine (unhide M).mono ?_
  rintro e w1 ⟨rfl, om, gm⟩
  have R1 := hide ((gm.block w.heap.size (row_lt (unhide R0)) (fun e => unhide NB (.inl e.symm))).trans (unhide R0))
  have T1 := hide ((unhide T0).grown gm (fun b e => .inl e))
  have OM := hide om
  have OR := hide ((unhide O).r.keep fun g hv hl => gm.block g hl (fun e => (unhide O).mr g e.symm hv))
  have OI := hide ((unhide O).i.keep fun g hv hl => gm.block g hl (fun e => (unhide O).mi g e.symm hv))
  have OO := hide ((unhide O).o.keep fun g hv hl => gm.block g hl (fun e => (unhide O).mo g e.symm hv))
  clear om gm M q0 R0 T0
  have q1 := row_r (unhide R1)
  have M := hide (markL_own x.r d.r B (1 + d.m.length) w1 s1 (by omega) (unhide OR))
  go_wp2_with fail
  refine (unhide M).mono ?_
  rintro e w2 ⟨rfl, om, gm⟩
  have R2 := hide ((gm.block w.heap.size (row_lt (unhide R1)) (fun e => unhide NB (.inr (.inl e.symm)))).trans (unhide R1))
  have T2 := hide ((unhide T1).grown gm (fun b e => .inr (.inl e)))
  have PM := hide ((unhide OM).keep fun g hv hl => gm.block g hl (fun e => (unhide O).mr g hv e.symm))
  have PR := hide om
  have PI := hide ((unhide OI).keep fun g hv hl => gm.block g hl (fun e => (unhide O).ri g e.symm hv))
  have PO := hide ((unhide OO).keep fun g hv hl => gm.block g hl (fun e => (unhide O).ro g e.symm hv))
  clear om gm M q1 R1 T1 OM OR OI OO
  have q6 := row_i (unhide R2)
  have M := hide (markL_own x.i d.i B (1 + d.m.length + d.r.length) w2 s2 (by omega) (unhide PI))
  go_wp2_with fail
  refine (unhide M).mono ?_
  rintro e w3 ⟨rfl, om, gm⟩
  have R3 := hide ((gm.block w.heap.size (row_lt (unhide R2)) (fun e => unhide NB (.inr (.inr (.inl e.symm))))).trans (unhide R2))
  have T3 := hide ((unhide T2).grown gm (fun b e => .inr (.inr (.inl e))))
  have OM := hide ((unhide PM).keep fun g hv hl => gm.block g hl (fun e => (unhide O).mi g hv e.symm))
  have OR := hide ((unhide PR).keep fun g hv hl => gm.block g hl (fun e => (unhide O).ri g hv e.symm))
  have OI := hide om
  have OO := hide ((unhide PO).keep fun g hv hl => gm.block g hl (fun e => (unhide O).io g e.symm hv))
  clear om gm M q6 R2 T2 PM PR PI PO
  have q7 := row_o (unhide R3)
  have M := hide (markL_own x.o d.o B (1 + d.m.length + d.r.length + d.i.length) w3 s3 (by omega) (unhide OO))
  go_wp2_with fail
  refine (unhide M).mono ?_
  rintro e w4 ⟨rfl, om, gm⟩
  have T4 := hide ((unhide T3).grown gm (fun b e => .inr (.inr (.inr e))))
  have PM := hide ((unhide OM).keep fun g hv hl => gm.block g hl (fun e => (unhide O).mo g hv e.symm))
  have PR := hide ((unhide OR).keep fun g hv hl => gm.block g hl (fun e => (unhide O).ro g hv e.symm))
  have PI := hide ((unhide OI).keep fun g hv hl => gm.block g hl (fun e => (unhide O).io g hv e.symm))
  have PO := hide om
  clear om gm M q7 R3 T3 OM OR OI OO
  go_wp2
  go_ret
  exact ⟨by unfold Md.tot; rfl, { (unhide O) with m := unhide PM, r := unhide PR, i := unhide PI, o := unhide PO }, unhide T4⟩
set_option maxHeartbeats 2000000 in
theorem heldM_any (x : Mv) (d : Md) (w : World) (hs : d.small) (hr : RdM w x d.marks) : Calls Tryz.prog 16 #[.agg x.cs, .int .i64 1] w fun e w' => e = .returned (.int .i64 d.tot) ∧ Below w.heap.size w w' := by
  obtain ⟨s0, s1, s2, s3⟩ := hs
  have HB := hide (below_new w (.cells x.cs 26))
  have R := hide (hr.later (unhide HB))
  have e0 : x.m.n = d.m.length := by rw [← hr.ml]; exact markN_length _ _
  have e1 : x.r.n = d.r.length := by rw [← hr.rl]; exact markN_length _ _
  have e2 : x.i.n = d.i.length := by rw [← hr.il]; exact markN_length _ _
  have e3 : x.o.n = d.o.length := by rw [← hr.ol]; exact markN_length _ _
  have q0 : x.cs[0]? = some (.slice x.m.a d.m.length x.m.c) := by rw [← e0]; rfl
  have q1 : x.cs[1]? = some (.slice x.r.a d.r.length x.r.c) := by rw [← e1]; rfl
  have q6 : x.cs[6]? = some (.slice x.i.a d.i.length x.i.c) := by rw [← e2]; rfl
  have q7 : x.cs[7]? = some (.slice x.o.a d.o.length x.o.c) := by rw [← e3]; rfl
  have M0 := hide (heldL_any x.m.a d.m.length x.m.c 1 _ (by omega) (by omega) (unhide R).m)
  have M1 := hide (heldL_any x.r.a d.r.length x.r.c (1 + d.m.length) _ (by omega) (by omega) (unhide R).r)
  have M2 := hide (heldL_any x.i.a d.i.length x.i.c (1 + d.m.length + d.r.length) _ (by omega) (by omega) (unhide R).i)
  have M3 := hide (heldL_any x.o.a d.o.length x.o.c (1 + d.m.length + d.r.length + d.i.length) _ (by omega) (by omega) (unhide R).o)
  clear hr R e0 e1 e2 e3
  go_enter Tryz.func16, Tryz.ntmps16
  go_wp2_with fail
  refine (unhide M0).mono ?_
  rintro e w' ⟨rfl, rfl⟩
  go_wp2_with fail
  refine (unhide M1).mono ?_
  rintro e w' ⟨rfl, rfl⟩
  go_wp2_with fail
  refine (unhide M2).mono ?_
  rintro e w' ⟨rfl, rfl⟩
  go_wp2_with fail
  refine (unhide M3).mono ?_
  rintro e w' ⟨rfl, rfl⟩
  go_wp2
  go_ret
  exact ⟨by unfold Md.tot; rfl, unhide HB⟩
end Go.Proofs.YtjpbjbnialehbaaGreatDoor

namespace Go.Proofs.YtjpbjbnialehbaaGreatDoor
open Go.ChangeShapes Go.WideShapes Go.ChangeAt Go.RowKit
set_option linter.unusedVariables false
set_option maxRecDepth 8000
set_option linter.unusedSimpArgs false
theorem Lw.tch {W w w' : World} {x y : Mv} {e : Md} (h : Lw W w x e) (hW : RdM W x e) (t : Tch w w' y) (hy : ∀ b, y.at b → W.heap.size < b) : Lw W w' x e :=
  ⟨row_tch h.bx t (fun e => by have := hy _ e; omega), h.rd.tch hW t (fun b e => Nat.le_of_lt (hy b e)), t.toBelow h.bel (Nat.le_of_lt h.lt) (fun b e => Nat.le_of_lt (hy b e))⟩
theorem small_md {w : World} {x : Mv} {d : Md} (h : RdM w x d) (hs : x.small) : d.small := ⟨by rw [h.ml]; exact hs.1, by rw [h.rl]; exact hs.2.1, by rw [h.il]; exact hs.2.2.1, by rw [h.ol]; exact hs.2.2.2⟩
theorem small_mv {w : World} {x : Mv} {d : Md} (h : RdM w x d) (hs : d.small) : x.small := ⟨by rw [← h.ml]; exact hs.1, by rw [← h.rl]; exact hs.2.1, by rw [← h.il]; exact hs.2.2.1, by rw [← h.ol]; exact hs.2.2.2⟩
theorem alloc_size (w : World) (o : Obj) : (w.alloc o).heap.size = w.heap.size + 1 := by simp
end Go.Proofs.YtjpbjbnialehbaaGreatDoor

namespace Go.Proofs.YtjpbjbnialehbaaGreatDoor
open Go.ChangeShapes Go.WideShapes Go.ChangeAt Go.RowKit
set_option linter.unusedVariables false
set_option maxRecDepth 8000
set_option linter.unusedSimpArgs false
/-- Numbers laid over a list from a place on. -/
def over (ns : List Int) (k : Nat) (im : List Int) : List Int := ns.take k ++ (im ++ ns.drop (k + im.length))
theorem inB_t (x a b : Int) (h : a ≤ x ∧ x ≤ b) : inB x a b = true := by simp [inB, h]
theorem inB_b {x a b : Int} (h : inB x a b = true) : a ≤ x ∧ x ≤ b := by unfold inB at h; simpa using h
end Go.Proofs.YtjpbjbnialehbaaGreatDoor

namespace Go.Proofs.YtjpbjbnialehbaaGreatDoor
open Go.ChangeShapes Go.WideShapes Go.ChangeAt Go.RowKit
set_option linter.unusedVariables false
set_option maxRecDepth 8000
set_option linter.unusedSimpArgs false
/-- The cells of so many noughts. -/
def zA (n : Nat) : Array Value := (cellsN (List.replicate n 0)).toArray
theorem zA_size (n : Nat) : (zA n).size = n := by simp [zA, cellsN]
section
variable {o : Oper} {a : Act} {w : World} {K : Act → World → Prop} {Q : Exit → Act → World → Prop}
/-- 'append(v, s...)' as one operation: where the answer lies, too. -/
theorem wp_app (p q : Operand) (ho : o.op = .call { callee := .builtin .append, args := #[p, q], argTypes := #[24, 24] })
    (B : Nat) (v : Value) (xs : List Int) (hs : a.eval p = v) (hown : OwnN w B v xs) (s : Sl) (ns : List Int) (hx : a.eval q = .slice s.a s.n s.c) (hr : RdN w s.a ns) (hl : ns.length = s.n) (hz : s.nz) (hm : xs.length + s.n ≤ 4194304) (hB : B ≤ w.heap.size)
    (h : ∀ v' w', OwnN w' B v' (xs ++ ns) → w.grownBy w' v.ownBlock → (v'.ownBlock = v.ownBlock ∨ v'.ownBlock = some w.heap.size) → K (a.put o.dst v') w') : o.wp Tryz.prog a w K Q := by
  obtain ⟨i0, hi, hz0, hz1, hz2⟩ := info_parts info3
  obtain ⟨sa, sn, sc⟩ := s
  simp only at hx hr hl hm
  cases sa with
  | none =>
    have h0 : ns = [] := by
      rcases hr with h0 | ⟨_, _, e, _⟩
      · exact h0
      · cases e
    subst h0
    have hn : sn = 0 := by simp at hl; omega
    have hc : sc = 0 := hz rfl
    subst hn hc
    have hrun := run_append_owned_none (P := Tryz.prog) (w := w) B 24 o.type 3 i0 1 Tryz.underlying24 hi v xs.length (cellsN xs) hown
    have hk := h v w (by rw [List.append_nil]; exact hown) (World.grownBy.refl _ _) (.inl rfl)
    unfold Oper.wp
    simp [execOp, ho, resolve, invoke, builtin, hs, hx, hrun, Result.andThen]
    exact hk
  | some ad =>
    obtain ⟨v', w', hr', h2, h3, _, h5⟩ := run_append_own_at (P := Tryz.prog) w B 24 o.type 3 i0 (.int .i64 0) 1 8 Tryz.underlying24 hi hz0 hz1 hz2 rfl (by decide) v xs.length (cellsN xs) hown ad sn sc (cellsN ns) (by rw [cellsN_length]; omega) (rdN_cells hr) (cellsN_one _) (by unfold maxLen; omega) (by omega) hB
    unfold Oper.wp execOp
    simp only [ho, resolve, invoke, builtin, Sem.run_bind, Sem.run_pure, Result.andThen_ok, List.map_toArray, List.map_cons, List.map_nil, hs, hx, hr']
    refine h v' w' ?_ h3 h5
    unfold OwnN
    rw [cellsN_append, List.length_append, hl]
    exact h2
end
theorem own_made {w : World} {g n B : Nat} (h : w.heap[g]? = some (.cells (zA n) 3 (0, 0))) (hB : B ≤ g) (hn : n ≤ 1048576) : OwnN w B (.slice (some ⟨g, 0, none⟩) n n) (List.replicate n 0) := by
  unfold OwnN
  rw [List.length_replicate]
  refine ⟨by rw [cellsN_length, List.length_replicate]; omega, .inr ⟨g, n, zA n, rfl, hB, h, Nat.le_refl _, by unfold maxLen; omega, by rw [zA_size]; omega, ?_⟩⟩
  unfold zA
  rw [List.toList_toArray, List.take_of_length_le (by rw [cellsN_length, List.length_replicate]; omega)]
end Go.Proofs.YtjpbjbnialehbaaGreatDoor

namespace Go.Proofs.YtjpbjbnialehbaaGreatDoor
open Go.ChangeShapes Go.WideShapes Go.ChangeAt Go.RowKit
set_option linter.unusedVariables false
set_option maxRecDepth 8000
set_option linter.unusedSimpArgs false
/-- What holds of the region in which a machine's parts are made, whatever part of it has come up. -/
structure Ir (w : World) (ins : Sl) (nn : List Int) (w' : World) (b0 b1 b2 b3 b4 b5 b6 b7 : Bool) (v9 v48 v49 v50 v51 v52 v53 : Value) : Prop where
  bel : Below (w.heap.size + 1) (w.alloc (.cells zMv.cs 26)) w'
  h0 : b0 = true → ∃ g, v48 = .slice (some ⟨g, 0, none⟩) 256 256 ∧ w.heap.size < g ∧ w'.heap[g]? = some (.cells (zA 256) 3 (0, 0))
  h1 : b1 = true → ∃ g, v49 = .slice (some ⟨g, 0, none⟩) 8 8 ∧ w.heap.size < g ∧ w'.heap[g]? = some (.cells (zA 8) 3 (0, 0))
  h2 : b2 = true → b4 = false → ∃ g, v50 = .slice (some ⟨g, 0, none⟩) 0 0 ∧ w.heap.size < g ∧ w'.heap[g]? = some (.cells #[] 3 (0, 0))
  h3 : b3 = true → v51 = .slice ins.a ins.n ins.c
  h4 : b4 = true → ∃ s : Sl, v52 = s.v ∧ OwnN w' (w.heap.size + 1) s.v nn
  x4 : b4 = true → ∀ g, v52.ownBlock = some g → (b0 = true → v48.ownBlock ≠ some g) ∧ (b1 = true → v49.ownBlock ≠ some g) ∧ (b6 = true → v9 ≠ .pointer (some ⟨g, 0, none⟩))
  h5 : b5 = true → v53 = .agg #[v48, v49, .bool false, .bool false, .bool false, .bool false, v52, .slice none 0 0, .int .i64 0]
  h6 : b6 = true → b7 = false → ∃ g, v9 = .pointer (some ⟨g, 0, none⟩) ∧ w.heap.size < g ∧ w'.heap[g]? = some (.cells zMv.cs 26 (0, 0))
  h7 : b7 = true → ∃ g, v9 = .pointer (some ⟨g, 0, none⟩) ∧ w.heap.size < g ∧ w'.heap[g]? = some (.cells #[v48, v49, .bool false, .bool false, .bool false, .bool false, v52, .slice none 0 0, .int .i64 0] 26 (0, 0))
section
variable {w w' : World} {ins : Sl} {nn : List Int} {b0 b1 b2 b3 b4 b5 b6 b7 : Bool} {v9 v48 v49 v50 v51 v52 v53 : Value}
theorem Ir.size (J : Ir w ins nn w' b0 b1 b2 b3 b4 b5 b6 b7 v9 v48 v49 v50 v51 v52 v53) : w.heap.size + 1 ≤ w'.heap.size := by have := J.bel.size; have := alloc_size w (.cells zMv.cs 26); omega
end
end Go.Proofs.YtjpbjbnialehbaaGreatDoor

namespace Go.Proofs.YtjpbjbnialehbaaGreatDoor
open Go.ChangeShapes Go.WideShapes Go.ChangeAt Go.RowKit
set_option linter.unusedVariables false
set_option maxRecDepth 8000
set_option linter.unusedSimpArgs false
theorem no {p : Prop} (h : false = true) : p := by cases h
/-- While the image is laid into a new machine. -/
structure Nl (w wr : World) (y : Mv) (g9 : Nat) (d : Md) : Prop where
  bel : Below (w.heap.size + 1) (w.alloc (.cells zMv.cs 26)) wr
  r9 : wr.heap[g9]? = some (.cells y.cs 26 (0, 0))
  own : OwnM wr (w.heap.size + 1) y d
theorem Nl.re {w wr : World} {y : Mv} {g9 : Nat} {d : Md} (h : Nl w wr y g9 d) : wr.heap[w.heap.size]? = some (.cells zMv.cs 26 (0, 0)) := (h.bel.block w.heap.size (by omega)).trans (heap_alloc_last w _)
theorem Nl.later {w wr w' : World} {y : Mv} {g9 : Nat} {d : Md} (h : Nl w wr y g9 d) (hb : Below wr.heap.size wr w') : Nl w w' y g9 d :=
  ⟨h.bel.trans (hb.mono (by have := h.bel.size; have := alloc_size w (.cells zMv.cs 26); omega)), row_lat h.r9 hb, h.own.later hb⟩
theorem Nl.setM {w wr : World} {y : Mv} {g9 gm n c : Nat} {d : Md} (h : Nl w wr y g9 d) (hm : y.m = ⟨some ⟨gm, 0, none⟩, n, c⟩) (hne : ∀ b, y.at b → b ≠ g9) (k : Nat) (v : Int) (hk : k < d.m.length) : Nl w (wr.setCell ⟨gm, k, none⟩ (.int .i64 v)) y g9 ⟨d.m.set k v, d.r, d.i, d.o⟩ := by
  have e : y.m.v = .slice (some ⟨gm, 0, none⟩) n c := by rw [hm]; rfl
  have o := h.own.m
  rw [e] at o
  have s := o.set k v hk
  have hat : y.at gm := .inl (by rw [e]; rfl)
  have := h.own.lo hat
  exact ⟨h.bel.setCell (p := ⟨gm, k, none⟩) this.1 _, row_keep h.r9 (fun e => hne gm hat e.symm), h.own.putM (by rw [e]; exact s.2) (by rw [e]; exact s.1)⟩
theorem OwnM.putR {w w' : World} {B : Nat} {x : Mv} {d : Md} {ns : List Int} (h : OwnM w B x d) (hg : w.grownBy w' x.r.v.ownBlock) (hn : OwnN w' B x.r.v ns) : OwnM w' B x ⟨d.m, ns, d.i, d.o⟩ :=
  { h with
    r := hn
    m := h.m.keep fun q hv hq => hg.block q hq (fun e => h.mr q hv e.symm)
    i := h.i.keep fun q hv hq => hg.block q hq (fun e => h.ri q e.symm hv)
    o := h.o.keep fun q hv hq => hg.block q hq (fun e => h.ro q e.symm hv) }
theorem Nl.setR {w wr : World} {y : Mv} {g9 gr n c : Nat} {d : Md} (h : Nl w wr y g9 d) (hm : y.r = ⟨some ⟨gr, 0, none⟩, n, c⟩) (hne : ∀ b, y.at b → b ≠ g9) (k : Nat) (v : Int) (hk : k < d.r.length) : Nl w (wr.setCell ⟨gr, k, none⟩ (.int .i64 v)) y g9 ⟨d.m, d.r.set k v, d.i, d.o⟩ := by
  have e : y.r.v = .slice (some ⟨gr, 0, none⟩) n c := by rw [hm]; rfl
  have o := h.own.r
  rw [e] at o
  have s := o.set k v hk
  have hat : y.at gr := .inr (.inl (by rw [e]; rfl))
  have := h.own.lo hat
  exact ⟨h.bel.setCell (p := ⟨gr, k, none⟩) this.1 _, row_keep h.r9 (fun e => hne gr hat e.symm), h.own.putR (by rw [e]; exact s.2) (by rw [e]; exact s.1)⟩
section
variable {w w' : World} {ins : Sl} {nn : List Int} {f : Nat → Bool} {v9 v48 v49 v50 v51 v52 v53 : Value}
end
end Go.Proofs.YtjpbjbnialehbaaGreatDoor

namespace Go.Proofs.YtjpbjbnialehbaaGreatDoor
open Go.ChangeShapes Go.WideShapes Go.ChangeAt Go.RowKit
set_option linter.unusedVariables false
set_option maxRecDepth 8000
set_option linter.unusedSimpArgs false
/-- What is there behind a store. -/
def Md.stD (d : Md) (r a n : Int) : Md := if r = -1 then d.put a n else if d.ldB r a = true then ⟨d.m, d.r.set r.toNat (n % 65536), d.i, d.o⟩ else d
/-- The boxes of a machine, a place, and the answer's place. -/
structure Bs (w wr : World) (x : Mv) (r a : Int) : Prop where
  bx : wr.heap[w.heap.size]? = some (.cells x.cs 26 (0, 0))
  bp : wr.heap[w.heap.size + 1]? = some (.cells #[.int .i64 r, .int .i64 a] 97 (0, 0))
  re : wr.heap[w.heap.size + 1 + 1]? = some (.cells zMv.cs 26 (0, 0))
  bel : Below w.heap.size w wr
  sz : w.heap.size + 3 ≤ wr.heap.size
theorem bs_new (w : World) (x : Mv) (r a : Int) : Bs w (((w.alloc (.cells x.cs 26)).alloc (.cells #[.int .i64 r, .int .i64 a] 97)).alloc (.cells zMv.cs 26)) x r a :=
  ⟨row_lat (bp_new w x r a).bx (below_new _ _), row_lat (bp_new w x r a).bp (below_new _ _), by have := heap_alloc_last ((w.alloc (.cells x.cs 26)).alloc (.cells #[.int .i64 r, .int .i64 a] 97)) (.cells zMv.cs 26); simpa using this, (bp_new w x r a).bel.alloc (by simp; omega) _, by simp⟩
section
variable {w wr w' : World} {x : Mv} {r a : Int}
theorem Bs.later (h : Bs w wr x r a) (hb : Below wr.heap.size wr w') : Bs w w' x r a :=
  ⟨row_lat h.bx hb, row_lat h.bp hb, row_lat h.re hb, h.bel.trans (hb.mono (by have := h.sz; omega)), Nat.le_trans h.sz hb.size⟩
theorem Bs.cr (h : Bs w wr x r a) : wr.cell? ⟨w.heap.size + 1, 0, none⟩ = some (.int .i64 r) := (cell_of_row wr _ 0 _ 97 _ h.bp).trans rfl
theorem Bs.ca (h : Bs w wr x r a) : wr.cell? ⟨w.heap.size + 1, 1, none⟩ = some (.int .i64 a) := (cell_of_row wr _ 1 _ 97 _ h.bp).trans rfl
/-- A list of what is new is written: what stood stays. -/
theorem Bs.past (h : Bs w wr x r a) {o : Option Nat} (hg : wr.grownBy w' o) (ho : ∀ b, o = some b → w.heap.size + 3 ≤ b) : Bs w w' x r a :=
  ⟨(hg.block _ (row_lt h.bx) (fun e => by have := ho _ e.symm; omega)).trans h.bx, (hg.block _ (row_lt h.bp) (fun e => by have := ho _ e.symm; omega)).trans h.bp, (hg.block _ (row_lt h.re) (fun e => by have := ho _ e.symm; omega)).trans h.re, h.bel.grown hg h.bel.size (fun k e => by have := ho _ e; omega), Nat.le_trans h.sz hg.size⟩
end
theorem sl_formP {w : World} {B : Nat} {s : Sl} {ns : List Int} (h : OwnN w B s.v ns) (h0 : 0 < ns.length) : ∃ g c, s = ⟨some ⟨g, 0, none⟩, ns.length, c⟩ := by
  obtain ⟨sa, sn, sc⟩ := s
  rcases h.form with ⟨_, e0⟩ | ⟨g, cap, e, _⟩
  · rw [e0] at h0; simp at h0
  · unfold Sl.v at e
    simp at e
    exact ⟨g, cap, by rw [e.1, e.2.1, e.2.2]⟩
/-- One register of an owned machine written. -/
theorem own_setR {w : World} {B gr n c : Nat} {y : Mv} {d : Md} (O : OwnM w B y d) (e : y.r = ⟨some ⟨gr, 0, none⟩, n, c⟩) (k : Nat) (v : Int) (hk : k < d.r.length) :
    OwnM (w.setCell ⟨gr, k, none⟩ (.int .i64 v)) B y ⟨d.m, d.r.set k v, d.i, d.o⟩ ∧ w.grownBy (w.setCell ⟨gr, k, none⟩ (.int .i64 v)) (some gr) ∧ B ≤ gr ∧ gr < w.heap.size ∧ w.cell? ⟨gr, k, none⟩ = some (.int .i64 (nAt d.r k)) ∧ w.frozen? ⟨gr, k, none⟩ = false := by
  have ev : y.r.v = .slice (some ⟨gr, 0, none⟩) n c := by rw [e]; rfl
  have o := O.r
  rw [ev] at o
  obtain ⟨c1, c2⟩ := o.cellAt k hk
  have st := o.set k v hk
  have lt := o.lt (g := gr) rfl
  exact ⟨O.putR (by rw [ev]; exact st.2) (by rw [ev]; exact st.1), st.2, lt.1, lt.2, c1, c2⟩
theorem own_rlt {w : World} {B gr n c : Nat} {y : Mv} {d : Md} (O : OwnM w B y d) (e : y.r = ⟨some ⟨gr, 0, none⟩, n, c⟩) : gr < w.heap.size := by
  have ev : y.r.v = .slice (some ⟨gr, 0, none⟩) n c := by rw [e]; rfl
  have o := O.r
  rw [ev] at o
  exact (o.lt (g := gr) rfl).2
theorem row_past {w w' : World} {g gr : Nat} {o : Obj} (h : w.heap[g]? = some o) (hg : w.grownBy w' (some gr)) (hne : gr ≠ g) : w'.heap[g]? = some o := (hg.block g (row_lt h) (fun e => hne (by cases e; rfl))).trans h
set_option maxHeartbeats 4000000 in
theorem storeS_any (x : Mv) (d : Md) (r a n : Int) (w : World) (hs : x.small) (hz : x.nz) (hr : RdM w x d) :
    Calls Tryz.prog 144 #[.agg x.cs, .agg #[.int .i64 r, .int .i64 a], .int .i64 n] w fun e w' => ∃ y : Mv, e = .returned (.tuple #[.agg y.cs, .bool (d.ldB r a)]) ∧ y.fl = x.fl ∧ OwnM w' (w.heap.size + 2) y (d.stD r a n) ∧ Below w.heap.size w w' := by
  have B := hide (bs_new w x r a)
  have X := hide (hr.later (unhide B).bel)
  by_cases h1 : r = -1
  · subst h1
    have R := hide (writeS_any x d a n _ hs hz (unhide X))
    unfold Md.stD Md.ldB
    rw [if_pos rfl, if_pos rfl]
    clear hr hs hz X
    go_enter Tryz.func144, Tryz.ntmps144
    go_wp2_with (first | (refine wpList_load_row rfl 26 _ rfl w.heap.size rfl 26 x.cs (0, 0) _ (unhide B).bx Tryz.underlying26 rfl (by kernel_rfl) ?_))
    refine (unhide R).mono ?_
    rintro e w1 ⟨y, rfl, fy, oy, hb⟩
    have FY := hide fy
    have O1 := hide (oy.base (C := w.heap.size + 3) (by have := (unhide B).sz; omega))
    have B1 := hide ((unhide B).later hb)
    clear fy oy hb R B
    go_wp2_with (first | (refine wpList_store_row rfl 26 _ _ rfl (w.heap.size + 1 + 1) y.cs rfl rfl 26 zMv.cs (unhide B1).re (by kernel_rfl) rfl (Mv.cs_one _) ?_))
    refine bodyPost_ret (results_row2 (P := Tryz.prog) rfl _ _ (w.heap.size + 1 + 1) 26 y.cs (0, 0) _ rfl (setRow_heap _ _ _ _ 26 _ (unhide B1).re) Tryz.underlying26 rfl (by kernel_rfl)) rfl ?_
    exact ⟨y, rfl, unhide FY, ((unhide O1).row (by omega) _).base (by omega), below_setRow (unhide B1).bel (by omega) _⟩
  · have c1 : x.cs[1]? = some (.slice x.r.a x.r.n x.r.c) := rfl
    have I := hide (fun w => in_any r 0 ((x.r.n : Int) - 1) w)
    have hn := hs.2.1
    have hw1 : IntKind.i64.wrap ((x.r.n : Int) - 1) = (x.r.n : Int) - 1 := by rw [IntKind.wrap_i64]; omega
    have M := hide (copyS_any x d _ hs hz (unhide X))
    unfold Md.stD Md.ldB
    rw [if_neg h1, if_neg h1]
    have HRL := hide hr.rl
    rw [hr.rl]
    obtain ⟨q, hq⟩ : ∃ q, inB r 0 ((x.r.n : Int) - 1) = q := ⟨_, rfl⟩
    rw [hq] at I ⊢
    have HQ := hide hq
    obtain ⟨bb, hbb⟩ : ∃ b, (a == -1) = b := ⟨_, rfl⟩
    rw [hbb]
    have HBB := hide hbb
    clear hr hs hz X hq hbb
    go_enter Tryz.func144, Tryz.ntmps144
    go_wp2_with (refine wpList_load_row rfl 26 _ rfl w.heap.size rfl 26 x.cs (0, 0) _ (unhide B).bx Tryz.underlying26 rfl (by kernel_rfl) ?_)
    refine (unhide M).mono ?_
    rintro e w1 ⟨y, rfl, fy, oy, hb⟩
    have FY := hide fy
    have O1 := hide ((oy.base (C := w.heap.size + 3) (by have := (unhide B).sz; omega)).later (below_new w1 (.cells y.cs 26)))
    have O0 := hide oy
    have B1 := hide (((unhide B).later hb).later (below_new w1 (.cells y.cs 26)))
    have G1 := hide (heap_alloc_last w1 (.cells y.cs 26))
    have Z1 := hide (((unhide B).later hb).sz)
    clear fy oy hb M B
    have b0 := (unhide B1).cr
    have b1 := (unhide B1).ca
    have b2 := row_r (unhide B1).bx
    cases q
    · go_wp2_with (first | (refine wpList_store_new rfl 26 _ _ rfl y.cs rfl rfl _ (by kernel_rfl) rfl (Mv.cs_one _) ?_) | (go_at_call 31; refine (unhide I _).mono ?_; rintro e w' ⟨rfl, hw'⟩; rw [hw']; clear hw' w') | (refine wpList_load_row rfl 26 _ rfl w1.heap.size rfl 26 y.cs (0, 0) _ (unhide G1) Tryz.underlying26 rfl (by kernel_rfl) ?_) | (refine wpList_store_row rfl 26 _ _ rfl (w.heap.size + 1 + 1) y.cs rfl rfl 26 zMv.cs (unhide B1).re (by kernel_rfl) rfl (Mv.cs_one _) ?_))
      refine bodyPost_ret (results_row2 (P := Tryz.prog) rfl _ _ (w.heap.size + 1 + 1) 26 y.cs (0, 0) _ rfl (setRow_heap _ _ _ _ 26 _ (unhide B1).re) Tryz.underlying26 rfl (by kernel_rfl)) rfl ?_
      exact ⟨y, rfl, unhide FY, ((unhide O1).row (by omega) _).base (by omega), below_setRow (unhide B1).bel (by omega) _⟩
    · cases bb
      rotate_left
      · obtain rfl : a = -1 := by simpa using unhide HBB
        go_wp2_with (first | (refine wpList_store_new rfl 26 _ _ rfl y.cs rfl rfl _ (by kernel_rfl) rfl (Mv.cs_one _) ?_) | (go_at_call 31; refine (unhide I _).mono ?_; rintro e w' ⟨rfl, hw'⟩; rw [hw']; clear hw' w'))
        obtain ⟨r0, r1⟩ : 0 ≤ r ∧ r ≤ (x.r.n : Int) - 1 := by have := unhide HQ; unfold inB at this; simpa using this
        obtain ⟨k, rfl⟩ := Int.eq_ofNat_of_zero_le r0
        have hkl : k < d.r.length := by have := unhide HRL; omega
        obtain ⟨gr, rc, er⟩ := sl_formP (unhide O1).r (by omega)
        have glt := own_rlt (unhide O0) er
        have gne : gr ≠ w1.heap.size := by omega
        clear b0 b1 b2
        generalize hwz : w1.alloc (Obj.cells y.cs 26) = wz at O1 B1 G1 ⊢
        clear hwz
        obtain ⟨o3, g3, gb, gl, cA1, cA2⟩ := own_setR ((unhide O1).later (below_drew (w := wz))) er k (n % 65536) hkl
        have O3 := hide o3
        have B3 := hide (((unhide B1).later below_drew).past g3 (fun b e => by cases e; omega))
        have G3 := hide (row_past (row_lat (unhide G1) below_drew) g3 (by omega))
        have D0 : Hid (wz.drew.cell? ⟨w1.heap.size, 1, none⟩ = some (.slice (some ⟨gr, 0, none⟩) d.r.length rc) ∧ wz.drew.cell? ⟨w.heap.size + 1, 0, none⟩ = some (.int .i64 (k : Int))) := hide ⟨by rw [row_r (row_lat (unhide G1) below_drew), er], ((unhide B1).later below_drew).cr⟩
        have C12 := hide (And.intro cA1 cA2)
        have ER := hide er
        have WR := hide (fun w => wrapS_any n w)
        obtain ⟨q, hq⟩ : ∃ q, n % 65536 = q := ⟨_, rfl⟩
        rw [hq] at O3 B3 G3 WR
        have HQQ := hide hq
        have hki : (k : Int) < (d.r.length : Int) := by omega
        clear hq o3 g3 gb gl cA1 cA2 er O1 G1 B1 O0 HQ c1 I glt gne
        refine wp_region_held_drew (S := fun v => v.cell? ⟨w1.heap.size, 1, none⟩ = some (.slice (some ⟨gr, 0, none⟩) d.r.length rc) ∧ v.cell? ⟨w.heap.size + 1, 0, none⟩ = some (.int .i64 (k : Int))) (by kernel_rfl) (unhide D0) (fun hS => ?_)
        have HS := hide hS
        clear hS
        refine wpAnyH_take (i := 0) (v := .pointer (some ⟨w1.heap.size, 1, none⟩)) rfl (by kernel_rfl) (by kernel_rfl) (by kernel_rfl) (fun _ _ _ h => h) (Or.inl ⟨by rfl, fun w hc => ?_⟩) (unhide HS) ?_
        · clear hc; go_simp
        go_simp
        refine wpAnyH_take (i := 1) (v := .slice (some ⟨gr, 0, none⟩) d.r.length rc) rfl (by kernel_rfl) (by kernel_rfl) (by kernel_rfl) (fun _ _ _ h => h) (Or.inl ⟨by rfl, fun w hc => ?_⟩) (unhide HS) ?_
        · have h1 := hc.1; clear hc; go_simp
        go_simp
        refine wpAnyH_take (i := 2) (v := .pointer (some ⟨w.heap.size + 1, 0, none⟩)) rfl (by kernel_rfl) (by kernel_rfl) (by kernel_rfl) (fun _ _ _ h => h) (Or.inl ⟨by rfl, fun w hc => ?_⟩) (unhide HS) ?_
        · clear hc; go_simp
        go_simp
        refine wpAnyH_take (i := 3) (v := .int .i64 (k : Int)) rfl (by kernel_rfl) (by kernel_rfl) (by kernel_rfl) (fun _ _ _ h => h) (Or.inl ⟨by rfl, fun w hc => ?_⟩) (unhide HS) ?_
        · have h1 := hc.2; clear hc; go_simp
        go_simp
        refine wpAnyH_take (i := 4) (v := .int .i64 n) rfl (by kernel_rfl) (by kernel_rfl) (by kernel_rfl) (fun _ _ _ h => h) (Or.inl ⟨by rfl, fun w hc => ?_⟩) (unhide HS) ?_
        · clear hc; go_simp
        go_simp
        refine wpAnyH_ready (rs := [5]) (by kernel_rfl) (by simp) ?_
        refine AllReadyH.cons rfl (fun K2 hK => ?_) AllReadyH.nil
        go_simp
        refine (unhide WR _).mono ?_
        rintro e w' ⟨rfl, hw'⟩
        rw [hw']
        clear hw' w'
        refine hK.out _ _ (unhide D0) (fun hS => ?_)
        clear HS
        have HS := hide hS
        clear hS hK K2
        refine wpAnyH_take (i := 6) (v := .pointer (some ⟨gr, k, none⟩)) rfl (by kernel_rfl) (by kernel_rfl) (by kernel_rfl) (fun _ _ _ h => h) (Or.inl ⟨by rfl, fun w hc => ?_⟩) (unhide HS) ?_
        · clear hc; go_simp
        go_simp
        refine wpAnyH_ready (rs := [7]) (by kernel_rfl) (by simp) ?_
        refine AllReadyH.cons rfl (fun K2 hK => ?_) AllReadyH.nil
        obtain ⟨cA1, cA2⟩ := unhide C12
        go_simp
        refine hK.out _ _ (⟨(row_r (unhide G3)).trans (by rw [unhide ER]), (unhide B3).cr⟩) (fun hS => ?_)
        clear HS
        have HS := hide hS
        clear hS hK K2
        refine wpAnyH_done (by kernel_rfl) ?_ _
        go_wp2_with (first | (refine wpList_load_row rfl 26 _ rfl w1.heap.size rfl 26 y.cs (0, 0) _ (unhide G3) Tryz.underlying26 rfl (by kernel_rfl) ?_) | (refine wpList_store_row rfl 26 _ _ rfl (w.heap.size + 1 + 1) y.cs rfl rfl 26 zMv.cs (unhide B3).re (by kernel_rfl) rfl (Mv.cs_one _) ?_))
        refine bodyPost_ret (results_row2 (P := Tryz.prog) rfl _ _ (w.heap.size + 1 + 1) 26 y.cs (0, 0) _ rfl (setRow_heap _ _ _ _ 26 _ (unhide B3).re) Tryz.underlying26 rfl (by kernel_rfl)) rfl ?_
        refine ⟨y, rfl, unhide FY, ?_, below_setRow (unhide B3).bel (by omega) _⟩
        show OwnM _ _ _ ⟨d.m, d.r.set ((k : Int)).toNat (n % 65536), d.i, d.o⟩
        rw [show ((k : Int)).toNat = k by omega, unhide HQQ]
        exact ((unhide O3).row (by omega) _).base (by omega)
      · have ha : ¬ a = -1 := by simpa using unhide HBB
        go_wp2_with (first | (refine wpList_store_new rfl 26 _ _ rfl y.cs rfl rfl _ (by kernel_rfl) rfl (Mv.cs_one _) ?_) | (go_at_call 31; refine (unhide I _).mono ?_; rintro e w' ⟨rfl, hw'⟩; rw [hw']; clear hw' w') | (refine wpList_load_row rfl 26 _ rfl w1.heap.size rfl 26 y.cs (0, 0) _ (unhide G1) Tryz.underlying26 rfl (by kernel_rfl) ?_) | (refine wpList_store_row rfl 26 _ _ rfl (w.heap.size + 1 + 1) y.cs rfl rfl 26 zMv.cs (unhide B1).re (by kernel_rfl) rfl (Mv.cs_one _) ?_))
        refine bodyPost_ret (results_row2 (P := Tryz.prog) rfl _ _ (w.heap.size + 1 + 1) 26 y.cs (0, 0) _ rfl (setRow_heap _ _ _ _ 26 _ (unhide B1).re) Tryz.underlying26 rfl (by kernel_rfl)) rfl ?_
        exact ⟨y, rfl, unhide FY, ((unhide O1).row (by omega) _).base (by omega), below_setRow (unhide B1).bel (by omega) _⟩
end Go.Proofs.YtjpbjbnialehbaaGreatDoor

namespace Go.Proofs.YtjpbjbnialehbaaGreatDoor
open Go.ChangeShapes Go.WideShapes Go.ChangeAt Go.RowKit
set_option linter.unusedVariables false
set_option maxRecDepth 8000
set_option linter.unusedSimpArgs false
/-- A register set. -/
def Md.reg (d : Md) (k : Nat) (v : Int) : Md := ⟨d.m, d.r.set k v, d.i, d.o⟩
/-- Behind a fetch. -/
def Md.fet (d : Md) : Md := if d.has (nAt d.r 7) = true then d.reg 7 ((nAt d.r 7 + 2) % 65536) else d
/-- A machine at a pointer: its row, and that it is owned; the block of its registers. -/
structure Pm (w : World) (g B gr rc : Nat) (x : Mv) (d : Md) : Prop where
  row : w.heap[g]? = some (.cells x.cs 26 (0, 0))
  own : OwnM w B x d
  er : x.r = ⟨some ⟨gr, 0, none⟩, d.r.length, rc⟩
  ne : gr ≠ g
section
variable {w w' : World} {g B gr rc : Nat} {x : Mv} {d : Md}
theorem Pm.later (h : Pm w g B gr rc x d) (hb : Below w.heap.size w w') : Pm w' g B gr rc x d := ⟨row_lat h.row hb, h.own.later hb, h.er, h.ne⟩
theorem Pm.set (h : Pm w g B gr rc x d) (k : Nat) (v : Int) (hk : k < d.r.length) : Pm (w.setCell ⟨gr, k, none⟩ (.int .i64 v)) g B gr rc x (d.reg k v) ∧ w.grownBy (w.setCell ⟨gr, k, none⟩ (.int .i64 v)) (some gr) ∧ w.cell? ⟨gr, k, none⟩ = some (.int .i64 (nAt d.r k)) ∧ w.frozen? ⟨gr, k, none⟩ = false := by
  obtain ⟨o3, g3, _, _, c1, c2⟩ := own_setR h.own h.er k v hk
  exact ⟨⟨row_past h.row g3 h.ne, o3, by rw [h.er]; unfold Md.reg; simp, h.ne⟩, g3, c1, c2⟩
theorem Pm.cell (h : Pm w g B gr rc x d) (k : Nat) (hk : k < d.r.length) : w.cell? ⟨gr, k, none⟩ = some (.int .i64 (nAt d.r k)) := (h.set k 0 hk).2.2.1
theorem Pm.r (h : Pm w g B gr rc x d) : w.cell? ⟨g, 1, none⟩ = some (.slice (some ⟨gr, 0, none⟩) d.r.length rc) := by rw [row_r h.row, h.er]
end
set_option maxHeartbeats 4000000 in
theorem fetchS_any (g B gr rc : Nat) (x : Mv) (d : Md) (w : World) (hs : x.small) (P : Pm w g B gr rc x d) (h8 : d.r.length = 8) (w0 : 0 ≤ nAt d.r 7) (w1 : nAt d.r 7 ≤ 65535) :
    Calls Tryz.prog 143 #[.pointer (some ⟨g, 0, none⟩)] w fun e w' => e = .returned (.tuple #[.int .i64 (d.get (nAt d.r 7)), .bool (d.has (nAt d.r 7))]) ∧ Pm w' g B gr rc x d.fet ∧ w.grownBy w' (some gr) := by
  have PM := hide P
  have R := hide (fun w (h : RdM w x d) => readS_any x d (nAt d.r 7) w hs h)
  have H8 := hide h8
  obtain ⟨v7, hv7⟩ : ∃ v, nAt d.r 7 = v := ⟨_, rfl⟩
  have HV := hide hv7
  unfold Md.fet
  rw [hv7] at w0 w1 R ⊢
  have CC := hide (fun v (h : Pm v g B gr rc x d) => (show v.cell? ⟨g, 1, none⟩ = some (.slice (some ⟨gr, 0, none⟩) 8 rc) ∧ v.cell? ⟨gr, 7, none⟩ = some (.int .i64 v7) by rw [h.r, h.cell 7 (by omega), hv7, h8]; exact ⟨rfl, rfl⟩))
  obtain ⟨q, hq⟩ : ∃ q, d.has v7 = q := ⟨_, rfl⟩
  obtain ⟨u, hu⟩ : ∃ u, d.get v7 = u := ⟨_, rfl⟩
  have hu0 : q = false → u = 0 := fun e => by rw [← hu]; unfold Md.get; rw [hq, e]; rfl
  have HU0 := hide hu0
  rw [hq, hu] at R
  rw [hq, hu]
  clear P hs h8 hv7 hq hu hu0
  go_enter Tryz.func143, Tryz.ntmps143
  go_wp2_with fail
  refine wp_region_held_drew (S := fun v => Pm v g B gr rc x d) (by kernel_rfl) ((unhide PM).later below_drew) (fun hS => ?_)
  have HS := hide hS
  clear hS
  refine wpAnyH_take (i := 0) (v := .pointer (some ⟨g, 0, none⟩)) rfl (by kernel_rfl) (by kernel_rfl) (by kernel_rfl) (fun _ _ _ h => h) (Or.inl ⟨by rfl, fun w hc => ?_⟩) (unhide HS) ?_
  · clear hc; go_simp
  go_simp
  refine wpAnyH_take (i := 1) (v := .pointer (some ⟨g, 0, none⟩)) rfl (by kernel_rfl) (by kernel_rfl) (by kernel_rfl) (fun _ _ _ h => h) (Or.inl ⟨by rfl, fun w hc => ?_⟩) (unhide HS) ?_
  · clear hc; go_simp
  go_simp
  refine wpAnyH_take (i := 2) (v := .agg x.cs) rfl (by kernel_rfl) (by kernel_rfl) (by kernel_rfl) (fun _ _ _ h => h) (yields_load rfl 26 _ rfl g rfl 26 x.cs _ (fun w h => h.row) Tryz.underlying26 rfl (by kernel_rfl)) (unhide HS) ?_
  go_simp
  refine wpAnyH_take (i := 3) (v := .pointer (some ⟨g, 0, none⟩)) rfl (by kernel_rfl) (by kernel_rfl) (by kernel_rfl) (fun _ _ _ h => h) (Or.inl ⟨by rfl, fun w hc => ?_⟩) (unhide HS) ?_
  · clear hc; go_simp
  go_simp
  refine wpAnyH_take (i := 4) (v := .pointer (some ⟨g, 0, none⟩)) rfl (by kernel_rfl) (by kernel_rfl) (by kernel_rfl) (fun _ _ _ h => h) (Or.inl ⟨by rfl, fun w hc => ?_⟩) (unhide HS) ?_
  · clear hc; go_simp
  go_simp
  refine wpAnyH_take (i := 5) (v := .pointer (some ⟨g, 1, none⟩)) rfl (by kernel_rfl) (by kernel_rfl) (by kernel_rfl) (fun _ _ _ h => h) (Or.inl ⟨by rfl, fun w hc => ?_⟩) (unhide HS) ?_
  · clear hc; go_simp
  go_simp
  refine wpAnyH_take (i := 6) (v := .slice (some ⟨gr, 0, none⟩) 8 rc) rfl (by kernel_rfl) (by kernel_rfl) (by kernel_rfl) (fun _ _ _ h => h) (Or.inl ⟨by rfl, fun w hc => ?_⟩) (unhide HS) ?_
  · obtain ⟨h1, h2⟩ := unhide CC _ hc; clear hc; go_simp
  go_simp
  refine wpAnyH_take (i := 7) (v := .pointer (some ⟨gr, 7, none⟩)) rfl (by kernel_rfl) (by kernel_rfl) (by kernel_rfl) (fun _ _ _ h => h) (Or.inl ⟨by rfl, fun w hc => ?_⟩) (unhide HS) ?_
  · clear hc; go_simp
  go_simp
  refine wpAnyH_take (i := 8) (v := .int .i64 v7) rfl (by kernel_rfl) (by kernel_rfl) (by kernel_rfl) (fun _ _ _ h => h) (Or.inl ⟨by rfl, fun w hc => ?_⟩) (unhide HS) ?_
  · obtain ⟨h1, h2⟩ := unhide CC _ hc; clear hc; go_simp
  go_simp
  refine wpAnyH_ready (rs := [9]) (by kernel_rfl) (by simp) ?_
  refine AllReadyH.cons rfl (fun K2 hK => ?_) AllReadyH.nil
  go_simp
  refine (unhide R _ (unhide HS).own.rd).mono ?_
  rintro e w2 ⟨rfl, hb⟩
  have GW := hide ((show w.grownBy w.drew (some gr) from ⟨rfl, rfl, rfl, Nat.le_refl _, fun _ _ _ => rfl⟩).trans ⟨hb.os, hb.tape, hb.output, hb.size, fun k hk _ => hb.block k hk⟩)
  refine hK.out _ _ ((unhide HS).later hb) (fun hS => ?_)
  clear HS
  have HS := hide hS
  clear hS hK K2
  clear hb R PM
  refine wpAnyH_take (i := 10) (v := .tuple #[.int .i64 u, .bool q]) rfl (by kernel_rfl) (by kernel_rfl) (by kernel_rfl) (fun _ _ _ h => h) (Or.inl ⟨by rfl, fun w hc => ?_⟩) (unhide HS) ?_
  · clear hc; go_simp
  go_simp
  refine wpAnyH_take (i := 11) (v := .int .i64 u) rfl (by kernel_rfl) (by kernel_rfl) (by kernel_rfl) (fun _ _ _ h => h) (Or.inl ⟨by rfl, fun w hc => ?_⟩) (unhide HS) ?_
  · clear hc; go_simp
  go_simp
  refine wpAnyH_take (i := 12) (v := .bool q) rfl (by kernel_rfl) (by kernel_rfl) (by kernel_rfl) (fun _ _ _ h => h) (Or.inl ⟨by rfl, fun w hc => ?_⟩) (unhide HS) ?_
  · clear hc; go_simp
  go_simp
  refine wpAnyH_take (i := 13) (v := .int .i64 u) rfl (by kernel_rfl) (by kernel_rfl) (by kernel_rfl) (fun _ _ _ h => h) (Or.inl ⟨by rfl, fun w hc => ?_⟩) (unhide HS) ?_
  · clear hc; go_simp
  go_simp
  refine wpAnyH_take (i := 14) (v := .bool q) rfl (by kernel_rfl) (by kernel_rfl) (by kernel_rfl) (fun _ _ _ h => h) (Or.inl ⟨by rfl, fun w hc => ?_⟩) (unhide HS) ?_
  · clear hc; go_simp
  go_simp
  refine wpAnyH_done (by kernel_rfl) ?_ _
  have PM := hide (unhide HS)
  clear HS
  cases q
  · obtain rfl := unhide HU0 (by trivial)
    go_wp2_with fail
    go_ret2
    exact ⟨rfl, unhide PM, unhide GW⟩
  · go_wp2_with fail
    obtain ⟨c1, c2⟩ := unhide CC _ ((unhide PM).later (below_drew (w := w2)))
    obtain ⟨p3, g3, -, c3⟩ := ((unhide PM).later (below_drew (w := w2))).set 7 ((v7 + 2) % 65536) (by have := unhide H8; omega)
    have P3 := hide p3
    have G3 := hide ((unhide GW).trans ((show w2.grownBy w2.drew (some gr) from ⟨rfl, rfl, rfl, Nat.le_refl _, fun _ _ _ => rfl⟩).trans g3))
    have C1 := hide c1
    have C2 := hide (And.intro c2 c3)
    have E3 := hide (show (w2.drew.setCell ⟨gr, 7, none⟩ (.int .i64 ((v7 + 2) % 65536))).cell? ⟨g, 1, none⟩ = some (Value.slice (some ⟨gr, 0, none⟩) 8 rc) by have := p3.r; unfold Md.reg at this; rw [List.length_set, unhide H8] at this; exact this)
    have WR := hide (fun w => wrapS_any (v7 + 2) w)
    have HW := hide (show IntKind.i64.wrap (v7 + 2) = v7 + 2 by rw [IntKind.wrap_i64]; omega)
    obtain ⟨t, ht⟩ : ∃ t, (v7 + 2) % 65536 = t := ⟨_, rfl⟩
    rw [ht] at P3 G3 E3 WR
    have HT := hide ht
    clear ht p3 g3 c1 c2 c3 GW PM CC
    refine wp_region_held_drew (S := fun v => v.cell? ⟨g, 1, none⟩ = some (.slice (some ⟨gr, 0, none⟩) 8 rc)) (by kernel_rfl) (unhide C1) (fun hS => ?_)
    have HS := hide hS
    clear hS
    refine wpAnyH_take (i := 0) (v := .pointer (some ⟨g, 0, none⟩)) rfl (by kernel_rfl) (by kernel_rfl) (by kernel_rfl) (fun _ _ _ h => h) (Or.inl ⟨by rfl, fun w hc => ?_⟩) (unhide HS) ?_
    · clear hc; go_simp
    go_simp
    refine wpAnyH_take (i := 1) (v := .pointer (some ⟨g, 0, none⟩)) rfl (by kernel_rfl) (by kernel_rfl) (by kernel_rfl) (fun _ _ _ h => h) (Or.inl ⟨by rfl, fun w hc => ?_⟩) (unhide HS) ?_
    · clear hc; go_simp
    go_simp
    refine wpAnyH_take (i := 2) (v := .pointer (some ⟨g, 1, none⟩)) rfl (by kernel_rfl) (by kernel_rfl) (by kernel_rfl) (fun _ _ _ h => h) (Or.inl ⟨by rfl, fun w hc => ?_⟩) (unhide HS) ?_
    · clear hc; go_simp
    go_simp
    refine wpAnyH_take (i := 3) (v := .slice (some ⟨gr, 0, none⟩) 8 rc) rfl (by kernel_rfl) (by kernel_rfl) (by kernel_rfl) (fun _ _ _ h => h) (Or.inl ⟨by rfl, fun w hc => ?_⟩) (unhide HS) ?_
    · go_simp
    go_simp
    refine wpAnyH_take (i := 4) (v := .pointer (some ⟨g, 0, none⟩)) rfl (by kernel_rfl) (by kernel_rfl) (by kernel_rfl) (fun _ _ _ h => h) (Or.inl ⟨by rfl, fun w hc => ?_⟩) (unhide HS) ?_
    · clear hc; go_simp
    go_simp
    refine wpAnyH_take (i := 5) (v := .pointer (some ⟨g, 0, none⟩)) rfl (by kernel_rfl) (by kernel_rfl) (by kernel_rfl) (fun _ _ _ h => h) (Or.inl ⟨by rfl, fun w hc => ?_⟩) (unhide HS) ?_
    · clear hc; go_simp
    go_simp
    refine wpAnyH_take (i := 6) (v := .pointer (some ⟨g, 1, none⟩)) rfl (by kernel_rfl) (by kernel_rfl) (by kernel_rfl) (fun _ _ _ h => h) (Or.inl ⟨by rfl, fun w hc => ?_⟩) (unhide HS) ?_
    · clear hc; go_simp
    go_simp
    refine wpAnyH_take (i := 7) (v := .slice (some ⟨gr, 0, none⟩) 8 rc) rfl (by kernel_rfl) (by kernel_rfl) (by kernel_rfl) (fun _ _ _ h => h) (Or.inl ⟨by rfl, fun w hc => ?_⟩) (unhide HS) ?_
    · go_simp
    go_simp
    refine wpAnyH_take (i := 8) (v := .pointer (some ⟨gr, 7, none⟩)) rfl (by kernel_rfl) (by kernel_rfl) (by kernel_rfl) (fun _ _ _ h => h) (Or.inl ⟨by rfl, fun w hc => ?_⟩) (unhide HS) ?_
    · clear hc; go_simp
    go_simp
    refine wpAnyH_ready (rs := [9]) (by kernel_rfl) (by simp) ?_
    refine AllReadyH.cons rfl (fun K2 hK => ?_) AllReadyH.nil
    obtain ⟨c2, c3⟩ := unhide C2
    go_simp
    clear c2 c3
    refine hK.out _ _ (unhide C1) (fun hS => ?_)
    clear HS
    have HS := hide hS
    clear hS hK K2
    refine wpAnyH_take (i := 10) (v := .int .i64 (v7 + 2)) rfl (by kernel_rfl) (by kernel_rfl) (by kernel_rfl) (fun _ _ _ h => h) (Or.inl ⟨by rfl, fun w hc => ?_⟩) (unhide HS) ?_
    · clear hc; have hw := unhide HW; go_simp
    go_simp
    refine wpAnyH_ready (rs := [11]) (by kernel_rfl) (by simp) ?_
    refine AllReadyH.cons rfl (fun K2 hK => ?_) AllReadyH.nil
    go_simp
    refine (unhide WR _).mono ?_
    rintro e w' ⟨rfl, hw'⟩
    rw [hw']
    clear hw' w'
    refine hK.out _ _ (unhide C1) (fun hS => ?_)
    clear HS
    have HS := hide hS
    clear hS hK K2
    refine wpAnyH_take (i := 12) (v := .pointer (some ⟨gr, 7, none⟩)) rfl (by kernel_rfl) (by kernel_rfl) (by kernel_rfl) (fun _ _ _ h => h) (Or.inl ⟨by rfl, fun w hc => ?_⟩) (unhide HS) ?_
    · clear hc; go_simp
    go_simp
    refine wpAnyH_ready (rs := [13]) (by kernel_rfl) (by simp) ?_
    refine AllReadyH.cons rfl (fun K2 hK => ?_) AllReadyH.nil
    obtain ⟨c2, c3⟩ := unhide C2
    go_simp
    clear c2 c3
    refine hK.out _ _ (unhide E3) (fun hS => ?_)
    clear HS
    have HS := hide hS
    clear hS hK K2
    refine wpAnyH_done (by kernel_rfl) ?_ _
    clear HS
    go_wp2_with fail
    go_ret2
    refine ⟨rfl, ?_, unhide G3⟩
    show Pm _ _ _ _ _ _ (d.reg 7 ((v7 + 2) % 65536))
    rw [unhide HT]
    exact unhide P3
end Go.Proofs.YtjpbjbnialehbaaGreatDoor
