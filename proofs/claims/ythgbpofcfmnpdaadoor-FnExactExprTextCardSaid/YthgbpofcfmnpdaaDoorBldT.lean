/- Contracts of strings.Builder (a byte written, a text written; what is held), over this seat's translation; conditions stand as hypotheses of each. -/
import Derived.Test.YthgbpofcfmnpdaaDoorOctT
import Derived.Test.YthgbpofcfmnpdaaDoorDrwT
import Derived.OwnWalk
import Derived.Lib.Builder
import Derived.Lib.AppendStr
import Derived.Lib.FrozenHead
import Derived.Lib.UnsafeStr
import Derived.Lib.OthersKept
namespace Go.Proofs.YthgbpofcfmnpdaaDoor
open Go.ChangeShapes Go.WideShapes Go.ChangeAt Go.RowKit
set_option linter.unusedVariables false
set_option maxRecDepth 8000

theorem info5b : (Tryd.prog.info? 5).map (fun i => (i.zero, i.size, i.bytes)) = some (some (.int .u8 0), 1, 1) := by kernel_rfl
theorem size48 : (Tryd.prog.info? 60).map (·.size) = some 2 := by kernel_rfl
theorem lies48 : liesAt Tryd.prog Tryd.prog.depth 60 (2 / Tryd.prog.cellsOf 60) 0 60 1 = true := by kernel_rfl
theorem cells5 : Tryd.prog.cellsOf 5 = 1 := by kernel_rfl

/-- A builder of the call's own in block b that holds the bytes bs. -/
def Bd (w : World) (B b : Nat) (bs : List UInt8) : Prop := Lib.IsBuilder 60 5 B b (cellsB bs) w

/-- Blocks that are no bytes and no builder stay. -/
def Kp (w w' : World) : Prop := ∀ (g : Nat) (c : Array Value) (t : TypeId) (fz : Nat × Nat), w.heap[g]? = some (Obj.cells c t fz) → t ≠ 5 → t ≠ 60 → w'.heap[g]? = w.heap[g]?
theorem Kp.refl (w : World) : Kp w w := fun _ _ _ _ _ _ _ => rfl
theorem Kp.trans {a b c : World} (h : Kp a b) (k : Kp b c) : Kp a c := fun g x t fz e h1 h2 => (k g x t fz ((h g x t fz e h1 h2).trans e) h1 h2).trans (h g x t fz e h1 h2)
theorem Kp.set {w : World} {b j : Nat} {c : Array Value} {fz : Nat × Nat} (hb : w.heap[b]? = some (.cells c 60 fz)) (u : Value) : Kp w (w.setCell ⟨b, j, none⟩ u) := fun g x t fz' e h1 h2 =>
  Below.heap_setCell _ _ _ _ (fun (hg : g = b) => by subst hg; rw [hb] at e; cases e; exact h2 rfl)
theorem Kp.below {w w' : World} (h : Below w.heap.size w w') : Kp w w' := fun g x t fz e _ _ => h.block g (Array.getElem?_eq_some_iff.1 e).1
theorem Kp.grown {w w1 w2 : World} {B n : Nat} {v : Value} {L : List Value} (h1 : Below w.heap.size w w1) (hown : w.ownsRow B 5 1 v n L) (hg : w1.grownBy w2 v.ownBlock) : Kp w w2 := fun g x t fz e h2 h3 => by
  have hl := (Array.getElem?_eq_some_iff.1 e).1
  refine (hg.block g (Nat.lt_of_lt_of_le hl h1.size) (fun he => ?_)).trans (h1.block g hl)
  obtain ⟨_, ⟨rfl, _⟩ | ⟨g', cap, cur, rfl, _, hh, _⟩⟩ := hown
  · simp [Value.ownBlock] at he
  · simp [Value.ownBlock] at he
    subst he
    rw [hh] at e
    cases e
    exact h2 rfl
set_option maxHeartbeats 1000000 in
set_option maxRecDepth 100000 in
theorem copyC (B b : Nat) (bs : List UInt8) (w : World) (h : Bd w B b bs) :
    Calls Tryd.prog 81 #[.pointer (some ⟨b, 0, none⟩)] w fun e w' => e = .returned (.tuple #[]) ∧ Lib.BuilderAt 60 5 B b (.pointer (some ⟨b, 0, none⟩)) (cellsB bs) w' ∧ Below B w w' ∧ Kp w w' := by
  obtain ⟨j, hj, hjs⟩ := Option.map_eq_some_iff.1 size48
  rcases h with h | h
  · have c0 := h.cell0
    have f0 := h.frozen0
    have E1 := Lib.run_to_unsafe (P := Tryd.prog) w ⟨b, 0, none⟩ Tryd.underlying58 Tryd.underlying139 hj (by rw [hjs]; decide) h.shape (Nat.zero_lt_succ 1)
    have E3 := Lib.run_from_unsafe (P := Tryd.prog) w ⟨b, 0, none⟩ Tryd.underlying139 Tryd.underlying58 hj h.shape lies48
    have E2 : (callFunc 102 #[.pointer (some ⟨b, 0, none⟩)]).run Tryd.prog w = .ok (.value (.pointer (some ⟨b, 0, none⟩))) w := by
      rw [run_callFunc_extern Tryd.func102 (by kernel_rfl) (by kernel_rfl) (by kernel_rfl) (e := Extern.AbiNoEscape.same) (by kernel_rfl), Lib.run_noEscape]
      rfl
    have HU := hide (h.used (.pointer (some ⟨b, 0, none⟩)))
    have HB := hide ((Below.refl B w).setCell (p := ⟨b, 0, none⟩) h.1 (.pointer (some ⟨b, 0, none⟩)))
    have HKP := hide (show Kp w (w.setCell ⟨b, 0, none⟩ (.pointer (some ⟨b, 0, none⟩))) from by obtain ⟨_, v, hbk, _⟩ := h; exact Kp.set hbk _)
    clear h
    go_enter Tryd.func81, Tryd.ntmps81
    go_wp2
    go_end0
    exact ⟨rfl, unhide HU, unhide HB, unhide HKP⟩
  · have c0 := h.cell0
    have E1 := Lib.run_neq_ptr_same (P := Tryd.prog) w ⟨b, 0, none⟩ Tryd.underlying58 hj
    have HU := hide h
    clear h
    go_enter Tryd.func81, Tryd.ntmps81
    go_wp2
    go_end0
    exact ⟨rfl, unhide HU, Below.refl _ _, Kp.refl _⟩

theorem ownsRow_slice {w : World} {B : Nat} {v : Value} {n : Nat} {L : List Value} (h : w.ownsRow B 5 1 v n L) : ∃ a cap, v = .slice a n cap := by
  obtain ⟨_, ⟨h1, h2⟩ | ⟨g, cap, cur, e, _⟩⟩ := h
  · exact ⟨none, 0, by rw [h1, h2]⟩
  · exact ⟨_, cap, e⟩
theorem ownsRow_other {w : World} {B b : Nat} {v : Value} {n : Nat} {L : List Value} {c : Array Value} {t : TypeId} {fz : Nat × Nat} (h : w.ownsRow B 5 1 v n L) (hb : w.heap[b]? = some (.cells c t fz)) (ht : t ≠ 5) : v.ownBlock ≠ some b := by
  intro e
  obtain ⟨_, ⟨rfl, _⟩ | ⟨g, cap, cur, rfl, _, hh, _⟩⟩ := h
  · simp [Value.ownBlock] at e
  · simp [Value.ownBlock] at e
    subst e
    rw [hh] at hb
    cases hb
    exact ht rfl
theorem ownsRow_keep {w w' : World} {B : Nat} {v : Value} {n : Nat} {L : List Value} (h : w.ownsRow B 5 1 v n L) (hs : ∀ g, v.ownBlock = some g → w'.heap[g]? = w.heap[g]?) : w'.ownsRow B 5 1 v n L := by
  obtain ⟨h1, h2 | ⟨g, cap, cur, rfl, hg, hh, r⟩⟩ := h
  · exact ⟨h1, .inl h2⟩
  · exact ⟨h1, .inr ⟨g, cap, cur, rfl, hg, (hs g rfl).trans hh, r⟩⟩

set_option maxHeartbeats 1000000 in
set_option maxRecDepth 100000 in
theorem writeB (B b : Nat) (bs : List UInt8) (c : UInt8) (w : World) (h : Bd w B b bs) (hlen : bs.length ≤ 16777216) (hBw : B ≤ w.heap.size) :
    Calls Tryd.prog 45 #[.pointer (some ⟨b, 0, none⟩), .int .u8 (c.toNat : Int)] w fun e w' => e = .returned .nilIface ∧ Bd w' B b (bs ++ [c]) ∧ Below B w w' ∧ Kp w w' := by
  obtain ⟨i0, hi, hz0, hz1, hz2⟩ := info_parts info5b
  obtain ⟨y, hy⟩ : ∃ y : Int, (c.toNat : Int) = y := ⟨_, rfl⟩
  have HC := hide (show cellsB bs ++ [Value.int .u8 y] = cellsB (bs ++ [c]) by rw [← hy]; simp [cellsB])
  rw [hy]
  clear hy
  go_enter Tryd.func45, Tryd.ntmps45
  go_wp2_with fail
  refine (copyC B b bs w h).mono ?_
  rintro e w1 ⟨rfl, ⟨hB, v, hbk, hown, hne⟩, hb1, hkp1⟩
  have KP1 := hide hkp1
  rw [cellsB_length] at hown
  have c1 : w1.cell? ⟨b, 1, none⟩ = some v := by rw [Lib.cell_of_heap hbk]; rfl
  have s1 := hb1.size
  have HO := hide hown
  have HK := hide hbk
  have HB1 := hide hb1
  have HNE := hide hne
  have hbl : b < w1.heap.size := (Array.getElem?_eq_some_iff.1 hbk).1
  have K1 := hide (cell_one_new w1 (Value.int .u8 y) 5)
  clear h hown hbk hb1 hne hkp1
  go_wp2_with (at_builtin; go_must (refine wpList_append_own _ rfl (.tmp 11) (.tmp 13) 22 rfl B 5 i0 (.int .u8 0) 1 1 Tryd.underlying22 hi hz0 hz1 hz2 rfl (by decide) v bs.length (cellsB bs) rfl ((unhide HO).alloc _) ⟨w1.heap.size, 0, none⟩ 1 1 [Value.int .u8 y] rfl rfl (unhide K1) (by intro u hu; simp at hu; subst hu; rfl) (by unfold maxLen; omega) (by omega) (by simp; omega) ?_; intro v2 w2 hown2 hgrow2 _; obtain ⟨a2, cp2, hv2⟩ := ownsRow_slice hown2; subst hv2; have hbk2 : w2.heap[b]? = some (.cells #[.pointer (some ⟨b, 0, none⟩), v] 60 (0, 0)) := (hgrow2.block b (by simp; omega) (fun e => (unhide HNE) e.symm)).trans ((((Below.refl w1.heap.size w1).alloc (Nat.le_refl _) (Obj.cells #[Value.int .u8 y] 5)).block b hbl).trans (unhide HK)); have c2 : w2.cell? ⟨b, 1, none⟩ = some v := (by rw [Lib.cell_of_heap hbk2]; rfl); have f2 : w2.frozen? ⟨b, 1, none⟩ = false := (by simp [World.frozen?, hbk2])))
  rw [unhide HC] at hown2
  have hB2 : Below B w w2 := (((unhide HB1).alloc (by omega) _)).grown hgrow2 (by simp; omega) (fun k h => ((unhide HO).lt k h).1)
  go_ret
  refine ⟨rfl, .inr ⟨hB, .slice a2 (bs.length + 1) cp2, ?_, ?_, ?_⟩, hB2.setCell (p := ⟨b, 1, none⟩) hB _, (unhide KP1).trans ((Kp.grown ((Below.refl w1.heap.size w1).alloc (Nat.le_refl _) _) (unhide HO) hgrow2).trans (Kp.set hbk2 _))⟩
  · simp [World.setCell, Array.getElem?_modify, hbk2]
  · rw [cellsB_length, List.length_append]
    exact ownsRow_keep hown2 fun g hg => Below.heap_setCell _ _ _ _ (fun e => ownsRow_other hown2 hbk2 (by decide) (by rw [hg, e]))
  · exact ownsRow_other hown2 hbk2 (by decide)
set_option maxHeartbeats 1000000 in
set_option maxRecDepth 100000 in
theorem strB (B b : Nat) (bs : List UInt8) (w : World) (h : Bd w B b bs) (h0 : bs ≠ []) :
    Calls Tryd.prog 48 #[.pointer (some ⟨b, 0, none⟩)] w fun e w' => e = .returned (.string (strOf bs)) ∧ Below B w w' := by
  obtain ⟨p, hB, v, hbk, hown, hne⟩ : ∃ p, Lib.BuilderAt 60 5 B b p (cellsB bs) w := h.elim (fun x => ⟨_, x⟩) (fun x => ⟨_, x⟩)
  rw [cellsB_length] at hown
  have hl0 : bs.length ≠ 0 := by simpa using h0
  have hO : OwnB w B v bs := hown
  obtain ⟨_, ⟨_, hz⟩ | ⟨g, cap, cur, rfl, hbg, hg, hnc, hcm, hcs, htake⟩⟩ := hown
  · exact absurd hz hl0
  unfold maxLen at hcm
  have c1 : w.drew.cell? ⟨b, 1, none⟩ = some (.slice (some ⟨g, 0, none⟩) bs.length cap) := by
    have : w.drew.heap[b]? = some (.cells #[p, .slice (some ⟨g, 0, none⟩) bs.length cap] 60 (0, 0)) := hbk
    rw [Lib.cell_of_heap this]; rfl
  have hSD : (Builtin.unsafeSliceData_ #[22] 110 #[.slice (some ⟨g, 0, none⟩) bs.length cap]).run Tryd.prog w.drew = .ok (.pointer (some ⟨g, 0, none⟩)) w.drew := Lib.run_unsafeSliceData_row _ _ _ _ _ _ (by omega)
  have hUS : (Builtin.unsafeString_ #[110, 3] 9 #[.pointer (some ⟨g, 0, none⟩), .int .i64 bs.length]).run Tryd.prog w.drew = .ok (.string (strOf bs)) (w.drew.freeze ⟨g, 0, none⟩ bs.length) := by
    refine Lib.run_unsafeString_row w.drew 110 3 9 5 Tryd.underlying110 cells5 g cur.size (by have hg' : w.drew.heap[g]? = some (.cells cur 5 (0, 0)) := hg; simp [World.shape?, hg']) bs h0 (by omega) (by omega) ?_
    intro j x hx
    exact rd_cells hO.rd1 j (.int .u8 x.toNat) (by simp [cellsB, hx])
  have HB := hide (Lib.below_freeze (Below.drew (Below.refl B w)) (p := ⟨g, 0, none⟩) hbg bs.length)
  clear hbk hg htake hO h
  go_enter Tryd.func48, Tryd.ntmps48
  go_wp2
  go_region
  all_goals go_wp2
  all_goals go_ret
  all_goals exact ⟨rfl, unhide HB⟩


set_option maxHeartbeats 1000000 in
set_option maxRecDepth 100000 in
theorem writeS (B b : Nat) (bs ts : List UInt8) (w : World) (h : Bd w B b bs) (hlen : bs.length ≤ 16777216) (htl : ts.length ≤ 16777216) (hBw : B ≤ w.heap.size) :
    Calls Tryd.prog 46 #[.pointer (some ⟨b, 0, none⟩), .string (strOf ts)] w fun e w' => (∃ v, e = .returned v) ∧ Bd w' B b (bs ++ ts) ∧ Below B w w' ∧ Kp w w' := by
  obtain ⟨i0, hi, hz0, hz1, hz2⟩ := info_parts info5b
  obtain ⟨s, hs⟩ : ∃ s, s = strOf ts := ⟨_, rfl⟩
  have hz : s.size = ts.length := by rw [hs, strOf_size]
  have HC := hide (show cellsB bs ++ Lib.strCells s = cellsB (bs ++ ts) by rw [cellsB_append, hs]; rfl)
  rw [← hs]
  clear hs
  go_enter Tryd.func46, Tryd.ntmps46
  go_wp2_with fail
  refine (copyC B b bs w h).mono ?_
  rintro e w1 ⟨rfl, ⟨hB, v, hbk, hown, hne⟩, hb1, hkp1⟩
  have KP1 := hide hkp1
  rw [cellsB_length] at hown
  have c1 : w1.cell? ⟨b, 1, none⟩ = some v := by rw [Lib.cell_of_heap hbk]; rfl
  have s1 := hb1.size
  have HO := hide hown
  have HK := hide hbk
  have HB1 := hide hb1
  have HNE := hide hne
  have hbl : b < w1.heap.size := (Array.getElem?_eq_some_iff.1 hbk).1
  clear h hown hbk hb1 hne hkp1
  go_wp2_with (at_builtin; go_must (refine Lib.wpList_append_own_string _ rfl _ _ 22 9 rfl B 5 i0 Tryd.underlying22 Tryd.underlying9 hi hz0 hz1 hz2 v bs.length (cellsB bs) rfl (unhide HO) s rfl (by unfold maxLen; omega) (by omega) (by omega) ?_; intro v2 w2 hown2 hgrow2 _; obtain ⟨a2, cp2, hv2⟩ := ownsRow_slice hown2; subst hv2; have hbk2 : w2.heap[b]? = some (.cells #[.pointer (some ⟨b, 0, none⟩), v] 60 (0, 0)) := (hgrow2.block b hbl (fun e => (unhide HNE) e.symm)).trans (unhide HK); have c2 : w2.cell? ⟨b, 1, none⟩ = some v := (by rw [Lib.cell_of_heap hbk2]; rfl); have f2 : w2.frozen? ⟨b, 1, none⟩ = false := (by simp [World.frozen?, hbk2])))
  rw [unhide HC] at hown2
  have hB2 : Below B w w2 := (unhide HB1).grown hgrow2 (by omega) (fun k h => ((unhide HO).lt k h).1)
  go_ret2
  refine ⟨⟨_, rfl⟩, .inr ⟨hB, .slice a2 (bs.length + s.size) cp2, ?_, ?_, ?_⟩, hB2.setCell (p := ⟨b, 1, none⟩) hB _, (unhide KP1).trans ((Kp.grown (Below.refl _ _) (unhide HO) hgrow2).trans (Kp.set hbk2 _))⟩
  · simp [World.setCell, Array.getElem?_modify, hbk2]
    exact hz.symm
  · rw [cellsB_length, List.length_append, ← hz]
    exact ownsRow_keep hown2 fun g hg => Below.heap_setCell _ _ _ _ (fun e => ownsRow_other hown2 hbk2 (by decide) (by rw [hg, e]))
  · exact ownsRow_other hown2 hbk2 (by decide)


theorem row_ltT {w : World} {g : Nat} {o : Obj} (h : w.heap[g]? = some o) : g < w.heap.size := (Array.getElem?_eq_some_iff.1 h).1
theorem row_latT {w w' : World} {g : Nat} {o : Obj} (h : w.heap[g]? = some o) (hb : Below w.heap.size w w') : w'.heap[g]? = some o := (hb.block g (row_ltT h)).trans h
theorem bd_later {w w' : World} {B b : Nat} {bs : List UInt8} (h : Bd w B b bs) (hb : Below w.heap.size w w') : Bd w' B b bs := by
  have key : ∀ p, Lib.BuilderAt 60 5 B b p (cellsB bs) w → Lib.BuilderAt 60 5 B b p (cellsB bs) w' := fun p ⟨h1, v, h2, h3, h4⟩ =>
    ⟨h1, v, row_latT h2 hb, ownsRow_keep h3 fun g hg => hb.block g ((h3.lt g hg).2), h4⟩
  exact h.elim (fun x => .inl (key _ x)) (fun x => .inr (key _ x))
theorem bd_new (w : World) (B : Nat) (hB : B ≤ w.heap.size) : Bd (w.alloc (.cells #[.pointer none, .slice none 0 0] 60)) B w.heap.size [] :=
  .inl ⟨hB, .slice none 0 0, heap_alloc_new w _, ⟨rfl, .inl ⟨rfl, rfl⟩⟩, by simp [Value.ownBlock]⟩
set_option maxHeartbeats 1000000 in
set_option maxRecDepth 100000 in
theorem strB0 (B b : Nat) (w : World) (h : Bd w B b []) (hBw : B ≤ w.heap.size) :
    Calls Tryd.prog 48 #[.pointer (some ⟨b, 0, none⟩)] w fun e w' => e = .returned (.string (strOf [])) ∧ Below B w w' := by
  obtain ⟨p, hB, v, hbk, hown, hne⟩ : ∃ p, Lib.BuilderAt 60 5 B b p (cellsB []) w := h.elim (fun x => ⟨_, x⟩) (fun x => ⟨_, x⟩)
  have hUS : ∀ q W, (Builtin.unsafeString_ #[110, 3] 9 #[.pointer q, .int .i64 0]).run Tryd.prog W = .ok (.string (strOf [])) W := fun q W => Lib.run_unsafeString_none W 110 3 9 q
  have HB := hide (Below.drew (Below.refl B w))
  obtain ⟨_, ⟨rfl, _⟩ | ⟨g, cap, cur, rfl, hbg, hg, hnc, hcm, hcs, htake⟩⟩ := hown
  · have c1 : w.drew.cell? ⟨b, 1, none⟩ = some (.slice none 0 0) := by
      have : w.drew.heap[b]? = some (.cells #[p, .slice none 0 0] 60 (0, 0)) := hbk
      rw [Lib.cell_of_heap this]; rfl
    have hSD : (Builtin.unsafeSliceData_ #[22] 110 #[.slice none 0 0]).run Tryd.prog w.drew = .ok (.pointer none) w.drew := rfl
    have hUS' := hUS none w.drew
    generalize strOf [] = S0 at *
    clear hbk h hUS
    go_enter Tryd.func48, Tryd.ntmps48
    go_wp2
    go_region
    all_goals go_wp2
    all_goals go_ret
    all_goals exact ⟨rfl, unhide HB⟩
  · have c1 : w.drew.cell? ⟨b, 1, none⟩ = some (.slice (some ⟨g, 0, none⟩) 0 cap) := by
      have : w.drew.heap[b]? = some (.cells #[p, .slice (some ⟨g, 0, none⟩) 0 cap] 60 (0, 0)) := hbk
      rw [Lib.cell_of_heap this]; rfl
    by_cases hc0 : cap = 0
    · subst hc0
      have hSD : (Builtin.unsafeSliceData_ #[22] 110 #[.slice (some ⟨g, 0, none⟩) 0 0]).run Tryd.prog w.drew = .ok (.pointer (some ⟨w.drew.heap.size, 0, none⟩)) (w.drew.alloc (.view ⟨g, 0, none⟩ 5)) := Lib.run_unsafeSliceData_zero w.drew #[22] 110 5 Tryd.underlying110 ⟨g, 0, none⟩ 0 (5, cur.size) (by have hg' : w.drew.heap[g]? = some (.cells cur 5 (0, 0)) := hg; simp [World.shape?, hg'])
      have hUS' := hUS (some ⟨w.heap.size, 0, none⟩) (w.alloc (.view ⟨g, 0, none⟩ 5)).drew
      have c1b : (w.alloc (.view ⟨g, 0, none⟩ 5)).cell? ⟨b, 1, none⟩ = some (.slice (some ⟨g, 0, none⟩) 0 0) := by
        rw [World.cell?_alloc_past _ _ _ (row_ltT hbk)]; exact c1
      have HB2 := hide (((Below.refl B w).alloc hBw (.view ⟨g, 0, none⟩ 5)).drew)
      generalize strOf [] = S0 at *
      clear hbk h hUS hg
      go_enter Tryd.func48, Tryd.ntmps48
      go_wp2
      go_region
      all_goals go_wp2
      all_goals go_ret
      all_goals exact ⟨rfl, unhide HB2⟩
    · have hSD : (Builtin.unsafeSliceData_ #[22] 110 #[.slice (some ⟨g, 0, none⟩) 0 cap]).run Tryd.prog w.drew = .ok (.pointer (some ⟨g, 0, none⟩)) w.drew := Lib.run_unsafeSliceData_row _ _ _ _ _ _ hc0
      have hUS' := hUS (some ⟨g, 0, none⟩) w.drew
      generalize strOf [] = S0 at *
      clear hbk h hUS hg
      go_enter Tryd.func48, Tryd.ntmps48
      go_wp2
      go_region
      all_goals go_wp2
      all_goals go_ret
      all_goals exact ⟨rfl, unhide HB⟩
theorem strAny (B b : Nat) (bs : List UInt8) (w : World) (h : Bd w B b bs) (hBw : B ≤ w.heap.size) :
    Calls Tryd.prog 48 #[.pointer (some ⟨b, 0, none⟩)] w fun e w' => e = .returned (.string (strOf bs)) ∧ Below B w w' := by
  by_cases h0 : bs = []
  · subst h0; exact strB0 B b w h hBw
  · exact strB B b bs w h h0
end Go.Proofs.YthgbpofcfmnpdaaDoor
