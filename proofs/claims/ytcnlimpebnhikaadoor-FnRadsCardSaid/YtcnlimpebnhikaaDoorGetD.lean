/- Contracts of strings.Builder (a byte written; what is held) and of strings.TrimRight at one blank, over this seat's translation; conditions stand as hypotheses of each. -/
import Derived.Test.YtcnlimpebnhikaaDoorGetC
import Derived.Lib.Builder
import Derived.Lib.FrozenHead
import Derived.Lib.UnsafeStr
namespace Go.Proofs.YtcnlimpebnhikaaDoor
open Go.ChangeShapes Go.WideShapes Go.ChangeAt Go.RowKit
set_option linter.unusedVariables false

theorem size48 : (Tryd.prog.info? 48).map (·.size) = some 2 := by kernel_rfl
theorem lies48 : liesAt Tryd.prog Tryd.prog.depth 48 (2 / Tryd.prog.cellsOf 48) 0 48 1 = true := by kernel_rfl
theorem cells5 : Tryd.prog.cellsOf 5 = 1 := by kernel_rfl

/-- A builder of the call's own in block b that holds the bytes bs. -/
def Bd (w : World) (B b : Nat) (bs : List UInt8) : Prop := Lib.IsBuilder 48 5 B b (cellsB bs) w

set_option maxHeartbeats 1000000 in
set_option maxRecDepth 100000 in
theorem copyC (B b : Nat) (bs : List UInt8) (w : World) (h : Bd w B b bs) :
    Calls Tryd.prog 30 #[.pointer (some ⟨b, 0, none⟩)] w fun e w' => e = .returned (.tuple #[]) ∧ Lib.BuilderAt 48 5 B b (.pointer (some ⟨b, 0, none⟩)) (cellsB bs) w' ∧ Below B w w' := by
  obtain ⟨j, hj, hjs⟩ := Option.map_eq_some_iff.1 size48
  rcases h with h | h
  · have c0 := h.cell0
    have f0 := h.frozen0
    have E1 := Lib.run_to_unsafe (P := Tryd.prog) w ⟨b, 0, none⟩ Tryd.underlying46 Tryd.underlying75 hj (by rw [hjs]; decide) h.shape (Nat.zero_lt_succ 1)
    have E3 := Lib.run_from_unsafe (P := Tryd.prog) w ⟨b, 0, none⟩ Tryd.underlying75 Tryd.underlying46 hj h.shape lies48
    have E2 : (callFunc 39 #[.pointer (some ⟨b, 0, none⟩)]).run Tryd.prog w = .ok (.value (.pointer (some ⟨b, 0, none⟩))) w := by
      rw [run_callFunc_extern Tryd.func39 (by kernel_rfl) (by kernel_rfl) (by kernel_rfl) (e := Extern.AbiNoEscape.same) (by kernel_rfl), Lib.run_noEscape]
      rfl
    have HU := hide (h.used (.pointer (some ⟨b, 0, none⟩)))
    have HB := hide ((Below.refl B w).setCell (p := ⟨b, 0, none⟩) h.1 (.pointer (some ⟨b, 0, none⟩)))
    clear h
    go_enter Tryd.func30, Tryd.ntmps30
    go_wp2
    go_end0
    exact ⟨rfl, unhide HU, unhide HB⟩
  · have c0 := h.cell0
    have E1 := Lib.run_neq_ptr_same (P := Tryd.prog) w ⟨b, 0, none⟩ Tryd.underlying46 hj
    have HU := hide h
    clear h
    go_enter Tryd.func30, Tryd.ntmps30
    go_wp2
    go_end0
    exact ⟨rfl, unhide HU, Below.refl _ _⟩

theorem ownsRow_slice {w : World} {B : Nat} {v : Value} {n : Nat} {L : List Value} (h : w.ownsRow B 5 1 v n L) : ∃ a cap, v = .slice a n cap := by
  obtain ⟨_, ⟨h1, h2⟩ | ⟨g, cap, cur, e, _⟩⟩ := h
  · exact ⟨none, 0, by rw [h1, h2]⟩
  · exact ⟨_, cap, e⟩
theorem ownsRow_other {w : World} {B b : Nat} {v : Value} {n : Nat} {L : List Value} {c : Array Value} {t : TypeId} {fz : Nat × Nat} (h : w.ownsRow B 5 1 v n L) (hb : w.heap[b]? = some (.cells c t fz)) (ht : t ≠ 5) : v.ownBlock ≠ some b := by
  intro e
  obtain ⟨_, ⟨rfl, _⟩ | ⟨g, cap, cur, rfl, _, hh, _⟩⟩ := h
  · simp [Value.ownBlock] at e
  · simp [Value.ownBlock] at e
    subst e
    rw [hh] at hb
    cases hb
    exact ht rfl
theorem ownsRow_keep {w w' : World} {B : Nat} {v : Value} {n : Nat} {L : List Value} (h : w.ownsRow B 5 1 v n L) (hs : ∀ g, v.ownBlock = some g → w'.heap[g]? = w.heap[g]?) : w'.ownsRow B 5 1 v n L := by
  obtain ⟨h1, h2 | ⟨g, cap, cur, rfl, hg, hh, r⟩⟩ := h
  · exact ⟨h1, .inl h2⟩
  · exact ⟨h1, .inr ⟨g, cap, cur, rfl, hg, (hs g rfl).trans hh, r⟩⟩

set_option maxHeartbeats 1000000 in
set_option maxRecDepth 100000 in
theorem writeB (B b : Nat) (bs : List UInt8) (c : UInt8) (w : World) (h : Bd w B b bs) (hlen : bs.length ≤ 1048576) (hBw : B ≤ w.heap.size) :
    Calls Tryd.prog 23 #[.pointer (some ⟨b, 0, none⟩), .int .u8 (c.toNat : Int)] w fun e w' => e = .returned .nilIface ∧ Bd w' B b (bs ++ [c]) ∧ Below B w w' := by
  obtain ⟨i0, hi, hz0, hz1, hz2⟩ := info_parts info5
  obtain ⟨y, hy⟩ : ∃ y : Int, (c.toNat : Int) = y := ⟨_, rfl⟩
  have HC := hide (show cellsB bs ++ [Value.int .u8 y] = cellsB (bs ++ [c]) by rw [← hy]; simp [cellsB])
  rw [hy]
  clear hy
  go_enter Tryd.func23, Tryd.ntmps23
  go_wp2_with fail
  refine (copyC B b bs w h).mono ?_
  rintro e w1 ⟨rfl, ⟨hB, v, hbk, hown, hne⟩, hb1⟩
  rw [cellsB_length] at hown
  have c1 : w1.cell? ⟨b, 1, none⟩ = some v := by rw [Lib.cell_of_heap hbk]; rfl
  have s1 := hb1.size
  have HO := hide hown
  have HK := hide hbk
  have HB1 := hide hb1
  have HNE := hide hne
  have hbl : b < w1.heap.size := (Array.getElem?_eq_some_iff.1 hbk).1
  have K1 := hide (cell_one_new w1 (Value.int .u8 y) 5)
  clear h hown hbk hb1 hne
  go_wp2_with (at_builtin; go_must (refine wpList_append_own _ rfl (.tmp 11) (.tmp 13) 22 rfl B 5 i0 (.int .u8 0) 1 1 Tryd.underlying22 hi hz0 hz1 hz2 rfl (by decide) v bs.length (cellsB bs) rfl ((unhide HO).alloc _) ⟨w1.heap.size, 0, none⟩ 1 1 [Value.int .u8 y] rfl rfl (unhide K1) (by intro u hu; simp at hu; subst hu; rfl) (by unfold maxLen; omega) (by omega) (by simp; omega) ?_; intro v2 w2 hown2 hgrow2 _; obtain ⟨a2, cp2, hv2⟩ := ownsRow_slice hown2; subst hv2; have hbk2 : w2.heap[b]? = some (.cells #[.pointer (some ⟨b, 0, none⟩), v] 48 (0, 0)) := (hgrow2.block b (by simp; omega) (fun e => (unhide HNE) e.symm)).trans ((((Below.refl w1.heap.size w1).alloc (Nat.le_refl _) (Obj.cells #[Value.int .u8 y] 5)).block b hbl).trans (unhide HK)); have c2 : w2.cell? ⟨b, 1, none⟩ = some v := (by rw [Lib.cell_of_heap hbk2]; rfl); have f2 : w2.frozen? ⟨b, 1, none⟩ = false := (by simp [World.frozen?, hbk2])))
  rw [unhide HC] at hown2
  have hB2 : Below B w w2 := (((unhide HB1).alloc (by omega) _)).grown hgrow2 (by simp; omega) (fun k h => ((unhide HO).lt k h).1)
  go_ret
  refine ⟨rfl, .inr ⟨hB, .slice a2 (bs.length + 1) cp2, ?_, ?_, ?_⟩, hB2.setCell (p := ⟨b, 1, none⟩) hB _⟩
  · simp [World.setCell, Array.getElem?_modify, hbk2]
  · rw [cellsB_length, List.length_append]
    exact ownsRow_keep hown2 fun g hg => Below.heap_setCell _ _ _ _ (fun e => ownsRow_other hown2 hbk2 (by decide) (by rw [hg, e]))
  · exact ownsRow_other hown2 hbk2 (by decide)
end Go.Proofs.YtcnlimpebnhikaaDoor
