/- Both PutRads' contracts in one form, and the laws' marks at any owned slice, over this seat's translation; conditions stand as hypotheses of each. -/
import Derived.Test.YtcnlimpebnhikaaDoorRadJ
namespace Go.Proofs.YtcnlimpebnhikaaDoor
open Go.ChangeShapes Go.WideShapes Go.ChangeAt Go.RowKit
set_option linter.unusedVariables false

/-- Whether the letters have words. -/
def rOk (xs : List UInt8) : Bool := decide (xs.length ≤ 6) && (List.range xs.length).all fun j => decide (0 ≤ lc (bAt xs j))
/-- The words of letters, none where they have none. -/
def rNs (xs : List UInt8) : List Int := if rOk xs = true then radN xs else []
theorem rOk_iff (xs : List UInt8) : rOk xs = true ↔ Good xs := by
  unfold rOk Good AllL
  simp only [Bool.and_eq_true, decide_eq_true_eq, List.all_eq_true, List.mem_range]
  exact ⟨fun h => ⟨h.1, fun j hj _ => h.2 j hj⟩, fun h => ⟨h.1, fun j hj => h.2 j hj hj⟩⟩
theorem rNs_len (xs : List UInt8) : (rNs xs).length ≤ 2 := by
  unfold rNs
  split
  · rename_i h
    have := ((rOk_iff xs).1 h).1
    unfold radN
    rw [radK_length]
    omega
  · simp
theorem rOk_yes {xs : List UInt8} (h : Good xs) : rOk xs = true ∧ rNs xs = radN xs := ⟨(rOk_iff xs).2 h, if_pos ((rOk_iff xs).2 h)⟩
theorem rOk_no {xs : List UInt8} (h : ¬ Good xs) : rOk xs = false ∧ rNs xs = [] := by
  have h1 : rOk xs = false := by
    cases e : rOk xs
    · rfl
    · exact absurd ((rOk_iff xs).1 e) h
  refine ⟨h1, ?_⟩
  unfold rNs
  rw [h1]
  rfl

theorem putRadS (s : ByteArray) (w : World) (hmax : s.size ≤ 1048576) :
    Calls Tryd.prog 8 #[.string s] w fun e w' => ∃ v, e = .returned (.tuple #[v, .bool (rOk s.data.toList)]) ∧ OwnN w' w.heap.size v (rNs s.data.toList) ∧ Below w.heap.size w w' :=
  (putRadS_any s w hmax).mono fun e w' ⟨v, hb, h⟩ => h.elim
    (fun ⟨hg, he, ho⟩ => ⟨v, by rw [(rOk_yes hg).1]; exact he, by rw [(rOk_yes hg).2]; exact ho, hb⟩)
    (fun ⟨hg, he, ho⟩ => ⟨v, by rw [(rOk_no hg).1]; exact he, by rw [(rOk_no hg).2]; exact ho, hb⟩)
theorem putRadI (s : ByteArray) (w : World) (hmax : s.size ≤ 1048576) :
    Calls Tryd.prog 7 #[.string s] w fun e w' => ∃ v, e = .returned (.tuple #[v, .bool (rOk s.data.toList)]) ∧ OwnN w' w.heap.size v (rNs s.data.toList) ∧ Below w.heap.size w w' :=
  (putRadI_any s w hmax).mono fun e w' ⟨v, hb, h⟩ => h.elim
    (fun ⟨hg, he, ho⟩ => ⟨v, by rw [(rOk_yes hg).1]; exact he, by rw [(rOk_yes hg).2]; exact ho, hb⟩)
    (fun ⟨hg, he, ho⟩ => ⟨v, by rw [(rOk_no hg).1]; exact he, by rw [(rOk_no hg).2]; exact ho, hb⟩)

theorem eqIntS_own (v u : Value) (ns : List Int) (B C : Nat) (w : World) (hm : ns.length ≤ 1048576) (h : OwnN w B v ns) (k : OwnN w C u ns) :
    Calls Tryd.prog 14 #[v, u] w fun e w' => e = .returned (.bool true) ∧ Below w.heap.size w w' := by
  obtain ⟨a, cap, rfl, _, _, hr, _⟩ := h.rd
  obtain ⟨b, cap2, rfl, _, _, hr2, _⟩ := k.rd
  exact eqIntS_same a b ns.length cap cap2 ns w rfl (by omega) hr hr2
theorem OwnN.apart {w w' : World} {B C : Nat} {v u : Value} {ns ms : List Int} (h : OwnN w B v ns) (k : OwnN w C u ms) (hg : w.grownBy w' u.ownBlock) (hlt : ∀ g, v.ownBlock = some g → g < C) : OwnN w' B v ns :=
  h.keep fun g hv hl => hg.block g hl (fun e => by have := (k.lt e.symm).1; have := hlt g hv; omega)
end Go.Proofs.YtcnlimpebnhikaaDoor
