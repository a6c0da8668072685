/- Both PutRads' contracts in one form, and the laws' marks at any owned slice, over this seat's translation; conditions stand as hypotheses of each. -/
import Derived.Test.YtcnlimpebnhikaaDoorRadJ
namespace Go.Proofs.YtcnlimpebnhikaaDoor
open Go.ChangeShapes Go.WideShapes Go.ChangeAt Go.RowKit
set_option linter.unusedVariables false

open Classical in
/-- Whether the letters have words. -/
noncomputable def rOk (xs : List UInt8) : Bool := decide (Good xs)
open Classical in
/-- The words of letters, none where they have none. -/
noncomputable def rNs (xs : List UInt8) : List Int := if Good xs then radN xs else []
theorem rNs_len (xs : List UInt8) : (rNs xs).length ≤ 2 := by
  unfold rNs
  split
  · rename_i h
    have := h.1
    unfold radN
    rw [radK_length]
    omega
  · simp
theorem rOk_yes {xs : List UInt8} (h : Good xs) : rOk xs = true ∧ rNs xs = radN xs := ⟨by simp [rOk, h], if_pos h⟩
theorem rOk_no {xs : List UInt8} (h : ¬ Good xs) : rOk xs = false ∧ rNs xs = [] := ⟨by simp [rOk, h], if_neg h⟩

theorem putRadS (s : ByteArray) (w : World) (hmax : s.size ≤ 1048576) :
    Calls Tryd.prog 8 #[.string s] w fun e w' => ∃ v, e = .returned (.tuple #[v, .bool (rOk s.data.toList)]) ∧ OwnN w' w.heap.size v (rNs s.data.toList) ∧ Below w.heap.size w w' :=
  (putRadS_any s w hmax).mono fun e w' ⟨v, hb, h⟩ => h.elim
    (fun ⟨hg, he, ho⟩ => ⟨v, by rw [(rOk_yes hg).1]; exact he, by rw [(rOk_yes hg).2]; exact ho, hb⟩)
    (fun ⟨hg, he, ho⟩ => ⟨v, by rw [(rOk_no hg).1]; exact he, by rw [(rOk_no hg).2]; exact ho, hb⟩)
theorem putRadI (s : ByteArray) (w : World) (hmax : s.size ≤ 1048576) :
    Calls Tryd.prog 7 #[.string s] w fun e w' => ∃ v, e = .returned (.tuple #[v, .bool (rOk s.data.toList)]) ∧ OwnN w' w.heap.size v (rNs s.data.toList) ∧ Below w.heap.size w w' :=
  (putRadI_any s w hmax).mono fun e w' ⟨v, hb, h⟩ => h.elim
    (fun ⟨hg, he, ho⟩ => ⟨v, by rw [(rOk_yes hg).1]; exact he, by rw [(rOk_yes hg).2]; exact ho, hb⟩)
    (fun ⟨hg, he, ho⟩ => ⟨v, by rw [(rOk_no hg).1]; exact he, by rw [(rOk_no hg).2]; exact ho, hb⟩)

theorem eqIntS_own (v u : Value) (ns : List Int) (B C : Nat) (w : World) (hm : ns.length ≤ 1048576) (h : OwnN w B v ns) (k : OwnN w C u ns) :
    Calls Tryd.prog 14 #[v, u] w fun e w' => e = .returned (.bool true) ∧ Below w.heap.size w w' := by
  obtain ⟨a, cap, rfl, _, _, hr, _⟩ := h.rd
  obtain ⟨b, cap2, rfl, _, _, hr2, _⟩ := k.rd
  exact eqIntS_same a b ns.length cap cap2 ns w rfl (by omega) hr hr2
theorem OwnN.apart {w w' : World} {B C : Nat} {v u : Value} {ns ms : List Int} (h : OwnN w B v ns) (k : OwnN w C u ms) (hg : w.grownBy w' u.ownBlock) (hlt : ∀ g, v.ownBlock = some g → g < C) : OwnN w' B v ns :=
  h.keep fun g hv hl => hg.block g hl (fun e => by have := (k.lt e.symm).1; have := hlt g hv; omega)
end Go.Proofs.YtcnlimpebnhikaaDoor
