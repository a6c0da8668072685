/- GetRad's answer as one value, and a slice of ints that came in, over this seat's translation; conditions stand as hypotheses of each. -/
import Derived.Test.YtcnlimpebnhikaaDoorGetG
namespace Go.Proofs.YtcnlimpebnhikaaDoor
open Go.ChangeShapes Go.WideShapes Go.ChangeAt Go.RowKit
set_option linter.unusedVariables false

def gOk (ns : List Int) : Bool := decide (ns.length ≤ 2) && (List.range ns.length).all fun i => decide (0 ≤ nAt ns i ∧ nAt ns i ≤ 63999 ∧ nAt ns i / 1600 ≠ 29 ∧ nAt ns i / 40 % 40 ≠ 29 ∧ nAt ns i % 40 ≠ 29)
def gStr (ns : List Int) : ByteArray := if gOk ns = true then strOf (trimR (bytesK ns ns.length)) else ⟨#[]⟩
theorem gOk_iff (ns : List Int) : gOk ns = true ↔ GGood ns := by
  unfold gOk GGood WOk
  simp only [Bool.and_eq_true, decide_eq_true_eq, List.all_eq_true, List.mem_range]
theorem gOk_yes {ns : List Int} (h : GGood ns) : gOk ns = true ∧ gStr ns = strOf (trimR (bytesK ns ns.length)) := ⟨(gOk_iff ns).2 h, if_pos ((gOk_iff ns).2 h)⟩
theorem gOk_no {ns : List Int} (h : ¬ GGood ns) : gOk ns = false ∧ gStr ns = ⟨#[]⟩ := by
  have h1 : gOk ns = false := by
    cases e : gOk ns
    · rfl
    · exact absurd ((gOk_iff ns).1 e) h
  refine ⟨h1, ?_⟩
  unfold gStr
  rw [h1]
  rfl
theorem getEnd_eq {ns : List Int} {e : Ending} (h : GetEnd ns e) : e = .returned (.tuple #[.string (gStr ns), .bool (gOk ns)]) := by
  rcases h with ⟨hg, rfl⟩ | ⟨hg, rfl⟩
  · rw [(gOk_yes hg).1, (gOk_yes hg).2]
  · rw [(gOk_no hg).1, (gOk_no hg).2]

def Bds (ns : List Int) : Prop := ∀ i, i < ns.length → -9223372036854775808 ≤ nAt ns i ∧ nAt ns i ≤ 9223372036854775807
theorem rdN_of_row {w : World} {a : Option Addr} {len cap : Nat} {zs : List Int} (h : IsRow .i64 w a len cap zs) :
    ∃ ns : List Int, ns.length = len ∧ len ≤ cap ∧ cap ≤ maxLen ∧ RdN w a ns ∧ Bds ns := by
  rcases h with ⟨rfl, rfl, rfl, rfl⟩ | ⟨x, rfl, hl, hm, hz, hcell, hwz⟩
  · exact ⟨[], rfl, Nat.le_refl _, by unfold maxLen; omega, .inl rfl, fun i hi => by simp at hi⟩
  · have hat : ∀ i, i < len → nAt (zs.take len) i = zs.getD i 0 := fun i hi => by
      unfold nAt
      rw [List.getD_eq_getElem?_getD, List.getD_eq_getElem?_getD, List.getElem?_take, if_pos hi]
    refine ⟨zs.take len, by simp; omega, hl, hm, ?_, fun i hi => ?_⟩
    · by_cases h0 : len = 0
      · left; simp [h0]
      · right
        obtain ⟨b, off, spot⟩ := x
        have h00 := hcell 0 (by omega)
        have hspot : spot = none := by simpa [Addr.add] using World.cell?_spot h00
        subst hspot
        refine ⟨b, off, rfl, World.block_lt_of_cell? w _ h00, fun i hi => ?_⟩
        have hi' : i < len := by simp at hi; omega
        have := hcell i (by omega)
        rw [hat i hi']
        exact (show w.cell? ⟨b, off + i, none⟩ = _ by have h2 := this; unfold Addr.add at h2; by_cases hi0 : i = 0 <;> simpa [hi0] using h2)
    · have hi' : i < len := by simp at hi; omega
      rw [hat i hi']
      have := bounds_i64 (hwz (zs.getD i 0) (by rw [List.getD_eq_getElem?_getD, List.getElem?_eq_getElem (by omega)]; exact List.getElem_mem _))
      omega

theorem getRadS (v : Value) (ns : List Int) (B : Nat) (w : World) (hm : ns.length ≤ 1048576) (h : OwnN w B v ns) :
    Calls Tryd.prog 11 #[v] w fun e w' => e = .returned (.tuple #[.string (gStr ns), .bool (gOk ns)]) ∧ Below w.heap.size w w' := by
  obtain ⟨a, cap, rfl, _, _, hr, _⟩ := h.rd
  exact (getRadS_any a ns.length cap ns w rfl hm hr).mono fun e w' ⟨he, hb⟩ => ⟨getEnd_eq he, hb⟩
theorem getRadI (v : Value) (ns : List Int) (B : Nat) (w : World) (hm : ns.length ≤ 1048576) (hbd : Bds ns) (h : OwnN w B v ns) :
    Calls Tryd.prog 10 #[v] w fun e w' => e = .returned (.tuple #[.string (gStr ns), .bool (gOk ns)]) ∧ Below w.heap.size w w' := by
  obtain ⟨a, cap, rfl, _, _, hr, _⟩ := h.rd
  exact (getRadI_any a ns.length cap ns w rfl hm hr hbd).mono fun e w' ⟨he, hb⟩ => ⟨getEnd_eq he, hb⟩
end Go.Proofs.YtcnlimpebnhikaaDoor
