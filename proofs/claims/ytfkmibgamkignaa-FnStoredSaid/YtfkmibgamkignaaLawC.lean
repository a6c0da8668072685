/- What the law on a new machine stands on; over this seat's translation; conditions stand as hypotheses of each. -/
import Derived.Test.YtfkmibgamkignaaMacV
namespace Go.Proofs.Ytfkmibgamkignaa
open Go.ChangeShapes Go.WideShapes Go.ChangeAt Go.RowKit
set_option linter.unusedVariables false
set_option maxRecDepth 8000
set_option linter.unusedSimpArgs false

theorem newS_any (im ins : Sl) (ni nn : List Int) (a st : Int) (w : World) (hi : RdN w im.a ni) (hn : RdN w ins.a nn) (li : ni.length = im.n) (ln : nn.length = ins.n) (si : im.n ≤ 1048576) (sn : ins.n ≤ 1048576) (nz : ins.nz) :
    Calls Try.prog 19 #[.slice im.a im.n im.c, .int .i64 a, .int .i64 st, .slice ins.a ins.n ins.c] w fun e w' => ∃ y : Mv, e = .returned (.agg y.cs) ∧ y.fl = zMv.fl ∧ OwnM w' (w.heap.size + 1) y (newD ni a st nn) ∧ Below w.heap.size w w' := by
  unfold newD
  cases hb : newB ni a st nn
  · exact (newS_no im ins ni nn a st w hi hn li ln si sn hb).mono fun e w' ⟨he, hb⟩ => ⟨zMv, he, rfl, by rw [if_neg (by simp)]; exact own_zero _ _, hb⟩
  · rw [if_pos rfl]
    exact newS_yes im ins ni nn a st w hi hn li ln nz hb
theorem newI_any (im ins : Sl) (ni nn : List Int) (a st : Int) (w : World) (hi : RdN w im.a ni) (hn : RdN w ins.a nn) (li : ni.length = im.n) (ln : nn.length = ins.n) (si : im.n ≤ 1048576) (sn : ins.n ≤ 1048576) (nz : ins.nz) :
    Calls Try.prog 13 #[.slice im.a im.n im.c, .int .i64 a, .int .i64 st, .slice ins.a ins.n ins.c] w fun e w' => ∃ y : Mv, e = .returned (.agg y.cs) ∧ y.fl = zMv.fl ∧ OwnM w' (w.heap.size + 1) y (newD ni a st nn) ∧ Below w.heap.size w w' := by
  unfold newD
  cases hb : newB ni a st nn
  · exact (newI_no im ins ni nn a st w hi hn li ln si sn hb).mono fun e w' ⟨he, hb⟩ => ⟨zMv, he, rfl, by rw [if_neg (by simp)]; exact own_zero _ _, hb⟩
  · rw [if_pos rfl]
    exact newI_yes im ins ni nn a st w hi hn li ln nz hb
theorem small_new (ni nn : List Int) (a st : Int) : (newD ni a st nn).small := by
  unfold newD
  cases hb : newB ni a st nn
  · rw [if_neg (by simp)]
    exact ⟨Nat.zero_le _, Nat.zero_le _, Nat.zero_le _, Nat.zero_le _⟩
  · rw [if_pos rfl]
    obtain ⟨p0, p1, p2, p3, p4, p5, p6⟩ := newB_parts hb
    obtain ⟨a0, a1⟩ := inB_b p0
    refine ⟨?_, ?_, ?_, Nat.zero_le _⟩
    · show (over z256 (a / 2).toNat ni).length ≤ _
      rw [over_len _ _ _ (by rw [z256_len]; omega), z256_len]; omega
    · show 8 ≤ _; omega
    · show nn.length ≤ _; omega
theorem toIntS_sl (s : Sl) (ns : List Int) (w : World) (hl : ns.length = s.n) (hm : s.n ≤ 1048576) (hr : RdN w s.a ns) :
    Calls Try.prog 32 #[.slice s.a s.n s.c] w fun e w' => ∃ t : Sl, e = .returned (.slice t.a t.n t.c) ∧ OwnN w' w.heap.size t.v ns ∧ Below w.heap.size w w' :=
  (toIntS_any s.a s.n s.c ns w hl hm hr).mono fun e w' ⟨v, he, ho, hb⟩ => by
    obtain ⟨a, c, e2, _⟩ := ho.rd
    subst e2
    exact ⟨⟨a, ns.length, c⟩, he, ho, hb⟩
theorem eqS_sl (s t : Sl) (ns : List Int) (B C : Nat) (w : World) (hm : ns.length ≤ 1048576) (h : OwnN w B s.v ns) (k : OwnN w C t.v ns) : Calls Try.prog 34 #[.slice s.a s.n s.c, .slice t.a t.n t.c] w fun e w' => e = .returned (.bool true) ∧ Below w.heap.size w w' :=
  eqIntS_own s.v t.v ns B C w hm h k
/-- What came in, while the law goes on. -/
structure Lm (W wr : World) (im ins : Sl) (ni nn : List Int) : Prop where
  bel : Below W.heap.size W wr
  ri : RdN wr im.a ni
  rn : RdN wr ins.a nn
section
variable {W w w' : World} {im ins : Sl} {ni nn ns : List Int} {row : Option Nat} {y : Mv} {d : Md} {s : Sl} {B : Nat}
theorem Lm.later (h : Lm W w im ins ni nn) (hb : Below w.heap.size w w') : Lm W w' im ins ni nn := ⟨h.bel.trans (hb.mono h.bel.size), h.ri.later hb, h.rn.later hb⟩
theorem RdN.gbW {a : Option Addr} (h : RdN w a ns) (hW : RdN W a ns) (hg : w.grownBy w' row) (hb : ∀ b, row = some b → W.heap.size ≤ b) : RdN w' a ns :=
  h.pastR hg fun b e => by
    rcases hW with h0 | ⟨b', off, rfl, hb', _⟩
    · exact .inl h0
    · exact .inr fun ad e' => by cases e'; have := hb b e; show b' ≠ b; omega
theorem Lm.gb (h : Lm W w im ins ni nn) (h0 : Lm W W im ins ni nn) (hg : w.grownBy w' row) (hb : ∀ b, row = some b → W.heap.size ≤ b) : Lm W w' im ins ni nn := ⟨h.bel.grown hg h.bel.size (fun b e => hb b e), h.ri.gbW h0.ri hg hb, h.rn.gbW h0.rn hg hb⟩
theorem Lm.tch {x : Mv} (h : Lm W w im ins ni nn) (h0 : Lm W W im ins ni nn) (t : Tch w w' x) (hb : ∀ b, x.at b → W.heap.size ≤ b) : Lm W w' im ins ni nn := by
  have key : ∀ {a : Option Addr} {ns : List Int}, RdN w a ns → RdN W a ns → RdN w' a ns := fun hr hq => by
    rcases hr with e0 | ⟨b, off, rfl, hb1, hc⟩
    · exact .inl e0
    · rcases hq with e0 | ⟨b', off', e', hb', _⟩
      · exact .inl e0
      · cases e'
        exact .inr ⟨b, off, rfl, Nat.lt_of_lt_of_le hb1 t.size, fun i hi => (World.cell?_of_block (w := w) (t.block b hb1 (fun e => by have := hb b e; omega))).trans (hc i hi)⟩
  exact ⟨t.toBelow h.bel h.bel.size hb, key h.ri h0.ri, key h.rn h0.rn⟩
theorem row_gb {g : Nat} {o : Obj} (h : w.heap[g]? = some o) (hg : w.grownBy w' row) (hn : ∀ b, row = some b → g ≠ b) : w'.heap[g]? = some o := (hg.block g (row_lt h) (fun e => hn g e.symm rfl)).trans h
theorem OwnM.gb (h : OwnM w B y d) (hg : w.grownBy w' row) (hn : ∀ b, row = some b → ¬ y.at b) : OwnM w' B y d := h.keepH fun g ha hl => hg.block g hl (fun e => hn g e.symm ha)
theorem OwnN.gb (h : OwnN w B s.v ns) (hg : w.grownBy w' row) (hn : ∀ b, row = some b → s.v.ownBlock ≠ some b) : OwnN w' B s.v ns := h.keep fun g hv hl => hg.block g hl (fun e => hn g e.symm hv)
theorem OwnN.tch {x : Mv} (h : OwnN w B s.v ns) (t : Tch w w' x) (hn : ∀ b, s.v.ownBlock = some b → ¬ x.at b) : OwnN w' B s.v ns := h.keep fun g hv hl => t.block g hl (hn g hv)
end
end Go.Proofs.Ytfkmibgamkignaa
