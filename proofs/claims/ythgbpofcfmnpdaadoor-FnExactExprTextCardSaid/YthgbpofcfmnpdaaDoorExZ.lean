/- The text of a term, by the program; over this seat's translation; conditions stand as hypotheses of each. -/
import Derived.Test.YthgbpofcfmnpdaaDoorExY
import Derived.Test.YthgbpofcfmnpdaaDoorLiE
namespace Go.Proofs.YthgbpofcfmnpdaaDoor
open Go.ChangeShapes Go.WideShapes Go.ChangeAt Go.RowKit
set_option linter.unusedVariables false
set_option maxRecDepth 8000
set_option linter.unusedSimpArgs false

/-- What the text's road reads: kept words, marks, digits' table. -/
structure TabX (w : World) : Prop where
  k : TabK w
  g : TabG w
  b : w.cell? ⟨8, 7, none⟩ = some (.int .u8 3)
theorem TabX.next {w w' : World} (h : TabX w) (hb : Below w.heap.size w w') : TabX w' :=
  ⟨h.k.next hb, h.g.later hb h.g.lt, (hb.cell (p := ⟨8, 7, none⟩) (World.block_lt_of_cell? w _ h.b)).trans h.b⟩
set_option maxHeartbeats 2000000 in
theorem textI_any (e : Ex) (b : Option Addr) (cap : Nat) (w : World) (hr : RdX w 0 e b) (hz : e.sz ≤ 1048576) (ht : TabX w) : Calls Tryd.prog 34 #[.agg (e.cs b cap)] w fun r w' => r = .returned (.string (textE e)) ∧ Below w.heap.size w w' := by
  have B0 := below_new w (.cells (e.cs b cap) 37)
  have HH := hide (term_all 6 (by omega) e b cap _ (hr.later B0) hz (ht.next B0).k)
  have HB := hide B0
  have IP := hide (fun w1 h => isp_all 6 e w1 h)
  have NP := hide (plain_not (d := 6) (e := e))
  have TB := hide (fun w1 (hb : Below w.heap.size w w1) => ht.next hb)
  have PU := hide (fun w1 (h : okF 6 true e = true) (hx : TabX w1) => put_all 6 (by omega) e [] (.slice none 0 0) w1.heap.size w1 h (ownT_none _ _) (Nat.le_refl _) (by have := mxT_le 6 (by omega); simp; omega) hx.g hx.g.lt)
  have LI := hide (fun w1 a c (h : okF 6 true e = true) (h2 : RdT w1 a (toksF 6 e)) hx => lineI_any a (toksF 6 e).length c (toksF 6 e) w1 rfl (text_len h) h2 hx)
  have TE := hide (show (okF 6 true e = true → textE e = strOf (lineOf (toksF 6 e))) ∧ (okF 6 true e = false → textE e = E0) from ⟨fun h => by unfold textE; rw [if_pos h], fun h => by unfold textE; rw [if_neg (by rw [h]; decide)]⟩)
  clear hr B0 ht
  unfold TermR at HH
  obtain ⟨t, x, e1⟩ := tv_if e
  rw [e1] at HH IP PU
  clear e1
  simp only [List.nil_append] at PU
  generalize okF 6 false e = q at *
  generalize okF 6 true e = q2 at *
  generalize toksF 6 e = ts at *
  generalize textE e = tx at *
  unfold Ex.cs at HH HB ⊢
  generalize e.l.length = ll at *
  go_enter Tryd.func34, Tryd.ntmps34
  go_wp2_with fail
  refine (unhide HH).mono ?_
  rintro r w1 ⟨v, rfl, hv, hb1⟩
  have BB := hide ((unhide HB).trans (hb1.mono (unhide HB).size))
  cases q with
  | false =>
    have E := hide ((unhide TE).2 (unhide NP rfl))
    clear hb1 HH HB hv IP PU LI TE NP
    go_wp2
    go_ret
    exact ⟨by rw [unhide E]; rfl, unhide BB⟩
  | true =>
    have hve := hv rfl
    subst hve
    have I2 := hide (unhide IP w1 rfl)
    clear hb1 HH HB hv IP NP
    go_wp2_with fail
    refine (unhide I2).mono ?_
    rintro r w2 ⟨rfl, hb2⟩
    have B2 := hide ((unhide BB).trans (hb2.mono (unhide BB).size))
    clear hb2 I2 BB
    cases q2 with
    | false =>
      have E := hide ((unhide TE).2 rfl)
      clear PU LI TE
      go_wp2
      go_ret
      exact ⟨by rw [unhide E]; rfl, unhide B2⟩
    | true =>
      have E := hide ((unhide TE).1 rfl)
      have P2 := hide (unhide PU w2 rfl (unhide TB w2 (unhide B2)))
      have L2 := hide (fun w1 a c => unhide LI w1 a c rfl)
      clear PU LI TE
      go_wp2_with fail
      refine (unhide P2).mono ?_
      rintro r w3 ⟨v3, rfl, o3, hb3, _⟩
      have B3 := hide ((unhide B2).trans (hb3.mono (unhide B2).size))
      obtain ⟨a3, c3, rfl, r3⟩ := o3.rd
      have L3 := hide (unhide L2 w3 a3 c3 r3 (unhide TB w3 (unhide B3)).b)
      clear o3 r3 hb3 P2 L2 B2
      go_wp2_with (go_at_call 12; refine (unhide L3).mono ?_; rintro r w4 ⟨rfl, hb4⟩)
      go_ret
      exact ⟨by rw [unhide E]; rfl, (unhide B3).trans (hb4.mono (unhide B3).size)⟩
end Go.Proofs.YthgbpofcfmnpdaaDoor
