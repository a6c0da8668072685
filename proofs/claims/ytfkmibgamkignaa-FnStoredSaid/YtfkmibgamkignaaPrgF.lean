/- An address by the word at what is next; over this seat's translation; conditions stand as hypotheses of each. -/
import Derived.Test.YtfkmibgamkignaaPrgE
namespace Go.Proofs.Ytfkmibgamkignaa
open Go.ChangeShapes Go.WideShapes Go.ChangeAt Go.RowKit
set_option linter.unusedVariables false
set_option maxRecDepth 8000
set_option linter.unusedSimpArgs false

theorem grown_below {w w1 w2 : World} {o : Option Nat} (h : w.grownBy w1 o) (hb : Below w1.heap.size w1 w2) : w.grownBy w2 o := h.trans ⟨hb.os, hb.tape, hb.output, hb.size, fun k hk _ => hb.block k hk⟩

set_option maxHeartbeats 4000000 in
theorem indexed_any (g B gr rc re : Nat) (y : Mv) (d : Md) (w : World) (P : Pg w g B gr rc y d) (h8 : d.R8) (hr : re < 8) (hs : y.small) (hx : 0 ≤ d.get (nAt d.r 7) ∧ d.get (nAt d.r 7) ≤ 65535) :
    Calls Try.prog 91 #[.pointer (some ⟨g, 0, none⟩), .pointer (some ⟨gr, re, none⟩)] w fun e w' => e = .returned (.tuple #[.int .i64 (if d.has (nAt d.r 7) = true then (d.get (nAt d.r 7) + nAt d.fet.r re) % 65536 else 0), .bool (d.has (nAt d.r 7))]) ∧ Pg w' g B gr rc y (d.reg 7 ((nAt d.r 7 + 2) % 65536)) ∧ w.grownBy w' (some gr) := by
  obtain ⟨v0, v1⟩ := h8.2 7 (by omega)
  have R8' := reg_r8 h8 7 (nAt d.r 7 + 2)
  have hfe : d.has (nAt d.r 7) = true → d.fet = d.reg 7 ((nAt d.r 7 + 2) % 65536) := fun h => by unfold Md.fet; rw [if_pos h]
  have c1 := P.r
  rw [h8.1] at c1
  have GO := hide (goOn_any g B gr rc 7 y d w P (by rw [h8.1]; omega) v0 v1)
  have AP := hide (fun w => adPlace_any (nAt d.r 7) w)
  have D2 : ∃ d2, d.reg 7 ((nAt d.r 7 + 2) % 65536) = d2 := ⟨_, rfl⟩
  obtain ⟨d2, hd2⟩ := D2
  have e1 : d2.has (nAt d.r 7) = d.has (nAt d.r 7) := by rw [← hd2]; rfl
  have e2 : d2.get (nAt d.r 7) = d.get (nAt d.r 7) := by rw [← hd2]; rfl
  rw [hd2] at GO R8' hfe
  rw [hd2]
  obtain ⟨u0, u1⟩ := R8'.2 re hr
  have RE := hide (fun w (P : Pg w g B gr rc y d2) => reach_ad g B gr rc (nAt d.r 7) y d2 w P hs)
  rw [e1] at RE
  have CR := hide (fun w (P : Pg w g B gr rc y d2) => P.cell re (by rw [R8'.1]; exact hr))
  have WD := hide (fun w (P : Pg w g B gr rc y d2) (h : d2.has (nAt d.r 7) = true) => P.word h)
  rw [e1, e2] at WD
  have HF := hide hfe
  clear hfe e1 e2 hd2 h8 R8' P
  generalize nAt d.r 7 = v at *
  cases hq : d.has v
  · rw [hq] at RE
    simp only [Bool.false_eq_true, if_false] at RE ⊢
    clear hq WD CR HF hx
    go_enter Try.func91, Try.ntmps91
    go_wp2_with fail
    refine (unhide GO).mono ?_
    rintro e w1 ⟨rfl, p1, g1⟩
    have P1 := hide p1
    have G1 := hide g1
    clear p1 g1 GO
    go_wp2_with fail
    refine (unhide AP _).mono ?_
    rintro e w2 ⟨rfl, hb⟩
    have P2 := hide ((unhide P1).later hb)
    have G2 := hide (grown_below (unhide G1) hb)
    have R2 := hide (unhide RE w2 (unhide P2))
    clear hb P1 G1
    go_wp2_with fail
    refine (unhide R2).mono ?_
    rintro e w3 ⟨rfl, hb⟩
    have P3 := hide ((unhide P2).later hb)
    have G3 := hide (grown_below (unhide G2) hb)
    clear hb P2 G2 R2
    go_wp2_with fail
    go_ret2
    exact ⟨rfl, unhide P3, unhide G3⟩
  · have W2 := hide (fun w P => unhide WD w P hq)
    rw [hq] at RE
    simp only [if_true] at RE ⊢
    rw [unhide HF hq]
    generalize (v / 2).toNat = ka at RE W2
    generalize nAt d2.r re = t at u0 u1 CR ⊢
    have WR := hide (fun w => wrapI_any (d.get v + t) w)
    generalize d.get v = u at W2 hx WR ⊢
    obtain ⟨x0, x1⟩ := hx
    have hw : IntKind.i64.wrap (u + t) = u + t := by rw [IntKind.wrap_i64]; omega
    have HW := hide hw
    clear hq WD HF hw
    go_enter Try.func91, Try.ntmps91
    go_wp2_with fail
    refine (unhide GO).mono ?_
    rintro e w1 ⟨rfl, p1, g1⟩
    have P1 := hide p1
    have G1 := hide g1
    clear p1 g1 GO
    go_wp2_with fail
    refine (unhide AP _).mono ?_
    rintro e w2 ⟨rfl, hb⟩
    have P2 := hide ((unhide P1).later hb)
    have G2 := hide (grown_below (unhide G1) hb)
    have R2 := hide (unhide RE w2 (unhide P2))
    clear hb P1 G1
    go_wp2_with fail
    refine (unhide R2).mono ?_
    rintro e w3 ⟨rfl, hb⟩
    have P3 := hide ((unhide P2).later hb)
    have G3 := hide (grown_below (unhide G2) hb)
    clear hb P2 G2 R2
    go_wp2_with fail
    have ne := Sub.ne w3.heap.size w3
    have k1 : ∀ s : Sub w3.heap.size w3, s.w.cell? ⟨g, ka, none⟩ = some (.int .i64 u) := fun s => unhide W2 s.w ((unhide P3).later s.h)
    have k2 : ∀ s : Sub w3.heap.size w3, s.w.cell? ⟨gr, re, none⟩ = some (.int .i64 t) := fun s => unhide CR s.w ((unhide P3).later s.h)
    have hw := unhide HW
    refine wp_region_sub (⟨w3, Below.refl _ _⟩ : Sub w3.heap.size w3) (by kernel_rfl) (by kernel_rfl) ?_
    repeat (go_big_quiet_step (first | (go_at_call 21; exact Sub.same (unhide WR _))))
    refine wpQuiet_nil ?_
    intro s
    go_wp2_with fail
    go_ret2
    exact ⟨rfl, (unhide P3).later s.h, grown_below (unhide G3) s.h⟩
end Go.Proofs.Ytfkmibgamkignaa
