/- Contracts over this seat's translation, laid together; conditions stand as hypotheses of each. -/
import Derived.Test.YtboedaofbchdkaaDoorPsA
import Derived.Test.YtboedaofbchdkaaDoorPsE
import Derived.Laws.BitsLemmas

namespace Go.Proofs.YtboedaofbchdkaaDoor
open Go.ChangeShapes Go.WideShapes Go.ChangeAt Go.RowKit
set_option linter.unusedVariables false
set_option maxRecDepth 8000
set_option linter.unusedSimpArgs false
set_option maxHeartbeats 2000000 in
theorem wk_10 : WkIs 81 10 := by
  intro g B gr rc y t st m0 s d w h s0 s1 d0 d1
  have c4 := h.cell 4 _ rfl
  have f4 := h.fz 260
  have c5 := h.cell 5 _ rfl
  have f5 := h.fz 261
  have H := hide h
  unfold Mv.wk Ms.wk
  simp only [wkV, wkC, wkR]
  have hw : IntKind.i64.wrap (-d) = -d := by rw [IntKind.wrap_i64]; omega
  have WR := hide (fun v => wrapI_any (-d) v)
  generalize (-d) % 65536 = r at WR ⊢
  have H2 := hide ((unhide H).setVC (r == 32768) (r != 0))
  clear h
  go_enter Tryd.func81, Tryd.ntmps81
  go_wp2_with fail
  refine (unhide WR _).mono ?_
  rintro e w9 ⟨rfl, hw9⟩
  rw [hw9]
  clear hw9 w9
  go_wp2
  go_ret
  exact ⟨rfl, (unhide H2).1, (unhide H2).2⟩
set_option maxHeartbeats 4000000 in
theorem lessen_any (g B gr rc : Nat) (y : Mv) (t : Ms) (st : Int) (m0 : List Int) (s d : Int) (w : World) (h : Pz w g B gr rc y t st m0) (s0 : 0 ≤ s) (s1 : s ≤ 65535) (d0 : 0 ≤ d) (d1 : d ≤ 65535) :
  Calls Tryd.prog 103 #[.pointer (some ⟨g, 0, none⟩), .int .i64 s, .int .i64 d] w fun e w' => e = .returned (.int .i64 ((s - d) % 65536)) ∧ Pz w' g B gr rc { y with v := ((sgI s != sgI d) && (sgI ((s - d) % 65536) == sgI d)), c := decide (s < d) } { t with v := ((sgI s != sgI d) && (sgI ((s - d) % 65536) == sgI d)), c := decide (s < d) } st m0 ∧ Fm w w' g y { y with v := ((sgI s != sgI d) && (sgI ((s - d) % 65536) == sgI d)), c := decide (s < d) } := by
  have c4 := h.cell 4 _ rfl
  have f4 := h.fz 260
  have c5 := h.cell 5 _ rfl
  have f5 := h.fz 261
  have H := hide h
  have hw : IntKind.i64.wrap (s - d) = s - d := by rw [IntKind.wrap_i64]; omega
  have WR := hide (fun v => wrapI_any (s - d) v)
  have SA := hide (fun v => hasSign_any s v)
  have SB := hide (fun v => hasSign_any d v)
  have SR := hide (fun v => hasSign_any ((s - d) % 65536) v)
  generalize sgI ((s - d) % 65536) = b3 at SR ⊢
  generalize (s - d) % 65536 = r at WR SR ⊢
  generalize sgI s = b1 at SA ⊢
  generalize sgI d = b2 at SB ⊢
  clear h
  cases b1 <;> cases b2 <;> cases b3
  · skip
    have H2 := hide ((unhide H).setVC false (decide (s < d)))
    go_enter Tryd.func103, Tryd.ntmps103
    go_wp2_with fail
    refine (unhide WR _).mono ?_
    rintro e w9 ⟨rfl, hw9⟩
    rw [hw9]
    clear hw9 w9
    go_wp2_with fail
    refine (unhide SA _).mono ?_
    rintro e w9 ⟨rfl, hw9⟩
    rw [hw9]
    clear hw9 w9
    go_wp2_with fail
    refine (unhide SB _).mono ?_
    rintro e w9 ⟨rfl, hw9⟩
    rw [hw9]
    clear hw9 w9
    go_wp2
    go_ret
    exact ⟨rfl, (unhide H2).1, (unhide H2).2⟩
  · skip
    have H2 := hide ((unhide H).setVC false (decide (s < d)))
    go_enter Tryd.func103, Tryd.ntmps103
    go_wp2_with fail
    refine (unhide WR _).mono ?_
    rintro e w9 ⟨rfl, hw9⟩
    rw [hw9]
    clear hw9 w9
    go_wp2_with fail
    refine (unhide SA _).mono ?_
    rintro e w9 ⟨rfl, hw9⟩
    rw [hw9]
    clear hw9 w9
    go_wp2_with fail
    refine (unhide SB _).mono ?_
    rintro e w9 ⟨rfl, hw9⟩
    rw [hw9]
    clear hw9 w9
    go_wp2
    go_ret
    exact ⟨rfl, (unhide H2).1, (unhide H2).2⟩
  · skip
    have H2 := hide ((unhide H).setVC false (decide (s < d)))
    go_enter Tryd.func103, Tryd.ntmps103
    go_wp2_with fail
    refine (unhide WR _).mono ?_
    rintro e w9 ⟨rfl, hw9⟩
    rw [hw9]
    clear hw9 w9
    go_wp2_with fail
    refine (unhide SA _).mono ?_
    rintro e w9 ⟨rfl, hw9⟩
    rw [hw9]
    clear hw9 w9
    go_wp2_with fail
    refine (unhide SB _).mono ?_
    rintro e w9 ⟨rfl, hw9⟩
    rw [hw9]
    clear hw9 w9
    go_wp2_with fail
    refine (unhide SR _).mono ?_
    rintro e w9 ⟨rfl, hw9⟩
    rw [hw9]
    clear hw9 w9
    go_wp2_with fail
    refine (unhide SB _).mono ?_
    rintro e w9 ⟨rfl, hw9⟩
    rw [hw9]
    clear hw9 w9
    go_wp2
    go_ret
    exact ⟨rfl, (unhide H2).1, (unhide H2).2⟩
  · skip
    have H2 := hide ((unhide H).setVC true (decide (s < d)))
    go_enter Tryd.func103, Tryd.ntmps103
    go_wp2_with fail
    refine (unhide WR _).mono ?_
    rintro e w9 ⟨rfl, hw9⟩
    rw [hw9]
    clear hw9 w9
    go_wp2_with fail
    refine (unhide SA _).mono ?_
    rintro e w9 ⟨rfl, hw9⟩
    rw [hw9]
    clear hw9 w9
    go_wp2_with fail
    refine (unhide SB _).mono ?_
    rintro e w9 ⟨rfl, hw9⟩
    rw [hw9]
    clear hw9 w9
    go_wp2_with fail
    refine (unhide SR _).mono ?_
    rintro e w9 ⟨rfl, hw9⟩
    rw [hw9]
    clear hw9 w9
    go_wp2_with fail
    refine (unhide SB _).mono ?_
    rintro e w9 ⟨rfl, hw9⟩
    rw [hw9]
    clear hw9 w9
    go_wp2
    go_ret
    exact ⟨rfl, (unhide H2).1, (unhide H2).2⟩
  · skip
    have H2 := hide ((unhide H).setVC true (decide (s < d)))
    go_enter Tryd.func103, Tryd.ntmps103
    go_wp2_with fail
    refine (unhide WR _).mono ?_
    rintro e w9 ⟨rfl, hw9⟩
    rw [hw9]
    clear hw9 w9
    go_wp2_with fail
    refine (unhide SA _).mono ?_
    rintro e w9 ⟨rfl, hw9⟩
    rw [hw9]
    clear hw9 w9
    go_wp2_with fail
    refine (unhide SB _).mono ?_
    rintro e w9 ⟨rfl, hw9⟩
    rw [hw9]
    clear hw9 w9
    go_wp2_with fail
    refine (unhide SR _).mono ?_
    rintro e w9 ⟨rfl, hw9⟩
    rw [hw9]
    clear hw9 w9
    go_wp2_with fail
    refine (unhide SB _).mono ?_
    rintro e w9 ⟨rfl, hw9⟩
    rw [hw9]
    clear hw9 w9
    go_wp2
    go_ret
    exact ⟨rfl, (unhide H2).1, (unhide H2).2⟩
  · skip
    have H2 := hide ((unhide H).setVC false (decide (s < d)))
    go_enter Tryd.func103, Tryd.ntmps103
    go_wp2_with fail
    refine (unhide WR _).mono ?_
    rintro e w9 ⟨rfl, hw9⟩
    rw [hw9]
    clear hw9 w9
    go_wp2_with fail
    refine (unhide SA _).mono ?_
    rintro e w9 ⟨rfl, hw9⟩
    rw [hw9]
    clear hw9 w9
    go_wp2_with fail
    refine (unhide SB _).mono ?_
    rintro e w9 ⟨rfl, hw9⟩
    rw [hw9]
    clear hw9 w9
    go_wp2_with fail
    refine (unhide SR _).mono ?_
    rintro e w9 ⟨rfl, hw9⟩
    rw [hw9]
    clear hw9 w9
    go_wp2_with fail
    refine (unhide SB _).mono ?_
    rintro e w9 ⟨rfl, hw9⟩
    rw [hw9]
    clear hw9 w9
    go_wp2
    go_ret
    exact ⟨rfl, (unhide H2).1, (unhide H2).2⟩
  · skip
    have H2 := hide ((unhide H).setVC false (decide (s < d)))
    go_enter Tryd.func103, Tryd.ntmps103
    go_wp2_with fail
    refine (unhide WR _).mono ?_
    rintro e w9 ⟨rfl, hw9⟩
    rw [hw9]
    clear hw9 w9
    go_wp2_with fail
    refine (unhide SA _).mono ?_
    rintro e w9 ⟨rfl, hw9⟩
    rw [hw9]
    clear hw9 w9
    go_wp2_with fail
    refine (unhide SB _).mono ?_
    rintro e w9 ⟨rfl, hw9⟩
    rw [hw9]
    clear hw9 w9
    go_wp2
    go_ret
    exact ⟨rfl, (unhide H2).1, (unhide H2).2⟩
  · skip
    have H2 := hide ((unhide H).setVC false (decide (s < d)))
    go_enter Tryd.func103, Tryd.ntmps103
    go_wp2_with fail
    refine (unhide WR _).mono ?_
    rintro e w9 ⟨rfl, hw9⟩
    rw [hw9]
    clear hw9 w9
    go_wp2_with fail
    refine (unhide SA _).mono ?_
    rintro e w9 ⟨rfl, hw9⟩
    rw [hw9]
    clear hw9 w9
    go_wp2_with fail
    refine (unhide SB _).mono ?_
    rintro e w9 ⟨rfl, hw9⟩
    rw [hw9]
    clear hw9 w9
    go_wp2
    go_ret
    exact ⟨rfl, (unhide H2).1, (unhide H2).2⟩
set_option maxHeartbeats 4000000 in
theorem wk_5 : WkIs 76 5 := by
  intro g B gr rc y t st m0 s d w h s0 s1 d0 d1
  have c4 := h.cell 4 _ rfl
  have f4 := h.fz 260
  have c5 := h.cell 5 _ rfl
  have f5 := h.fz 261
  have H := hide h
  unfold Mv.wk Ms.wk
  simp only [wkV, wkC, wkR]
  have hw : IntKind.i64.wrap (s + d) = s + d := by rw [IntKind.wrap_i64]; omega
  have WR := hide (fun v => wrapI_any (s + d) v)
  have SA := hide (fun v => hasSign_any s v)
  have SB := hide (fun v => hasSign_any d v)
  have SR := hide (fun v => hasSign_any ((s + d) % 65536) v)
  generalize sgI ((s + d) % 65536) = b3 at SR ⊢
  generalize (s + d) % 65536 = r at WR SR ⊢
  generalize sgI s = b1 at SA ⊢
  generalize sgI d = b2 at SB ⊢
  have IW := hide (fun v => isWord_any (s + d) v)
  generalize inB (s + d) 0 65535 = iw at IW ⊢
  clear h
  cases b1 <;> cases b2 <;> cases b3
  · skip
    have H2 := hide ((unhide H).setVC false (!iw))
    go_enter Tryd.func76, Tryd.ntmps76
    go_wp2_with fail
    refine (unhide WR _).mono ?_
    rintro e w9 ⟨rfl, hw9⟩
    rw [hw9]
    clear hw9 w9
    go_wp2_with fail
    refine (unhide SA _).mono ?_
    rintro e w9 ⟨rfl, hw9⟩
    rw [hw9]
    clear hw9 w9
    go_wp2_with fail
    refine (unhide SB _).mono ?_
    rintro e w9 ⟨rfl, hw9⟩
    rw [hw9]
    clear hw9 w9
    go_wp2_with fail
    refine (unhide SR _).mono ?_
    rintro e w9 ⟨rfl, hw9⟩
    rw [hw9]
    clear hw9 w9
    go_wp2_with fail
    refine (unhide SA _).mono ?_
    rintro e w9 ⟨rfl, hw9⟩
    rw [hw9]
    clear hw9 w9
    go_wp2_with fail
    refine (unhide IW _).mono ?_
    rintro e w9 ⟨rfl, hw9⟩
    rw [hw9]
    clear hw9 w9
    go_wp2
    go_ret
    exact ⟨rfl, (unhide H2).1, (unhide H2).2⟩
  · skip
    have H2 := hide ((unhide H).setVC true (!iw))
    go_enter Tryd.func76, Tryd.ntmps76
    go_wp2_with fail
    refine (unhide WR _).mono ?_
    rintro e w9 ⟨rfl, hw9⟩
    rw [hw9]
    clear hw9 w9
    go_wp2_with fail
    refine (unhide SA _).mono ?_
    rintro e w9 ⟨rfl, hw9⟩
    rw [hw9]
    clear hw9 w9
    go_wp2_with fail
    refine (unhide SB _).mono ?_
    rintro e w9 ⟨rfl, hw9⟩
    rw [hw9]
    clear hw9 w9
    go_wp2_with fail
    refine (unhide SR _).mono ?_
    rintro e w9 ⟨rfl, hw9⟩
    rw [hw9]
    clear hw9 w9
    go_wp2_with fail
    refine (unhide SA _).mono ?_
    rintro e w9 ⟨rfl, hw9⟩
    rw [hw9]
    clear hw9 w9
    go_wp2_with fail
    refine (unhide IW _).mono ?_
    rintro e w9 ⟨rfl, hw9⟩
    rw [hw9]
    clear hw9 w9
    go_wp2
    go_ret
    exact ⟨rfl, (unhide H2).1, (unhide H2).2⟩
  · skip
    have H2 := hide ((unhide H).setVC false (!iw))
    go_enter Tryd.func76, Tryd.ntmps76
    go_wp2_with fail
    refine (unhide WR _).mono ?_
    rintro e w9 ⟨rfl, hw9⟩
    rw [hw9]
    clear hw9 w9
    go_wp2_with fail
    refine (unhide SA _).mono ?_
    rintro e w9 ⟨rfl, hw9⟩
    rw [hw9]
    clear hw9 w9
    go_wp2_with fail
    refine (unhide SB _).mono ?_
    rintro e w9 ⟨rfl, hw9⟩
    rw [hw9]
    clear hw9 w9
    go_wp2_with fail
    refine (unhide IW _).mono ?_
    rintro e w9 ⟨rfl, hw9⟩
    rw [hw9]
    clear hw9 w9
    go_wp2
    go_ret
    exact ⟨rfl, (unhide H2).1, (unhide H2).2⟩
  · skip
    have H2 := hide ((unhide H).setVC false (!iw))
    go_enter Tryd.func76, Tryd.ntmps76
    go_wp2_with fail
    refine (unhide WR _).mono ?_
    rintro e w9 ⟨rfl, hw9⟩
    rw [hw9]
    clear hw9 w9
    go_wp2_with fail
    refine (unhide SA _).mono ?_
    rintro e w9 ⟨rfl, hw9⟩
    rw [hw9]
    clear hw9 w9
    go_wp2_with fail
    refine (unhide SB _).mono ?_
    rintro e w9 ⟨rfl, hw9⟩
    rw [hw9]
    clear hw9 w9
    go_wp2_with fail
    refine (unhide IW _).mono ?_
    rintro e w9 ⟨rfl, hw9⟩
    rw [hw9]
    clear hw9 w9
    go_wp2
    go_ret
    exact ⟨rfl, (unhide H2).1, (unhide H2).2⟩
  · skip
    have H2 := hide ((unhide H).setVC false (!iw))
    go_enter Tryd.func76, Tryd.ntmps76
    go_wp2_with fail
    refine (unhide WR _).mono ?_
    rintro e w9 ⟨rfl, hw9⟩
    rw [hw9]
    clear hw9 w9
    go_wp2_with fail
    refine (unhide SA _).mono ?_
    rintro e w9 ⟨rfl, hw9⟩
    rw [hw9]
    clear hw9 w9
    go_wp2_with fail
    refine (unhide SB _).mono ?_
    rintro e w9 ⟨rfl, hw9⟩
    rw [hw9]
    clear hw9 w9
    go_wp2_with fail
    refine (unhide IW _).mono ?_
    rintro e w9 ⟨rfl, hw9⟩
    rw [hw9]
    clear hw9 w9
    go_wp2
    go_ret
    exact ⟨rfl, (unhide H2).1, (unhide H2).2⟩
  · skip
    have H2 := hide ((unhide H).setVC false (!iw))
    go_enter Tryd.func76, Tryd.ntmps76
    go_wp2_with fail
    refine (unhide WR _).mono ?_
    rintro e w9 ⟨rfl, hw9⟩
    rw [hw9]
    clear hw9 w9
    go_wp2_with fail
    refine (unhide SA _).mono ?_
    rintro e w9 ⟨rfl, hw9⟩
    rw [hw9]
    clear hw9 w9
    go_wp2_with fail
    refine (unhide SB _).mono ?_
    rintro e w9 ⟨rfl, hw9⟩
    rw [hw9]
    clear hw9 w9
    go_wp2_with fail
    refine (unhide IW _).mono ?_
    rintro e w9 ⟨rfl, hw9⟩
    rw [hw9]
    clear hw9 w9
    go_wp2
    go_ret
    exact ⟨rfl, (unhide H2).1, (unhide H2).2⟩
  · skip
    have H2 := hide ((unhide H).setVC true (!iw))
    go_enter Tryd.func76, Tryd.ntmps76
    go_wp2_with fail
    refine (unhide WR _).mono ?_
    rintro e w9 ⟨rfl, hw9⟩
    rw [hw9]
    clear hw9 w9
    go_wp2_with fail
    refine (unhide SA _).mono ?_
    rintro e w9 ⟨rfl, hw9⟩
    rw [hw9]
    clear hw9 w9
    go_wp2_with fail
    refine (unhide SB _).mono ?_
    rintro e w9 ⟨rfl, hw9⟩
    rw [hw9]
    clear hw9 w9
    go_wp2_with fail
    refine (unhide SR _).mono ?_
    rintro e w9 ⟨rfl, hw9⟩
    rw [hw9]
    clear hw9 w9
    go_wp2_with fail
    refine (unhide SA _).mono ?_
    rintro e w9 ⟨rfl, hw9⟩
    rw [hw9]
    clear hw9 w9
    go_wp2_with fail
    refine (unhide IW _).mono ?_
    rintro e w9 ⟨rfl, hw9⟩
    rw [hw9]
    clear hw9 w9
    go_wp2
    go_ret
    exact ⟨rfl, (unhide H2).1, (unhide H2).2⟩
  · skip
    have H2 := hide ((unhide H).setVC false (!iw))
    go_enter Tryd.func76, Tryd.ntmps76
    go_wp2_with fail
    refine (unhide WR _).mono ?_
    rintro e w9 ⟨rfl, hw9⟩
    rw [hw9]
    clear hw9 w9
    go_wp2_with fail
    refine (unhide SA _).mono ?_
    rintro e w9 ⟨rfl, hw9⟩
    rw [hw9]
    clear hw9 w9
    go_wp2_with fail
    refine (unhide SB _).mono ?_
    rintro e w9 ⟨rfl, hw9⟩
    rw [hw9]
    clear hw9 w9
    go_wp2_with fail
    refine (unhide SR _).mono ?_
    rintro e w9 ⟨rfl, hw9⟩
    rw [hw9]
    clear hw9 w9
    go_wp2_with fail
    refine (unhide SA _).mono ?_
    rintro e w9 ⟨rfl, hw9⟩
    rw [hw9]
    clear hw9 w9
    go_wp2_with fail
    refine (unhide IW _).mono ?_
    rintro e w9 ⟨rfl, hw9⟩
    rw [hw9]
    clear hw9 w9
    go_wp2
    go_ret
    exact ⟨rfl, (unhide H2).1, (unhide H2).2⟩
set_option maxHeartbeats 1000000 in
theorem wk_2 : WkIs 73 2 := by
  intro g B gr rc y t st m0 s d w h s0 s1 d0 d1
  have LS := hide (lessen_any g B gr rc y t st m0 s d w h s0 s1 d0 d1)
  unfold Mv.wk Ms.wk
  simp only [wkV, wkC, wkR]
  generalize ((sgI s != sgI d) && (sgI ((s - d) % 65536) == sgI d)) = v1 at LS ⊢
  generalize decide (s < d) = v2 at LS ⊢
  generalize (s - d) % 65536 = r at LS ⊢
  clear h
  go_enter Tryd.func73, Tryd.ntmps73
  go_wp2_with fail
  refine (unhide LS).mono ?_
  rintro e w2 ⟨rfl, h2, f2⟩
  have H2 := hide h2
  have F2 := hide f2
  clear h2 f2 LS
  go_wp2
  go_ret
  exact ⟨rfl, unhide H2, unhide F2⟩
set_option maxHeartbeats 1000000 in
theorem wk_6 : WkIs 77 6 := by
  intro g B gr rc y t st m0 s d w h s0 s1 d0 d1
  have LS := hide (lessen_any g B gr rc y t st m0 d s w h d0 d1 s0 s1)
  unfold Mv.wk Ms.wk
  simp only [wkV, wkC, wkR]
  generalize ((sgI d != sgI s) && (sgI ((d - s) % 65536) == sgI s)) = v1 at LS ⊢
  generalize decide (d < s) = v2 at LS ⊢
  generalize (d - s) % 65536 = r at LS ⊢
  clear h
  go_enter Tryd.func77, Tryd.ntmps77
  go_wp2_with fail
  refine (unhide LS).mono ?_
  rintro e w2 ⟨rfl, h2, f2⟩
  have H2 := hide h2
  have F2 := hide f2
  clear h2 f2 LS
  go_wp2
  go_ret
  exact ⟨rfl, unhide H2, unhide F2⟩
set_option maxHeartbeats 2000000 in
theorem shiftI_any (g B gr rc : Nat) (y : Mv) (t : Ms) (st : Int) (m0 : List Int) (r : Int) (out : Bool) (w : World) (h : Pz w g B gr rc y t st m0) :
  Calls Tryd.prog 105 #[.pointer (some ⟨g, 0, none⟩), .int .i64 r, .bool out] w fun e w' => e = .returned (.int .i64 r) ∧ Pz w' g B gr rc { y with v := (sgI r != out), c := out } { t with v := (sgI r != out), c := out } st m0 ∧ Fm w w' g y { y with v := (sgI r != out), c := out } := by
  have c4 := h.cell 4 _ rfl
  have f4 := h.fz 260
  have c5 := h.cell 5 _ rfl
  have f5 := h.fz 261
  have H := hide h
  have SR := hide (fun v => hasSign_any r v)
  generalize sgI r = b3 at SR ⊢
  clear h
  cases b3 <;> cases out
  · have H2 := hide ((unhide H).setVC false false)
    go_enter Tryd.func105, Tryd.ntmps105
    go_wp2_with fail
    refine (unhide SR _).mono ?_
    rintro e w9 ⟨rfl, hw9⟩
    rw [hw9]
    clear hw9 w9
    go_wp2
    go_ret
    exact ⟨rfl, (unhide H2).1, (unhide H2).2⟩
  · have H2 := hide ((unhide H).setVC true true)
    go_enter Tryd.func105, Tryd.ntmps105
    go_wp2_with fail
    refine (unhide SR _).mono ?_
    rintro e w9 ⟨rfl, hw9⟩
    rw [hw9]
    clear hw9 w9
    go_wp2
    go_ret
    exact ⟨rfl, (unhide H2).1, (unhide H2).2⟩
  · have H2 := hide ((unhide H).setVC true false)
    go_enter Tryd.func105, Tryd.ntmps105
    go_wp2_with fail
    refine (unhide SR _).mono ?_
    rintro e w9 ⟨rfl, hw9⟩
    rw [hw9]
    clear hw9 w9
    go_wp2
    go_ret
    exact ⟨rfl, (unhide H2).1, (unhide H2).2⟩
  · have H2 := hide ((unhide H).setVC false true)
    go_enter Tryd.func105, Tryd.ntmps105
    go_wp2_with fail
    refine (unhide SR _).mono ?_
    rintro e w9 ⟨rfl, hw9⟩
    rw [hw9]
    clear hw9 w9
    go_wp2
    go_ret
    exact ⟨rfl, (unhide H2).1, (unhide H2).2⟩
set_option maxHeartbeats 1000000 in
theorem signedI_any (n : Int) (w : World) : Calls Tryd.prog 106 #[.int .i64 n] w fun e w' => e = .returned (.int .i64 (sgV n)) ∧ w' = w := by
  have WR := hide (fun v => wrapI_any n v)
  have SR := hide (fun v => hasSign_any (n % 65536) v)
  have HB : 0 ≤ n % 65536 ∧ n % 65536 ≤ 65535 := by omega
  unfold sgV
  generalize n % 65536 = q at WR SR HB ⊢
  obtain ⟨q0, q1⟩ := HB
  unfold sgI at SR
  by_cases hq : 32768 ≤ q
  · rw [if_pos hq]
    rw [decide_eq_true hq] at SR
    have hw : IntKind.i64.wrap (q - 65536) = q - 65536 := by rw [IntKind.wrap_i64]; omega
    go_enter Tryd.func106, Tryd.ntmps106
    go_wp2_with fail
    refine (unhide WR _).mono ?_
    rintro e w9 ⟨rfl, hw9⟩
    rw [hw9]
    clear hw9 w9
    go_wp2_with fail
    refine (unhide SR _).mono ?_
    rintro e w9 ⟨rfl, hw9⟩
    rw [hw9]
    clear hw9 w9
    go_wp2
    go_ret
    exact ⟨rfl, rfl⟩
  · rw [if_neg hq]
    rw [decide_eq_false hq] at SR
    go_enter Tryd.func106, Tryd.ntmps106
    go_wp2_with fail
    refine (unhide WR _).mono ?_
    rintro e w9 ⟨rfl, hw9⟩
    rw [hw9]
    clear hw9 w9
    go_wp2_with fail
    refine (unhide SR _).mono ?_
    rintro e w9 ⟨rfl, hw9⟩
    rw [hw9]
    clear hw9 w9
    go_wp2
    go_ret
    exact ⟨rfl, rfl⟩
set_option maxHeartbeats 2000000 in
theorem wk_13 : WkIs 84 13 := by
  intro g B gr rc y t st m0 s d w h s0 s1 d0 d1
  have hw : IntKind.i64.wrap (2 * d) = 2 * d := by rw [IntKind.wrap_i64]; omega
  have WR := hide (fun v => wrapI_any (2 * d) v)
  have SR := hide (fun v => hasSign_any d v)
  have SH := hide (fun v (h : Pz v g B gr rc y t st m0) => shiftI_any g B gr rc y t st m0 ((2 * d) % 65536) (sgI d) v h)
  unfold Mv.wk Ms.wk
  simp only [wkV, wkC, wkR]
  have H := hide h
  generalize (sgI ((2 * d) % 65536) != sgI d) = v1 at SH ⊢
  generalize sgI d = v2 at SH SR ⊢
  generalize (2 * d) % 65536 = r at SH WR ⊢
  clear h
  go_enter Tryd.func84, Tryd.ntmps84
  go_wp2_with fail
  refine (unhide WR _).mono ?_
  rintro e w9 ⟨rfl, hw9⟩
  rw [hw9]
  clear hw9 w9
  go_wp2_with fail
  refine (unhide SR _).mono ?_
  rintro e w9 ⟨rfl, hw9⟩
  rw [hw9]
  clear hw9 w9
  go_wp2_with fail
  refine (unhide SH _ (unhide H)).mono ?_
  rintro e w2 ⟨rfl, h2, f2⟩
  have H2 := hide h2
  have F2 := hide f2
  clear h2 f2 SH
  go_wp2
  go_ret
  exact ⟨rfl, unhide H2, unhide F2⟩
set_option maxHeartbeats 2000000 in
theorem wk_12 : WkIs 83 12 := by
  intro g B gr rc y t st m0 s d w h s0 s1 d0 d1
  have WR := hide (fun v => wrapI_any (sgV d / 2) v)
  have SR := hide (fun v => signedI_any d v)
  have SH := hide (fun v (h : Pz v g B gr rc y t st m0) => shiftI_any g B gr rc y t st m0 ((sgV d / 2) % 65536) (bits .and .i64 d 1 == 1) v h)
  have SB := sgV_b d
  unfold Mv.wk Ms.wk
  simp only [wkV, wkC, wkR]
  have H := hide h
  generalize (sgI ((sgV d / 2) % 65536) != (bits .and .i64 d 1 == 1)) = v1 at SH ⊢
  generalize (sgV d / 2) % 65536 = r at SH WR ⊢
  generalize sgV d = q at SR WR SB
  clear h
  go_enter Tryd.func83, Tryd.ntmps83
  go_wp2_with fail
  refine (unhide SR _).mono ?_
  rintro e w9 ⟨rfl, hw9⟩
  rw [hw9]
  clear hw9 w9
  go_wp2_with fail
  refine (unhide WR _).mono ?_
  rintro e w9 ⟨rfl, hw9⟩
  rw [hw9]
  clear hw9 w9
  go_wp2_with fail
  refine (unhide SH _ (unhide H)).mono ?_
  rintro e w2 ⟨rfl, h2, f2⟩
  have H2 := hide h2
  have F2 := hide f2
  clear h2 f2 SH
  go_wp2
  go_ret
  exact ⟨rfl, unhide H2, unhide F2⟩
end Go.Proofs.YtboedaofbchdkaaDoor

namespace Go.Proofs.YtboedaofbchdkaaDoor
open Go.ChangeShapes Go.WideShapes Go.ChangeAt Go.RowKit
set_option linter.unusedVariables false
set_option maxRecDepth 8000
set_option linter.unusedSimpArgs false
/-- The address of a place. -/
def plP (g gr : Nat) (r a : Int) : Addr := if r = -1 then ⟨g, (a / 2).toNat, none⟩ else ⟨gr, r.toNat, none⟩
/-- A place's numbers: an address, or a register. -/
def Psh (r a : Int) : Prop := (r = -1 ∧ 0 ≤ a) ∨ (0 ≤ r ∧ r ≤ 7 ∧ a = -1)
theorem rch_of (g gr : Nat) (d : Md) (r a : Int) (h8 : d.r.length = 8) (h : Psh r a) : rchI g gr d r a = if d.ldB r a = true then some (plP g gr r a) else none := by
  unfold rchI Md.ldB plP regB inB
  rcases h with ⟨rfl, ha⟩ | ⟨h0, h7, rfl⟩
  · rw [if_neg (by omega)]
    simp
  · rw [if_pos ⟨rfl, by simp [h8]; omega⟩, if_neg (show ¬ r = -1 by omega), if_neg (show ¬ r = -1 by omega)]
    simp [h8]
    omega
theorem ad_nn {d : Md} (hk : Dk d) (mo re : Nat) (hr : re < 8) : 0 ≤ d.adV mo re := by
  have h := (hk.rw _ (nAt_mem (show re < d.r.length by have := hk.rl; omega))).1
  unfold Md.adV
  repeat' split
  all_goals omega
theorem pl_sh {d : Md} (hk : Dk d) (mo re : Nat) (hr : re < 8) (ho : d.plO mo re = true) : Psh (d.plR mo re) (d.plA mo re) := by
  unfold Md.plR Md.plA
  by_cases h0 : mo = 0
  · rw [if_pos h0, if_pos h0]
    exact .inr ⟨by omega, by omega, rfl⟩
  · rw [if_neg h0, if_neg h0, if_pos ho, if_pos ho]
    refine .inl ⟨rfl, ?_⟩
    split
    · have : Dk (d.adD mo re) := by have := dk_plS hk mo re; unfold Md.plD at this; rw [if_neg h0] at this; exact this
      exact (this.getb _).1
    · exact ad_nn hk mo re hr
section
variable {w w' : World} {g B gr rc : Nat} {y : Mv} {t : Ms} {st : Int} {m0 : List Int}
theorem Pz.small (h : Pz w g B gr rc y t st m0) (hm : m0.length = 256) (hk : Dk t.d) : y.small := by
  have a := h.own.m.len
  have b := h.own.r.len
  have c := h.own.i.len
  have e := h.own.o.len
  have := hk.rl
  have := hk.il
  have := hk.ol
  exact ⟨by simp at a; omega, by simp at b; omega, by simp at c; omega, by simp at e; omega⟩
theorem Pz.place (h : Pz w g B gr rc y t st m0) {r a : Int} (hb : t.d.ldB r a = true) (sh : Psh r a) : w.cell? (plP g gr r a) = some (.int .i64 (t.d.ldV r a)) ∧ w.frozen? (plP g gr r a) = false ∧ ∀ v, 0 ≤ v → v ≤ 65535 → Pz (w.setCell (plP g gr r a) (.int .i64 v)) g B gr rc y (t.st r a v) st m0 ∧ Fm w (w.setCell (plP g gr r a) (.int .i64 v)) g y y := by
  unfold plP Md.ldV Ms.st Md.stD Md.put Md.get
  rcases sh with ⟨rfl, ha⟩ | ⟨h0, h7, rfl⟩
  · unfold Md.ldB at hb
    rw [if_pos rfl] at hb
    rw [if_pos rfl, if_pos rfl, if_pos hb]
    obtain ⟨ta, tl⟩ := has_t hb
    obtain ⟨t0, t1, _⟩ := adB_t ta
    obtain ⟨_, _, c, f⟩ := h.setM (a / 2).toNat 0 (by omega)
    refine ⟨c, f, fun v v0 v1 => ?_⟩
    rw [if_pos rfl, if_pos hb]
    rw [show v % 65536 = v by omega]
    exact ⟨(h.setM (a / 2).toNat v (by omega)).1, (h.setM (a / 2).toNat v (by omega)).2.1⟩
  · rw [if_neg (show ¬ r = -1 by omega), if_neg (show ¬ r = -1 by omega), if_pos hb]
    obtain ⟨_, _, c, f⟩ := h.setR r.toNat 0 (by omega)
    refine ⟨c, f, fun v v0 v1 => ?_⟩
    rw [if_neg (show ¬ r = -1 by omega), if_pos hb]
    rw [show v % 65536 = v by omega]
    exact ⟨(h.setR r.toNat v (by omega)).1, (h.setR r.toNat v (by omega)).2.1⟩
theorem reachZ (h : Pz w g B gr rc y t st m0) (hm : m0.length = 256) (hk : Dk t.d) (r a : Int) (sh : Psh r a) : Calls Tryd.prog 108 #[.pointer (some ⟨g, 0, none⟩), .agg #[.int .i64 r, .int .i64 a]] w fun e w' => e = .returned (.pointer (if t.d.ldB r a = true then some (plP g gr r a) else none)) ∧ Below w.heap.size w w' := by
  rw [← rch_of g gr t.d r a h.r8 sh]
  have a := h.own.m.len
  have b := h.own.r.len
  exact reach_any g gr rc r _ t.d.m y t.d w h.len h.row (by rw [h.len, ← a, hm]) (by simp at b; exact b) (h.small hm hk) (fun _ => by rw [h.r8]; exact h.er)
end
def Ms.op (t : Ms) (mo re : Nat) : Ms := { t with d := t.d.plD mo re }
/-- Whether an operand can be read and stored. -/
def Ms.opB (t : Ms) (mo re : Nat) : Bool := t.d.plO mo re && (t.op mo re).d.ldB (t.d.plR mo re) (t.d.plA mo re)
def Ms.opV (t : Ms) (mo re : Nat) : Int := (t.op mo re).d.ldV (t.d.plR mo re) (t.d.plA mo re)
def Ms.opP (t : Ms) (g gr mo re : Nat) : Addr := plP g gr (t.d.plR mo re) (t.d.plA mo re)
theorem dk_op {t : Ms} (h : Dk t.d) (mo re : Nat) : Dk (t.op mo re).d := dk_plS h mo re
theorem op_v {t : Ms} (h : Dk t.d) (mo re : Nat) : 0 ≤ t.opV mo re ∧ t.opV mo re ≤ 65535 := (dk_op h mo re).ldb _ _
theorem Pz.place2 {w : World} {g B gr rc : Nat} {y : Mv} {t : Ms} {st : Int} {m0 : List Int} {mo re : Nat} (hk : Dk t.d) (hr : re < 8) (hb : t.opB mo re = true) (h : Pz w g B gr rc y (t.op mo re) st m0) :
    w.cell? (t.opP g gr mo re) = some (.int .i64 (t.opV mo re)) ∧ w.frozen? (t.opP g gr mo re) = false := by
  unfold Ms.opB at hb
  simp only [Bool.and_eq_true] at hb
  obtain ⟨a, b, _⟩ := h.place hb.2 (pl_sh hk mo re hr hb.1)
  exact ⟨a, b⟩
set_option maxHeartbeats 4000000 in
theorem operand_any (g B gr rc mo re : Nat) (X : Int) (y : Mv) (t : Ms) (st : Int) (w : World) (h : Pz w g B gr rc y t st t.d.m) (hk : Dk t.d) (h7 : mo ≤ 7) (hr : re < 8) :
    Calls Tryd.prog 126 #[.pointer (some ⟨g, 0, none⟩), .agg #[.int .i64 (mo : Int), .int .i64 (re : Int), .int .i64 X]] w fun e w' => e = .returned (.pointer (if t.opB mo re = true then some (t.opP g gr mo re) else none)) ∧ (t.opB mo re = true → Pz w' g B gr rc y (t.op mo re) st (t.op mo re).d.m) ∧ Fm w w' g y y := by
  have GL := hide h.gl
  have H1 := hide (h.later (below_new w (Obj.cells #[.int .i64 (mo : Int), .int .i64 (re : Int), .int .i64 X] 28)))
  have F1 := hide (Fm.of (g := g) (y := y) (below_new w (Obj.cells #[.int .i64 (mo : Int), .int .i64 (re : Int), .int .i64 X] 28)))
  have AR := hide h.atr
  have PO := hide (po_any g B gr rc mo re X y t.d _ (unhide H1).pg hk.r8 hr (h.small h.len hk) (hk.getb _) h7 ((unhide H1).yl (unhide H1).atr) (unhide H1).gl)
  unfold PoIs0 at PO
  have SHP := hide (pl_sh hk mo re hr)
  have K2 := hide (dk_op hk mo re)
  have GO := hide (show ∀ v, Pg v g B gr rc y (t.d.plD mo re) → Pz v g B gr rc y (t.op mo re) st (t.op mo re).d.m from fun v p => h.ofPg p)
  unfold Ms.opB Ms.opP
  have RZ := hide (fun v (p : Pz v g B gr rc y (t.op mo re) st (t.op mo re).d.m) (ho : t.d.plO mo re = true) => reachZ p p.len (unhide K2) (t.d.plR mo re) (t.d.plA mo re) (unhide SHP ho))
  generalize (t.op mo re).d.ldB (t.d.plR mo re) (t.d.plA mo re) = lb at RZ ⊢
  generalize plP g gr (t.d.plR mo re) (t.d.plA mo re) = pp at RZ ⊢
  generalize t.d.plR mo re = pr at PO RZ SHP
  generalize t.d.plA mo re = pa at PO RZ SHP
  generalize t.d.plO mo re = po at PO RZ SHP ⊢
  generalize t.op mo re = t2 at GO RZ K2 ⊢
  generalize t.d.plD mo re = d2 at PO GO
  clear h hk K2 SHP
  go_enter Tryd.func126, Tryd.ntmps126
  go_wp2_with fail
  refine (unhide PO).mono ?_
  rintro e w2 ⟨rfl, p2, g2⟩
  have F2 := hide ((unhide F1).trans (Fm.grownR g2 (unhide AR)))
  cases po
  · have B3 := hide (below_new w2 (Obj.cells #[.int .i64 pr, .int .i64 pa] 126))
    clear p2 g2 PO RZ
    go_wp2_with (refine wpList_store_new rfl 126 _ _ rfl #[.int .i64 pr, .int .i64 pa] rfl rfl _ (by kernel_rfl) rfl rfl ?_)
    go_ret
    first | exact ⟨rfl, fun h => Bool.noConfusion h, (unhide F2).trans (Fm.of (unhide B3))⟩ | exact ⟨rfl, (unhide F2).trans (Fm.of (unhide B3))⟩
  · have H3 := hide ((unhide GO _ (p2 rfl)).later (below_new w2 (Obj.cells #[.int .i64 pr, .int .i64 pa] 126)))
    have R3 := hide (heap_alloc_last w2 (Obj.cells #[.int .i64 pr, .int .i64 pa] 126))
    have F3 := hide ((unhide F2).trans (Fm.of (below_new w2 (Obj.cells #[.int .i64 pr, .int .i64 pa] 126))))
    have RC := hide (unhide RZ _ (unhide H3) rfl)
    clear p2 g2 PO RZ
    go_wp2_with (first | (refine wpList_store_new rfl 126 _ _ rfl #[.int .i64 pr, .int .i64 pa] rfl rfl _ (by kernel_rfl) rfl rfl ?_) | (refine wpList_load_row rfl 126 _ rfl w2.heap.size rfl 126 #[.int .i64 pr, .int .i64 pa] (0, 0) _ (unhide R3) Tryd.underlying126 rfl (by kernel_rfl) ?_))
    refine (unhide RC).mono ?_
    rintro e w4 ⟨rfl, hb⟩
    have H4 := hide ((unhide H3).later hb)
    have F4 := hide ((unhide F3).trans (Fm.of hb))
    clear hb RC
    cases lb
    · go_wp2
      go_ret
      first | exact ⟨rfl, fun h => Bool.noConfusion h, unhide F4⟩ | exact ⟨rfl, unhide F4⟩
    · go_wp2
      go_ret
      first | exact ⟨rfl, fun _ => unhide H4, unhide F4⟩ | exact ⟨rfl, unhide H4, unhide F4⟩
end Go.Proofs.YtboedaofbchdkaaDoor

namespace Go.Proofs.YtboedaofbchdkaaDoor
open Go.ChangeShapes Go.WideShapes Go.ChangeAt Go.RowKit
set_option linter.unusedVariables false
set_option maxRecDepth 8000
set_option linter.unusedSimpArgs false
theorem i64_and65535Q (n : Int) : bits .and .i64 n 65535 = n % 65536 := by
  have h127 : (BitVec.ofInt 64 65535).toNat = 2 ^ 16 - 1 := by decide
  have key : (BitVec.ofInt 64 n &&& BitVec.ofInt 64 65535).toNat = (n % ((2 ^ 64 : Nat) : Int)).toNat % 2 ^ 16 := by
    rw [BitVec.toNat_and, BitVec.toNat_ofInt, h127, Nat.and_two_pow_sub_one_eq_mod]
  show IntKind.i64.wrap ((BitVec.ofInt 64 n &&& BitVec.ofInt 64 65535).toNat : Nat) = n % 65536
  rw [key, IntKind.wrap_i64]
  omega
theorem isWordI_any (n : Int) (w : World) : Calls Tryd.prog 24 #[.int .i64 n] w fun e w' => e = .returned (.bool (inB n 0 65535)) ∧ w' = w := by
  have H := i64_and65535Q n
  have HE := hide (show (n == n % 65536) = inB n 0 65535 by unfold inB; rw [Bool.eq_iff_iff]; simp; omega)
  go_enter Tryd.func24, Tryd.ntmps24
  go_wp2
  go_ret
  exact ⟨by rw [← unhide HE]; rfl, rfl⟩
theorem hasSrc_any (op : Int) (w : World) : Calls Tryd.prog 45 #[.int .i64 op] w fun e w' => e = .returned (.bool (inB op 1 6)) ∧ w' = w := by
  unfold inB
  by_cases h1 : (1 : Int) ≤ op
  · rw [decide_eq_true h1, Bool.true_and]
    go_enter Tryd.func45, Tryd.ntmps45
    go_wp2
    go_ret
    exact ⟨rfl, rfl⟩
  · rw [decide_eq_false h1, Bool.false_and]
    have h3 : decide ((1 : Int) ≤ op) = false := decide_eq_false h1
    go_enter Tryd.func45, Tryd.ntmps45
    go_wp2
    go_ret
    exact ⟨rfl, rfl⟩
theorem hasDst_any (op : Int) (w : World) : Calls Tryd.prog 46 #[.int .i64 op] w fun e w' => e = .returned (.bool (inB op 1 15)) ∧ w' = w := by
  unfold inB
  by_cases h1 : (1 : Int) ≤ op
  · rw [decide_eq_true h1, Bool.true_and]
    go_enter Tryd.func46, Tryd.ntmps46
    go_wp2
    go_ret
    exact ⟨rfl, rfl⟩
  · rw [decide_eq_false h1, Bool.false_and]
    have h3 : decide ((1 : Int) ≤ op) = false := decide_eq_false h1
    go_enter Tryd.func46, Tryd.ntmps46
    go_wp2
    go_ret
    exact ⟨rfl, rfl⟩
def loN (op : Int) : Int := if inB op 17 21 = true then -128 else 0
def hiN (op : Int) : Int := if op = 15 ∨ op = 16 then 7 else if inB op 17 21 = true then 127 else if op = 23 then 255 else 0
set_option maxHeartbeats 1000000 in
theorem bounds_any (op : Int) (w : World) : Calls Tryd.prog 43 #[.int .i64 op] w fun e w' => e = .returned (.tuple #[.int .i64 (loN op), .int .i64 (hiN op)]) ∧ w' = w := by
  have HR := hide (show ∀ a b : Int, a = loN op → b = hiN op → Ending.returned (.tuple #[.int .i64 a, .int .i64 b]) = .returned (.tuple #[.int .i64 (loN op), .int .i64 (hiN op)]) from fun a b h1 h2 => by rw [h1, h2])
  cases h15 : (op == 15)
  · cases h16 : (op == 16)
    · cases h17 : decide (17 ≤ op)
      · cases h23 : (op == 23)
        · go_enter Tryd.func43, Tryd.ntmps43
          go_wp2
          go_ret2
          exact ⟨unhide HR _ _ (by simp at *; simp [loN, inB, *]; omega) (by simp at *; simp [hiN, inB, *]; omega), rfl⟩
        · go_enter Tryd.func43, Tryd.ntmps43
          go_wp2
          go_ret2
          exact ⟨unhide HR _ _ (by simp at *; simp [loN, inB, *]) (by simp at *; simp [hiN, inB, *]), rfl⟩
      · cases h21 : decide (op ≤ 21)
        · cases h23 : (op == 23)
          · go_enter Tryd.func43, Tryd.ntmps43
            go_wp2
            go_ret2
            exact ⟨unhide HR _ _ (by simp at *; simp [loN, inB, *]) (by simp at *; simp [hiN, inB, *]), rfl⟩
          · go_enter Tryd.func43, Tryd.ntmps43
            go_wp2
            go_ret2
            exact ⟨unhide HR _ _ (by simp at *; simp [loN, inB, *]) (by simp at *; simp [hiN, inB, *]), rfl⟩
        · go_enter Tryd.func43, Tryd.ntmps43
          go_wp2
          go_ret2
          exact ⟨unhide HR _ _ (by simp at *; simp [loN, inB, *]) (by simp at *; simp [hiN, inB, *]), rfl⟩
    · go_enter Tryd.func43, Tryd.ntmps43
      go_wp2
      go_ret2
      exact ⟨unhide HR _ _ (by simp at *; simp [loN, inB, *]) (by simp at *; simp [hiN, inB, *]), rfl⟩
  · go_enter Tryd.func43, Tryd.ntmps43
    go_wp2
    go_ret2
    exact ⟨unhide HR _ _ (by simp at *; simp [loN, inB, *]) (by simp at *; simp [hiN, inB, *]), rfl⟩
set_option maxHeartbeats 1000000 in
theorem hasXI_anyQ (o : Od) (w : World) : Calls Tryd.prog 20 #[o.v] w fun e w' => e = .returned (.bool o.hasX) ∧ Below w.heap.size w w' := by
  obtain ⟨m, r, x⟩ := o
  have HR := hide (show ∀ b : Bool, b = Od.hasX ⟨m, r, x⟩ → Ending.returned (.bool b) = .returned (.bool (Od.hasX ⟨m, r, x⟩)) from fun b h => by rw [h])
  unfold Od.v
  simp only
  have hB := hide ((Below.refl w.heap.size w).alloc (Nat.le_refl _) (Obj.cells #[.int .i64 m, .int .i64 r, .int .i64 x] 28))
  cases h6 : (m == 6)
  · cases h7 : (m == 7)
    · cases h2 : (m == 2)
      · cases h3 : (m == 3)
        · go_enter Tryd.func20, Tryd.ntmps20
          go_wp2
          go_ret
          exact ⟨unhide HR _ (by simp [Od.hasX, *]), unhide hB⟩
        · go_enter Tryd.func20, Tryd.ntmps20
          go_wp2
          go_ret
          exact ⟨unhide HR _ (by simp [Od.hasX, *]), unhide hB⟩
      · go_enter Tryd.func20, Tryd.ntmps20
        go_wp2
        go_ret
        exact ⟨unhide HR _ (by simp [Od.hasX, *]), unhide hB⟩
    · go_enter Tryd.func20, Tryd.ntmps20
      go_wp2
      go_ret
      exact ⟨unhide HR _ (by simp [Od.hasX, *]), unhide hB⟩
  · go_enter Tryd.func20, Tryd.ntmps20
    go_wp2
    go_ret
    exact ⟨unhide HR _ (by simp [Od.hasX, *]), unhide hB⟩
end Go.Proofs.YtboedaofbchdkaaDoor

namespace Go.Proofs.YtboedaofbchdkaaDoor
open Go.ChangeShapes Go.WideShapes Go.ChangeAt Go.RowKit
set_option linter.unusedVariables false
set_option maxRecDepth 8000
set_option linter.unusedSimpArgs false
set_option maxHeartbeats 1000000 in
theorem opdOkI_anyQ (o : Od) (w : World) : Calls Tryd.prog 57 #[o.v] w fun e w' => e = .returned (.bool o.ok) ∧ Below w.heap.size w w' := by
  have HX := hide (fun w => hasXI_anyQ o w)
  obtain ⟨m, r, x⟩ := o
  have HR := hide (show ∀ b : Bool, b = Od.ok ⟨m, r, x⟩ → Ending.returned (.bool b) = .returned (.bool (Od.ok ⟨m, r, x⟩)) from fun b h => by rw [h])
  have HF : ∀ q, Od.hasX ⟨m, r, x⟩ = q → Od.ok ⟨m, r, x⟩ = (((inB m 0 7 && inB r 0 7) && inB x 0 65535) && (q || x == 0)) := fun q h => by rw [← h]; rfl
  obtain ⟨q, hq⟩ : ∃ q, Od.hasX ⟨m, r, x⟩ = q := ⟨_, rfl⟩
  have HF2 := hide (HF q hq)
  rw [hq] at HX
  clear hq HF
  have hB := hide ((Below.refl w.heap.size w).alloc (Nat.le_refl _) (Obj.cells #[.int .i64 m, .int .i64 r, .int .i64 x] 28))
  have HS := hide (box_below w (Obj.cells #[.int .i64 m, .int .i64 r, .int .i64 x] 28))
  have hz : w.heap.size + 1 ≤ (w.alloc (Obj.cells #[.int .i64 m, .int .i64 r, .int .i64 x] 28)).heap.size := by simp
  have HZ := hide hz
  clear hz
  have hc : ∀ y : Sub (w.heap.size + 1) (w.alloc (Obj.cells #[.int .i64 m, .int .i64 r, .int .i64 x] 28)), y.w.cell? ⟨w.heap.size, 2, none⟩ = some (.int .i64 x) := fun y => y.cells 2 _ rfl
  unfold Od.v at HX ⊢
  simp only at HX ⊢
  cases h1 : decide (m < 0)
  · cases h2 : decide (7 < m)
    · cases h3 : decide (r < 0)
      · cases h4 : decide (7 < r)
        · go_enter Tryd.func57, Tryd.ntmps57
          go_wp2_with fail
          refine (Sub.call (x := ⟨_, Below.refl _ _⟩) (unhide HZ) (unhide HX _)).mono ?_
          rintro e _ ⟨rfl, y, rfl⟩
          clear HX
          cases q
          · go_wp2
            go_ret
            exact ⟨unhide HR _ (by rw [unhide HF2]; simp at *; simp [inB, *]; omega), unhide HS _ y.h⟩
          · go_wp2_with (go_at_call 24; refine (isWordI_any _ _).mono ?_; rintro e _ ⟨rfl, rfl⟩)
            go_ret
            exact ⟨unhide HR _ (by rw [unhide HF2]; simp at *; simp [inB, *]), unhide HS _ y.h⟩
        · go_enter Tryd.func57, Tryd.ntmps57
          go_wp2
          go_ret
          exact ⟨unhide HR _ (by rw [unhide HF2]; simp at *; simp [inB, *]; omega), unhide hB⟩
      · go_enter Tryd.func57, Tryd.ntmps57
        go_wp2
        go_ret
        exact ⟨unhide HR _ (by rw [unhide HF2]; simp at *; simp [inB, *]; omega), unhide hB⟩
    · go_enter Tryd.func57, Tryd.ntmps57
      go_wp2
      go_ret
      exact ⟨unhide HR _ (by rw [unhide HF2]; simp at *; simp [inB, *]; omega), unhide hB⟩
  · go_enter Tryd.func57, Tryd.ntmps57
    go_wp2
    go_ret
    exact ⟨unhide HR _ (by rw [unhide HF2]; simp at *; simp [inB, *]; omega), unhide hB⟩
def Od.fits (o : Od) (b : Bool) : Bool := if b = true then o.ok else o.zero
set_option maxHeartbeats 1000000 in
theorem fits_any (o : Od) (b : Bool) (w : World) : Calls Tryd.prog 44 #[o.v, .bool b] w fun e w' => e = .returned (.bool (o.fits b)) ∧ Below w.heap.size w w' := by
  have HX := hide (fun w => opdOkI_anyQ o w)
  obtain ⟨m, r, x⟩ := o
  cases b
  · unfold Od.fits Od.zero Od.v
    simp only
    go_enter Tryd.func44, Tryd.ntmps44
    go_wp2
    all_goals go_ret
    all_goals refine ⟨?_, (Below.refl _ _).alloc (Nat.le_refl _) _⟩
    all_goals simp_all
  · have HS := hide (box_below w (Obj.cells #[.int .i64 m, .int .i64 r, .int .i64 x] 28))
    have hz : w.heap.size + 1 ≤ (w.alloc (Obj.cells #[.int .i64 m, .int .i64 r, .int .i64 x] 28)).heap.size := by simp
    have HZ := hide hz
    clear hz
    have hf : Od.fits ⟨m, r, x⟩ true = Od.ok ⟨m, r, x⟩ := rfl
    rw [hf]
    clear hf
    unfold Od.v at HX ⊢
    simp only at HX ⊢
    go_enter Tryd.func44, Tryd.ntmps44
    go_wp2_with fail
    refine (Sub.call (x := ⟨_, Below.refl _ _⟩) (unhide HZ) (unhide HX _)).mono ?_
    rintro e _ ⟨rfl, y, rfl⟩
    go_wp2
    go_ret
    exact ⟨rfl, unhide HS _ y.h⟩
def Is.okI (i : Is) : Bool := inB i.op 1 23 && (((i.s.fits (inB i.op 1 6) && i.d.fits (inB i.op 1 15)) && decide (loN i.op ≤ i.n)) && decide (i.n ≤ hiN i.op))
theorem inB_tQ (x a b : Int) (h : a ≤ x ∧ x ≤ b) : inB x a b = true := by simp [inB, h]
theorem inB_fQ (x a b : Int) (h : x < a ∨ b < x) : inB x a b = false := by unfold inB; rw [Bool.and_eq_false_iff]; simp; omega
theorem eqB_fQ (x a : Int) (h : x ≠ a) : (x == a) = false := by simp [h]
theorem okI_eq (i : Is) : i.okI = i.ok := by
  obtain ⟨op, s, d, n⟩ := i
  have hc : op < 1 ∨ (1 ≤ op ∧ op ≤ 6) ∨ (7 ≤ op ∧ op ≤ 14) ∨ op = 15 ∨ op = 16 ∨ (17 ≤ op ∧ op ≤ 21) ∨ op = 22 ∨ op = 23 ∨ 23 < op := by omega
  unfold Is.okI Is.ok Od.fits
  simp only
  generalize s.ok = a
  generalize d.ok = b
  generalize s.zero = c
  generalize d.zero = f
  have e1 : (inB op 1 23 = true ∧ 1 ≤ op ∧ op ≤ 23) ∨ (inB op 1 23 = false ∧ (op < 1 ∨ 23 < op)) := by
    by_cases h : 1 ≤ op ∧ op ≤ 23
    · exact .inl ⟨inB_tQ _ _ _ h, h⟩
    · exact .inr ⟨inB_fQ _ _ _ (by omega), by omega⟩
  have hn : ∀ lo hi : Int, (decide (lo ≤ n) && decide (n ≤ hi)) = inB n lo hi := fun _ _ => rfl
  have h0 : inB n 0 0 = (n == 0) := by unfold inB; rw [Bool.eq_iff_iff]; simp; omega
  unfold loN hiN
  rw [Bool.and_assoc]
  rw [hn]
  rcases hc with h | h | h | h | h | h | h | h | h
  · rw [inB_fQ op 1 23 (by omega), inB_fQ op 1 6 (by omega), inB_fQ op 7 14 (by omega), inB_fQ op 17 21 (by omega), eqB_fQ op 15 (by omega), eqB_fQ op 16 (by omega), eqB_fQ op 22 (by omega), eqB_fQ op 23 (by omega)]; simp
  · rw [inB_tQ op 1 23 (by omega), inB_tQ op 1 6 (by omega), inB_tQ op 1 15 (by omega), inB_fQ op 17 21 (by omega), if_neg (show ¬ (op = 15 ∨ op = 16) by omega), if_neg (show ¬ op = 23 by omega)]; simp [h0]
  · rw [inB_tQ op 1 23 (by omega), inB_fQ op 1 6 (by omega), inB_tQ op 1 15 (by omega), inB_tQ op 7 14 (by omega), inB_fQ op 17 21 (by omega), if_neg (show ¬ (op = 15 ∨ op = 16) by omega), if_neg (show ¬ op = 23 by omega)]; simp [h0]
  · subst h; cases a <;> cases b <;> cases c <;> cases f <;> simp [inB]
  · subst h; cases a <;> cases b <;> cases c <;> cases f <;> simp [inB]
  · rw [inB_tQ op 1 23 (by omega), inB_fQ op 1 6 (by omega), inB_fQ op 1 15 (by omega), inB_fQ op 7 14 (by omega), inB_tQ op 17 21 (by omega), if_neg (show ¬ (op = 15 ∨ op = 16) by omega), eqB_fQ op 15 (by omega), eqB_fQ op 16 (by omega)]; cases c <;> cases f <;> simp
  · subst h; cases a <;> cases b <;> cases c <;> cases f <;> simp [inB] <;> (rw [Bool.eq_iff_iff]; simp; omega)
  · subst h; cases a <;> cases b <;> cases c <;> cases f <;> simp [inB]
  · rw [inB_fQ op 1 23 (by omega), inB_fQ op 1 6 (by omega), inB_fQ op 7 14 (by omega), inB_fQ op 17 21 (by omega), eqB_fQ op 15 (by omega), eqB_fQ op 16 (by omega), eqB_fQ op 22 (by omega), eqB_fQ op 23 (by omega)]; simp
end Go.Proofs.YtboedaofbchdkaaDoor
