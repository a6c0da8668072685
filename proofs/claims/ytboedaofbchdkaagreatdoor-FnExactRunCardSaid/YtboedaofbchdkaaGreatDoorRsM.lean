/- Contracts over this seat's translation, laid together; conditions stand as hypotheses of each. -/
import Derived.Test.YtboedaofbchdkaaGreatDoorRsL
namespace Go.Proofs.YtboedaofbchdkaaGreatDoor
open Go.ChangeShapes Go.WideShapes Go.ChangeAt Go.RowKit
set_option maxHeartbeats 16000000
set_option linter.unusedVariables false
set_option maxRecDepth 8000
set_option linter.unusedSimpArgs false
theorem wk_10 : WkIs 79 10 := by
 intro g B gr rc y t st m0 s d w h s0 s1 d0 d1
 have c4 := h.cell 4 _ rfl
 have f4 := h.fz 260
 have c5 := h.cell 5 _ rfl
 have f5 := h.fz 261
 have H := hide h
 unfold Mv.wk Ms.wk
 simp only [wkV, wkC, wkR]
 have hw : IntKind.i64.wrap (-d) = -d := by rw [IntKind.wrap_i64]; omega
 have WR := hide (fun v => wrapI_any (-d) v)
 generalize (-d) % 65536 = r at WR ⊢
 have H2 := hide ((uh H).setVC (r == 32768) (r != 0))
 clear h
 go_enter Tryz.func79, Tryz.ntmps79
 go_wp2_with fail
 refine (uh WR _).mono ?_
 rintro e w9 ⟨rfl, hw9⟩
 rw [hw9]
 clear hw9 w9
 go_wp2
 go_ret
 exact ⟨rfl, (uh H2).1, (uh H2).2⟩
theorem lessen_any (g B gr rc : Nat) (y : Mv) (t : Ms) (st : Int) (m0 : List Int) (s d : Int) (w : World) (h : Pz w g B gr rc y t st m0) (s0 : 0 ≤ s) (s1 : s ≤ 65535) (d0 : 0 ≤ d) (d1 : d ≤ 65535) :
 Calls Tryz.prog 103 #[.pointer (some ⟨g, 0, none⟩), .int .i64 s, .int .i64 d] w fun e w' => e = .returned (.int .i64 ((s - d) % 65536)) ∧ Pz w' g B gr rc { y with v := ((sgI s != sgI d) && (sgI ((s - d) % 65536) == sgI d)), c := decide (s < d) } { t with v := ((sgI s != sgI d) && (sgI ((s - d) % 65536) == sgI d)), c := decide (s < d) } st m0 ∧ Fm w w' g y { y with v := ((sgI s != sgI d) && (sgI ((s - d) % 65536) == sgI d)), c := decide (s < d) } := by
 have c4 := h.cell 4 _ rfl
 have f4 := h.fz 260
 have c5 := h.cell 5 _ rfl
 have f5 := h.fz 261
 have H := hide h
 have hw : IntKind.i64.wrap (s - d) = s - d := by rw [IntKind.wrap_i64]; omega
 have WR := hide (fun v => wrapI_any (s - d) v)
 have SA := hide (fun v => hasSign_any s v)
 have SB := hide (fun v => hasSign_any d v)
 have SR := hide (fun v => hasSign_any ((s - d) % 65536) v)
 generalize sgI ((s - d) % 65536) = b3 at SR ⊢
 generalize (s - d) % 65536 = r at WR SR ⊢
 generalize sgI s = b1 at SA ⊢
 generalize sgI d = b2 at SB ⊢
 clear h
 cases b1 <;> cases b2 <;> cases b3
 ·
  skip
  have H2 := hide ((uh H).setVC false (decide (s < d)))
  go_enter Tryz.func103, Tryz.ntmps103
  go_wp2_with fail
  refine (uh WR _).mono ?_
  rintro e w9 ⟨rfl, hw9⟩
  rw [hw9]
  clear hw9 w9
  go_wp2_with fail
  refine (uh SA _).mono ?_
  rintro e w9 ⟨rfl, hw9⟩
  rw [hw9]
  clear hw9 w9
  go_wp2_with fail
  refine (uh SB _).mono ?_
  rintro e w9 ⟨rfl, hw9⟩
  rw [hw9]
  clear hw9 w9
  go_wp2
  go_ret
  exact ⟨rfl, (uh H2).1, (uh H2).2⟩
 ·
  skip
  have H2 := hide ((uh H).setVC false (decide (s < d)))
  go_enter Tryz.func103, Tryz.ntmps103
  go_wp2_with fail
  refine (uh WR _).mono ?_
  rintro e w9 ⟨rfl, hw9⟩
  rw [hw9]
  clear hw9 w9
  go_wp2_with fail
  refine (uh SA _).mono ?_
  rintro e w9 ⟨rfl, hw9⟩
  rw [hw9]
  clear hw9 w9
  go_wp2_with fail
  refine (uh SB _).mono ?_
  rintro e w9 ⟨rfl, hw9⟩
  rw [hw9]
  clear hw9 w9
  go_wp2
  go_ret
  exact ⟨rfl, (uh H2).1, (uh H2).2⟩
 ·
  skip
  have H2 := hide ((uh H).setVC false (decide (s < d)))
  go_enter Tryz.func103, Tryz.ntmps103
  go_wp2_with fail
  refine (uh WR _).mono ?_
  rintro e w9 ⟨rfl, hw9⟩
  rw [hw9]
  clear hw9 w9
  go_wp2_with fail
  refine (uh SA _).mono ?_
  rintro e w9 ⟨rfl, hw9⟩
  rw [hw9]
  clear hw9 w9
  go_wp2_with fail
  refine (uh SB _).mono ?_
  rintro e w9 ⟨rfl, hw9⟩
  rw [hw9]
  clear hw9 w9
  go_wp2_with fail
  refine (uh SR _).mono ?_
  rintro e w9 ⟨rfl, hw9⟩
  rw [hw9]
  clear hw9 w9
  go_wp2_with fail
  refine (uh SB _).mono ?_
  rintro e w9 ⟨rfl, hw9⟩
  rw [hw9]
  clear hw9 w9
  go_wp2
  go_ret
  exact ⟨rfl, (uh H2).1, (uh H2).2⟩
 ·
  skip
  have H2 := hide ((uh H).setVC true (decide (s < d)))
  go_enter Tryz.func103, Tryz.ntmps103
  go_wp2_with fail
  refine (uh WR _).mono ?_
  rintro e w9 ⟨rfl, hw9⟩
  rw [hw9]
  clear hw9 w9
  go_wp2_with fail
  refine (uh SA _).mono ?_
  rintro e w9 ⟨rfl, hw9⟩
  rw [hw9]
  clear hw9 w9
  go_wp2_with fail
  refine (uh SB _).mono ?_
  rintro e w9 ⟨rfl, hw9⟩
  rw [hw9]
  clear hw9 w9
  go_wp2_with fail
  refine (uh SR _).mono ?_
  rintro e w9 ⟨rfl, hw9⟩
  rw [hw9]
  clear hw9 w9
  go_wp2_with fail
  refine (uh SB _).mono ?_
  rintro e w9 ⟨rfl, hw9⟩
  rw [hw9]
  clear hw9 w9
  go_wp2
  go_ret
  exact ⟨rfl, (uh H2).1, (uh H2).2⟩
 ·
  skip
  have H2 := hide ((uh H).setVC true (decide (s < d)))
  go_enter Tryz.func103, Tryz.ntmps103
  go_wp2_with fail
  refine (uh WR _).mono ?_
  rintro e w9 ⟨rfl, hw9⟩
  rw [hw9]
  clear hw9 w9
  go_wp2_with fail
  refine (uh SA _).mono ?_
  rintro e w9 ⟨rfl, hw9⟩
  rw [hw9]
  clear hw9 w9
  go_wp2_with fail
  refine (uh SB _).mono ?_
  rintro e w9 ⟨rfl, hw9⟩
  rw [hw9]
  clear hw9 w9
  go_wp2_with fail
  refine (uh SR _).mono ?_
  rintro e w9 ⟨rfl, hw9⟩
  rw [hw9]
  clear hw9 w9
  go_wp2_with fail
  refine (uh SB _).mono ?_
  rintro e w9 ⟨rfl, hw9⟩
  rw [hw9]
  clear hw9 w9
  go_wp2
  go_ret
  exact ⟨rfl, (uh H2).1, (uh H2).2⟩
 ·
  skip
  have H2 := hide ((uh H).setVC false (decide (s < d)))
  go_enter Tryz.func103, Tryz.ntmps103
  go_wp2_with fail
  refine (uh WR _).mono ?_
  rintro e w9 ⟨rfl, hw9⟩
  rw [hw9]
  clear hw9 w9
  go_wp2_with fail
  refine (uh SA _).mono ?_
  rintro e w9 ⟨rfl, hw9⟩
  rw [hw9]
  clear hw9 w9
  go_wp2_with fail
  refine (uh SB _).mono ?_
  rintro e w9 ⟨rfl, hw9⟩
  rw [hw9]
  clear hw9 w9
  go_wp2_with fail
  refine (uh SR _).mono ?_
  rintro e w9 ⟨rfl, hw9⟩
  rw [hw9]
  clear hw9 w9
  go_wp2_with fail
  refine (uh SB _).mono ?_
  rintro e w9 ⟨rfl, hw9⟩
  rw [hw9]
  clear hw9 w9
  go_wp2
  go_ret
  exact ⟨rfl, (uh H2).1, (uh H2).2⟩
 ·
  skip
  have H2 := hide ((uh H).setVC false (decide (s < d)))
  go_enter Tryz.func103, Tryz.ntmps103
  go_wp2_with fail
  refine (uh WR _).mono ?_
  rintro e w9 ⟨rfl, hw9⟩
  rw [hw9]
  clear hw9 w9
  go_wp2_with fail
  refine (uh SA _).mono ?_
  rintro e w9 ⟨rfl, hw9⟩
  rw [hw9]
  clear hw9 w9
  go_wp2_with fail
  refine (uh SB _).mono ?_
  rintro e w9 ⟨rfl, hw9⟩
  rw [hw9]
  clear hw9 w9
  go_wp2
  go_ret
  exact ⟨rfl, (uh H2).1, (uh H2).2⟩
 ·
  skip
  have H2 := hide ((uh H).setVC false (decide (s < d)))
  go_enter Tryz.func103, Tryz.ntmps103
  go_wp2_with fail
  refine (uh WR _).mono ?_
  rintro e w9 ⟨rfl, hw9⟩
  rw [hw9]
  clear hw9 w9
  go_wp2_with fail
  refine (uh SA _).mono ?_
  rintro e w9 ⟨rfl, hw9⟩
  rw [hw9]
  clear hw9 w9
  go_wp2_with fail
  refine (uh SB _).mono ?_
  rintro e w9 ⟨rfl, hw9⟩
  rw [hw9]
  clear hw9 w9
  go_wp2
  go_ret
  exact ⟨rfl, (uh H2).1, (uh H2).2⟩
theorem wk_5 : WkIs 74 5 := by
 intro g B gr rc y t st m0 s d w h s0 s1 d0 d1
 have c4 := h.cell 4 _ rfl
 have f4 := h.fz 260
 have c5 := h.cell 5 _ rfl
 have f5 := h.fz 261
 have H := hide h
 unfold Mv.wk Ms.wk
 simp only [wkV, wkC, wkR]
 have hw : IntKind.i64.wrap (s + d) = s + d := by rw [IntKind.wrap_i64]; omega
 have WR := hide (fun v => wrapI_any (s + d) v)
 have SA := hide (fun v => hasSign_any s v)
 have SB := hide (fun v => hasSign_any d v)
 have SR := hide (fun v => hasSign_any ((s + d) % 65536) v)
 generalize sgI ((s + d) % 65536) = b3 at SR ⊢
 generalize (s + d) % 65536 = r at WR SR ⊢
 generalize sgI s = b1 at SA ⊢
 generalize sgI d = b2 at SB ⊢
 have IW := hide (fun v => isWord_any (s + d) v)
 generalize inB (s + d) 0 65535 = iw at IW ⊢
 clear h
 cases b1 <;> cases b2 <;> cases b3
 ·
  skip
  have H2 := hide ((uh H).setVC false (!iw))
  go_enter Tryz.func74, Tryz.ntmps74
  go_wp2_with fail
  refine (uh WR _).mono ?_
  rintro e w9 ⟨rfl, hw9⟩
  rw [hw9]
  clear hw9 w9
  go_wp2_with fail
  refine (uh SA _).mono ?_
  rintro e w9 ⟨rfl, hw9⟩
  rw [hw9]
  clear hw9 w9
  go_wp2_with fail
  refine (uh SB _).mono ?_
  rintro e w9 ⟨rfl, hw9⟩
  rw [hw9]
  clear hw9 w9
  go_wp2_with fail
  refine (uh SR _).mono ?_
  rintro e w9 ⟨rfl, hw9⟩
  rw [hw9]
  clear hw9 w9
  go_wp2_with fail
  refine (uh SA _).mono ?_
  rintro e w9 ⟨rfl, hw9⟩
  rw [hw9]
  clear hw9 w9
  go_wp2_with fail
  refine (uh IW _).mono ?_
  rintro e w9 ⟨rfl, hw9⟩
  rw [hw9]
  clear hw9 w9
  go_wp2
  go_ret
  exact ⟨rfl, (uh H2).1, (uh H2).2⟩
 ·
  skip
  have H2 := hide ((uh H).setVC true (!iw))
  go_enter Tryz.func74, Tryz.ntmps74
  go_wp2_with fail
  refine (uh WR _).mono ?_
  rintro e w9 ⟨rfl, hw9⟩
  rw [hw9]
  clear hw9 w9
  go_wp2_with fail
  refine (uh SA _).mono ?_
  rintro e w9 ⟨rfl, hw9⟩
  rw [hw9]
  clear hw9 w9
  go_wp2_with fail
  refine (uh SB _).mono ?_
  rintro e w9 ⟨rfl, hw9⟩
  rw [hw9]
  clear hw9 w9
  go_wp2_with fail
  refine (uh SR _).mono ?_
  rintro e w9 ⟨rfl, hw9⟩
  rw [hw9]
  clear hw9 w9
  go_wp2_with fail
  refine (uh SA _).mono ?_
  rintro e w9 ⟨rfl, hw9⟩
  rw [hw9]
  clear hw9 w9
  go_wp2_with fail
  refine (uh IW _).mono ?_
  rintro e w9 ⟨rfl, hw9⟩
  rw [hw9]
  clear hw9 w9
  go_wp2
  go_ret
  exact ⟨rfl, (uh H2).1, (uh H2).2⟩
 ·
  skip
  have H2 := hide ((uh H).setVC false (!iw))
  go_enter Tryz.func74, Tryz.ntmps74
  go_wp2_with fail
  refine (uh WR _).mono ?_
  rintro e w9 ⟨rfl, hw9⟩
  rw [hw9]
  clear hw9 w9
  go_wp2_with fail
  refine (uh SA _).mono ?_
  rintro e w9 ⟨rfl, hw9⟩
  rw [hw9]
  clear hw9 w9
  go_wp2_with fail
  refine (uh SB _).mono ?_
  rintro e w9 ⟨rfl, hw9⟩
  rw [hw9]
  clear hw9 w9
  go_wp2_with fail
  refine (uh IW _).mono ?_
  rintro e w9 ⟨rfl, hw9⟩
  rw [hw9]
  clear hw9 w9
  go_wp2
  go_ret
  exact ⟨rfl, (uh H2).1, (uh H2).2⟩
 ·
  skip
  have H2 := hide ((uh H).setVC false (!iw))
  go_enter Tryz.func74, Tryz.ntmps74
  go_wp2_with fail
  refine (uh WR _).mono ?_
  rintro e w9 ⟨rfl, hw9⟩
  rw [hw9]
  clear hw9 w9
  go_wp2_with fail
  refine (uh SA _).mono ?_
  rintro e w9 ⟨rfl, hw9⟩
  rw [hw9]
  clear hw9 w9
  go_wp2_with fail
  refine (uh SB _).mono ?_
  rintro e w9 ⟨rfl, hw9⟩
  rw [hw9]
  clear hw9 w9
  go_wp2_with fail
  refine (uh IW _).mono ?_
  rintro e w9 ⟨rfl, hw9⟩
  rw [hw9]
  clear hw9 w9
  go_wp2
  go_ret
  exact ⟨rfl, (uh H2).1, (uh H2).2⟩
 ·
  skip
  have H2 := hide ((uh H).setVC false (!iw))
  go_enter Tryz.func74, Tryz.ntmps74
  go_wp2_with fail
  refine (uh WR _).mono ?_
  rintro e w9 ⟨rfl, hw9⟩
  rw [hw9]
  clear hw9 w9
  go_wp2_with fail
  refine (uh SA _).mono ?_
  rintro e w9 ⟨rfl, hw9⟩
  rw [hw9]
  clear hw9 w9
  go_wp2_with fail
  refine (uh SB _).mono ?_
  rintro e w9 ⟨rfl, hw9⟩
  rw [hw9]
  clear hw9 w9
  go_wp2_with fail
  refine (uh IW _).mono ?_
  rintro e w9 ⟨rfl, hw9⟩
  rw [hw9]
  clear hw9 w9
  go_wp2
  go_ret
  exact ⟨rfl, (uh H2).1, (uh H2).2⟩
 ·
  skip
  have H2 := hide ((uh H).setVC false (!iw))
  go_enter Tryz.func74, Tryz.ntmps74
  go_wp2_with fail
  refine (uh WR _).mono ?_
  rintro e w9 ⟨rfl, hw9⟩
  rw [hw9]
  clear hw9 w9
  go_wp2_with fail
  refine (uh SA _).mono ?_
  rintro e w9 ⟨rfl, hw9⟩
  rw [hw9]
  clear hw9 w9
  go_wp2_with fail
  refine (uh SB _).mono ?_
  rintro e w9 ⟨rfl, hw9⟩
  rw [hw9]
  clear hw9 w9
  go_wp2_with fail
  refine (uh IW _).mono ?_
  rintro e w9 ⟨rfl, hw9⟩
  rw [hw9]
  clear hw9 w9
  go_wp2
  go_ret
  exact ⟨rfl, (uh H2).1, (uh H2).2⟩
 ·
  skip
  have H2 := hide ((uh H).setVC true (!iw))
  go_enter Tryz.func74, Tryz.ntmps74
  go_wp2_with fail
  refine (uh WR _).mono ?_
  rintro e w9 ⟨rfl, hw9⟩
  rw [hw9]
  clear hw9 w9
  go_wp2_with fail
  refine (uh SA _).mono ?_
  rintro e w9 ⟨rfl, hw9⟩
  rw [hw9]
  clear hw9 w9
  go_wp2_with fail
  refine (uh SB _).mono ?_
  rintro e w9 ⟨rfl, hw9⟩
  rw [hw9]
  clear hw9 w9
  go_wp2_with fail
  refine (uh SR _).mono ?_
  rintro e w9 ⟨rfl, hw9⟩
  rw [hw9]
  clear hw9 w9
  go_wp2_with fail
  refine (uh SA _).mono ?_
  rintro e w9 ⟨rfl, hw9⟩
  rw [hw9]
  clear hw9 w9
  go_wp2_with fail
  refine (uh IW _).mono ?_
  rintro e w9 ⟨rfl, hw9⟩
  rw [hw9]
  clear hw9 w9
  go_wp2
  go_ret
  exact ⟨rfl, (uh H2).1, (uh H2).2⟩
 ·
  skip
  have H2 := hide ((uh H).setVC false (!iw))
  go_enter Tryz.func74, Tryz.ntmps74
  go_wp2_with fail
  refine (uh WR _).mono ?_
  rintro e w9 ⟨rfl, hw9⟩
  rw [hw9]
  clear hw9 w9
  go_wp2_with fail
  refine (uh SA _).mono ?_
  rintro e w9 ⟨rfl, hw9⟩
  rw [hw9]
  clear hw9 w9
  go_wp2_with fail
  refine (uh SB _).mono ?_
  rintro e w9 ⟨rfl, hw9⟩
  rw [hw9]
  clear hw9 w9
  go_wp2_with fail
  refine (uh SR _).mono ?_
  rintro e w9 ⟨rfl, hw9⟩
  rw [hw9]
  clear hw9 w9
  go_wp2_with fail
  refine (uh SA _).mono ?_
  rintro e w9 ⟨rfl, hw9⟩
  rw [hw9]
  clear hw9 w9
  go_wp2_with fail
  refine (uh IW _).mono ?_
  rintro e w9 ⟨rfl, hw9⟩
  rw [hw9]
  clear hw9 w9
  go_wp2
  go_ret
  exact ⟨rfl, (uh H2).1, (uh H2).2⟩
theorem wk_2 : WkIs 71 2 := by
 intro g B gr rc y t st m0 s d w h s0 s1 d0 d1
 have LS := hide (lessen_any g B gr rc y t st m0 s d w h s0 s1 d0 d1)
 unfold Mv.wk Ms.wk
 simp only [wkV, wkC, wkR]
 generalize ((sgI s != sgI d) && (sgI ((s - d) % 65536) == sgI d)) = v1 at LS ⊢
 generalize decide (s < d) = v2 at LS ⊢
 generalize (s - d) % 65536 = r at LS ⊢
 clear h
 go_enter Tryz.func71, Tryz.ntmps71
 go_wp2_with fail
 refine (uh LS).mono ?_
 rintro e w2 ⟨rfl, h2, f2⟩
 have H2 := hide h2
 have F2 := hide f2
 clear h2 f2 LS
 go_wp2
 go_ret
 exact ⟨rfl, uh H2, uh F2⟩
theorem wk_6 : WkIs 75 6 := by
 intro g B gr rc y t st m0 s d w h s0 s1 d0 d1
 have LS := hide (lessen_any g B gr rc y t st m0 d s w h d0 d1 s0 s1)
 unfold Mv.wk Ms.wk
 simp only [wkV, wkC, wkR]
 generalize ((sgI d != sgI s) && (sgI ((d - s) % 65536) == sgI s)) = v1 at LS ⊢
 generalize decide (d < s) = v2 at LS ⊢
 generalize (d - s) % 65536 = r at LS ⊢
 clear h
 go_enter Tryz.func75, Tryz.ntmps75
 go_wp2_with fail
 refine (uh LS).mono ?_
 rintro e w2 ⟨rfl, h2, f2⟩
 have H2 := hide h2
 have F2 := hide f2
 clear h2 f2 LS
 go_wp2
 go_ret
 exact ⟨rfl, uh H2, uh F2⟩
theorem shiftI_any (g B gr rc : Nat) (y : Mv) (t : Ms) (st : Int) (m0 : List Int) (r : Int) (out : Bool) (w : World) (h : Pz w g B gr rc y t st m0) :
 Calls Tryz.prog 105 #[.pointer (some ⟨g, 0, none⟩), .int .i64 r, .bool out] w fun e w' => e = .returned (.int .i64 r) ∧ Pz w' g B gr rc { y with v := (sgI r != out), c := out } { t with v := (sgI r != out), c := out } st m0 ∧ Fm w w' g y { y with v := (sgI r != out), c := out } := by
 have c4 := h.cell 4 _ rfl
 have f4 := h.fz 260
 have c5 := h.cell 5 _ rfl
 have f5 := h.fz 261
 have H := hide h
 have SR := hide (fun v => hasSign_any r v)
 generalize sgI r = b3 at SR ⊢
 clear h
 cases b3 <;> cases out
 ·
  have H2 := hide ((uh H).setVC false false)
  go_enter Tryz.func105, Tryz.ntmps105
  go_wp2_with fail
  refine (uh SR _).mono ?_
  rintro e w9 ⟨rfl, hw9⟩
  rw [hw9]
  clear hw9 w9
  go_wp2
  go_ret
  exact ⟨rfl, (uh H2).1, (uh H2).2⟩
 ·
  have H2 := hide ((uh H).setVC true true)
  go_enter Tryz.func105, Tryz.ntmps105
  go_wp2_with fail
  refine (uh SR _).mono ?_
  rintro e w9 ⟨rfl, hw9⟩
  rw [hw9]
  clear hw9 w9
  go_wp2
  go_ret
  exact ⟨rfl, (uh H2).1, (uh H2).2⟩
 ·
  have H2 := hide ((uh H).setVC true false)
  go_enter Tryz.func105, Tryz.ntmps105
  go_wp2_with fail
  refine (uh SR _).mono ?_
  rintro e w9 ⟨rfl, hw9⟩
  rw [hw9]
  clear hw9 w9
  go_wp2
  go_ret
  exact ⟨rfl, (uh H2).1, (uh H2).2⟩
 ·
  have H2 := hide ((uh H).setVC false true)
  go_enter Tryz.func105, Tryz.ntmps105
  go_wp2_with fail
  refine (uh SR _).mono ?_
  rintro e w9 ⟨rfl, hw9⟩
  rw [hw9]
  clear hw9 w9
  go_wp2
  go_ret
  exact ⟨rfl, (uh H2).1, (uh H2).2⟩
theorem signedI_any (n : Int) (w : World) : Calls Tryz.prog 106 #[.int .i64 n] w fun e w' => e = .returned (.int .i64 (sgV n)) ∧ w' = w := by
 have WR := hide (fun v => wrapI_any n v)
 have SR := hide (fun v => hasSign_any (n % 65536) v)
 have HB : 0 ≤ n % 65536 ∧ n % 65536 ≤ 65535 := by omega
 unfold sgV
 generalize n % 65536 = q at WR SR HB ⊢
 obtain ⟨q0, q1⟩ := HB
 unfold sgI at SR
 by_cases hq : 32768 ≤ q
 ·
  rw [if_pos hq]
  rw [decide_eq_true hq] at SR
  have hw : IntKind.i64.wrap (q - 65536) = q - 65536 := by rw [IntKind.wrap_i64]; omega
  go_enter Tryz.func106, Tryz.ntmps106
  go_wp2_with fail
  refine (uh WR _).mono ?_
  rintro e w9 ⟨rfl, hw9⟩
  rw [hw9]
  clear hw9 w9
  go_wp2_with fail
  refine (uh SR _).mono ?_
  rintro e w9 ⟨rfl, hw9⟩
  rw [hw9]
  clear hw9 w9
  go_wp2
  go_ret
  exact ⟨rfl, rfl⟩
 ·
  rw [if_neg hq]
  rw [decide_eq_false hq] at SR
  go_enter Tryz.func106, Tryz.ntmps106
  go_wp2_with fail
  refine (uh WR _).mono ?_
  rintro e w9 ⟨rfl, hw9⟩
  rw [hw9]
  clear hw9 w9
  go_wp2_with fail
  refine (uh SR _).mono ?_
  rintro e w9 ⟨rfl, hw9⟩
  rw [hw9]
  clear hw9 w9
  go_wp2
  go_ret
  exact ⟨rfl, rfl⟩
theorem wk_13 : WkIs 82 13 := by
 intro g B gr rc y t st m0 s d w h s0 s1 d0 d1
 have hw : IntKind.i64.wrap (2 * d) = 2 * d := by rw [IntKind.wrap_i64]; omega
 have WR := hide (fun v => wrapI_any (2 * d) v)
 have SR := hide (fun v => hasSign_any d v)
 have SH := hide (fun v (h : Pz v g B gr rc y t st m0) => shiftI_any g B gr rc y t st m0 ((2 * d) % 65536) (sgI d) v h)
 unfold Mv.wk Ms.wk
 simp only [wkV, wkC, wkR]
 have H := hide h
 generalize (sgI ((2 * d) % 65536) != sgI d) = v1 at SH ⊢
 generalize sgI d = v2 at SH SR ⊢
 generalize (2 * d) % 65536 = r at SH WR ⊢
 clear h
 go_enter Tryz.func82, Tryz.ntmps82
 go_wp2_with fail
 refine (uh WR _).mono ?_
 rintro e w9 ⟨rfl, hw9⟩
 rw [hw9]
 clear hw9 w9
 go_wp2_with fail
 refine (uh SR _).mono ?_
 rintro e w9 ⟨rfl, hw9⟩
 rw [hw9]
 clear hw9 w9
 go_wp2_with fail
 refine (uh SH _ (uh H)).mono ?_
 rintro e w2 ⟨rfl, h2, f2⟩
 have H2 := hide h2
 have F2 := hide f2
 clear h2 f2 SH
 go_wp2
 go_ret
 exact ⟨rfl, uh H2, uh F2⟩
theorem wk_12 : WkIs 81 12 := by
 intro g B gr rc y t st m0 s d w h s0 s1 d0 d1
 have WR := hide (fun v => wrapI_any (sgV d / 2) v)
 have SR := hide (fun v => signedI_any d v)
 have SH := hide (fun v (h : Pz v g B gr rc y t st m0) => shiftI_any g B gr rc y t st m0 ((sgV d / 2) % 65536) (bits .and .i64 d 1 == 1) v h)
 have SB := sgV_b d
 unfold Mv.wk Ms.wk
 simp only [wkV, wkC, wkR]
 have H := hide h
 generalize (sgI ((sgV d / 2) % 65536) != (bits .and .i64 d 1 == 1)) = v1 at SH ⊢
 generalize (sgV d / 2) % 65536 = r at SH WR ⊢
 generalize sgV d = q at SR WR SB
 clear h
 go_enter Tryz.func81, Tryz.ntmps81
 go_wp2_with fail
 refine (uh SR _).mono ?_
 rintro e w9 ⟨rfl, hw9⟩
 rw [hw9]
 clear hw9 w9
 go_wp2_with fail
 refine (uh WR _).mono ?_
 rintro e w9 ⟨rfl, hw9⟩
 rw [hw9]
 clear hw9 w9
 go_wp2_with fail
 refine (uh SH _ (uh H)).mono ?_
 rintro e w2 ⟨rfl, h2, f2⟩
 have H2 := hide h2
 have F2 := hide f2
 clear h2 f2 SH
 go_wp2
 go_ret
 exact ⟨rfl, uh H2, uh F2⟩
section
def plP (g gr : Nat) (r a : Int) : Addr := if r = -1 then ⟨g, (a / 2).toNat, none⟩ else ⟨gr, r.toNat, none⟩
def Psh (r a : Int) : Prop := (r = -1 ∧ 0 ≤ a) ∨ (0 ≤ r ∧ r ≤ 7 ∧ a = -1)
theorem rch_of (g gr : Nat) (d : Md) (r a : Int) (h8 : d.r.length = 8) (h : Psh r a) : rchI g gr d r a = if d.ldB r a = true then some (plP g gr r a) else none := by
 unfold rchI Md.ldB plP regB inB
 rcases h with ⟨rfl, ha⟩ | ⟨h0, h7, rfl⟩
 ·
  rw [if_neg (by omega)]
  simp
 ·
  rw [if_pos ⟨rfl, by simp [h8]; omega⟩, if_neg (show ¬ r = -1 by omega), if_neg (show ¬ r = -1 by omega)]
  simp [h8]
  omega
theorem ad_nn {d : Md} (hk : Dk d) (mo re : Nat) (hr : re < 8) : 0 ≤ d.adV mo re := by
 have h := (hk.rw _ (nAt_mem (show re < d.r.length by have := hk.rl; omega))).1
 unfold Md.adV
 repeat' split
 all_goals omega
theorem pl_sh {d : Md} (hk : Dk d) (mo re : Nat) (hr : re < 8) (ho : d.plO mo re = true) : Psh (d.plR mo re) (d.plA mo re) := by
 unfold Md.plR Md.plA
 by_cases h0 : mo = 0
 ·
  rw [if_pos h0, if_pos h0]
  exact .inr ⟨by omega, by omega, rfl⟩
 ·
  rw [if_neg h0, if_neg h0, if_pos ho, if_pos ho]
  refine .inl ⟨rfl, ?_⟩
  split
  ·
   have : Dk (d.adD mo re) := by have := dk_plS hk mo re; unfold Md.plD at this; rw [if_neg h0] at this; exact this
   exact (this.getb _).1
  · exact ad_nn hk mo re hr
section
variable {w w' : World} {g B gr rc : Nat} {y : Mv} {t : Ms} {st : Int} {m0 : List Int}
theorem Pz.small (h : Pz w g B gr rc y t st m0) (hm : m0.length = 256) (hk : Dk t.d) : y.small := by
 have a := h.own.m.len
 have b := h.own.r.len
 have c := h.own.i.len
 have e := h.own.o.len
 have := hk.rl
 have := hk.il
 have := hk.ol
 exact ⟨by simp at a; omega, by simp at b; omega, by simp at c; omega, by simp at e; omega⟩
theorem Pz.place (h : Pz w g B gr rc y t st m0) {r a : Int} (hb : t.d.ldB r a = true) (sh : Psh r a) : w.cell? (plP g gr r a) = some (.int .i64 (t.d.ldV r a)) ∧ w.frozen? (plP g gr r a) = false ∧ ∀ v, 0 ≤ v → v ≤ 65535 → Pz (w.setCell (plP g gr r a) (.int .i64 v)) g B gr rc y (t.st r a v) st m0 ∧ Fm w (w.setCell (plP g gr r a) (.int .i64 v)) g y y := by
 unfold plP Md.ldV Ms.st Md.stD Md.put Md.get
 rcases sh with ⟨rfl, ha⟩ | ⟨h0, h7, rfl⟩
 ·
  unfold Md.ldB at hb
  rw [if_pos rfl] at hb
  rw [if_pos rfl, if_pos rfl, if_pos hb]
  obtain ⟨ta, tl⟩ := has_t hb
  obtain ⟨t0, t1, _⟩ := adB_t ta
  obtain ⟨_, _, c, f⟩ := h.setM (a / 2).toNat 0 (by omega)
  refine ⟨c, f, fun v v0 v1 => ?_⟩
  rw [if_pos rfl, if_pos hb]
  rw [show v % 65536 = v by omega]
  exact ⟨(h.setM (a / 2).toNat v (by omega)).1, (h.setM (a / 2).toNat v (by omega)).2.1⟩
 ·
  rw [if_neg (show ¬ r = -1 by omega), if_neg (show ¬ r = -1 by omega), if_pos hb]
  obtain ⟨_, _, c, f⟩ := h.setR r.toNat 0 (by omega)
  refine ⟨c, f, fun v v0 v1 => ?_⟩
  rw [if_neg (show ¬ r = -1 by omega), if_pos hb]
  rw [show v % 65536 = v by omega]
  exact ⟨(h.setR r.toNat v (by omega)).1, (h.setR r.toNat v (by omega)).2.1⟩
theorem reachZ (h : Pz w g B gr rc y t st m0) (hm : m0.length = 256) (hk : Dk t.d) (r a : Int) (sh : Psh r a) : Calls Tryz.prog 108 #[.pointer (some ⟨g, 0, none⟩), .agg #[.int .i64 r, .int .i64 a]] w fun e w' => e = .returned (.pointer (if t.d.ldB r a = true then some (plP g gr r a) else none)) ∧ Below w.heap.size w w' := by
 rw [← rch_of g gr t.d r a h.r8 sh]
 have a := h.own.m.len
 have b := h.own.r.len
 exact reach_any g gr rc r _ t.d.m y t.d w h.len h.row (by rw [h.len, ← a, hm]) (by simp at b; exact b) (h.small hm hk) (fun _ => by rw [h.r8]; exact h.er)
end
def Ms.op (t : Ms) (mo re : Nat) : Ms := { t with d := t.d.plD mo re }
def Ms.opB (t : Ms) (mo re : Nat) : Bool := t.d.plO mo re && (t.op mo re).d.ldB (t.d.plR mo re) (t.d.plA mo re)
def Ms.opV (t : Ms) (mo re : Nat) : Int := (t.op mo re).d.ldV (t.d.plR mo re) (t.d.plA mo re)
def Ms.opP (t : Ms) (g gr mo re : Nat) : Addr := plP g gr (t.d.plR mo re) (t.d.plA mo re)
theorem dk_op {t : Ms} (h : Dk t.d) (mo re : Nat) : Dk (t.op mo re).d := dk_plS h mo re
theorem op_v {t : Ms} (h : Dk t.d) (mo re : Nat) : 0 ≤ t.opV mo re ∧ t.opV mo re ≤ 65535 := (dk_op h mo re).ldb _ _
theorem Pz.place2 {w : World} {g B gr rc : Nat} {y : Mv} {t : Ms} {st : Int} {m0 : List Int} {mo re : Nat} (hk : Dk t.d) (hr : re < 8) (hb : t.opB mo re = true) (h : Pz w g B gr rc y (t.op mo re) st m0) :
  w.cell? (t.opP g gr mo re) = some (.int .i64 (t.opV mo re)) ∧ w.frozen? (t.opP g gr mo re) = false := by
 unfold Ms.opB at hb
 simp only [Bool.and_eq_true] at hb
 obtain ⟨a, b, _⟩ := h.place hb.2 (pl_sh hk mo re hr hb.1)
 exact ⟨a, b⟩
theorem operand_any (g B gr rc mo re : Nat) (X : Int) (y : Mv) (t : Ms) (st : Int) (w : World) (h : Pz w g B gr rc y t st t.d.m) (hk : Dk t.d) (h7 : mo ≤ 7) (hr : re < 8) :
  Calls Tryz.prog 132 #[.pointer (some ⟨g, 0, none⟩), .agg #[.int .i64 (mo : Int), .int .i64 (re : Int), .int .i64 X]] w fun e w' => e = .returned (.pointer (if t.opB mo re = true then some (t.opP g gr mo re) else none)) ∧ (t.opB mo re = true → Pz w' g B gr rc y (t.op mo re) st (t.op mo re).d.m) ∧ Fm w w' g y y := by
 have GL := hide h.gl
 have H1 := hide (h.later (below_new w (Obj.cells #[.int .i64 (mo : Int), .int .i64 (re : Int), .int .i64 X] 46)))
 have F1 := hide (Fm.of (g := g) (y := y) (below_new w (Obj.cells #[.int .i64 (mo : Int), .int .i64 (re : Int), .int .i64 X] 46)))
 have AR := hide h.atr
 have PO := hide (po_any g B gr rc mo re X y t.d _ (uh H1).pg hk.r8 hr (h.small h.len hk) (hk.getb _) h7 ((uh H1).yl (uh H1).atr) (uh H1).gl)
 unfold PoIs0 at PO
 have SHP := hide (pl_sh hk mo re hr)
 have K2 := hide (dk_op hk mo re)
 have GO := hide (show ∀ v, Pg v g B gr rc y (t.d.plD mo re) → Pz v g B gr rc y (t.op mo re) st (t.op mo re).d.m from fun v p => h.ofPg p)
 unfold Ms.opB Ms.opP
 have RZ := hide (fun v (p : Pz v g B gr rc y (t.op mo re) st (t.op mo re).d.m) (ho : t.d.plO mo re = true) => reachZ p p.len (uh K2) (t.d.plR mo re) (t.d.plA mo re) (uh SHP ho))
 generalize (t.op mo re).d.ldB (t.d.plR mo re) (t.d.plA mo re) = lb at RZ ⊢
 generalize plP g gr (t.d.plR mo re) (t.d.plA mo re) = pp at RZ ⊢
 generalize t.d.plR mo re = pr at PO RZ SHP
 generalize t.d.plA mo re = pa at PO RZ SHP
 generalize t.d.plO mo re = po at PO RZ SHP ⊢
 generalize t.op mo re = t2 at GO RZ K2 ⊢
 generalize t.d.plD mo re = d2 at PO GO
 clear h hk K2 SHP
 go_enter Tryz.func132, Tryz.ntmps132
 go_wp2_with fail
 refine (uh PO).mono ?_
 rintro e w2 ⟨rfl, p2, g2⟩
 have F2 := hide ((uh F1).trans (Fm.grownR g2 (uh AR)))
 cases po
 ·
  have B3 := hide (below_new w2 (Obj.cells #[.int .i64 pr, .int .i64 pa] 57))
  clear p2 g2 PO RZ
  go_wp2_with (refine wpList_store_new rfl 57 _ _ rfl #[.int .i64 pr, .int .i64 pa] rfl rfl _ (by kernel_rfl) rfl rfl ?_)
  go_ret
  first | exact ⟨rfl, fun h => Bool.noConfusion h, (uh F2).trans (Fm.of (uh B3))⟩ | exact ⟨rfl, (uh F2).trans (Fm.of (uh B3))⟩
 ·
  have H3 := hide ((uh GO _ (p2 rfl)).later (below_new w2 (Obj.cells #[.int .i64 pr, .int .i64 pa] 57)))
  have R3 := hide (heap_alloc_last w2 (Obj.cells #[.int .i64 pr, .int .i64 pa] 57))
  have F3 := hide ((uh F2).trans (Fm.of (below_new w2 (Obj.cells #[.int .i64 pr, .int .i64 pa] 57))))
  have RC := hide (uh RZ _ (uh H3) rfl)
  clear p2 g2 PO RZ
  go_wp2_with (first | (refine wpList_store_new rfl 57 _ _ rfl #[.int .i64 pr, .int .i64 pa] rfl rfl _ (by kernel_rfl) rfl rfl ?_) | (refine wpList_load_row rfl 57 _ rfl w2.heap.size rfl 57 #[.int .i64 pr, .int .i64 pa] (0, 0) _ (uh R3) Tryz.underlying57 rfl (by kernel_rfl) ?_))
  refine (uh RC).mono ?_
  rintro e w4 ⟨rfl, hb⟩
  have H4 := hide ((uh H3).later hb)
  have F4 := hide ((uh F3).trans (Fm.of hb))
  clear hb RC
  cases lb
  ·
   go_wp2
   go_ret
   first | exact ⟨rfl, fun h => Bool.noConfusion h, uh F4⟩ | exact ⟨rfl, uh F4⟩
  ·
   go_wp2
   go_ret
   first | exact ⟨rfl, fun _ => uh H4, uh F4⟩ | exact ⟨rfl, uh H4, uh F4⟩
end
theorem i64_and65535Q (n : Int) : bits .and .i64 n 65535 = n % 65536 := by
 have h127 : (BitVec.ofInt 64 65535).toNat = 2 ^ 16 - 1 := by decide
 have key : (BitVec.ofInt 64 n &&& BitVec.ofInt 64 65535).toNat = (n % ((2 ^ 64 : Nat) : Int)).toNat % 2 ^ 16 := by
  rw [BitVec.toNat_and, BitVec.toNat_ofInt, h127, Nat.and_two_pow_sub_one_eq_mod]
 show IntKind.i64.wrap ((BitVec.ofInt 64 n &&& BitVec.ofInt 64 65535).toNat : Nat) = n % 65536
 rw [key, IntKind.wrap_i64]
 omega
theorem isWordI_any (n : Int) (w : World) : Calls Tryz.prog 62 #[.int .i64 n] w fun e w' => e = .returned (.bool (inB n 0 65535)) ∧ w' = w := by
 have H := i64_and65535Q n
 have HE := hide (show (n == n % 65536) = inB n 0 65535 by unfold inB; rw [Bool.eq_iff_iff]; simp; omega)
 go_enter Tryz.func62, Tryz.ntmps62
 go_wp2
 go_ret
 exact ⟨by rw [← uh HE]; rfl, rfl⟩
theorem hasSrc_any (op : Int) (w : World) : Calls Tryz.prog 96 #[.int .i64 op] w fun e w' => e = .returned (.bool (inB op 1 6)) ∧ w' = w := by
 unfold inB
 by_cases h1 : (1 : Int) ≤ op
 ·
  rw [decide_eq_true h1, Bool.true_and]
  go_enter Tryz.func96, Tryz.ntmps96
  go_wp2
  go_ret
  exact ⟨rfl, rfl⟩
 ·
  rw [decide_eq_false h1, Bool.false_and]
  have h3 : decide ((1 : Int) ≤ op) = false := decide_eq_false h1
  go_enter Tryz.func96, Tryz.ntmps96
  go_wp2
  go_ret
  exact ⟨rfl, rfl⟩
theorem hasDst_any (op : Int) (w : World) : Calls Tryz.prog 97 #[.int .i64 op] w fun e w' => e = .returned (.bool (inB op 1 15)) ∧ w' = w := by
 unfold inB
 by_cases h1 : (1 : Int) ≤ op
 ·
  rw [decide_eq_true h1, Bool.true_and]
  go_enter Tryz.func97, Tryz.ntmps97
  go_wp2
  go_ret
  exact ⟨rfl, rfl⟩
 ·
  rw [decide_eq_false h1, Bool.false_and]
  have h3 : decide ((1 : Int) ≤ op) = false := decide_eq_false h1
  go_enter Tryz.func97, Tryz.ntmps97
  go_wp2
  go_ret
  exact ⟨rfl, rfl⟩
def loN (op : Int) : Int := if inB op 17 21 = true then -128 else 0
def hiN (op : Int) : Int := if op = 15 ∨ op = 16 then 7 else if inB op 17 21 = true then 127 else if op = 23 then 255 else 0
theorem bounds_any (op : Int) (w : World) : Calls Tryz.prog 98 #[.int .i64 op] w fun e w' => e = .returned (.tuple #[.int .i64 (loN op), .int .i64 (hiN op)]) ∧ w' = w := by
 have HR := hide (show ∀ a b : Int, a = loN op → b = hiN op → Ending.returned (.tuple #[.int .i64 a, .int .i64 b]) = .returned (.tuple #[.int .i64 (loN op), .int .i64 (hiN op)]) from fun a b h1 h2 => by rw [h1, h2])
 cases h15 : (op == 15)
 ·
  cases h16 : (op == 16)
  ·
   cases h17 : decide (17 ≤ op)
   ·
    cases h23 : (op == 23)
    ·
     go_enter Tryz.func98, Tryz.ntmps98
     go_wp2
     go_ret2
     exact ⟨uh HR _ _ (by simp at *; simp [loN, inB, *]; omega) (by simp at *; simp [hiN, inB, *]; omega), rfl⟩
    ·
     go_enter Tryz.func98, Tryz.ntmps98
     go_wp2
     go_ret2
     exact ⟨uh HR _ _ (by simp at *; simp [loN, inB, *]) (by simp at *; simp [hiN, inB, *]), rfl⟩
   ·
    cases h21 : decide (op ≤ 21)
    ·
     cases h23 : (op == 23)
     ·
      go_enter Tryz.func98, Tryz.ntmps98
      go_wp2
      go_ret2
      exact ⟨uh HR _ _ (by simp at *; simp [loN, inB, *]) (by simp at *; simp [hiN, inB, *]), rfl⟩
     ·
      go_enter Tryz.func98, Tryz.ntmps98
      go_wp2
      go_ret2
      exact ⟨uh HR _ _ (by simp at *; simp [loN, inB, *]) (by simp at *; simp [hiN, inB, *]), rfl⟩
    ·
     go_enter Tryz.func98, Tryz.ntmps98
     go_wp2
     go_ret2
     exact ⟨uh HR _ _ (by simp at *; simp [loN, inB, *]) (by simp at *; simp [hiN, inB, *]), rfl⟩
  ·
   go_enter Tryz.func98, Tryz.ntmps98
   go_wp2
   go_ret2
   exact ⟨uh HR _ _ (by simp at *; simp [loN, inB, *]) (by simp at *; simp [hiN, inB, *]), rfl⟩
 ·
  go_enter Tryz.func98, Tryz.ntmps98
  go_wp2
  go_ret2
  exact ⟨uh HR _ _ (by simp at *; simp [loN, inB, *]) (by simp at *; simp [hiN, inB, *]), rfl⟩
theorem hasXI_anyQ (o : Od) (w : World) : Calls Tryz.prog 66 #[o.v] w fun e w' => e = .returned (.bool o.hasX) ∧ Below w.heap.size w w' := by
 obtain ⟨m, r, x⟩ := o
 have HR := hide (show ∀ b : Bool, b = Od.hasX ⟨m, r, x⟩ → Ending.returned (.bool b) = .returned (.bool (Od.hasX ⟨m, r, x⟩)) from fun b h => by rw [h])
 unfold Od.v
 simp only
 have hB := hide ((Below.refl w.heap.size w).alloc (Nat.le_refl _) (Obj.cells #[.int .i64 m, .int .i64 r, .int .i64 x] 46))
 cases h6 : (m == 6)
 ·
  cases h7 : (m == 7)
  ·
   cases h2 : (m == 2)
   ·
    cases h3 : (m == 3)
    ·
     go_enter Tryz.func66, Tryz.ntmps66
     go_wp2
     go_ret
     exact ⟨uh HR _ (by simp [Od.hasX, *]), uh hB⟩
    ·
     go_enter Tryz.func66, Tryz.ntmps66
     go_wp2
     go_ret
     exact ⟨uh HR _ (by simp [Od.hasX, *]), uh hB⟩
   ·
    go_enter Tryz.func66, Tryz.ntmps66
    go_wp2
    go_ret
    exact ⟨uh HR _ (by simp [Od.hasX, *]), uh hB⟩
  ·
   go_enter Tryz.func66, Tryz.ntmps66
   go_wp2
   go_ret
   exact ⟨uh HR _ (by simp [Od.hasX, *]), uh hB⟩
 ·
  go_enter Tryz.func66, Tryz.ntmps66
  go_wp2
  go_ret
  exact ⟨uh HR _ (by simp [Od.hasX, *]), uh hB⟩
theorem opdOkI_anyQ (o : Od) (w : World) : Calls Tryz.prog 124 #[o.v] w fun e w' => e = .returned (.bool o.ok) ∧ Below w.heap.size w w' := by
 have HX := hide (fun w => hasXI_anyQ o w)
 obtain ⟨m, r, x⟩ := o
 have HR := hide (show ∀ b : Bool, b = Od.ok ⟨m, r, x⟩ → Ending.returned (.bool b) = .returned (.bool (Od.ok ⟨m, r, x⟩)) from fun b h => by rw [h])
 have HF : ∀ q, Od.hasX ⟨m, r, x⟩ = q → Od.ok ⟨m, r, x⟩ = (((inB m 0 7 && inB r 0 7) && inB x 0 65535) && (q || x == 0)) := fun q h => by rw [← h]; rfl
 obtain ⟨q, hq⟩ : ∃ q, Od.hasX ⟨m, r, x⟩ = q := ⟨_, rfl⟩
 have HF2 := hide (HF q hq)
 rw [hq] at HX
 clear hq HF
 have hB := hide ((Below.refl w.heap.size w).alloc (Nat.le_refl _) (Obj.cells #[.int .i64 m, .int .i64 r, .int .i64 x] 46))
 have HS := hide (box_below w (Obj.cells #[.int .i64 m, .int .i64 r, .int .i64 x] 46))
 have hz : w.heap.size + 1 ≤ (w.alloc (Obj.cells #[.int .i64 m, .int .i64 r, .int .i64 x] 46)).heap.size := by simp
 have HZ := hide hz
 clear hz
 have hc : ∀ y : Sub (w.heap.size + 1) (w.alloc (Obj.cells #[.int .i64 m, .int .i64 r, .int .i64 x] 46)), y.w.cell? ⟨w.heap.size, 2, none⟩ = some (.int .i64 x) := fun y => y.cells 2 _ rfl
 unfold Od.v at HX ⊢
 simp only at HX ⊢
 cases h1 : decide (m < 0)
 ·
  cases h2 : decide (7 < m)
  ·
   cases h3 : decide (r < 0)
   ·
    cases h4 : decide (7 < r)
    ·
     go_enter Tryz.func124, Tryz.ntmps124
     go_wp2_with fail
     refine (Sub.call (x := ⟨_, Below.refl _ _⟩) (uh HZ) (uh HX _)).mono ?_
     rintro e _ ⟨rfl, y, rfl⟩
     clear HX
     cases q
     ·
      go_wp2
      go_ret
      exact ⟨uh HR _ (by rw [uh HF2]; simp at *; simp [inB, *]; omega), uh HS _ y.h⟩
     ·
      go_wp2_with (go_at_call 62; refine (isWordI_any _ _).mono ?_; rintro e _ ⟨rfl, rfl⟩)
      go_ret
      exact ⟨uh HR _ (by rw [uh HF2]; simp at *; simp [inB, *]), uh HS _ y.h⟩
    ·
     go_enter Tryz.func124, Tryz.ntmps124
     go_wp2
     go_ret
     exact ⟨uh HR _ (by rw [uh HF2]; simp at *; simp [inB, *]; omega), uh hB⟩
   ·
    go_enter Tryz.func124, Tryz.ntmps124
    go_wp2
    go_ret
    exact ⟨uh HR _ (by rw [uh HF2]; simp at *; simp [inB, *]; omega), uh hB⟩
  ·
   go_enter Tryz.func124, Tryz.ntmps124
   go_wp2
   go_ret
   exact ⟨uh HR _ (by rw [uh HF2]; simp at *; simp [inB, *]; omega), uh hB⟩
 ·
  go_enter Tryz.func124, Tryz.ntmps124
  go_wp2
  go_ret
  exact ⟨uh HR _ (by rw [uh HF2]; simp at *; simp [inB, *]; omega), uh hB⟩
def Od.fits (o : Od) (b : Bool) : Bool := if b = true then o.ok else o.zero
theorem fits_any (o : Od) (b : Bool) (w : World) : Calls Tryz.prog 99 #[o.v, .bool b] w fun e w' => e = .returned (.bool (o.fits b)) ∧ Below w.heap.size w w' := by
 have HX := hide (fun w => opdOkI_anyQ o w)
 obtain ⟨m, r, x⟩ := o
 cases b
 ·
  unfold Od.fits Od.zero Od.v
  simp only
  go_enter Tryz.func99, Tryz.ntmps99
  go_wp2
  all_goals go_ret
  all_goals refine ⟨?_, (Below.refl _ _).alloc (Nat.le_refl _) _⟩
  all_goals simp_all
 ·
  have HS := hide (box_below w (Obj.cells #[.int .i64 m, .int .i64 r, .int .i64 x] 46))
  have hz : w.heap.size + 1 ≤ (w.alloc (Obj.cells #[.int .i64 m, .int .i64 r, .int .i64 x] 46)).heap.size := by simp
  have HZ := hide hz
  clear hz
  have hf : Od.fits ⟨m, r, x⟩ true = Od.ok ⟨m, r, x⟩ := rfl
  rw [hf]
  clear hf
  unfold Od.v at HX ⊢
  simp only at HX ⊢
  go_enter Tryz.func99, Tryz.ntmps99
  go_wp2_with fail
  refine (Sub.call (x := ⟨_, Below.refl _ _⟩) (uh HZ) (uh HX _)).mono ?_
  rintro e _ ⟨rfl, y, rfl⟩
  go_wp2
  go_ret
  exact ⟨rfl, uh HS _ y.h⟩
def Is.okI (i : Is) : Bool := inB i.op 1 23 && (((i.s.fits (inB i.op 1 6) && i.d.fits (inB i.op 1 15)) && decide (loN i.op ≤ i.n)) && decide (i.n ≤ hiN i.op))
theorem inB_tQ (x a b : Int) (h : a ≤ x ∧ x ≤ b) : inB x a b = true := by simp [inB, h]
theorem inB_fQ (x a b : Int) (h : x < a ∨ b < x) : inB x a b = false := by unfold inB; rw [Bool.and_eq_false_iff]; simp; omega
theorem eqB_fQ (x a : Int) (h : x ≠ a) : (x == a) = false := by simp [h]
theorem okI_eq (i : Is) : i.okI = i.ok := by
 obtain ⟨op, s, d, n⟩ := i
 have hc : op < 1 ∨ (1 ≤ op ∧ op ≤ 6) ∨ (7 ≤ op ∧ op ≤ 14) ∨ op = 15 ∨ op = 16 ∨ (17 ≤ op ∧ op ≤ 21) ∨ op = 22 ∨ op = 23 ∨ 23 < op := by omega
 unfold Is.okI Is.ok Od.fits
 simp only
 generalize s.ok = a
 generalize d.ok = b
 generalize s.zero = c
 generalize d.zero = f
 have e1 : (inB op 1 23 = true ∧ 1 ≤ op ∧ op ≤ 23) ∨ (inB op 1 23 = false ∧ (op < 1 ∨ 23 < op)) := by
  by_cases h : 1 ≤ op ∧ op ≤ 23
  · exact .inl ⟨inB_tQ _ _ _ h, h⟩
  · exact .inr ⟨inB_fQ _ _ _ (by omega), by omega⟩
 have hn : ∀ lo hi : Int, (decide (lo ≤ n) && decide (n ≤ hi)) = inB n lo hi := fun _ _ => rfl
 have h0 : inB n 0 0 = (n == 0) := by unfold inB; rw [Bool.eq_iff_iff]; simp; omega
 unfold loN hiN
 rw [Bool.and_assoc]
 rw [hn]
 rcases hc with h | h | h | h | h | h | h | h | h
 · rw [inB_fQ op 1 23 (by omega), inB_fQ op 1 6 (by omega), inB_fQ op 7 14 (by omega), inB_fQ op 17 21 (by omega), eqB_fQ op 15 (by omega), eqB_fQ op 16 (by omega), eqB_fQ op 22 (by omega), eqB_fQ op 23 (by omega)]; simp
 · rw [inB_tQ op 1 23 (by omega), inB_tQ op 1 6 (by omega), inB_tQ op 1 15 (by omega), inB_fQ op 17 21 (by omega), if_neg (show ¬ (op = 15 ∨ op = 16) by omega), if_neg (show ¬ op = 23 by omega)]; simp [h0]
 · rw [inB_tQ op 1 23 (by omega), inB_fQ op 1 6 (by omega), inB_tQ op 1 15 (by omega), inB_tQ op 7 14 (by omega), inB_fQ op 17 21 (by omega), if_neg (show ¬ (op = 15 ∨ op = 16) by omega), if_neg (show ¬ op = 23 by omega)]; simp [h0]
 · subst h; cases a <;> cases b <;> cases c <;> cases f <;> simp [inB]
 · subst h; cases a <;> cases b <;> cases c <;> cases f <;> simp [inB]
 · rw [inB_tQ op 1 23 (by omega), inB_fQ op 1 6 (by omega), inB_fQ op 1 15 (by omega), inB_fQ op 7 14 (by omega), inB_tQ op 17 21 (by omega), if_neg (show ¬ (op = 15 ∨ op = 16) by omega), eqB_fQ op 15 (by omega), eqB_fQ op 16 (by omega)]; cases c <;> cases f <;> simp
 · subst h; cases a <;> cases b <;> cases c <;> cases f <;> simp [inB] <;> (rw [Bool.eq_iff_iff]; simp; omega)
 · subst h; cases a <;> cases b <;> cases c <;> cases f <;> simp [inB]
 · rw [inB_fQ op 1 23 (by omega), inB_fQ op 1 6 (by omega), inB_fQ op 7 14 (by omega), inB_fQ op 17 21 (by omega), eqB_fQ op 15 (by omega), eqB_fQ op 16 (by omega), eqB_fQ op 22 (by omega), eqB_fQ op 23 (by omega)]; simp
theorem insOkI_any (i : Is) (w : World) : Calls Tryz.prog 67 #[i.v] w fun e w' => e = .returned (.bool i.ok) ∧ Below w.heap.size w w' := by
 rw [← okI_eq]
 obtain ⟨op, ⟨sm, sr, sx⟩, ⟨dm, dr, dx⟩, n⟩ := i
 have HS := hide (box_below w (Obj.cells #[.int .i64 op, .int .i64 sm, .int .i64 sr, .int .i64 sx, .int .i64 dm, .int .i64 dr, .int .i64 dx, .int .i64 n] 48))
 have HZ := hide (show w.heap.size + 1 ≤ (w.alloc (Obj.cells #[.int .i64 op, .int .i64 sm, .int .i64 sr, .int .i64 sx, .int .i64 dm, .int .i64 dr, .int .i64 dx, .int .i64 n] 48)).heap.size by simp)
 have ne := Sub.ne (w.heap.size + 1) (w.alloc (Obj.cells #[.int .i64 op, .int .i64 sm, .int .i64 sr, .int .i64 sx, .int .i64 dm, .int .i64 dr, .int .i64 dx, .int .i64 n] 48))
 have c0 : ∀ y : Sub (w.heap.size + 1) (w.alloc (Obj.cells #[.int .i64 op, .int .i64 sm, .int .i64 sr, .int .i64 sx, .int .i64 dm, .int .i64 dr, .int .i64 dx, .int .i64 n] 48)), y.w.cell? ⟨w.heap.size, 0, none⟩ = some (.int .i64 op) := fun y => y.cells 0 _ rfl
 have c1 : ∀ y : Sub (w.heap.size + 1) (w.alloc (Obj.cells #[.int .i64 op, .int .i64 sm, .int .i64 sr, .int .i64 sx, .int .i64 dm, .int .i64 dr, .int .i64 dx, .int .i64 n] 48)), y.w.cell? ⟨w.heap.size, 1, none⟩ = some (.int .i64 sm) := fun y => y.cells 1 _ rfl
 have c2 : ∀ y : Sub (w.heap.size + 1) (w.alloc (Obj.cells #[.int .i64 op, .int .i64 sm, .int .i64 sr, .int .i64 sx, .int .i64 dm, .int .i64 dr, .int .i64 dx, .int .i64 n] 48)), y.w.cell? ⟨w.heap.size, 2, none⟩ = some (.int .i64 sr) := fun y => y.cells 2 _ rfl
 have c3 : ∀ y : Sub (w.heap.size + 1) (w.alloc (Obj.cells #[.int .i64 op, .int .i64 sm, .int .i64 sr, .int .i64 sx, .int .i64 dm, .int .i64 dr, .int .i64 dx, .int .i64 n] 48)), y.w.cell? ⟨w.heap.size, 3, none⟩ = some (.int .i64 sx) := fun y => y.cells 3 _ rfl
 have c4 : ∀ y : Sub (w.heap.size + 1) (w.alloc (Obj.cells #[.int .i64 op, .int .i64 sm, .int .i64 sr, .int .i64 sx, .int .i64 dm, .int .i64 dr, .int .i64 dx, .int .i64 n] 48)), y.w.cell? ⟨w.heap.size, 4, none⟩ = some (.int .i64 dm) := fun y => y.cells 4 _ rfl
 have c5 : ∀ y : Sub (w.heap.size + 1) (w.alloc (Obj.cells #[.int .i64 op, .int .i64 sm, .int .i64 sr, .int .i64 sx, .int .i64 dm, .int .i64 dr, .int .i64 dx, .int .i64 n] 48)), y.w.cell? ⟨w.heap.size, 5, none⟩ = some (.int .i64 dr) := fun y => y.cells 5 _ rfl
 have c6 : ∀ y : Sub (w.heap.size + 1) (w.alloc (Obj.cells #[.int .i64 op, .int .i64 sm, .int .i64 sr, .int .i64 sx, .int .i64 dm, .int .i64 dr, .int .i64 dx, .int .i64 n] 48)), y.w.cell? ⟨w.heap.size, 6, none⟩ = some (.int .i64 dx) := fun y => y.cells 6 _ rfl
 have c7 : ∀ y : Sub (w.heap.size + 1) (w.alloc (Obj.cells #[.int .i64 op, .int .i64 sm, .int .i64 sr, .int .i64 sx, .int .i64 dm, .int .i64 dr, .int .i64 dx, .int .i64 n] 48)), y.w.cell? ⟨w.heap.size, 7, none⟩ = some (.int .i64 n) := fun y => y.cells 7 _ rfl
 have FS := hide (fun b w => fits_any ⟨sm, sr, sx⟩ b w)
 have FD := hide (fun b w => fits_any ⟨dm, dr, dx⟩ b w)
 unfold Is.okI
 simp only
 obtain ⟨qs, hqs⟩ : ∃ q, Od.fits ⟨sm, sr, sx⟩ (inB op 1 6) = q := ⟨_, rfl⟩
 obtain ⟨qd, hqd⟩ : ∃ q, Od.fits ⟨dm, dr, dx⟩ (inB op 1 15) = q := ⟨_, rfl⟩
 rw [hqs, hqd]
 have FS' := hide (show ∀ w, Calls Tryz.prog 99 #[Od.v ⟨sm, sr, sx⟩, .bool (inB op 1 6)] w fun e w' => e = .returned (.bool qs) ∧ Below w.heap.size w w' from fun w => by rw [← hqs]; exact uh FS _ w)
 have FD' := hide (show ∀ w, Calls Tryz.prog 99 #[Od.v ⟨dm, dr, dx⟩, .bool (inB op 1 15)] w fun e w' => e = .returned (.bool qd) ∧ Below w.heap.size w w' from fun w => by rw [← hqd]; exact uh FD _ w)
 clear FS FD hqs hqd
 unfold Od.v at FS' FD'
 simp only at FS' FD'
 have F1 := hide (fun w => hasSrc_any op w)
 have F2 := hide (fun w => hasDst_any op w)
 generalize inB op 1 6 = p1 at F1 FS' ⊢
 generalize inB op 1 15 = p2 at F2 FD' ⊢
 generalize hlo : loN op = lo
 generalize hhi : hiN op = hi
 have BN := hide (fun w => bounds_any op w)
 rw [hlo, hhi] at BN
 clear hlo hhi
 unfold Is.v
 simp only
 cases h1 : decide (op < 1)
 ·
  cases h2 : decide (23 < op)
  ·
   have hin : inB op 1 23 = true := inB_tQ _ _ _ (by simp at h1 h2; omega)
   rw [hin, Bool.true_and]
   clear hin
   cases qs
   ·
    go_enter Tryz.func67, Tryz.ntmps67
    go_wp2_with (go_at_call 98; refine (uh BN _).mono ?_; rintro e w' ⟨rfl, hw'⟩; rw [hw']; clear hw' w')
    refine wp_region_sub (Sub.top w (Obj.cells #[.int .i64 op, .int .i64 sm, .int .i64 sr, .int .i64 sx, .int .i64 dm, .int .i64 dr, .int .i64 dx, .int .i64 n] 48)) (by kernel_rfl) (by kernel_rfl) ?_
    repeat (go_big_quiet_step (first | (go_at_call 96; exact Sub.same (uh F1 _)) | (go_at_call 97; exact Sub.same (uh F2 _)) | (go_at_call_of 99 sm; exact Sub.call (uh HZ) (uh FS' _)) | (go_at_call_of 99 dm; exact Sub.call (uh HZ) (uh FD' _))))
    refine wpQuiet_nil ?_
    intro y
    go_wp2
    go_ret
    exact ⟨rfl, uh HS _ y.h⟩
   ·
    cases qd
    ·
     go_enter Tryz.func67, Tryz.ntmps67
     go_wp2_with (go_at_call 98; refine (uh BN _).mono ?_; rintro e w' ⟨rfl, hw'⟩; rw [hw']; clear hw' w')
     refine wp_region_sub (Sub.top w (Obj.cells #[.int .i64 op, .int .i64 sm, .int .i64 sr, .int .i64 sx, .int .i64 dm, .int .i64 dr, .int .i64 dx, .int .i64 n] 48)) (by kernel_rfl) (by kernel_rfl) ?_
     repeat (go_big_quiet_step (first | (go_at_call 96; exact Sub.same (uh F1 _)) | (go_at_call 97; exact Sub.same (uh F2 _)) | (go_at_call_of 99 sm; exact Sub.call (uh HZ) (uh FS' _)) | (go_at_call_of 99 dm; exact Sub.call (uh HZ) (uh FD' _))))
     refine wpQuiet_nil ?_
     intro y
     go_wp2
     go_ret
     exact ⟨rfl, uh HS _ y.h⟩
    ·
     cases h3 : decide (lo ≤ n)
     ·
      go_enter Tryz.func67, Tryz.ntmps67
      go_wp2_with (go_at_call 98; refine (uh BN _).mono ?_; rintro e w' ⟨rfl, hw'⟩; rw [hw']; clear hw' w')
      refine wp_region_sub (Sub.top w (Obj.cells #[.int .i64 op, .int .i64 sm, .int .i64 sr, .int .i64 sx, .int .i64 dm, .int .i64 dr, .int .i64 dx, .int .i64 n] 48)) (by kernel_rfl) (by kernel_rfl) ?_
      repeat (go_big_quiet_step (first | (go_at_call 96; exact Sub.same (uh F1 _)) | (go_at_call 97; exact Sub.same (uh F2 _)) | (go_at_call_of 99 sm; exact Sub.call (uh HZ) (uh FS' _)) | (go_at_call_of 99 dm; exact Sub.call (uh HZ) (uh FD' _))))
      refine wpQuiet_nil ?_
      intro y
      go_wp2
      go_ret
      exact ⟨rfl, uh HS _ y.h⟩
     ·
      cases h4 : decide (n ≤ hi)
      ·
       go_enter Tryz.func67, Tryz.ntmps67
       go_wp2_with (go_at_call 98; refine (uh BN _).mono ?_; rintro e w' ⟨rfl, hw'⟩; rw [hw']; clear hw' w')
       refine wp_region_sub (Sub.top w (Obj.cells #[.int .i64 op, .int .i64 sm, .int .i64 sr, .int .i64 sx, .int .i64 dm, .int .i64 dr, .int .i64 dx, .int .i64 n] 48)) (by kernel_rfl) (by kernel_rfl) ?_
       repeat (go_big_quiet_step (first | (go_at_call 96; exact Sub.same (uh F1 _)) | (go_at_call 97; exact Sub.same (uh F2 _)) | (go_at_call_of 99 sm; exact Sub.call (uh HZ) (uh FS' _)) | (go_at_call_of 99 dm; exact Sub.call (uh HZ) (uh FD' _))))
       refine wpQuiet_nil ?_
       intro y
       go_wp2
       go_ret
       exact ⟨rfl, uh HS _ y.h⟩
      ·
       go_enter Tryz.func67, Tryz.ntmps67
       go_wp2_with (go_at_call 98; refine (uh BN _).mono ?_; rintro e w' ⟨rfl, hw'⟩; rw [hw']; clear hw' w')
       refine wp_region_sub (Sub.top w (Obj.cells #[.int .i64 op, .int .i64 sm, .int .i64 sr, .int .i64 sx, .int .i64 dm, .int .i64 dr, .int .i64 dx, .int .i64 n] 48)) (by kernel_rfl) (by kernel_rfl) ?_
       repeat (go_big_quiet_step (first | (go_at_call 96; exact Sub.same (uh F1 _)) | (go_at_call 97; exact Sub.same (uh F2 _)) | (go_at_call_of 99 sm; exact Sub.call (uh HZ) (uh FS' _)) | (go_at_call_of 99 dm; exact Sub.call (uh HZ) (uh FD' _))))
       refine wpQuiet_nil ?_
       intro y
       go_wp2
       go_ret
       exact ⟨rfl, uh HS _ y.h⟩
  ·
   have hin : inB op 1 23 = false := inB_fQ _ _ _ (by simp at *; omega)
   rw [hin, Bool.false_and]
   clear hin
   go_enter Tryz.func67, Tryz.ntmps67
   go_wp2
   go_ret
   exact ⟨rfl, uh HS _ (Below.refl _ _)⟩
 ·
  have hin : inB op 1 23 = false := inB_fQ _ _ _ (by simp at *; omega)
  rw [hin, Bool.false_and]
  clear hin
  go_enter Tryz.func67, Tryz.ntmps67
  go_wp2
  go_ret
  exact ⟨rfl, uh HS _ (Below.refl _ _)⟩
theorem wordsI_anyQ (i : Is) (w : World) : Calls Tryz.prog 65 #[i.v] w fun e w' => e = .returned (.int .i64 i.words) ∧ Below w.heap.size w w' := by
 obtain ⟨op, ⟨sm, sr, sx⟩, ⟨dm, dr, dx⟩, n⟩ := i
 have HS := hide (box_below w (Obj.cells #[.int .i64 op, .int .i64 sm, .int .i64 sr, .int .i64 sx, .int .i64 dm, .int .i64 dr, .int .i64 dx, .int .i64 n] 48))
 have HZ := hide (show w.heap.size + 1 ≤ (w.alloc (Obj.cells #[.int .i64 op, .int .i64 sm, .int .i64 sr, .int .i64 sx, .int .i64 dm, .int .i64 dr, .int .i64 dx, .int .i64 n] 48)).heap.size by simp)
 have ne := Sub.ne (w.heap.size + 1) (w.alloc (Obj.cells #[.int .i64 op, .int .i64 sm, .int .i64 sr, .int .i64 sx, .int .i64 dm, .int .i64 dr, .int .i64 dx, .int .i64 n] 48))
 have c0 : ∀ y : Sub (w.heap.size + 1) (w.alloc (Obj.cells #[.int .i64 op, .int .i64 sm, .int .i64 sr, .int .i64 sx, .int .i64 dm, .int .i64 dr, .int .i64 dx, .int .i64 n] 48)), y.w.cell? ⟨w.heap.size, 0, none⟩ = some (.int .i64 op) := fun y => y.cells 0 _ rfl
 have c1 : ∀ y : Sub (w.heap.size + 1) (w.alloc (Obj.cells #[.int .i64 op, .int .i64 sm, .int .i64 sr, .int .i64 sx, .int .i64 dm, .int .i64 dr, .int .i64 dx, .int .i64 n] 48)), y.w.cell? ⟨w.heap.size, 1, none⟩ = some (.int .i64 sm) := fun y => y.cells 1 _ rfl
 have c2 : ∀ y : Sub (w.heap.size + 1) (w.alloc (Obj.cells #[.int .i64 op, .int .i64 sm, .int .i64 sr, .int .i64 sx, .int .i64 dm, .int .i64 dr, .int .i64 dx, .int .i64 n] 48)), y.w.cell? ⟨w.heap.size, 2, none⟩ = some (.int .i64 sr) := fun y => y.cells 2 _ rfl
 have c3 : ∀ y : Sub (w.heap.size + 1) (w.alloc (Obj.cells #[.int .i64 op, .int .i64 sm, .int .i64 sr, .int .i64 sx, .int .i64 dm, .int .i64 dr, .int .i64 dx, .int .i64 n] 48)), y.w.cell? ⟨w.heap.size, 3, none⟩ = some (.int .i64 sx) := fun y => y.cells 3 _ rfl
 have c4 : ∀ y : Sub (w.heap.size + 1) (w.alloc (Obj.cells #[.int .i64 op, .int .i64 sm, .int .i64 sr, .int .i64 sx, .int .i64 dm, .int .i64 dr, .int .i64 dx, .int .i64 n] 48)), y.w.cell? ⟨w.heap.size, 4, none⟩ = some (.int .i64 dm) := fun y => y.cells 4 _ rfl
 have c5 : ∀ y : Sub (w.heap.size + 1) (w.alloc (Obj.cells #[.int .i64 op, .int .i64 sm, .int .i64 sr, .int .i64 sx, .int .i64 dm, .int .i64 dr, .int .i64 dx, .int .i64 n] 48)), y.w.cell? ⟨w.heap.size, 5, none⟩ = some (.int .i64 dr) := fun y => y.cells 5 _ rfl
 have c6 : ∀ y : Sub (w.heap.size + 1) (w.alloc (Obj.cells #[.int .i64 op, .int .i64 sm, .int .i64 sr, .int .i64 sx, .int .i64 dm, .int .i64 dr, .int .i64 dx, .int .i64 n] 48)), y.w.cell? ⟨w.heap.size, 6, none⟩ = some (.int .i64 dx) := fun y => y.cells 6 _ rfl
 have c7 : ∀ y : Sub (w.heap.size + 1) (w.alloc (Obj.cells #[.int .i64 op, .int .i64 sm, .int .i64 sr, .int .i64 sx, .int .i64 dm, .int .i64 dr, .int .i64 dx, .int .i64 n] 48)), y.w.cell? ⟨w.heap.size, 7, none⟩ = some (.int .i64 n) := fun y => y.cells 7 _ rfl
 have FS := hide (fun w => hasXI_anyQ ⟨sm, sr, sx⟩ w)
 have FD := hide (fun w => hasXI_anyQ ⟨dm, dr, dx⟩ w)
 unfold Is.words
 simp only
 generalize Od.hasX ⟨sm, sr, sx⟩ = qs at FS ⊢
 generalize Od.hasX ⟨dm, dr, dx⟩ = qd at FD ⊢
 unfold Od.v at FS FD
 simp only at FS FD
 have F1 := hide (fun w => hasSrc_any op w)
 have F2 := hide (fun w => hasDst_any op w)
 generalize inB op 1 6 = p1 at F1 ⊢
 generalize inB op 1 15 = p2 at F2 ⊢
 unfold Is.v
 simp only
 cases p1
 ·
  cases p2
  ·
   go_enter Tryz.func65, Tryz.ntmps65
   go_wp2_with (first | (go_at_call 96; refine (uh F1 _).mono ?_; rintro e w' ⟨rfl, hw'⟩; rw [hw']; clear hw' w') | (go_at_call 97; refine (uh F2 _).mono ?_; rintro e w' ⟨rfl, hw'⟩; rw [hw']; clear hw' w'))
   go_ret
   exact ⟨rfl, uh HS _ (Below.refl _ _)⟩
  ·
   cases qd
   ·
    go_enter Tryz.func65, Tryz.ntmps65
    go_wp2_with (first | (go_at_call 96; refine (uh F1 _).mono ?_; rintro e w' ⟨rfl, hw'⟩; rw [hw']; clear hw' w') | (go_at_call 97; refine (uh F2 _).mono ?_; rintro e w' ⟨rfl, hw'⟩; rw [hw']; clear hw' w'))
    refine (Sub.call (x := Sub.top w (Obj.cells #[.int .i64 op, .int .i64 sm, .int .i64 sr, .int .i64 sx, .int .i64 dm, .int .i64 dr, .int .i64 dx, .int .i64 n] 48)) (uh HZ) (uh FD _)).mono ?_
    rintro e _ ⟨rfl, y0, rfl⟩
    go_wp2_with (first | (go_at_call 96; refine (uh F1 _).mono ?_; rintro e w' ⟨rfl, hw'⟩; rw [hw']; clear hw' w') | (go_at_call 97; refine (uh F2 _).mono ?_; rintro e w' ⟨rfl, hw'⟩; rw [hw']; clear hw' w'))
    go_ret
    exact ⟨rfl, uh HS _ y0.h⟩
   ·
    go_enter Tryz.func65, Tryz.ntmps65
    go_wp2_with (first | (go_at_call 96; refine (uh F1 _).mono ?_; rintro e w' ⟨rfl, hw'⟩; rw [hw']; clear hw' w') | (go_at_call 97; refine (uh F2 _).mono ?_; rintro e w' ⟨rfl, hw'⟩; rw [hw']; clear hw' w'))
    refine (Sub.call (x := Sub.top w (Obj.cells #[.int .i64 op, .int .i64 sm, .int .i64 sr, .int .i64 sx, .int .i64 dm, .int .i64 dr, .int .i64 dx, .int .i64 n] 48)) (uh HZ) (uh FD _)).mono ?_
    rintro e _ ⟨rfl, y0, rfl⟩
    go_wp2_with (first | (go_at_call 96; refine (uh F1 _).mono ?_; rintro e w' ⟨rfl, hw'⟩; rw [hw']; clear hw' w') | (go_at_call 97; refine (uh F2 _).mono ?_; rintro e w' ⟨rfl, hw'⟩; rw [hw']; clear hw' w'))
    go_ret
    exact ⟨rfl, uh HS _ y0.h⟩
 ·
  cases qs
  ·
   cases p2
   ·
    go_enter Tryz.func65, Tryz.ntmps65
    go_wp2_with (first | (go_at_call 96; refine (uh F1 _).mono ?_; rintro e w' ⟨rfl, hw'⟩; rw [hw']; clear hw' w') | (go_at_call 97; refine (uh F2 _).mono ?_; rintro e w' ⟨rfl, hw'⟩; rw [hw']; clear hw' w'))
    refine (Sub.call (x := Sub.top w (Obj.cells #[.int .i64 op, .int .i64 sm, .int .i64 sr, .int .i64 sx, .int .i64 dm, .int .i64 dr, .int .i64 dx, .int .i64 n] 48)) (uh HZ) (uh FS _)).mono ?_
    rintro e _ ⟨rfl, y0, rfl⟩
    go_wp2_with (first | (go_at_call 96; refine (uh F1 _).mono ?_; rintro e w' ⟨rfl, hw'⟩; rw [hw']; clear hw' w') | (go_at_call 97; refine (uh F2 _).mono ?_; rintro e w' ⟨rfl, hw'⟩; rw [hw']; clear hw' w'))
    go_ret
    exact ⟨rfl, uh HS _ y0.h⟩
   ·
    cases qd
    ·
     go_enter Tryz.func65, Tryz.ntmps65
     go_wp2_with (first | (go_at_call 96; refine (uh F1 _).mono ?_; rintro e w' ⟨rfl, hw'⟩; rw [hw']; clear hw' w') | (go_at_call 97; refine (uh F2 _).mono ?_; rintro e w' ⟨rfl, hw'⟩; rw [hw']; clear hw' w'))
     refine (Sub.call (x := Sub.top w (Obj.cells #[.int .i64 op, .int .i64 sm, .int .i64 sr, .int .i64 sx, .int .i64 dm, .int .i64 dr, .int .i64 dx, .int .i64 n] 48)) (uh HZ) (uh FS _)).mono ?_
     rintro e _ ⟨rfl, y0, rfl⟩
     go_wp2_with (first | (go_at_call 96; refine (uh F1 _).mono ?_; rintro e w' ⟨rfl, hw'⟩; rw [hw']; clear hw' w') | (go_at_call 97; refine (uh F2 _).mono ?_; rintro e w' ⟨rfl, hw'⟩; rw [hw']; clear hw' w'))
     refine (Sub.call (x := y0) (uh HZ) (uh FD _)).mono ?_
     rintro e _ ⟨rfl, y1, rfl⟩
     go_wp2_with (first | (go_at_call 96; refine (uh F1 _).mono ?_; rintro e w' ⟨rfl, hw'⟩; rw [hw']; clear hw' w') | (go_at_call 97; refine (uh F2 _).mono ?_; rintro e w' ⟨rfl, hw'⟩; rw [hw']; clear hw' w'))
     go_ret
     exact ⟨rfl, uh HS _ y1.h⟩
    ·
     go_enter Tryz.func65, Tryz.ntmps65
     go_wp2_with (first | (go_at_call 96; refine (uh F1 _).mono ?_; rintro e w' ⟨rfl, hw'⟩; rw [hw']; clear hw' w') | (go_at_call 97; refine (uh F2 _).mono ?_; rintro e w' ⟨rfl, hw'⟩; rw [hw']; clear hw' w'))
     refine (Sub.call (x := Sub.top w (Obj.cells #[.int .i64 op, .int .i64 sm, .int .i64 sr, .int .i64 sx, .int .i64 dm, .int .i64 dr, .int .i64 dx, .int .i64 n] 48)) (uh HZ) (uh FS _)).mono ?_
     rintro e _ ⟨rfl, y0, rfl⟩
     go_wp2_with (first | (go_at_call 96; refine (uh F1 _).mono ?_; rintro e w' ⟨rfl, hw'⟩; rw [hw']; clear hw' w') | (go_at_call 97; refine (uh F2 _).mono ?_; rintro e w' ⟨rfl, hw'⟩; rw [hw']; clear hw' w'))
     refine (Sub.call (x := y0) (uh HZ) (uh FD _)).mono ?_
     rintro e _ ⟨rfl, y1, rfl⟩
     go_wp2_with (first | (go_at_call 96; refine (uh F1 _).mono ?_; rintro e w' ⟨rfl, hw'⟩; rw [hw']; clear hw' w') | (go_at_call 97; refine (uh F2 _).mono ?_; rintro e w' ⟨rfl, hw'⟩; rw [hw']; clear hw' w'))
     go_ret
     exact ⟨rfl, uh HS _ y1.h⟩
  ·
   cases p2
   ·
    go_enter Tryz.func65, Tryz.ntmps65
    go_wp2_with (first | (go_at_call 96; refine (uh F1 _).mono ?_; rintro e w' ⟨rfl, hw'⟩; rw [hw']; clear hw' w') | (go_at_call 97; refine (uh F2 _).mono ?_; rintro e w' ⟨rfl, hw'⟩; rw [hw']; clear hw' w'))
    refine (Sub.call (x := Sub.top w (Obj.cells #[.int .i64 op, .int .i64 sm, .int .i64 sr, .int .i64 sx, .int .i64 dm, .int .i64 dr, .int .i64 dx, .int .i64 n] 48)) (uh HZ) (uh FS _)).mono ?_
    rintro e _ ⟨rfl, y0, rfl⟩
    go_wp2_with (first | (go_at_call 96; refine (uh F1 _).mono ?_; rintro e w' ⟨rfl, hw'⟩; rw [hw']; clear hw' w') | (go_at_call 97; refine (uh F2 _).mono ?_; rintro e w' ⟨rfl, hw'⟩; rw [hw']; clear hw' w'))
    go_ret
    exact ⟨rfl, uh HS _ y0.h⟩
   ·
    cases qd
    ·
     go_enter Tryz.func65, Tryz.ntmps65
     go_wp2_with (first | (go_at_call 96; refine (uh F1 _).mono ?_; rintro e w' ⟨rfl, hw'⟩; rw [hw']; clear hw' w') | (go_at_call 97; refine (uh F2 _).mono ?_; rintro e w' ⟨rfl, hw'⟩; rw [hw']; clear hw' w'))
     refine (Sub.call (x := Sub.top w (Obj.cells #[.int .i64 op, .int .i64 sm, .int .i64 sr, .int .i64 sx, .int .i64 dm, .int .i64 dr, .int .i64 dx, .int .i64 n] 48)) (uh HZ) (uh FS _)).mono ?_
     rintro e _ ⟨rfl, y0, rfl⟩
     go_wp2_with (first | (go_at_call 96; refine (uh F1 _).mono ?_; rintro e w' ⟨rfl, hw'⟩; rw [hw']; clear hw' w') | (go_at_call 97; refine (uh F2 _).mono ?_; rintro e w' ⟨rfl, hw'⟩; rw [hw']; clear hw' w'))
     refine (Sub.call (x := y0) (uh HZ) (uh FD _)).mono ?_
     rintro e _ ⟨rfl, y1, rfl⟩
     go_wp2_with (first | (go_at_call 96; refine (uh F1 _).mono ?_; rintro e w' ⟨rfl, hw'⟩; rw [hw']; clear hw' w') | (go_at_call 97; refine (uh F2 _).mono ?_; rintro e w' ⟨rfl, hw'⟩; rw [hw']; clear hw' w'))
     go_ret
     exact ⟨rfl, uh HS _ y1.h⟩
    ·
     go_enter Tryz.func65, Tryz.ntmps65
     go_wp2_with (first | (go_at_call 96; refine (uh F1 _).mono ?_; rintro e w' ⟨rfl, hw'⟩; rw [hw']; clear hw' w') | (go_at_call 97; refine (uh F2 _).mono ?_; rintro e w' ⟨rfl, hw'⟩; rw [hw']; clear hw' w'))
     refine (Sub.call (x := Sub.top w (Obj.cells #[.int .i64 op, .int .i64 sm, .int .i64 sr, .int .i64 sx, .int .i64 dm, .int .i64 dr, .int .i64 dx, .int .i64 n] 48)) (uh HZ) (uh FS _)).mono ?_
     rintro e _ ⟨rfl, y0, rfl⟩
     go_wp2_with (first | (go_at_call 96; refine (uh F1 _).mono ?_; rintro e w' ⟨rfl, hw'⟩; rw [hw']; clear hw' w') | (go_at_call 97; refine (uh F2 _).mono ?_; rintro e w' ⟨rfl, hw'⟩; rw [hw']; clear hw' w'))
     refine (Sub.call (x := y0) (uh HZ) (uh FD _)).mono ?_
     rintro e _ ⟨rfl, y1, rfl⟩
     go_wp2_with (first | (go_at_call 96; refine (uh F1 _).mono ?_; rintro e w' ⟨rfl, hw'⟩; rw [hw']; clear hw' w') | (go_at_call 97; refine (uh F2 _).mono ?_; rintro e w' ⟨rfl, hw'⟩; rw [hw']; clear hw' w'))
     go_ret
     exact ⟨rfl, uh HS _ y1.h⟩
end Go.Proofs.YtboedaofbchdkaaGreatDoor
