/- Contracts over this seat's translation, laid together; conditions stand as hypotheses of each. -/
import Derived.Test.YtjpbjbnialehbaaGreatDoorBsA
import Derived.Test.YtjpbjbnialehbaaGreatDoorBsD
import Derived.Test.YtjpbjbnialehbaaGreatDoorBsF
import Derived.Laws.EntriesVeiled
import Derived.Deep.WholeRow
import Derived.Deep.RegionWith
import Derived.Laws.BitsLemmas

namespace Go.Proofs.YtjpbjbnialehbaaGreatDoor
open Go.ChangeShapes Go.WideShapes Go.ChangeAt Go.RowKit
set_option linter.unusedVariables false
set_option maxRecDepth 8000
set_option linter.unusedSimpArgs false
set_option maxHeartbeats 2000000 in
theorem wk_10 : WkIs 71 10 := by
  intro g B gr rc y t st m0 s d w h s0 s1 d0 d1
  have c4 := h.cell 4 _ rfl
  have f4 := h.fz 260
  have c5 := h.cell 5 _ rfl
  have f5 := h.fz 261
  have H := hide h
  unfold Mv.wk Ms.wk
  simp only [wkV, wkC, wkR]
  have hw : IntKind.i64.wrap (-d) = -d := by rw [IntKind.wrap_i64]; omega
  have WR := hide (fun v => wrapI_any (-d) v)
  generalize (-d) % 65536 = r at WR ⊢
  have H2 := hide ((unhide H).setVC (r == 32768) (r != 0))
  clear h
  go_enter Tryz.func71, Tryz.ntmps71
  go_wp2_with fail
  refine (unhide WR _).mono ?_
  rintro e w9 ⟨rfl, hw9⟩
  rw [hw9]
  clear hw9 w9
  go_wp2
  go_ret
  exact ⟨rfl, (unhide H2).1, (unhide H2).2⟩
set_option maxHeartbeats 4000000 in
theorem lessen_any (g B gr rc : Nat) (y : Mv) (t : Ms) (st : Int) (m0 : List Int) (s d : Int) (w : World) (h : Pz w g B gr rc y t st m0) (s0 : 0 ≤ s) (s1 : s ≤ 65535) (d0 : 0 ≤ d) (d1 : d ≤ 65535) :
  Calls Tryz.prog 108 #[.pointer (some ⟨g, 0, none⟩), .int .i64 s, .int .i64 d] w fun e w' => e = .returned (.int .i64 ((s - d) % 65536)) ∧ Pz w' g B gr rc { y with v := ((sgI s != sgI d) && (sgI ((s - d) % 65536) == sgI d)), c := decide (s < d) } { t with v := ((sgI s != sgI d) && (sgI ((s - d) % 65536) == sgI d)), c := decide (s < d) } st m0 ∧ Fm w w' g y { y with v := ((sgI s != sgI d) && (sgI ((s - d) % 65536) == sgI d)), c := decide (s < d) } := by
  have c4 := h.cell 4 _ rfl
  have f4 := h.fz 260
  have c5 := h.cell 5 _ rfl
  have f5 := h.fz 261
  have H := hide h
  have hw : IntKind.i64.wrap (s - d) = s - d := by rw [IntKind.wrap_i64]; omega
  have WR := hide (fun v => wrapI_any (s - d) v)
  have SA := hide (fun v => hasSign_any s v)
  have SB := hide (fun v => hasSign_any d v)
  have SR := hide (fun v => hasSign_any ((s - d) % 65536) v)
  generalize sgI ((s - d) % 65536) = b3 at SR ⊢
  generalize (s - d) % 65536 = r at WR SR ⊢
  generalize sgI s = b1 at SA ⊢
  generalize sgI d = b2 at SB ⊢
  clear h
  cases b1 <;> cases b2 <;> cases b3
  · skip
    have H2 := hide ((unhide H).setVC false (decide (s < d)))
    go_enter Tryz.func108, Tryz.ntmps108
    go_wp2_with fail
    refine (unhide WR _).mono ?_
    rintro e w9 ⟨rfl, hw9⟩
    rw [hw9]
    clear hw9 w9
    go_wp2_with fail
    refine (unhide SA _).mono ?_
    rintro e w9 ⟨rfl, hw9⟩
    rw [hw9]
    clear hw9 w9
    go_wp2_with fail
    refine (unhide SB _).mono ?_
    rintro e w9 ⟨rfl, hw9⟩
    rw [hw9]
    clear hw9 w9
    go_wp2
    go_ret
    exact ⟨rfl, (unhide H2).1, (unhide H2).2⟩
  · skip
    have H2 := hide ((unhide H).setVC false (decide (s < d)))
    go_enter Tryz.func108, Tryz.ntmps108
    go_wp2_with fail
    refine (unhide WR _).mono ?_
    rintro e w9 ⟨rfl, hw9⟩
    rw [hw9]
    clear hw9 w9
    go_wp2_with fail
    refine (unhide SA _).mono ?_
    rintro e w9 ⟨rfl, hw9⟩
    rw [hw9]
    clear hw9 w9
    go_wp2_with fail
    refine (unhide SB _).mono ?_
    rintro e w9 ⟨rfl, hw9⟩
    rw [hw9]
    clear hw9 w9
    go_wp2
    go_ret
    exact ⟨rfl, (unhide H2).1, (unhide H2).2⟩
  · skip
    have H2 := hide ((unhide H).setVC false (decide (s < d)))
    go_enter Tryz.func108, Tryz.ntmps108
    go_wp2_with fail
    refine (unhide WR _).mono ?_
    rintro e w9 ⟨rfl, hw9⟩
    rw [hw9]
    clear hw9 w9
    go_wp2_with fail
    refine (unhide SA _).mono ?_
    rintro e w9 ⟨rfl, hw9⟩
    rw [hw9]
    clear hw9 w9
    go_wp2_with fail
    refine (unhide SB _).mono ?_
    rintro e w9 ⟨rfl, hw9⟩
    rw [hw9]
    clear hw9 w9
    go_wp2_with fail
    refine (unhide SR _).mono ?_
    rintro e w9 ⟨rfl, hw9⟩
    rw [hw9]
    clear hw9 w9
    go_wp2_with fail
    refine (unhide SB _).mono ?_
    rintro e w9 ⟨rfl, hw9⟩
    rw [hw9]
    clear hw9 w9
    go_wp2
    go_ret
    exact ⟨rfl, (unhide H2).1, (unhide H2).2⟩
  · skip
    have H2 := hide ((unhide H).setVC true (decide (s < d)))
    go_enter Tryz.func108, Tryz.ntmps108
    go_wp2_with fail
    refine (unhide WR _).mono ?_
    rintro e w9 ⟨rfl, hw9⟩
    rw [hw9]
    clear hw9 w9
    go_wp2_with fail
    refine (unhide SA _).mono ?_
    rintro e w9 ⟨rfl, hw9⟩
    rw [hw9]
    clear hw9 w9
    go_wp2_with fail
    refine (unhide SB _).mono ?_
    rintro e w9 ⟨rfl, hw9⟩
    rw [hw9]
    clear hw9 w9
    go_wp2_with fail
    refine (unhide SR _).mono ?_
    rintro e w9 ⟨rfl, hw9⟩
    rw [hw9]
    clear hw9 w9
    go_wp2_with fail
    refine (unhide SB _).mono ?_
    rintro e w9 ⟨rfl, hw9⟩
    rw [hw9]
    clear hw9 w9
    go_wp2
    go_ret
    exact ⟨rfl, (unhide H2).1, (unhide H2).2⟩
  · skip
    have H2 := hide ((unhide H).setVC true (decide (s < d)))
    go_enter Tryz.func108, Tryz.ntmps108
    go_wp2_with fail
    refine (unhide WR _).mono ?_
    rintro e w9 ⟨rfl, hw9⟩
    rw [hw9]
    clear hw9 w9
    go_wp2_with fail
    refine (unhide SA _).mono ?_
    rintro e w9 ⟨rfl, hw9⟩
    rw [hw9]
    clear hw9 w9
    go_wp2_with fail
    refine (unhide SB _).mono ?_
    rintro e w9 ⟨rfl, hw9⟩
    rw [hw9]
    clear hw9 w9
    go_wp2_with fail
    refine (unhide SR _).mono ?_
    rintro e w9 ⟨rfl, hw9⟩
    rw [hw9]
    clear hw9 w9
    go_wp2_with fail
    refine (unhide SB _).mono ?_
    rintro e w9 ⟨rfl, hw9⟩
    rw [hw9]
    clear hw9 w9
    go_wp2
    go_ret
    exact ⟨rfl, (unhide H2).1, (unhide H2).2⟩
  · skip
    have H2 := hide ((unhide H).setVC false (decide (s < d)))
    go_enter Tryz.func108, Tryz.ntmps108
    go_wp2_with fail
    refine (unhide WR _).mono ?_
    rintro e w9 ⟨rfl, hw9⟩
    rw [hw9]
    clear hw9 w9
    go_wp2_with fail
    refine (unhide SA _).mono ?_
    rintro e w9 ⟨rfl, hw9⟩
    rw [hw9]
    clear hw9 w9
    go_wp2_with fail
    refine (unhide SB _).mono ?_
    rintro e w9 ⟨rfl, hw9⟩
    rw [hw9]
    clear hw9 w9
    go_wp2_with fail
    refine (unhide SR _).mono ?_
    rintro e w9 ⟨rfl, hw9⟩
    rw [hw9]
    clear hw9 w9
    go_wp2_with fail
    refine (unhide SB _).mono ?_
    rintro e w9 ⟨rfl, hw9⟩
    rw [hw9]
    clear hw9 w9
    go_wp2
    go_ret
    exact ⟨rfl, (unhide H2).1, (unhide H2).2⟩
  · skip
    have H2 := hide ((unhide H).setVC false (decide (s < d)))
    go_enter Tryz.func108, Tryz.ntmps108
    go_wp2_with fail
    refine (unhide WR _).mono ?_
    rintro e w9 ⟨rfl, hw9⟩
    rw [hw9]
    clear hw9 w9
    go_wp2_with fail
    refine (unhide SA _).mono ?_
    rintro e w9 ⟨rfl, hw9⟩
    rw [hw9]
    clear hw9 w9
    go_wp2_with fail
    refine (unhide SB _).mono ?_
    rintro e w9 ⟨rfl, hw9⟩
    rw [hw9]
    clear hw9 w9
    go_wp2
    go_ret
    exact ⟨rfl, (unhide H2).1, (unhide H2).2⟩
  · skip
    have H2 := hide ((unhide H).setVC false (decide (s < d)))
    go_enter Tryz.func108, Tryz.ntmps108
    go_wp2_with fail
    refine (unhide WR _).mono ?_
    rintro e w9 ⟨rfl, hw9⟩
    rw [hw9]
    clear hw9 w9
    go_wp2_with fail
    refine (unhide SA _).mono ?_
    rintro e w9 ⟨rfl, hw9⟩
    rw [hw9]
    clear hw9 w9
    go_wp2_with fail
    refine (unhide SB _).mono ?_
    rintro e w9 ⟨rfl, hw9⟩
    rw [hw9]
    clear hw9 w9
    go_wp2
    go_ret
    exact ⟨rfl, (unhide H2).1, (unhide H2).2⟩
set_option maxHeartbeats 4000000 in
theorem wk_5 : WkIs 66 5 := by
  intro g B gr rc y t st m0 s d w h s0 s1 d0 d1
  have c4 := h.cell 4 _ rfl
  have f4 := h.fz 260
  have c5 := h.cell 5 _ rfl
  have f5 := h.fz 261
  have H := hide h
  unfold Mv.wk Ms.wk
  simp only [wkV, wkC, wkR]
  have hw : IntKind.i64.wrap (s + d) = s + d := by rw [IntKind.wrap_i64]; omega
  have WR := hide (fun v => wrapI_any (s + d) v)
  have SA := hide (fun v => hasSign_any s v)
  have SB := hide (fun v => hasSign_any d v)
  have SR := hide (fun v => hasSign_any ((s + d) % 65536) v)
  generalize sgI ((s + d) % 65536) = b3 at SR ⊢
  generalize (s + d) % 65536 = r at WR SR ⊢
  generalize sgI s = b1 at SA ⊢
  generalize sgI d = b2 at SB ⊢
  have IW := hide (fun v => isWord_any (s + d) v)
  generalize inB (s + d) 0 65535 = iw at IW ⊢
  clear h
  cases b1 <;> cases b2 <;> cases b3
  · skip
    have H2 := hide ((unhide H).setVC false (!iw))
    go_enter Tryz.func66, Tryz.ntmps66
    go_wp2_with fail
    refine (unhide WR _).mono ?_
    rintro e w9 ⟨rfl, hw9⟩
    rw [hw9]
    clear hw9 w9
    go_wp2_with fail
    refine (unhide SA _).mono ?_
    rintro e w9 ⟨rfl, hw9⟩
    rw [hw9]
    clear hw9 w9
    go_wp2_with fail
    refine (unhide SB _).mono ?_
    rintro e w9 ⟨rfl, hw9⟩
    rw [hw9]
    clear hw9 w9
    go_wp2_with fail
    refine (unhide SR _).mono ?_
    rintro e w9 ⟨rfl, hw9⟩
    rw [hw9]
    clear hw9 w9
    go_wp2_with fail
    refine (unhide SA _).mono ?_
    rintro e w9 ⟨rfl, hw9⟩
    rw [hw9]
    clear hw9 w9
    go_wp2_with fail
    refine (unhide IW _).mono ?_
    rintro e w9 ⟨rfl, hw9⟩
    rw [hw9]
    clear hw9 w9
    go_wp2
    go_ret
    exact ⟨rfl, (unhide H2).1, (unhide H2).2⟩
  · skip
    have H2 := hide ((unhide H).setVC true (!iw))
    go_enter Tryz.func66, Tryz.ntmps66
    go_wp2_with fail
    refine (unhide WR _).mono ?_
    rintro e w9 ⟨rfl, hw9⟩
    rw [hw9]
    clear hw9 w9
    go_wp2_with fail
    refine (unhide SA _).mono ?_
    rintro e w9 ⟨rfl, hw9⟩
    rw [hw9]
    clear hw9 w9
    go_wp2_with fail
    refine (unhide SB _).mono ?_
    rintro e w9 ⟨rfl, hw9⟩
    rw [hw9]
    clear hw9 w9
    go_wp2_with fail
    refine (unhide SR _).mono ?_
    rintro e w9 ⟨rfl, hw9⟩
    rw [hw9]
    clear hw9 w9
    go_wp2_with fail
    refine (unhide SA _).mono ?_
    rintro e w9 ⟨rfl, hw9⟩
    rw [hw9]
    clear hw9 w9
    go_wp2_with fail
    refine (unhide IW _).mono ?_
    rintro e w9 ⟨rfl, hw9⟩
    rw [hw9]
    clear hw9 w9
    go_wp2
    go_ret
    exact ⟨rfl, (unhide H2).1, (unhide H2).2⟩
  · skip
    have H2 := hide ((unhide H).setVC false (!iw))
    go_enter Tryz.func66, Tryz.ntmps66
    go_wp2_with fail
    refine (unhide WR _).mono ?_
    rintro e w9 ⟨rfl, hw9⟩
    rw [hw9]
    clear hw9 w9
    go_wp2_with fail
    refine (unhide SA _).mono ?_
    rintro e w9 ⟨rfl, hw9⟩
    rw [hw9]
    clear hw9 w9
    go_wp2_with fail
    refine (unhide SB _).mono ?_
    rintro e w9 ⟨rfl, hw9⟩
    rw [hw9]
    clear hw9 w9
    go_wp2_with fail
    refine (unhide IW _).mono ?_
    rintro e w9 ⟨rfl, hw9⟩
    rw [hw9]
    clear hw9 w9
    go_wp2
    go_ret
    exact ⟨rfl, (unhide H2).1, (unhide H2).2⟩
  · skip
    have H2 := hide ((unhide H).setVC false (!iw))
    go_enter Tryz.func66, Tryz.ntmps66
    go_wp2_with fail
    refine (unhide WR _).mono ?_
    rintro e w9 ⟨rfl, hw9⟩
    rw [hw9]
    clear hw9 w9
    go_wp2_with fail
    refine (unhide SA _).mono ?_
    rintro e w9 ⟨rfl, hw9⟩
    rw [hw9]
    clear hw9 w9
    go_wp2_with fail
    refine (unhide SB _).mono ?_
    rintro e w9 ⟨rfl, hw9⟩
    rw [hw9]
    clear hw9 w9
    go_wp2_with fail
    refine (unhide IW _).mono ?_
    rintro e w9 ⟨rfl, hw9⟩
    rw [hw9]
    clear hw9 w9
    go_wp2
    go_ret
    exact ⟨rfl, (unhide H2).1, (unhide H2).2⟩
  · skip
    have H2 := hide ((unhide H).setVC false (!iw))
    go_enter Tryz.func66, Tryz.ntmps66
    go_wp2_with fail
    refine (unhide WR _).mono ?_
    rintro e w9 ⟨rfl, hw9⟩
    rw [hw9]
    clear hw9 w9
    go_wp2_with fail
    refine (unhide SA _).mono ?_
    rintro e w9 ⟨rfl, hw9⟩
    rw [hw9]
    clear hw9 w9
    go_wp2_with fail
    refine (unhide SB _).mono ?_
    rintro e w9 ⟨rfl, hw9⟩
    rw [hw9]
    clear hw9 w9
    go_wp2_with fail
    refine (unhide IW _).mono ?_
    rintro e w9 ⟨rfl, hw9⟩
    rw [hw9]
    clear hw9 w9
    go_wp2
    go_ret
    exact ⟨rfl, (unhide H2).1, (unhide H2).2⟩
  · skip
    have H2 := hide ((unhide H).setVC false (!iw))
    go_enter Tryz.func66, Tryz.ntmps66
    go_wp2_with fail
    refine (unhide WR _).mono ?_
    rintro e w9 ⟨rfl, hw9⟩
    rw [hw9]
    clear hw9 w9
    go_wp2_with fail
    refine (unhide SA _).mono ?_
    rintro e w9 ⟨rfl, hw9⟩
    rw [hw9]
    clear hw9 w9
    go_wp2_with fail
    refine (unhide SB _).mono ?_
    rintro e w9 ⟨rfl, hw9⟩
    rw [hw9]
    clear hw9 w9
    go_wp2_with fail
    refine (unhide IW _).mono ?_
    rintro e w9 ⟨rfl, hw9⟩
    rw [hw9]
    clear hw9 w9
    go_wp2
    go_ret
    exact ⟨rfl, (unhide H2).1, (unhide H2).2⟩
  · skip
    have H2 := hide ((unhide H).setVC true (!iw))
    go_enter Tryz.func66, Tryz.ntmps66
    go_wp2_with fail
    refine (unhide WR _).mono ?_
    rintro e w9 ⟨rfl, hw9⟩
    rw [hw9]
    clear hw9 w9
    go_wp2_with fail
    refine (unhide SA _).mono ?_
    rintro e w9 ⟨rfl, hw9⟩
    rw [hw9]
    clear hw9 w9
    go_wp2_with fail
    refine (unhide SB _).mono ?_
    rintro e w9 ⟨rfl, hw9⟩
    rw [hw9]
    clear hw9 w9
    go_wp2_with fail
    refine (unhide SR _).mono ?_
    rintro e w9 ⟨rfl, hw9⟩
    rw [hw9]
    clear hw9 w9
    go_wp2_with fail
    refine (unhide SA _).mono ?_
    rintro e w9 ⟨rfl, hw9⟩
    rw [hw9]
    clear hw9 w9
    go_wp2_with fail
    refine (unhide IW _).mono ?_
    rintro e w9 ⟨rfl, hw9⟩
    rw [hw9]
    clear hw9 w9
    go_wp2
    go_ret
    exact ⟨rfl, (unhide H2).1, (unhide H2).2⟩
  · skip
    have H2 := hide ((unhide H).setVC false (!iw))
    go_enter Tryz.func66, Tryz.ntmps66
    go_wp2_with fail
    refine (unhide WR _).mono ?_
    rintro e w9 ⟨rfl, hw9⟩
    rw [hw9]
    clear hw9 w9
    go_wp2_with fail
    refine (unhide SA _).mono ?_
    rintro e w9 ⟨rfl, hw9⟩
    rw [hw9]
    clear hw9 w9
    go_wp2_with fail
    refine (unhide SB _).mono ?_
    rintro e w9 ⟨rfl, hw9⟩
    rw [hw9]
    clear hw9 w9
    go_wp2_with fail
    refine (unhide SR _).mono ?_
    rintro e w9 ⟨rfl, hw9⟩
    rw [hw9]
    clear hw9 w9
    go_wp2_with fail
    refine (unhide SA _).mono ?_
    rintro e w9 ⟨rfl, hw9⟩
    rw [hw9]
    clear hw9 w9
    go_wp2_with fail
    refine (unhide IW _).mono ?_
    rintro e w9 ⟨rfl, hw9⟩
    rw [hw9]
    clear hw9 w9
    go_wp2
    go_ret
    exact ⟨rfl, (unhide H2).1, (unhide H2).2⟩
set_option maxHeartbeats 1000000 in
theorem wk_2 : WkIs 63 2 := by
  intro g B gr rc y t st m0 s d w h s0 s1 d0 d1
  have LS := hide (lessen_any g B gr rc y t st m0 s d w h s0 s1 d0 d1)
  unfold Mv.wk Ms.wk
  simp only [wkV, wkC, wkR]
  generalize ((sgI s != sgI d) && (sgI ((s - d) % 65536) == sgI d)) = v1 at LS ⊢
  generalize decide (s < d) = v2 at LS ⊢
  generalize (s - d) % 65536 = r at LS ⊢
  clear h
  go_enter Tryz.func63, Tryz.ntmps63
  go_wp2_with fail
  refine (unhide LS).mono ?_
  rintro e w2 ⟨rfl, h2, f2⟩
  have H2 := hide h2
  have F2 := hide f2
  clear h2 f2 LS
  go_wp2
  go_ret
  exact ⟨rfl, unhide H2, unhide F2⟩
set_option maxHeartbeats 1000000 in
theorem wk_6 : WkIs 67 6 := by
  intro g B gr rc y t st m0 s d w h s0 s1 d0 d1
  have LS := hide (lessen_any g B gr rc y t st m0 d s w h d0 d1 s0 s1)
  unfold Mv.wk Ms.wk
  simp only [wkV, wkC, wkR]
  generalize ((sgI d != sgI s) && (sgI ((d - s) % 65536) == sgI s)) = v1 at LS ⊢
  generalize decide (d < s) = v2 at LS ⊢
  generalize (d - s) % 65536 = r at LS ⊢
  clear h
  go_enter Tryz.func67, Tryz.ntmps67
  go_wp2_with fail
  refine (unhide LS).mono ?_
  rintro e w2 ⟨rfl, h2, f2⟩
  have H2 := hide h2
  have F2 := hide f2
  clear h2 f2 LS
  go_wp2
  go_ret
  exact ⟨rfl, unhide H2, unhide F2⟩
set_option maxHeartbeats 2000000 in
theorem shiftI_any (g B gr rc : Nat) (y : Mv) (t : Ms) (st : Int) (m0 : List Int) (r : Int) (out : Bool) (w : World) (h : Pz w g B gr rc y t st m0) :
  Calls Tryz.prog 110 #[.pointer (some ⟨g, 0, none⟩), .int .i64 r, .bool out] w fun e w' => e = .returned (.int .i64 r) ∧ Pz w' g B gr rc { y with v := (sgI r != out), c := out } { t with v := (sgI r != out), c := out } st m0 ∧ Fm w w' g y { y with v := (sgI r != out), c := out } := by
  have c4 := h.cell 4 _ rfl
  have f4 := h.fz 260
  have c5 := h.cell 5 _ rfl
  have f5 := h.fz 261
  have H := hide h
  have SR := hide (fun v => hasSign_any r v)
  generalize sgI r = b3 at SR ⊢
  clear h
  cases b3 <;> cases out
  · have H2 := hide ((unhide H).setVC false false)
    go_enter Tryz.func110, Tryz.ntmps110
    go_wp2_with fail
    refine (unhide SR _).mono ?_
    rintro e w9 ⟨rfl, hw9⟩
    rw [hw9]
    clear hw9 w9
    go_wp2
    go_ret
    exact ⟨rfl, (unhide H2).1, (unhide H2).2⟩
  · have H2 := hide ((unhide H).setVC true true)
    go_enter Tryz.func110, Tryz.ntmps110
    go_wp2_with fail
    refine (unhide SR _).mono ?_
    rintro e w9 ⟨rfl, hw9⟩
    rw [hw9]
    clear hw9 w9
    go_wp2
    go_ret
    exact ⟨rfl, (unhide H2).1, (unhide H2).2⟩
  · have H2 := hide ((unhide H).setVC true false)
    go_enter Tryz.func110, Tryz.ntmps110
    go_wp2_with fail
    refine (unhide SR _).mono ?_
    rintro e w9 ⟨rfl, hw9⟩
    rw [hw9]
    clear hw9 w9
    go_wp2
    go_ret
    exact ⟨rfl, (unhide H2).1, (unhide H2).2⟩
  · have H2 := hide ((unhide H).setVC false true)
    go_enter Tryz.func110, Tryz.ntmps110
    go_wp2_with fail
    refine (unhide SR _).mono ?_
    rintro e w9 ⟨rfl, hw9⟩
    rw [hw9]
    clear hw9 w9
    go_wp2
    go_ret
    exact ⟨rfl, (unhide H2).1, (unhide H2).2⟩
set_option maxHeartbeats 1000000 in
theorem signedI_any (n : Int) (w : World) : Calls Tryz.prog 111 #[.int .i64 n] w fun e w' => e = .returned (.int .i64 (sgV n)) ∧ w' = w := by
  have WR := hide (fun v => wrapI_any n v)
  have SR := hide (fun v => hasSign_any (n % 65536) v)
  have HB : 0 ≤ n % 65536 ∧ n % 65536 ≤ 65535 := by omega
  unfold sgV
  generalize n % 65536 = q at WR SR HB ⊢
  obtain ⟨q0, q1⟩ := HB
  unfold sgI at SR
  by_cases hq : 32768 ≤ q
  · rw [if_pos hq]
    rw [decide_eq_true hq] at SR
    have hw : IntKind.i64.wrap (q - 65536) = q - 65536 := by rw [IntKind.wrap_i64]; omega
    go_enter Tryz.func111, Tryz.ntmps111
    go_wp2_with fail
    refine (unhide WR _).mono ?_
    rintro e w9 ⟨rfl, hw9⟩
    rw [hw9]
    clear hw9 w9
    go_wp2_with fail
    refine (unhide SR _).mono ?_
    rintro e w9 ⟨rfl, hw9⟩
    rw [hw9]
    clear hw9 w9
    go_wp2
    go_ret
    exact ⟨rfl, rfl⟩
  · rw [if_neg hq]
    rw [decide_eq_false hq] at SR
    go_enter Tryz.func111, Tryz.ntmps111
    go_wp2_with fail
    refine (unhide WR _).mono ?_
    rintro e w9 ⟨rfl, hw9⟩
    rw [hw9]
    clear hw9 w9
    go_wp2_with fail
    refine (unhide SR _).mono ?_
    rintro e w9 ⟨rfl, hw9⟩
    rw [hw9]
    clear hw9 w9
    go_wp2
    go_ret
    exact ⟨rfl, rfl⟩
set_option maxHeartbeats 2000000 in
theorem wk_13 : WkIs 74 13 := by
  intro g B gr rc y t st m0 s d w h s0 s1 d0 d1
  have hw : IntKind.i64.wrap (2 * d) = 2 * d := by rw [IntKind.wrap_i64]; omega
  have WR := hide (fun v => wrapI_any (2 * d) v)
  have SR := hide (fun v => hasSign_any d v)
  have SH := hide (fun v (h : Pz v g B gr rc y t st m0) => shiftI_any g B gr rc y t st m0 ((2 * d) % 65536) (sgI d) v h)
  unfold Mv.wk Ms.wk
  simp only [wkV, wkC, wkR]
  have H := hide h
  generalize (sgI ((2 * d) % 65536) != sgI d) = v1 at SH ⊢
  generalize sgI d = v2 at SH SR ⊢
  generalize (2 * d) % 65536 = r at SH WR ⊢
  clear h
  go_enter Tryz.func74, Tryz.ntmps74
  go_wp2_with fail
  refine (unhide WR _).mono ?_
  rintro e w9 ⟨rfl, hw9⟩
  rw [hw9]
  clear hw9 w9
  go_wp2_with fail
  refine (unhide SR _).mono ?_
  rintro e w9 ⟨rfl, hw9⟩
  rw [hw9]
  clear hw9 w9
  go_wp2_with fail
  refine (unhide SH _ (unhide H)).mono ?_
  rintro e w2 ⟨rfl, h2, f2⟩
  have H2 := hide h2
  have F2 := hide f2
  clear h2 f2 SH
  go_wp2
  go_ret
  exact ⟨rfl, unhide H2, unhide F2⟩
set_option maxHeartbeats 2000000 in
theorem wk_12 : WkIs 73 12 := by
  intro g B gr rc y t st m0 s d w h s0 s1 d0 d1
  have WR := hide (fun v => wrapI_any (sgV d / 2) v)
  have SR := hide (fun v => signedI_any d v)
  have SH := hide (fun v (h : Pz v g B gr rc y t st m0) => shiftI_any g B gr rc y t st m0 ((sgV d / 2) % 65536) (bits .and .i64 d 1 == 1) v h)
  have SB := sgV_b d
  unfold Mv.wk Ms.wk
  simp only [wkV, wkC, wkR]
  have H := hide h
  generalize (sgI ((sgV d / 2) % 65536) != (bits .and .i64 d 1 == 1)) = v1 at SH ⊢
  generalize (sgV d / 2) % 65536 = r at SH WR ⊢
  generalize sgV d = q at SR WR SB
  clear h
  go_enter Tryz.func73, Tryz.ntmps73
  go_wp2_with fail
  refine (unhide SR _).mono ?_
  rintro e w9 ⟨rfl, hw9⟩
  rw [hw9]
  clear hw9 w9
  go_wp2_with fail
  refine (unhide WR _).mono ?_
  rintro e w9 ⟨rfl, hw9⟩
  rw [hw9]
  clear hw9 w9
  go_wp2_with fail
  refine (unhide SH _ (unhide H)).mono ?_
  rintro e w2 ⟨rfl, h2, f2⟩
  have H2 := hide h2
  have F2 := hide f2
  clear h2 f2 SH
  go_wp2
  go_ret
  exact ⟨rfl, unhide H2, unhide F2⟩
end Go.Proofs.YtjpbjbnialehbaaGreatDoor

namespace Go.Proofs.YtjpbjbnialehbaaGreatDoor
open Go.ChangeShapes Go.WideShapes Go.ChangeAt Go.RowKit
set_option linter.unusedVariables false
set_option maxRecDepth 8000
set_option linter.unusedSimpArgs false
/-- The address of a place. -/
def plP (g gr : Nat) (r a : Int) : Addr := if r = -1 then ⟨g, (a / 2).toNat, none⟩ else ⟨gr, r.toNat, none⟩
/-- A place's numbers: an address, or a register. -/
def Psh (r a : Int) : Prop := (r = -1 ∧ 0 ≤ a) ∨ (0 ≤ r ∧ r ≤ 7 ∧ a = -1)
theorem rch_of (g gr : Nat) (d : Md) (r a : Int) (h8 : d.r.length = 8) (h : Psh r a) : rchI g gr d r a = if d.ldB r a = true then some (plP g gr r a) else none := by
  unfold rchI Md.ldB plP regB inB
  rcases h with ⟨rfl, ha⟩ | ⟨h0, h7, rfl⟩
  · rw [if_neg (by omega)]
    simp
  · rw [if_pos ⟨rfl, by simp [h8]; omega⟩, if_neg (show ¬ r = -1 by omega), if_neg (show ¬ r = -1 by omega)]
    simp [h8]
    omega
theorem ad_nn {d : Md} (hk : Dk d) (mo re : Nat) (hr : re < 8) : 0 ≤ d.adV mo re := by
  have h := (hk.rw _ (nAt_mem (show re < d.r.length by have := hk.rl; omega))).1
  unfold Md.adV
  repeat' split
  all_goals omega
theorem pl_sh {d : Md} (hk : Dk d) (mo re : Nat) (hr : re < 8) (ho : d.plO mo re = true) : Psh (d.plR mo re) (d.plA mo re) := by
  unfold Md.plR Md.plA
  by_cases h0 : mo = 0
  · rw [if_pos h0, if_pos h0]
    exact .inr ⟨by omega, by omega, rfl⟩
  · rw [if_neg h0, if_neg h0, if_pos ho, if_pos ho]
    refine .inl ⟨rfl, ?_⟩
    split
    · have : Dk (d.adD mo re) := by have := dk_plS hk mo re; unfold Md.plD at this; rw [if_neg h0] at this; exact this
      exact (this.getb _).1
    · exact ad_nn hk mo re hr
section
variable {w w' : World} {g B gr rc : Nat} {y : Mv} {t : Ms} {st : Int} {m0 : List Int}
theorem Pz.small (h : Pz w g B gr rc y t st m0) (hm : m0.length = 256) (hk : Dk t.d) : y.small := by
  have a := h.own.m.len
  have b := h.own.r.len
  have c := h.own.i.len
  have e := h.own.o.len
  have := hk.rl
  have := hk.il
  have := hk.ol
  exact ⟨by simp at a; omega, by simp at b; omega, by simp at c; omega, by simp at e; omega⟩
theorem Pz.place (h : Pz w g B gr rc y t st m0) {r a : Int} (hb : t.d.ldB r a = true) (sh : Psh r a) : w.cell? (plP g gr r a) = some (.int .i64 (t.d.ldV r a)) ∧ w.frozen? (plP g gr r a) = false ∧ ∀ v, 0 ≤ v → v ≤ 65535 → Pz (w.setCell (plP g gr r a) (.int .i64 v)) g B gr rc y (t.st r a v) st m0 ∧ Fm w (w.setCell (plP g gr r a) (.int .i64 v)) g y y := by
  unfold plP Md.ldV Ms.st Md.stD Md.put Md.get
  rcases sh with ⟨rfl, ha⟩ | ⟨h0, h7, rfl⟩
  · unfold Md.ldB at hb
    rw [if_pos rfl] at hb
    rw [if_pos rfl, if_pos rfl, if_pos hb]
    obtain ⟨ta, tl⟩ := has_t hb
    obtain ⟨t0, t1, _⟩ := adB_t ta
    obtain ⟨_, _, c, f⟩ := h.setM (a / 2).toNat 0 (by omega)
    refine ⟨c, f, fun v v0 v1 => ?_⟩
    rw [if_pos rfl, if_pos hb]
    rw [show v % 65536 = v by omega]
    exact ⟨(h.setM (a / 2).toNat v (by omega)).1, (h.setM (a / 2).toNat v (by omega)).2.1⟩
  · rw [if_neg (show ¬ r = -1 by omega), if_neg (show ¬ r = -1 by omega), if_pos hb]
    obtain ⟨_, _, c, f⟩ := h.setR r.toNat 0 (by omega)
    refine ⟨c, f, fun v v0 v1 => ?_⟩
    rw [if_neg (show ¬ r = -1 by omega), if_pos hb]
    rw [show v % 65536 = v by omega]
    exact ⟨(h.setR r.toNat v (by omega)).1, (h.setR r.toNat v (by omega)).2.1⟩
theorem reachZ (h : Pz w g B gr rc y t st m0) (hm : m0.length = 256) (hk : Dk t.d) (r a : Int) (sh : Psh r a) : Calls Tryz.prog 113 #[.pointer (some ⟨g, 0, none⟩), .agg #[.int .i64 r, .int .i64 a]] w fun e w' => e = .returned (.pointer (if t.d.ldB r a = true then some (plP g gr r a) else none)) ∧ Below w.heap.size w w' := by
  rw [← rch_of g gr t.d r a h.r8 sh]
  have a := h.own.m.len
  have b := h.own.r.len
  exact reach_any g gr rc r _ t.d.m y t.d w h.len h.row (by rw [h.len, ← a, hm]) (by simp at b; exact b) (h.small hm hk) (fun _ => by rw [h.r8]; exact h.er)
end
def Ms.op (t : Ms) (mo re : Nat) : Ms := { t with d := t.d.plD mo re }
/-- Whether an operand can be read and stored. -/
def Ms.opB (t : Ms) (mo re : Nat) : Bool := t.d.plO mo re && (t.op mo re).d.ldB (t.d.plR mo re) (t.d.plA mo re)
def Ms.opV (t : Ms) (mo re : Nat) : Int := (t.op mo re).d.ldV (t.d.plR mo re) (t.d.plA mo re)
def Ms.opP (t : Ms) (g gr mo re : Nat) : Addr := plP g gr (t.d.plR mo re) (t.d.plA mo re)
theorem dk_op {t : Ms} (h : Dk t.d) (mo re : Nat) : Dk (t.op mo re).d := dk_plS h mo re
theorem op_v {t : Ms} (h : Dk t.d) (mo re : Nat) : 0 ≤ t.opV mo re ∧ t.opV mo re ≤ 65535 := (dk_op h mo re).ldb _ _
theorem Pz.place2 {w : World} {g B gr rc : Nat} {y : Mv} {t : Ms} {st : Int} {m0 : List Int} {mo re : Nat} (hk : Dk t.d) (hr : re < 8) (hb : t.opB mo re = true) (h : Pz w g B gr rc y (t.op mo re) st m0) :
    w.cell? (t.opP g gr mo re) = some (.int .i64 (t.opV mo re)) ∧ w.frozen? (t.opP g gr mo re) = false := by
  unfold Ms.opB at hb
  simp only [Bool.and_eq_true] at hb
  obtain ⟨a, b, _⟩ := h.place hb.2 (pl_sh hk mo re hr hb.1)
  exact ⟨a, b⟩
set_option maxHeartbeats 4000000 in
theorem operand_any (g B gr rc mo re : Nat) (X : Int) (y : Mv) (t : Ms) (st : Int) (w : World) (h : Pz w g B gr rc y t st t.d.m) (hk : Dk t.d) (h7 : mo ≤ 7) (hr : re < 8) :
    Calls Tryz.prog 148 #[.pointer (some ⟨g, 0, none⟩), .agg #[.int .i64 (mo : Int), .int .i64 (re : Int), .int .i64 X]] w fun e w' => e = .returned (.pointer (if t.opB mo re = true then some (t.opP g gr mo re) else none)) ∧ (t.opB mo re = true → Pz w' g B gr rc y (t.op mo re) st (t.op mo re).d.m) ∧ Fm w w' g y y := by
  have GL := hide h.gl
  have H1 := hide (h.later (below_new w (Obj.cells #[.int .i64 (mo : Int), .int .i64 (re : Int), .int .i64 X] 67)))
  have F1 := hide (Fm.of (g := g) (y := y) (below_new w (Obj.cells #[.int .i64 (mo : Int), .int .i64 (re : Int), .int .i64 X] 67)))
  have AR := hide h.atr
  have PO := hide (po_any g B gr rc mo re X y t.d _ (unhide H1).pg hk.r8 hr (h.small h.len hk) (hk.getb _) h7 ((unhide H1).yl (unhide H1).atr) (unhide H1).gl)
  unfold PoIs0 at PO
  have SHP := hide (pl_sh hk mo re hr)
  have K2 := hide (dk_op hk mo re)
  have GO := hide (show ∀ v, Pg v g B gr rc y (t.d.plD mo re) → Pz v g B gr rc y (t.op mo re) st (t.op mo re).d.m from fun v p => h.ofPg p)
  unfold Ms.opB Ms.opP
  have RZ := hide (fun v (p : Pz v g B gr rc y (t.op mo re) st (t.op mo re).d.m) (ho : t.d.plO mo re = true) => reachZ p p.len (unhide K2) (t.d.plR mo re) (t.d.plA mo re) (unhide SHP ho))
  generalize (t.op mo re).d.ldB (t.d.plR mo re) (t.d.plA mo re) = lb at RZ ⊢
  generalize plP g gr (t.d.plR mo re) (t.d.plA mo re) = pp at RZ ⊢
  generalize t.d.plR mo re = pr at PO RZ SHP
  generalize t.d.plA mo re = pa at PO RZ SHP
  generalize t.d.plO mo re = po at PO RZ SHP ⊢
  generalize t.op mo re = t2 at GO RZ K2 ⊢
  generalize t.d.plD mo re = d2 at PO GO
  clear h hk K2 SHP
  go_enter Tryz.func148, Tryz.ntmps148
  go_wp2_with fail
  refine (unhide PO).mono ?_
  rintro e w2 ⟨rfl, p2, g2⟩
  have F2 := hide ((unhide F1).trans (Fm.grownR g2 (unhide AR)))
  cases po
  · have B3 := hide (below_new w2 (Obj.cells #[.int .i64 pr, .int .i64 pa] 97))
    clear p2 g2 PO RZ
    go_wp2_with (refine wpList_store_new rfl 97 _ _ rfl #[.int .i64 pr, .int .i64 pa] rfl rfl _ (by kernel_rfl) rfl rfl ?_)
    go_ret
    first | exact ⟨rfl, fun h => Bool.noConfusion h, (unhide F2).trans (Fm.of (unhide B3))⟩ | exact ⟨rfl, (unhide F2).trans (Fm.of (unhide B3))⟩
  · have H3 := hide ((unhide GO _ (p2 rfl)).later (below_new w2 (Obj.cells #[.int .i64 pr, .int .i64 pa] 97)))
    have R3 := hide (heap_alloc_last w2 (Obj.cells #[.int .i64 pr, .int .i64 pa] 97))
    have F3 := hide ((unhide F2).trans (Fm.of (below_new w2 (Obj.cells #[.int .i64 pr, .int .i64 pa] 97))))
    have RC := hide (unhide RZ _ (unhide H3) rfl)
    clear p2 g2 PO RZ
    go_wp2_with (first | (refine wpList_store_new rfl 97 _ _ rfl #[.int .i64 pr, .int .i64 pa] rfl rfl _ (by kernel_rfl) rfl rfl ?_) | (refine wpList_load_row rfl 97 _ rfl w2.heap.size rfl 97 #[.int .i64 pr, .int .i64 pa] (0, 0) _ (unhide R3) Tryz.underlying97 rfl (by kernel_rfl) ?_))
    refine (unhide RC).mono ?_
    rintro e w4 ⟨rfl, hb⟩
    have H4 := hide ((unhide H3).later hb)
    have F4 := hide ((unhide F3).trans (Fm.of hb))
    clear hb RC
    cases lb
    · go_wp2
      go_ret
      first | exact ⟨rfl, fun h => Bool.noConfusion h, unhide F4⟩ | exact ⟨rfl, unhide F4⟩
    · go_wp2
      go_ret
      first | exact ⟨rfl, fun _ => unhide H4, unhide F4⟩ | exact ⟨rfl, unhide H4, unhide F4⟩
end Go.Proofs.YtjpbjbnialehbaaGreatDoor

namespace Go.Proofs.YtjpbjbnialehbaaGreatDoor
open Go.ChangeShapes Go.WideShapes Go.ChangeAt Go.RowKit
set_option linter.unusedVariables false
set_option linter.unusedSimpArgs false
theorem i64_and65535Q (n : Int) : bits .and .i64 n 65535 = n % 65536 := by
  have h127 : (BitVec.ofInt 64 65535).toNat = 2 ^ 16 - 1 := by decide
  have key : (BitVec.ofInt 64 n &&& BitVec.ofInt 64 65535).toNat = (n % ((2 ^ 64 : Nat) : Int)).toNat % 2 ^ 16 := by
    rw [BitVec.toNat_and, BitVec.toNat_ofInt, h127, Nat.and_two_pow_sub_one_eq_mod]
  show IntKind.i64.wrap ((BitVec.ofInt 64 n &&& BitVec.ofInt 64 65535).toNat : Nat) = n % 65536
  rw [key, IntKind.wrap_i64]
  omega
theorem isWordI_any (n : Int) (w : World) : Calls Tryz.prog 52 #[.int .i64 n] w fun e w' => e = .returned (.bool (inB n 0 65535)) ∧ w' = w := by
  have H := i64_and65535Q n
  have HE := hide (show (n == n % 65536) = inB n 0 65535 by unfold inB; rw [Bool.eq_iff_iff]; simp; omega)
  go_enter Tryz.func52, Tryz.ntmps52
  go_wp2
  go_ret
  exact ⟨by rw [← unhide HE]; rfl, rfl⟩
theorem hasSrc_any (op : Int) (w : World) : Calls Tryz.prog 101 #[.int .i64 op] w fun e w' => e = .returned (.bool (inB op 1 6)) ∧ w' = w := by
  unfold inB
  by_cases h1 : (1 : Int) ≤ op
  · rw [decide_eq_true h1, Bool.true_and]
    go_enter Tryz.func101, Tryz.ntmps101
    go_wp2
    go_ret
    exact ⟨rfl, rfl⟩
  · rw [decide_eq_false h1, Bool.false_and]
    have h3 : decide ((1 : Int) ≤ op) = false := decide_eq_false h1
    go_enter Tryz.func101, Tryz.ntmps101
    go_wp2
    go_ret
    exact ⟨rfl, rfl⟩
theorem hasDst_any (op : Int) (w : World) : Calls Tryz.prog 102 #[.int .i64 op] w fun e w' => e = .returned (.bool (inB op 1 15)) ∧ w' = w := by
  unfold inB
  by_cases h1 : (1 : Int) ≤ op
  · rw [decide_eq_true h1, Bool.true_and]
    go_enter Tryz.func102, Tryz.ntmps102
    go_wp2
    go_ret
    exact ⟨rfl, rfl⟩
  · rw [decide_eq_false h1, Bool.false_and]
    have h3 : decide ((1 : Int) ≤ op) = false := decide_eq_false h1
    go_enter Tryz.func102, Tryz.ntmps102
    go_wp2
    go_ret
    exact ⟨rfl, rfl⟩
def loN (op : Int) : Int := if inB op 17 21 = true then -128 else 0
def hiN (op : Int) : Int := if op = 15 ∨ op = 16 then 7 else if inB op 17 21 = true then 127 else if op = 23 then 255 else 0
set_option maxHeartbeats 1000000 in
theorem bounds_any (op : Int) (w : World) : Calls Tryz.prog 103 #[.int .i64 op] w fun e w' => e = .returned (.tuple #[.int .i64 (loN op), .int .i64 (hiN op)]) ∧ w' = w := by
  have HR := hide (show ∀ a b : Int, a = loN op → b = hiN op → Ending.returned (.tuple #[.int .i64 a, .int .i64 b]) = .returned (.tuple #[.int .i64 (loN op), .int .i64 (hiN op)]) from fun a b h1 h2 => by rw [h1, h2])
  cases h15 : (op == 15)
  · cases h16 : (op == 16)
    · cases h17 : decide (17 ≤ op)
      · cases h23 : (op == 23)
        · go_enter Tryz.func103, Tryz.ntmps103
          go_wp2
          go_ret2
          exact ⟨unhide HR _ _ (by simp at *; simp [loN, inB, *]; omega) (by simp at *; simp [hiN, inB, *]; omega), rfl⟩
        · go_enter Tryz.func103, Tryz.ntmps103
          go_wp2
          go_ret2
          exact ⟨unhide HR _ _ (by simp at *; simp [loN, inB, *]) (by simp at *; simp [hiN, inB, *]), rfl⟩
      · cases h21 : decide (op ≤ 21)
        · cases h23 : (op == 23)
          · go_enter Tryz.func103, Tryz.ntmps103
            go_wp2
            go_ret2
            exact ⟨unhide HR _ _ (by simp at *; simp [loN, inB, *]) (by simp at *; simp [hiN, inB, *]), rfl⟩
          · go_enter Tryz.func103, Tryz.ntmps103
            go_wp2
            go_ret2
            exact ⟨unhide HR _ _ (by simp at *; simp [loN, inB, *]) (by simp at *; simp [hiN, inB, *]), rfl⟩
        · go_enter Tryz.func103, Tryz.ntmps103
          go_wp2
          go_ret2
          exact ⟨unhide HR _ _ (by simp at *; simp [loN, inB, *]) (by simp at *; simp [hiN, inB, *]), rfl⟩
    · go_enter Tryz.func103, Tryz.ntmps103
      go_wp2
      go_ret2
      exact ⟨unhide HR _ _ (by simp at *; simp [loN, inB, *]) (by simp at *; simp [hiN, inB, *]), rfl⟩
  · go_enter Tryz.func103, Tryz.ntmps103
    go_wp2
    go_ret2
    exact ⟨unhide HR _ _ (by simp at *; simp [loN, inB, *]) (by simp at *; simp [hiN, inB, *]), rfl⟩
set_option maxHeartbeats 1000000 in
theorem hasXI_anyQ (o : Od) (w : World) : Calls Tryz.prog 58 #[o.v] w fun e w' => e = .returned (.bool o.hasX) ∧ Below w.heap.size w w' := by
  obtain ⟨m, r, x⟩ := o
  have HR := hide (show ∀ b : Bool, b = Od.hasX ⟨m, r, x⟩ → Ending.returned (.bool b) = .returned (.bool (Od.hasX ⟨m, r, x⟩)) from fun b h => by rw [h])
  unfold Od.v
  simp only
  have hB := hide ((Below.refl w.heap.size w).alloc (Nat.le_refl _) (Obj.cells #[.int .i64 m, .int .i64 r, .int .i64 x] 67))
  cases h6 : (m == 6)
  · cases h7 : (m == 7)
    · cases h2 : (m == 2)
      · cases h3 : (m == 3)
        · go_enter Tryz.func58, Tryz.ntmps58
          go_wp2
          go_ret
          exact ⟨unhide HR _ (by simp [Od.hasX, *]), unhide hB⟩
        · go_enter Tryz.func58, Tryz.ntmps58
          go_wp2
          go_ret
          exact ⟨unhide HR _ (by simp [Od.hasX, *]), unhide hB⟩
      · go_enter Tryz.func58, Tryz.ntmps58
        go_wp2
        go_ret
        exact ⟨unhide HR _ (by simp [Od.hasX, *]), unhide hB⟩
    · go_enter Tryz.func58, Tryz.ntmps58
      go_wp2
      go_ret
      exact ⟨unhide HR _ (by simp [Od.hasX, *]), unhide hB⟩
  · go_enter Tryz.func58, Tryz.ntmps58
    go_wp2
    go_ret
    exact ⟨unhide HR _ (by simp [Od.hasX, *]), unhide hB⟩
end Go.Proofs.YtjpbjbnialehbaaGreatDoor

namespace Go.Proofs.YtjpbjbnialehbaaGreatDoor
open Go.ChangeShapes Go.WideShapes Go.ChangeAt Go.RowKit
set_option linter.unusedVariables false
set_option linter.unusedSimpArgs false
set_option maxHeartbeats 1000000 in
theorem opdOkI_anyQ (o : Od) (w : World) : Calls Tryz.prog 137 #[o.v] w fun e w' => e = .returned (.bool o.ok) ∧ Below w.heap.size w w' := by
  have HX := hide (fun w => hasXI_anyQ o w)
  obtain ⟨m, r, x⟩ := o
  have HR := hide (show ∀ b : Bool, b = Od.ok ⟨m, r, x⟩ → Ending.returned (.bool b) = .returned (.bool (Od.ok ⟨m, r, x⟩)) from fun b h => by rw [h])
  have HF : ∀ q, Od.hasX ⟨m, r, x⟩ = q → Od.ok ⟨m, r, x⟩ = (((inB m 0 7 && inB r 0 7) && inB x 0 65535) && (q || x == 0)) := fun q h => by rw [← h]; rfl
  obtain ⟨q, hq⟩ : ∃ q, Od.hasX ⟨m, r, x⟩ = q := ⟨_, rfl⟩
  have HF2 := hide (HF q hq)
  rw [hq] at HX
  clear hq HF
  have hB := hide ((Below.refl w.heap.size w).alloc (Nat.le_refl _) (Obj.cells #[.int .i64 m, .int .i64 r, .int .i64 x] 67))
  have HS := hide (box_below w (Obj.cells #[.int .i64 m, .int .i64 r, .int .i64 x] 67))
  have hz : w.heap.size + 1 ≤ (w.alloc (Obj.cells #[.int .i64 m, .int .i64 r, .int .i64 x] 67)).heap.size := by simp
  have HZ := hide hz
  clear hz
  have hc : ∀ y : Sub (w.heap.size + 1) (w.alloc (Obj.cells #[.int .i64 m, .int .i64 r, .int .i64 x] 67)), y.w.cell? ⟨w.heap.size, 2, none⟩ = some (.int .i64 x) := fun y => y.cells 2 _ rfl
  unfold Od.v at HX ⊢
  simp only at HX ⊢
  cases h1 : decide (m < 0)
  · cases h2 : decide (7 < m)
    · cases h3 : decide (r < 0)
      · cases h4 : decide (7 < r)
        · go_enter Tryz.func137, Tryz.ntmps137
          go_wp2_with fail
          refine (Sub.call (x := ⟨_, Below.refl _ _⟩) (unhide HZ) (unhide HX _)).mono ?_
          rintro e _ ⟨rfl, y, rfl⟩
          clear HX
          cases q
          · go_wp2
            go_ret
            exact ⟨unhide HR _ (by rw [unhide HF2]; simp at *; simp [inB, *]; omega), unhide HS _ y.h⟩
          · go_wp2_with (go_at_call 52; refine (isWordI_any _ _).mono ?_; rintro e _ ⟨rfl, rfl⟩)
            go_ret
            exact ⟨unhide HR _ (by rw [unhide HF2]; simp at *; simp [inB, *]), unhide HS _ y.h⟩
        · go_enter Tryz.func137, Tryz.ntmps137
          go_wp2
          go_ret
          exact ⟨unhide HR _ (by rw [unhide HF2]; simp at *; simp [inB, *]; omega), unhide hB⟩
      · go_enter Tryz.func137, Tryz.ntmps137
        go_wp2
        go_ret
        exact ⟨unhide HR _ (by rw [unhide HF2]; simp at *; simp [inB, *]; omega), unhide hB⟩
    · go_enter Tryz.func137, Tryz.ntmps137
      go_wp2
      go_ret
      exact ⟨unhide HR _ (by rw [unhide HF2]; simp at *; simp [inB, *]; omega), unhide hB⟩
  · go_enter Tryz.func137, Tryz.ntmps137
    go_wp2
    go_ret
    exact ⟨unhide HR _ (by rw [unhide HF2]; simp at *; simp [inB, *]; omega), unhide hB⟩
def Od.fits (o : Od) (b : Bool) : Bool := if b = true then o.ok else o.zero
set_option maxHeartbeats 1000000 in
theorem fits_any (o : Od) (b : Bool) (w : World) : Calls Tryz.prog 104 #[o.v, .bool b] w fun e w' => e = .returned (.bool (o.fits b)) ∧ Below w.heap.size w w' := by
  have HX := hide (fun w => opdOkI_anyQ o w)
  obtain ⟨m, r, x⟩ := o
  cases b
  · unfold Od.fits Od.zero Od.v
    simp only
    go_enter Tryz.func104, Tryz.ntmps104
    go_wp2
    all_goals go_ret
    all_goals refine ⟨?_, (Below.refl _ _).alloc (Nat.le_refl _) _⟩
    all_goals simp_all
  · have HS := hide (box_below w (Obj.cells #[.int .i64 m, .int .i64 r, .int .i64 x] 67))
    have hz : w.heap.size + 1 ≤ (w.alloc (Obj.cells #[.int .i64 m, .int .i64 r, .int .i64 x] 67)).heap.size := by simp
    have HZ := hide hz
    clear hz
    have hf : Od.fits ⟨m, r, x⟩ true = Od.ok ⟨m, r, x⟩ := rfl
    rw [hf]
    clear hf
    unfold Od.v at HX ⊢
    simp only at HX ⊢
    go_enter Tryz.func104, Tryz.ntmps104
    go_wp2_with fail
    refine (Sub.call (x := ⟨_, Below.refl _ _⟩) (unhide HZ) (unhide HX _)).mono ?_
    rintro e _ ⟨rfl, y, rfl⟩
    go_wp2
    go_ret
    exact ⟨rfl, unhide HS _ y.h⟩
def Is.okI (i : Is) : Bool := inB i.op 1 23 && (((i.s.fits (inB i.op 1 6) && i.d.fits (inB i.op 1 15)) && decide (loN i.op ≤ i.n)) && decide (i.n ≤ hiN i.op))
theorem inB_tQ (x a b : Int) (h : a ≤ x ∧ x ≤ b) : inB x a b = true := by simp [inB, h]
theorem inB_fQ (x a b : Int) (h : x < a ∨ b < x) : inB x a b = false := by unfold inB; rw [Bool.and_eq_false_iff]; simp; omega
theorem eqB_fQ (x a : Int) (h : x ≠ a) : (x == a) = false := by simp [h]
theorem okI_eq (i : Is) : i.okI = i.ok := by
  obtain ⟨op, s, d, n⟩ := i
  have hc : op < 1 ∨ (1 ≤ op ∧ op ≤ 6) ∨ (7 ≤ op ∧ op ≤ 14) ∨ op = 15 ∨ op = 16 ∨ (17 ≤ op ∧ op ≤ 21) ∨ op = 22 ∨ op = 23 ∨ 23 < op := by omega
  unfold Is.okI Is.ok Od.fits
  simp only
  generalize s.ok = a
  generalize d.ok = b
  generalize s.zero = c
  generalize d.zero = f
  have e1 : (inB op 1 23 = true ∧ 1 ≤ op ∧ op ≤ 23) ∨ (inB op 1 23 = false ∧ (op < 1 ∨ 23 < op)) := by
    by_cases h : 1 ≤ op ∧ op ≤ 23
    · exact .inl ⟨inB_tQ _ _ _ h, h⟩
    · exact .inr ⟨inB_fQ _ _ _ (by omega), by omega⟩
  have hn : ∀ lo hi : Int, (decide (lo ≤ n) && decide (n ≤ hi)) = inB n lo hi := fun _ _ => rfl
  have h0 : inB n 0 0 = (n == 0) := by unfold inB; rw [Bool.eq_iff_iff]; simp; omega
  unfold loN hiN
  rw [Bool.and_assoc]
  rw [hn]
  rcases hc with h | h | h | h | h | h | h | h | h
  · rw [inB_fQ op 1 23 (by omega), inB_fQ op 1 6 (by omega), inB_fQ op 7 14 (by omega), inB_fQ op 17 21 (by omega), eqB_fQ op 15 (by omega), eqB_fQ op 16 (by omega), eqB_fQ op 22 (by omega), eqB_fQ op 23 (by omega)]; simp
  · rw [inB_tQ op 1 23 (by omega), inB_tQ op 1 6 (by omega), inB_tQ op 1 15 (by omega), inB_fQ op 17 21 (by omega), if_neg (show ¬ (op = 15 ∨ op = 16) by omega), if_neg (show ¬ op = 23 by omega)]; simp [h0]
  · rw [inB_tQ op 1 23 (by omega), inB_fQ op 1 6 (by omega), inB_tQ op 1 15 (by omega), inB_tQ op 7 14 (by omega), inB_fQ op 17 21 (by omega), if_neg (show ¬ (op = 15 ∨ op = 16) by omega), if_neg (show ¬ op = 23 by omega)]; simp [h0]
  · subst h; cases a <;> cases b <;> cases c <;> cases f <;> simp [inB]
  · subst h; cases a <;> cases b <;> cases c <;> cases f <;> simp [inB]
  · rw [inB_tQ op 1 23 (by omega), inB_fQ op 1 6 (by omega), inB_fQ op 1 15 (by omega), inB_fQ op 7 14 (by omega), inB_tQ op 17 21 (by omega), if_neg (show ¬ (op = 15 ∨ op = 16) by omega), eqB_fQ op 15 (by omega), eqB_fQ op 16 (by omega)]; cases c <;> cases f <;> simp
  · subst h; cases a <;> cases b <;> cases c <;> cases f <;> simp [inB] <;> (rw [Bool.eq_iff_iff]; simp; omega)
  · subst h; cases a <;> cases b <;> cases c <;> cases f <;> simp [inB]
  · rw [inB_fQ op 1 23 (by omega), inB_fQ op 1 6 (by omega), inB_fQ op 7 14 (by omega), inB_fQ op 17 21 (by omega), eqB_fQ op 15 (by omega), eqB_fQ op 16 (by omega), eqB_fQ op 22 (by omega), eqB_fQ op 23 (by omega)]; simp
end Go.Proofs.YtjpbjbnialehbaaGreatDoor

namespace Go.Proofs.YtjpbjbnialehbaaGreatDoor
open Go.ChangeShapes Go.WideShapes Go.ChangeAt Go.RowKit
set_option linter.unusedVariables false
set_option linter.unusedSimpArgs false
set_option maxHeartbeats 4000000 in
theorem insOkI_any (i : Is) (w : World) : Calls Tryz.prog 59 #[i.v] w fun e w' => e = .returned (.bool i.ok) ∧ Below w.heap.size w w' := by
  rw [← okI_eq]
  obtain ⟨op, ⟨sm, sr, sx⟩, ⟨dm, dr, dx⟩, n⟩ := i
  have HS := hide (box_below w (Obj.cells #[.int .i64 op, .int .i64 sm, .int .i64 sr, .int .i64 sx, .int .i64 dm, .int .i64 dr, .int .i64 dx, .int .i64 n] 69))
  have HZ := hide (show w.heap.size + 1 ≤ (w.alloc (Obj.cells #[.int .i64 op, .int .i64 sm, .int .i64 sr, .int .i64 sx, .int .i64 dm, .int .i64 dr, .int .i64 dx, .int .i64 n] 69)).heap.size by simp)
  have ne := Sub.ne (w.heap.size + 1) (w.alloc (Obj.cells #[.int .i64 op, .int .i64 sm, .int .i64 sr, .int .i64 sx, .int .i64 dm, .int .i64 dr, .int .i64 dx, .int .i64 n] 69))
  have c0 : ∀ y : Sub (w.heap.size + 1) (w.alloc (Obj.cells #[.int .i64 op, .int .i64 sm, .int .i64 sr, .int .i64 sx, .int .i64 dm, .int .i64 dr, .int .i64 dx, .int .i64 n] 69)), y.w.cell? ⟨w.heap.size, 0, none⟩ = some (.int .i64 op) := fun y => y.cells 0 _ rfl
  have c1 : ∀ y : Sub (w.heap.size + 1) (w.alloc (Obj.cells #[.int .i64 op, .int .i64 sm, .int .i64 sr, .int .i64 sx, .int .i64 dm, .int .i64 dr, .int .i64 dx, .int .i64 n] 69)), y.w.cell? ⟨w.heap.size, 1, none⟩ = some (.int .i64 sm) := fun y => y.cells 1 _ rfl
  have c2 : ∀ y : Sub (w.heap.size + 1) (w.alloc (Obj.cells #[.int .i64 op, .int .i64 sm, .int .i64 sr, .int .i64 sx, .int .i64 dm, .int .i64 dr, .int .i64 dx, .int .i64 n] 69)), y.w.cell? ⟨w.heap.size, 2, none⟩ = some (.int .i64 sr) := fun y => y.cells 2 _ rfl
  have c3 : ∀ y : Sub (w.heap.size + 1) (w.alloc (Obj.cells #[.int .i64 op, .int .i64 sm, .int .i64 sr, .int .i64 sx, .int .i64 dm, .int .i64 dr, .int .i64 dx, .int .i64 n] 69)), y.w.cell? ⟨w.heap.size, 3, none⟩ = some (.int .i64 sx) := fun y => y.cells 3 _ rfl
  have c4 : ∀ y : Sub (w.heap.size + 1) (w.alloc (Obj.cells #[.int .i64 op, .int .i64 sm, .int .i64 sr, .int .i64 sx, .int .i64 dm, .int .i64 dr, .int .i64 dx, .int .i64 n] 69)), y.w.cell? ⟨w.heap.size, 4, none⟩ = some (.int .i64 dm) := fun y => y.cells 4 _ rfl
  have c5 : ∀ y : Sub (w.heap.size + 1) (w.alloc (Obj.cells #[.int .i64 op, .int .i64 sm, .int .i64 sr, .int .i64 sx, .int .i64 dm, .int .i64 dr, .int .i64 dx, .int .i64 n] 69)), y.w.cell? ⟨w.heap.size, 5, none⟩ = some (.int .i64 dr) := fun y => y.cells 5 _ rfl
  have c6 : ∀ y : Sub (w.heap.size + 1) (w.alloc (Obj.cells #[.int .i64 op, .int .i64 sm, .int .i64 sr, .int .i64 sx, .int .i64 dm, .int .i64 dr, .int .i64 dx, .int .i64 n] 69)), y.w.cell? ⟨w.heap.size, 6, none⟩ = some (.int .i64 dx) := fun y => y.cells 6 _ rfl
  have c7 : ∀ y : Sub (w.heap.size + 1) (w.alloc (Obj.cells #[.int .i64 op, .int .i64 sm, .int .i64 sr, .int .i64 sx, .int .i64 dm, .int .i64 dr, .int .i64 dx, .int .i64 n] 69)), y.w.cell? ⟨w.heap.size, 7, none⟩ = some (.int .i64 n) := fun y => y.cells 7 _ rfl
  have FS := hide (fun b w => fits_any ⟨sm, sr, sx⟩ b w)
  have FD := hide (fun b w => fits_any ⟨dm, dr, dx⟩ b w)
  unfold Is.okI
  simp only
  obtain ⟨qs, hqs⟩ : ∃ q, Od.fits ⟨sm, sr, sx⟩ (inB op 1 6) = q := ⟨_, rfl⟩
  obtain ⟨qd, hqd⟩ : ∃ q, Od.fits ⟨dm, dr, dx⟩ (inB op 1 15) = q := ⟨_, rfl⟩
  rw [hqs, hqd]
  have FS' := hide (show ∀ w, Calls Tryz.prog 104 #[Od.v ⟨sm, sr, sx⟩, .bool (inB op 1 6)] w fun e w' => e = .returned (.bool qs) ∧ Below w.heap.size w w' from fun w => by rw [← hqs]; exact unhide FS _ w)
  have FD' := hide (show ∀ w, Calls Tryz.prog 104 #[Od.v ⟨dm, dr, dx⟩, .bool (inB op 1 15)] w fun e w' => e = .returned (.bool qd) ∧ Below w.heap.size w w' from fun w => by rw [← hqd]; exact unhide FD _ w)
  clear FS FD hqs hqd
  unfold Od.v at FS' FD'
  simp only at FS' FD'
  have F1 := hide (fun w => hasSrc_any op w)
  have F2 := hide (fun w => hasDst_any op w)
  generalize inB op 1 6 = p1 at F1 FS' ⊢
  generalize inB op 1 15 = p2 at F2 FD' ⊢
  generalize hlo : loN op = lo
  generalize hhi : hiN op = hi
  have BN := hide (fun w => bounds_any op w)
  rw [hlo, hhi] at BN
  clear hlo hhi
  unfold Is.v
  simp only
  cases h1 : decide (op < 1)
  · cases h2 : decide (23 < op)
    · have hin : inB op 1 23 = true := inB_tQ _ _ _ (by simp at h1 h2; omega)
      rw [hin, Bool.true_and]
      clear hin
      cases qs
      · go_enter Tryz.func59, Tryz.ntmps59
        go_wp2_with (go_at_call 103; refine (unhide BN _).mono ?_; rintro e w' ⟨rfl, hw'⟩; rw [hw']; clear hw' w')
        refine wp_region_sub (Sub.top w (Obj.cells #[.int .i64 op, .int .i64 sm, .int .i64 sr, .int .i64 sx, .int .i64 dm, .int .i64 dr, .int .i64 dx, .int .i64 n] 69)) (by kernel_rfl) (by kernel_rfl) ?_
        repeat (go_big_quiet_step (first | (go_at_call 101; exact Sub.same (unhide F1 _)) | (go_at_call 102; exact Sub.same (unhide F2 _)) | (go_at_call_of 104 sm; exact Sub.call (unhide HZ) (unhide FS' _)) | (go_at_call_of 104 dm; exact Sub.call (unhide HZ) (unhide FD' _))))
        refine wpQuiet_nil ?_
        intro y
        go_wp2
        go_ret
        exact ⟨rfl, unhide HS _ y.h⟩
      · cases qd
        · go_enter Tryz.func59, Tryz.ntmps59
          go_wp2_with (go_at_call 103; refine (unhide BN _).mono ?_; rintro e w' ⟨rfl, hw'⟩; rw [hw']; clear hw' w')
          refine wp_region_sub (Sub.top w (Obj.cells #[.int .i64 op, .int .i64 sm, .int .i64 sr, .int .i64 sx, .int .i64 dm, .int .i64 dr, .int .i64 dx, .int .i64 n] 69)) (by kernel_rfl) (by kernel_rfl) ?_
          repeat (go_big_quiet_step (first | (go_at_call 101; exact Sub.same (unhide F1 _)) | (go_at_call 102; exact Sub.same (unhide F2 _)) | (go_at_call_of 104 sm; exact Sub.call (unhide HZ) (unhide FS' _)) | (go_at_call_of 104 dm; exact Sub.call (unhide HZ) (unhide FD' _))))
          refine wpQuiet_nil ?_
          intro y
          go_wp2
          go_ret
          exact ⟨rfl, unhide HS _ y.h⟩
        · cases h3 : decide (lo ≤ n)
          · go_enter Tryz.func59, Tryz.ntmps59
            go_wp2_with (go_at_call 103; refine (unhide BN _).mono ?_; rintro e w' ⟨rfl, hw'⟩; rw [hw']; clear hw' w')
            refine wp_region_sub (Sub.top w (Obj.cells #[.int .i64 op, .int .i64 sm, .int .i64 sr, .int .i64 sx, .int .i64 dm, .int .i64 dr, .int .i64 dx, .int .i64 n] 69)) (by kernel_rfl) (by kernel_rfl) ?_
            repeat (go_big_quiet_step (first | (go_at_call 101; exact Sub.same (unhide F1 _)) | (go_at_call 102; exact Sub.same (unhide F2 _)) | (go_at_call_of 104 sm; exact Sub.call (unhide HZ) (unhide FS' _)) | (go_at_call_of 104 dm; exact Sub.call (unhide HZ) (unhide FD' _))))
            refine wpQuiet_nil ?_
            intro y
            go_wp2
            go_ret
            exact ⟨rfl, unhide HS _ y.h⟩
          · cases h4 : decide (n ≤ hi)
            · go_enter Tryz.func59, Tryz.ntmps59
              go_wp2_with (go_at_call 103; refine (unhide BN _).mono ?_; rintro e w' ⟨rfl, hw'⟩; rw [hw']; clear hw' w')
              refine wp_region_sub (Sub.top w (Obj.cells #[.int .i64 op, .int .i64 sm, .int .i64 sr, .int .i64 sx, .int .i64 dm, .int .i64 dr, .int .i64 dx, .int .i64 n] 69)) (by kernel_rfl) (by kernel_rfl) ?_
              repeat (go_big_quiet_step (first | (go_at_call 101; exact Sub.same (unhide F1 _)) | (go_at_call 102; exact Sub.same (unhide F2 _)) | (go_at_call_of 104 sm; exact Sub.call (unhide HZ) (unhide FS' _)) | (go_at_call_of 104 dm; exact Sub.call (unhide HZ) (unhide FD' _))))
              refine wpQuiet_nil ?_
              intro y
              go_wp2
              go_ret
              exact ⟨rfl, unhide HS _ y.h⟩
            · go_enter Tryz.func59, Tryz.ntmps59
              go_wp2_with (go_at_call 103; refine (unhide BN _).mono ?_; rintro e w' ⟨rfl, hw'⟩; rw [hw']; clear hw' w')
              refine wp_region_sub (Sub.top w (Obj.cells #[.int .i64 op, .int .i64 sm, .int .i64 sr, .int .i64 sx, .int .i64 dm, .int .i64 dr, .int .i64 dx, .int .i64 n] 69)) (by kernel_rfl) (by kernel_rfl) ?_
              repeat (go_big_quiet_step (first | (go_at_call 101; exact Sub.same (unhide F1 _)) | (go_at_call 102; exact Sub.same (unhide F2 _)) | (go_at_call_of 104 sm; exact Sub.call (unhide HZ) (unhide FS' _)) | (go_at_call_of 104 dm; exact Sub.call (unhide HZ) (unhide FD' _))))
              refine wpQuiet_nil ?_
              intro y
              go_wp2
              go_ret
              exact ⟨rfl, unhide HS _ y.h⟩
    · have hin : inB op 1 23 = false := inB_fQ _ _ _ (by simp at *; omega)
      rw [hin, Bool.false_and]
      clear hin
      go_enter Tryz.func59, Tryz.ntmps59
      go_wp2
      go_ret
      exact ⟨rfl, unhide HS _ (Below.refl _ _)⟩
  · have hin : inB op 1 23 = false := inB_fQ _ _ _ (by simp at *; omega)
    rw [hin, Bool.false_and]
    clear hin
    go_enter Tryz.func59, Tryz.ntmps59
    go_wp2
    go_ret
    exact ⟨rfl, unhide HS _ (Below.refl _ _)⟩
set_option maxHeartbeats 4000000 in
theorem wordsI_anyQ (i : Is) (w : World) : Calls Tryz.prog 57 #[i.v] w fun e w' => e = .returned (.int .i64 i.words) ∧ Below w.heap.size w w' := by
  obtain ⟨op, ⟨sm, sr, sx⟩, ⟨dm, dr, dx⟩, n⟩ := i
  have HS := hide (box_below w (Obj.cells #[.int .i64 op, .int .i64 sm, .int .i64 sr, .int .i64 sx, .int .i64 dm, .int .i64 dr, .int .i64 dx, .int .i64 n] 69))
  have HZ := hide (show w.heap.size + 1 ≤ (w.alloc (Obj.cells #[.int .i64 op, .int .i64 sm, .int .i64 sr, .int .i64 sx, .int .i64 dm, .int .i64 dr, .int .i64 dx, .int .i64 n] 69)).heap.size by simp)
  have ne := Sub.ne (w.heap.size + 1) (w.alloc (Obj.cells #[.int .i64 op, .int .i64 sm, .int .i64 sr, .int .i64 sx, .int .i64 dm, .int .i64 dr, .int .i64 dx, .int .i64 n] 69))
  have c0 : ∀ y : Sub (w.heap.size + 1) (w.alloc (Obj.cells #[.int .i64 op, .int .i64 sm, .int .i64 sr, .int .i64 sx, .int .i64 dm, .int .i64 dr, .int .i64 dx, .int .i64 n] 69)), y.w.cell? ⟨w.heap.size, 0, none⟩ = some (.int .i64 op) := fun y => y.cells 0 _ rfl
  have c1 : ∀ y : Sub (w.heap.size + 1) (w.alloc (Obj.cells #[.int .i64 op, .int .i64 sm, .int .i64 sr, .int .i64 sx, .int .i64 dm, .int .i64 dr, .int .i64 dx, .int .i64 n] 69)), y.w.cell? ⟨w.heap.size, 1, none⟩ = some (.int .i64 sm) := fun y => y.cells 1 _ rfl
  have c2 : ∀ y : Sub (w.heap.size + 1) (w.alloc (Obj.cells #[.int .i64 op, .int .i64 sm, .int .i64 sr, .int .i64 sx, .int .i64 dm, .int .i64 dr, .int .i64 dx, .int .i64 n] 69)), y.w.cell? ⟨w.heap.size, 2, none⟩ = some (.int .i64 sr) := fun y => y.cells 2 _ rfl
  have c3 : ∀ y : Sub (w.heap.size + 1) (w.alloc (Obj.cells #[.int .i64 op, .int .i64 sm, .int .i64 sr, .int .i64 sx, .int .i64 dm, .int .i64 dr, .int .i64 dx, .int .i64 n] 69)), y.w.cell? ⟨w.heap.size, 3, none⟩ = some (.int .i64 sx) := fun y => y.cells 3 _ rfl
  have c4 : ∀ y : Sub (w.heap.size + 1) (w.alloc (Obj.cells #[.int .i64 op, .int .i64 sm, .int .i64 sr, .int .i64 sx, .int .i64 dm, .int .i64 dr, .int .i64 dx, .int .i64 n] 69)), y.w.cell? ⟨w.heap.size, 4, none⟩ = some (.int .i64 dm) := fun y => y.cells 4 _ rfl
  have c5 : ∀ y : Sub (w.heap.size + 1) (w.alloc (Obj.cells #[.int .i64 op, .int .i64 sm, .int .i64 sr, .int .i64 sx, .int .i64 dm, .int .i64 dr, .int .i64 dx, .int .i64 n] 69)), y.w.cell? ⟨w.heap.size, 5, none⟩ = some (.int .i64 dr) := fun y => y.cells 5 _ rfl
  have c6 : ∀ y : Sub (w.heap.size + 1) (w.alloc (Obj.cells #[.int .i64 op, .int .i64 sm, .int .i64 sr, .int .i64 sx, .int .i64 dm, .int .i64 dr, .int .i64 dx, .int .i64 n] 69)), y.w.cell? ⟨w.heap.size, 6, none⟩ = some (.int .i64 dx) := fun y => y.cells 6 _ rfl
  have c7 : ∀ y : Sub (w.heap.size + 1) (w.alloc (Obj.cells #[.int .i64 op, .int .i64 sm, .int .i64 sr, .int .i64 sx, .int .i64 dm, .int .i64 dr, .int .i64 dx, .int .i64 n] 69)), y.w.cell? ⟨w.heap.size, 7, none⟩ = some (.int .i64 n) := fun y => y.cells 7 _ rfl
  have FS := hide (fun w => hasXI_anyQ ⟨sm, sr, sx⟩ w)
  have FD := hide (fun w => hasXI_anyQ ⟨dm, dr, dx⟩ w)
  unfold Is.words
  simp only
  generalize Od.hasX ⟨sm, sr, sx⟩ = qs at FS ⊢
  generalize Od.hasX ⟨dm, dr, dx⟩ = qd at FD ⊢
  unfold Od.v at FS FD
  simp only at FS FD
  have F1 := hide (fun w => hasSrc_any op w)
  have F2 := hide (fun w => hasDst_any op w)
  generalize inB op 1 6 = p1 at F1 ⊢
  generalize inB op 1 15 = p2 at F2 ⊢
  unfold Is.v
  simp only
  cases p1
  · cases p2
    · go_enter Tryz.func57, Tryz.ntmps57
      go_wp2_with (first | (go_at_call 101; refine (unhide F1 _).mono ?_; rintro e w' ⟨rfl, hw'⟩; rw [hw']; clear hw' w') | (go_at_call 102; refine (unhide F2 _).mono ?_; rintro e w' ⟨rfl, hw'⟩; rw [hw']; clear hw' w'))
      go_ret
      exact ⟨rfl, unhide HS _ (Below.refl _ _)⟩
    · cases qd
      · go_enter Tryz.func57, Tryz.ntmps57
        go_wp2_with (first | (go_at_call 101; refine (unhide F1 _).mono ?_; rintro e w' ⟨rfl, hw'⟩; rw [hw']; clear hw' w') | (go_at_call 102; refine (unhide F2 _).mono ?_; rintro e w' ⟨rfl, hw'⟩; rw [hw']; clear hw' w'))
        refine (Sub.call (x := Sub.top w (Obj.cells #[.int .i64 op, .int .i64 sm, .int .i64 sr, .int .i64 sx, .int .i64 dm, .int .i64 dr, .int .i64 dx, .int .i64 n] 69)) (unhide HZ) (unhide FD _)).mono ?_
        rintro e _ ⟨rfl, y0, rfl⟩
        go_wp2_with (first | (go_at_call 101; refine (unhide F1 _).mono ?_; rintro e w' ⟨rfl, hw'⟩; rw [hw']; clear hw' w') | (go_at_call 102; refine (unhide F2 _).mono ?_; rintro e w' ⟨rfl, hw'⟩; rw [hw']; clear hw' w'))
        go_ret
        exact ⟨rfl, unhide HS _ y0.h⟩
      · go_enter Tryz.func57, Tryz.ntmps57
        go_wp2_with (first | (go_at_call 101; refine (unhide F1 _).mono ?_; rintro e w' ⟨rfl, hw'⟩; rw [hw']; clear hw' w') | (go_at_call 102; refine (unhide F2 _).mono ?_; rintro e w' ⟨rfl, hw'⟩; rw [hw']; clear hw' w'))
        refine (Sub.call (x := Sub.top w (Obj.cells #[.int .i64 op, .int .i64 sm, .int .i64 sr, .int .i64 sx, .int .i64 dm, .int .i64 dr, .int .i64 dx, .int .i64 n] 69)) (unhide HZ) (unhide FD _)).mono ?_
        rintro e _ ⟨rfl, y0, rfl⟩
        go_wp2_with (first | (go_at_call 101; refine (unhide F1 _).mono ?_; rintro e w' ⟨rfl, hw'⟩; rw [hw']; clear hw' w') | (go_at_call 102; refine (unhide F2 _).mono ?_; rintro e w' ⟨rfl, hw'⟩; rw [hw']; clear hw' w'))
        go_ret
        exact ⟨rfl, unhide HS _ y0.h⟩
  · cases qs
    · cases p2
      · go_enter Tryz.func57, Tryz.ntmps57
        go_wp2_with (first | (go_at_call 101; refine (unhide F1 _).mono ?_; rintro e w' ⟨rfl, hw'⟩; rw [hw']; clear hw' w') | (go_at_call 102; refine (unhide F2 _).mono ?_; rintro e w' ⟨rfl, hw'⟩; rw [hw']; clear hw' w'))
        refine (Sub.call (x := Sub.top w (Obj.cells #[.int .i64 op, .int .i64 sm, .int .i64 sr, .int .i64 sx, .int .i64 dm, .int .i64 dr, .int .i64 dx, .int .i64 n] 69)) (unhide HZ) (unhide FS _)).mono ?_
        rintro e _ ⟨rfl, y0, rfl⟩
        go_wp2_with (first | (go_at_call 101; refine (unhide F1 _).mono ?_; rintro e w' ⟨rfl, hw'⟩; rw [hw']; clear hw' w') | (go_at_call 102; refine (unhide F2 _).mono ?_; rintro e w' ⟨rfl, hw'⟩; rw [hw']; clear hw' w'))
        go_ret
        exact ⟨rfl, unhide HS _ y0.h⟩
      · cases qd
        · go_enter Tryz.func57, Tryz.ntmps57
          go_wp2_with (first | (go_at_call 101; refine (unhide F1 _).mono ?_; rintro e w' ⟨rfl, hw'⟩; rw [hw']; clear hw' w') | (go_at_call 102; refine (unhide F2 _).mono ?_; rintro e w' ⟨rfl, hw'⟩; rw [hw']; clear hw' w'))
          refine (Sub.call (x := Sub.top w (Obj.cells #[.int .i64 op, .int .i64 sm, .int .i64 sr, .int .i64 sx, .int .i64 dm, .int .i64 dr, .int .i64 dx, .int .i64 n] 69)) (unhide HZ) (unhide FS _)).mono ?_
          rintro e _ ⟨rfl, y0, rfl⟩
          go_wp2_with (first | (go_at_call 101; refine (unhide F1 _).mono ?_; rintro e w' ⟨rfl, hw'⟩; rw [hw']; clear hw' w') | (go_at_call 102; refine (unhide F2 _).mono ?_; rintro e w' ⟨rfl, hw'⟩; rw [hw']; clear hw' w'))
          refine (Sub.call (x := y0) (unhide HZ) (unhide FD _)).mono ?_
          rintro e _ ⟨rfl, y1, rfl⟩
          go_wp2_with (first | (go_at_call 101; refine (unhide F1 _).mono ?_; rintro e w' ⟨rfl, hw'⟩; rw [hw']; clear hw' w') | (go_at_call 102; refine (unhide F2 _).mono ?_; rintro e w' ⟨rfl, hw'⟩; rw [hw']; clear hw' w'))
          go_ret
          exact ⟨rfl, unhide HS _ y1.h⟩
        · go_enter Tryz.func57, Tryz.ntmps57
          go_wp2_with (first | (go_at_call 101; refine (unhide F1 _).mono ?_; rintro e w' ⟨rfl, hw'⟩; rw [hw']; clear hw' w') | (go_at_call 102; refine (unhide F2 _).mono ?_; rintro e w' ⟨rfl, hw'⟩; rw [hw']; clear hw' w'))
          refine (Sub.call (x := Sub.top w (Obj.cells #[.int .i64 op, .int .i64 sm, .int .i64 sr, .int .i64 sx, .int .i64 dm, .int .i64 dr, .int .i64 dx, .int .i64 n] 69)) (unhide HZ) (unhide FS _)).mono ?_
          rintro e _ ⟨rfl, y0, rfl⟩
          go_wp2_with (first | (go_at_call 101; refine (unhide F1 _).mono ?_; rintro e w' ⟨rfl, hw'⟩; rw [hw']; clear hw' w') | (go_at_call 102; refine (unhide F2 _).mono ?_; rintro e w' ⟨rfl, hw'⟩; rw [hw']; clear hw' w'))
          refine (Sub.call (x := y0) (unhide HZ) (unhide FD _)).mono ?_
          rintro e _ ⟨rfl, y1, rfl⟩
          go_wp2_with (first | (go_at_call 101; refine (unhide F1 _).mono ?_; rintro e w' ⟨rfl, hw'⟩; rw [hw']; clear hw' w') | (go_at_call 102; refine (unhide F2 _).mono ?_; rintro e w' ⟨rfl, hw'⟩; rw [hw']; clear hw' w'))
          go_ret
          exact ⟨rfl, unhide HS _ y1.h⟩
    · cases p2
      · go_enter Tryz.func57, Tryz.ntmps57
        go_wp2_with (first | (go_at_call 101; refine (unhide F1 _).mono ?_; rintro e w' ⟨rfl, hw'⟩; rw [hw']; clear hw' w') | (go_at_call 102; refine (unhide F2 _).mono ?_; rintro e w' ⟨rfl, hw'⟩; rw [hw']; clear hw' w'))
        refine (Sub.call (x := Sub.top w (Obj.cells #[.int .i64 op, .int .i64 sm, .int .i64 sr, .int .i64 sx, .int .i64 dm, .int .i64 dr, .int .i64 dx, .int .i64 n] 69)) (unhide HZ) (unhide FS _)).mono ?_
        rintro e _ ⟨rfl, y0, rfl⟩
        go_wp2_with (first | (go_at_call 101; refine (unhide F1 _).mono ?_; rintro e w' ⟨rfl, hw'⟩; rw [hw']; clear hw' w') | (go_at_call 102; refine (unhide F2 _).mono ?_; rintro e w' ⟨rfl, hw'⟩; rw [hw']; clear hw' w'))
        go_ret
        exact ⟨rfl, unhide HS _ y0.h⟩
      · cases qd
        · go_enter Tryz.func57, Tryz.ntmps57
          go_wp2_with (first | (go_at_call 101; refine (unhide F1 _).mono ?_; rintro e w' ⟨rfl, hw'⟩; rw [hw']; clear hw' w') | (go_at_call 102; refine (unhide F2 _).mono ?_; rintro e w' ⟨rfl, hw'⟩; rw [hw']; clear hw' w'))
          refine (Sub.call (x := Sub.top w (Obj.cells #[.int .i64 op, .int .i64 sm, .int .i64 sr, .int .i64 sx, .int .i64 dm, .int .i64 dr, .int .i64 dx, .int .i64 n] 69)) (unhide HZ) (unhide FS _)).mono ?_
          rintro e _ ⟨rfl, y0, rfl⟩
          go_wp2_with (first | (go_at_call 101; refine (unhide F1 _).mono ?_; rintro e w' ⟨rfl, hw'⟩; rw [hw']; clear hw' w') | (go_at_call 102; refine (unhide F2 _).mono ?_; rintro e w' ⟨rfl, hw'⟩; rw [hw']; clear hw' w'))
          refine (Sub.call (x := y0) (unhide HZ) (unhide FD _)).mono ?_
          rintro e _ ⟨rfl, y1, rfl⟩
          go_wp2_with (first | (go_at_call 101; refine (unhide F1 _).mono ?_; rintro e w' ⟨rfl, hw'⟩; rw [hw']; clear hw' w') | (go_at_call 102; refine (unhide F2 _).mono ?_; rintro e w' ⟨rfl, hw'⟩; rw [hw']; clear hw' w'))
          go_ret
          exact ⟨rfl, unhide HS _ y1.h⟩
        · go_enter Tryz.func57, Tryz.ntmps57
          go_wp2_with (first | (go_at_call 101; refine (unhide F1 _).mono ?_; rintro e w' ⟨rfl, hw'⟩; rw [hw']; clear hw' w') | (go_at_call 102; refine (unhide F2 _).mono ?_; rintro e w' ⟨rfl, hw'⟩; rw [hw']; clear hw' w'))
          refine (Sub.call (x := Sub.top w (Obj.cells #[.int .i64 op, .int .i64 sm, .int .i64 sr, .int .i64 sx, .int .i64 dm, .int .i64 dr, .int .i64 dx, .int .i64 n] 69)) (unhide HZ) (unhide FS _)).mono ?_
          rintro e _ ⟨rfl, y0, rfl⟩
          go_wp2_with (first | (go_at_call 101; refine (unhide F1 _).mono ?_; rintro e w' ⟨rfl, hw'⟩; rw [hw']; clear hw' w') | (go_at_call 102; refine (unhide F2 _).mono ?_; rintro e w' ⟨rfl, hw'⟩; rw [hw']; clear hw' w'))
          refine (Sub.call (x := y0) (unhide HZ) (unhide FD _)).mono ?_
          rintro e _ ⟨rfl, y1, rfl⟩
          go_wp2_with (first | (go_at_call 101; refine (unhide F1 _).mono ?_; rintro e w' ⟨rfl, hw'⟩; rw [hw']; clear hw' w') | (go_at_call 102; refine (unhide F2 _).mono ?_; rintro e w' ⟨rfl, hw'⟩; rw [hw']; clear hw' w'))
          go_ret
          exact ⟨rfl, unhide HS _ y1.h⟩
end Go.Proofs.YtjpbjbnialehbaaGreatDoor

namespace Go.Proofs.YtjpbjbnialehbaaGreatDoor
open Go.ChangeShapes Go.WideShapes Go.ChangeAt Go.RowKit
set_option linter.unusedVariables false
theorem and_high (n k j : Nat) (h : n < 2 ^ (k + j)) : n &&& ((2 ^ j - 1) * 2 ^ k) = n / 2 ^ k * 2 ^ k := by
  apply Nat.eq_of_testBit_eq
  intro i
  rw [Nat.testBit_and, Nat.testBit_mul_two_pow, Nat.testBit_mul_two_pow, Nat.testBit_two_pow_sub_one, Nat.testBit_div_two_pow]
  by_cases hi : k ≤ i
  · have e : k + (i - k) = i := by omega
    have e2 : i - k + k = i := by omega
    simp only [hi, e2, decide_true, Bool.true_and]
    by_cases hj : i - k < j
    · simp [hj]
    · have : n.testBit i = false := Nat.testBit_lt_two_pow (Nat.lt_of_lt_of_le h (Nat.pow_le_pow_right (by omega) (by omega)))
      simp [hj, this]
  · simp [hi]
theorem bits_and (n m : Nat) (hn : n < 65536) (hm : m < 65536) : bits .and .i64 (n : Int) (m : Int) = ((n &&& m : Nat) : Int) := by
  have key : (BitVec.ofInt 64 (n : Int) &&& BitVec.ofInt 64 (m : Int)).toNat = n &&& m := by
    rw [BitVec.toNat_and, BitVec.toNat_ofInt, BitVec.toNat_ofInt]
    have e1 : ((n : Int) % ((2 ^ 64 : Nat) : Int)).toNat = n := by omega
    have e2 : ((m : Int) % ((2 ^ 64 : Nat) : Int)).toNat = m := by omega
    rw [e1, e2]
  have hle : n &&& m ≤ n := Nat.and_le_left
  show IntKind.i64.wrap ((BitVec.ofInt 64 (n : Int) &&& BitVec.ofInt 64 (m : Int)).toNat : Nat) = _
  rw [key, IntKind.wrap_i64]
  omega
theorem and_F000 (n : Nat) (hn : n < 65536) : bits .and .i64 (n : Int) 61440 = ((n / 4096 * 4096 : Nat) : Int) := by
  rw [show (61440 : Int) = ((61440 : Nat) : Int) from rfl, bits_and n 61440 hn (by omega)]
  exact congrArg Int.ofNat (and_high n 12 4 (by simpa using hn))
theorem and_FFC0 (n : Nat) (hn : n < 65536) : bits .and .i64 (n : Int) 65472 = ((n / 64 * 64 : Nat) : Int) := by
  rw [show (65472 : Int) = ((65472 : Nat) : Int) from rfl, bits_and n 65472 hn (by omega)]
  exact congrArg Int.ofNat (and_high n 6 10 (by simpa using hn))
theorem and_FE00 (n : Nat) (hn : n < 65536) : bits .and .i64 (n : Int) 65024 = ((n / 512 * 512 : Nat) : Int) := by
  rw [show (65024 : Int) = ((65024 : Nat) : Int) from rfl, bits_and n 65024 hn (by omega)]
  exact congrArg Int.ofNat (and_high n 9 7 (by simpa using hn))
theorem and_FFF8 (n : Nat) (hn : n < 65536) : bits .and .i64 (n : Int) 65528 = ((n / 8 * 8 : Nat) : Int) := by
  rw [show (65528 : Int) = ((65528 : Nat) : Int) from rfl, bits_and n 65528 hn (by omega)]
  exact congrArg Int.ofNat (and_high n 3 13 (by simpa using hn))
theorem and_FF00 (n : Nat) (hn : n < 65536) : bits .and .i64 (n : Int) 65280 = ((n / 256 * 256 : Nat) : Int) := by
  rw [show (65280 : Int) = ((65280 : Nat) : Int) from rfl, bits_and n 65280 hn (by omega)]
  exact congrArg Int.ofNat (and_high n 8 8 (by simpa using hn))
theorem and_7 (n : Nat) (hn : n < 65536) : bits .and .i64 (n : Int) 7 = ((n % 8 : Nat) : Int) := by
  rw [show (7 : Int) = ((7 : Nat) : Int) from rfl, bits_and n 7 hn (by omega)]
  exact congrArg Int.ofNat (Nat.and_two_pow_sub_one_eq_mod n 3)
theorem and_FF (n : Nat) (hn : n < 65536) : bits .and .i64 (n : Int) 255 = ((n % 256 : Nat) : Int) := by
  rw [show (255 : Int) = ((255 : Nat) : Int) from rfl, bits_and n 255 hn (by omega)]
  exact congrArg Int.ofNat (Nat.and_two_pow_sub_one_eq_mod n 8)
theorem and_7i (n : Nat) (hn : n < 65536) : bits .and .i64 (n : Int) 7 = (n : Int) % 8 := by rw [and_7 n hn]; omega
theorem and_FFi (n : Nat) (hn : n < 65536) : bits .and .i64 (n : Int) 255 = (n : Int) % 256 := by rw [and_FF n hn]; omega
theorem sh3_7 (n : Nat) (hn : n < 65536) : bits .and .i64 ((n : Int) / 8) 7 = (n : Int) / 8 % 8 := by
  have := and_7i (n / 8) (by omega)
  rw [show ((n / 8 : Nat) : Int) = (n : Int) / 8 by omega] at this
  exact this
theorem sh6_7 (n : Nat) (hn : n < 65536) : bits .and .i64 ((n : Int) / 64) 7 = (n : Int) / 64 % 8 := by
  have := and_7i (n / 64) (by omega)
  rw [show ((n / 64 : Nat) : Int) = (n : Int) / 64 by omega] at this
  exact this
def opdOf (n : Int) : Od := ⟨n / 8 % 8, n % 8, 0⟩
set_option maxHeartbeats 1000000 in
theorem l4Opd_any (n : Nat) (hn : n < 65536) (w : World) : Calls Tryz.prog 119 #[.int .i64 (n : Int)] w fun e w' => e = .returned (opdOf (n : Int)).v ∧ Below w.heap.size w w' := by
  have h1 := and_7i n hn
  have h2 := sh3_7 n hn
  have HG : ∀ o, (w.alloc o).heap[w.heap.size]? = some o := fun o => Array.getElem?_push_size
  have HG' := hide HG
  clear HG
  unfold opdOf Od.v
  simp only
  go_enter Tryz.func119, Tryz.ntmps119
  go_wp2
  refine bodyPost_ret (results_cell_row (P := Tryz.prog) rfl _ _ w.heap.size 67 #[.int .i64 ((n : Int) / 8 % 8), .int .i64 ((n : Int) % 8), .int .i64 0] (0, 0) _ rfl (unhide HG' _) Tryz.underlying67 rfl (by kernel_rfl)) rfl ?_
  exact ⟨rfl, (Below.refl _ _).alloc (Nat.le_refl _) _⟩
end Go.Proofs.YtjpbjbnialehbaaGreatDoor

namespace Go.Proofs.YtjpbjbnialehbaaGreatDoor
open Go.ChangeShapes Go.WideShapes Go.ChangeAt Go.RowKit
set_option linter.unusedVariables false
set_option maxRecDepth 8000
set_option linter.unusedSimpArgs false
def formsA : Array Value := #[.int .i64 1, .int .i64 6, .int .i64 4096, .func (.func 127) #[] #[], .func (.func 128) #[] #[], .int .i64 7, .int .i64 14, .int .i64 64, .func (.func 129) #[] #[], .func (.func 130) #[] #[], .int .i64 15, .int .i64 15, .int .i64 512, .func (.func 131) #[] #[], .func (.func 132) #[] #[], .int .i64 16, .int .i64 16, .int .i64 8, .func (.func 133) #[] #[], .func (.func 134) #[] #[], .int .i64 17, .int .i64 21, .int .i64 256, .func (.func 135) #[] #[], .func (.func 136) #[] #[], .int .i64 22, .int .i64 22, .int .i64 1, .func (.func 133) #[] #[], .func (.func 134) #[] #[], .int .i64 23, .int .i64 23, .int .i64 256, .func (.func 133) #[] #[], .func (.func 134) #[] #[]]
theorem wpList_store_newQ {P : Program} {ops : Array Oper} {rest : List Oper} {o : Oper} {a : Act} {w : World} {Q : Exit → Act → World → Prop} (hgd : o.guard = none) (ty : TypeId) (x y : Operand) (ho : o.op = .store ty x y)
    (cells : Array Value) (hx : a.eval x = .pointer (some ⟨w.heap.size, 0, none⟩)) (hy : a.eval y = .agg cells) (old : Array Value) (hi : (P.info? ty).map (·.size) = some cells.size)
    (hold : old.size = cells.size) (h1 : cells.all (·.oneCell') = true) (h : wpList P ops Q rest (a.put o.dst undef) (w.alloc (.cells cells ty))) : wpList P ops Q (o :: rest) a (w.alloc (.cells old ty)) :=
  wpList_store_row hgd ty x y ho w.heap.size cells hx hy ty old (heap_alloc_last w _) hi hold h1 (by rw [World.setRow_alloc_new]; exact h)
set_option maxHeartbeats 1000000 in
theorem forms_any (w : World) : Calls Tryz.prog 100 #[] w fun e w' => e = .returned (.agg formsA) ∧ Below w.heap.size w w' := by
  have HG : ∀ o, (w.alloc o).heap[w.heap.size]? = some o := fun o => Array.getElem?_push_size
  have HG' := hide HG
  clear HG
  go_enter Tryz.func100, Tryz.ntmps100
  go_wp2_with (refine wpList_store_newQ rfl 112 _ _ rfl formsA rfl rfl _ (by kernel_rfl) rfl (by kernel_rfl) ?_)
  refine bodyPost_ret (results_cell_row (P := Tryz.prog) rfl _ _ w.heap.size 112 formsA (0, 0) _ rfl (unhide HG' _) Tryz.underlying112 rfl (by kernel_rfl)) rfl ?_
  exact ⟨rfl, (Below.refl _ _).alloc (Nat.le_refl _) _⟩
end Go.Proofs.YtjpbjbnialehbaaGreatDoor

namespace Go.Proofs.YtjpbjbnialehbaaGreatDoor
open Go.ChangeShapes Go.WideShapes Go.ChangeAt Go.RowKit
set_option linter.unusedVariables false
set_option maxRecDepth 8000
set_option linter.unusedSimpArgs false
/-- The table of least first words lies in its variable's cells. -/
def Tab (w : World) : Prop := 0 < w.heap.size ∧ ∀ k, k < 24 → w.cell? ⟨0, k, none⟩ = some (.int .i64 (baseAt k))
theorem Tab.later {w w' : World} (h : Tab w) (hb : Below w.heap.size w w') : Tab w' :=
  ⟨Nat.lt_of_lt_of_le h.1 hb.size, fun k hk => (hb.cell (p := ⟨0, k, none⟩) h.1).trans (h.2 k hk)⟩
def firstOf (j : Nat) : Nat := [1, 7, 15, 16, 17, 22, 23, 24].getD j 0
theorem wpList_index_at {P : Program} {ops : Array Oper} {rest : List Oper} {o : Oper} {a : Act} {w : World} {Q : Exit → Act → World → Prop} (hgd : o.guard = none) (xt : TypeId) (x ix : Operand) (ho : o.op = .index xt x ix) (cs : Array Value) (i : Int) (v : Value)
    (hx : a.eval x = .agg cs) (hi : a.eval ix = .int .i64 i) (hr : ∀ w, (Instr.index xt (.agg cs) (.int .i64 i)).run P w = .ok v w) (h : wpList P ops Q rest (a.put o.dst v) w) : wpList P ops Q (o :: rest) a w :=
  wpList_plain hgd fun _ hK => by
    unfold Oper.wp execOp
    simp only [ho, hx, hi, hr, Sem.run_bind, Sem.run_pure, Result.andThen_ok]
    exact hK _ _ h
theorem ix_0 (w : World) : (Instr.index 112 (.agg formsA) (.int .i64 0)).run Tryz.prog w = .ok (.agg #[.int .i64 1, .int .i64 6, .int .i64 4096, .func (.func 127) #[] #[], .func (.func 128) #[] #[]]) w := by kernel_rfl
theorem ix_1 (w : World) : (Instr.index 112 (.agg formsA) (.int .i64 1)).run Tryz.prog w = .ok (.agg #[.int .i64 7, .int .i64 14, .int .i64 64, .func (.func 129) #[] #[], .func (.func 130) #[] #[]]) w := by kernel_rfl
theorem ix_2 (w : World) : (Instr.index 112 (.agg formsA) (.int .i64 2)).run Tryz.prog w = .ok (.agg #[.int .i64 15, .int .i64 15, .int .i64 512, .func (.func 131) #[] #[], .func (.func 132) #[] #[]]) w := by kernel_rfl
theorem ix_3 (w : World) : (Instr.index 112 (.agg formsA) (.int .i64 3)).run Tryz.prog w = .ok (.agg #[.int .i64 16, .int .i64 16, .int .i64 8, .func (.func 133) #[] #[], .func (.func 134) #[] #[]]) w := by kernel_rfl
theorem ix_4 (w : World) : (Instr.index 112 (.agg formsA) (.int .i64 4)).run Tryz.prog w = .ok (.agg #[.int .i64 17, .int .i64 21, .int .i64 256, .func (.func 135) #[] #[], .func (.func 136) #[] #[]]) w := by kernel_rfl
theorem ix_5 (w : World) : (Instr.index 112 (.agg formsA) (.int .i64 5)).run Tryz.prog w = .ok (.agg #[.int .i64 22, .int .i64 22, .int .i64 1, .func (.func 133) #[] #[], .func (.func 134) #[] #[]]) w := by kernel_rfl
theorem ix_6 (w : World) : (Instr.index 112 (.agg formsA) (.int .i64 6)).run Tryz.prog w = .ok (.agg #[.int .i64 23, .int .i64 23, .int .i64 256, .func (.func 133) #[] #[], .func (.func 134) #[] #[]]) w := by kernel_rfl
end Go.Proofs.YtjpbjbnialehbaaGreatDoor

namespace Go.Proofs.YtjpbjbnialehbaaGreatDoor
open Go.ChangeShapes Go.WideShapes Go.ChangeAt Go.RowKit
set_option linter.unusedVariables false
set_option maxRecDepth 8000
set_option linter.unusedSimpArgs false
/-- A box with a function. -/
def Bx (w : World) (b k ty : Nat) : Prop := w.heap[b]? = some (.cells #[.func (.func k) #[] #[]] ty (0, 0))
theorem Bx.lt {w : World} {b k ty : Nat} (h : Bx w b k ty) : b < w.heap.size := (Array.getElem?_eq_some_iff.1 h).1
theorem Bx.later {w w' : World} {b k ty : Nat} (h : Bx w b k ty) (hb : Below w.heap.size w w') : Bx w' b k ty := (hb.block b h.lt).trans h
/-- The boxes that are made. -/
structure Bxs (w0 w : World) (l : List (Nat × Nat × Nat)) : Prop where
  all : ∀ p ∈ l, w0.heap.size ≤ p.1 ∧ Bx w p.1 p.2.1 p.2.2
  bel : Below w0.heap.size w0 w
theorem Bxs.nil (w : World) : Bxs w w [] := ⟨(fun p hp => absurd hp List.not_mem_nil), Below.refl _ _⟩
theorem Bxs.more {w0 w w' : World} {l : List (Nat × Nat × Nat)} (h : Bxs w0 w l) {b k ty : Nat} (hl : w.heap.size ≤ b) (hx : Bx w' b k ty) (hb : Below w.heap.size w w') : Bxs w0 w' ((b, k, ty) :: l) :=
  ⟨fun p hp => by
    rcases List.mem_cons.1 hp with rfl | hp
    · exact ⟨Nat.le_trans h.bel.size hl, hx⟩
    · exact ⟨(h.all p hp).1, (h.all p hp).2.later hb⟩, h.bel.trans (hb.mono h.bel.size)⟩
theorem heap_alloc_last' (w : World) (o : Obj) : (w.alloc o).heap[w.heap.size]? = some o := Array.getElem?_push_size
theorem stored_c (k : Nat) (w : World) : Calls Tryz.prog 60 #[.func (.func k) #[] #[]] w fun e w' => ∃ b, e = .returned (.func (.func 105) #[] #[.pointer (some ⟨b, 0, none⟩)]) ∧ w.heap.size ≤ b ∧ Bx w' b k 119 ∧ Below w.heap.size w w' := by
  have hmf : ∀ (fn : Fn) (first cap : Array Value) (w : World), (Instr.makeFunc fn first cap).run Tryz.prog w = .ok (.func fn first cap) w := fun _ _ _ _ => rfl
  go_enter Tryz.func60, Tryz.ntmps60
  go_wp2
  go_ret
  exact ⟨w.heap.size, rfl, Nat.le_refl _, heap_alloc_last' w _, (Below.refl _ _).alloc (Nat.le_refl _) _⟩
theorem told_c (k : Nat) (w : World) : Calls Tryz.prog 62 #[.func (.func k) #[] #[]] w fun e w' => ∃ b, e = .returned (.func (.func 107) #[] #[.pointer (some ⟨b, 0, none⟩)]) ∧ w.heap.size ≤ b ∧ Bx w' b k 119 ∧ Below w.heap.size w w' := by
  have hmf : ∀ (fn : Fn) (first cap : Array Value) (w : World), (Instr.makeFunc fn first cap).run Tryz.prog w = .ok (.func fn first cap) w := fun _ _ _ _ => rfl
  go_enter Tryz.func62, Tryz.ntmps62
  go_wp2
  go_ret
  exact ⟨w.heap.size, rfl, Nat.le_refl _, heap_alloc_last' w _, (Below.refl _ _).alloc (Nat.le_refl _) _⟩
theorem branch_c (k : Nat) (w : World) : Calls Tryz.prog 78 #[.func (.func k) #[] #[]] w fun e w' => ∃ b, e = .returned (.func (.func 116) #[] #[.pointer (some ⟨b, 0, none⟩)]) ∧ w.heap.size ≤ b ∧ Bx w' b k 93 ∧ Below w.heap.size w w' := by
  have hmf : ∀ (fn : Fn) (first cap : Array Value) (w : World), (Instr.makeFunc fn first cap).run Tryz.prog w = .ok (.func fn first cap) w := fun _ _ _ _ => rfl
  go_enter Tryz.func78, Tryz.ntmps78
  go_wp2
  go_ret
  exact ⟨w.heap.size, rfl, Nat.le_refl _, heap_alloc_last' w _, (Below.refl _ _).alloc (Nat.le_refl _) _⟩
/-- The action of an Op; b: its box. -/
def actV (op b : Nat) : Value :=
  match op with
  | 1 => .func (.func 105) #[] #[.pointer (some ⟨b, 0, none⟩)]
  | 2 => .func (.func 107) #[] #[.pointer (some ⟨b, 0, none⟩)]
  | 3 => .func (.func 105) #[] #[.pointer (some ⟨b, 0, none⟩)]
  | 4 => .func (.func 105) #[] #[.pointer (some ⟨b, 0, none⟩)]
  | 5 => .func (.func 105) #[] #[.pointer (some ⟨b, 0, none⟩)]
  | 6 => .func (.func 105) #[] #[.pointer (some ⟨b, 0, none⟩)]
  | 7 => .func (.func 105) #[] #[.pointer (some ⟨b, 0, none⟩)]
  | 8 => .func (.func 105) #[] #[.pointer (some ⟨b, 0, none⟩)]
  | 9 => .func (.func 105) #[] #[.pointer (some ⟨b, 0, none⟩)]
  | 10 => .func (.func 105) #[] #[.pointer (some ⟨b, 0, none⟩)]
  | 11 => .func (.func 107) #[] #[.pointer (some ⟨b, 0, none⟩)]
  | 12 => .func (.func 105) #[] #[.pointer (some ⟨b, 0, none⟩)]
  | 13 => .func (.func 105) #[] #[.pointer (some ⟨b, 0, none⟩)]
  | 14 => .func (.func 75) #[] #[]
  | 15 => .func (.func 76) #[] #[]
  | 16 => .func (.func 77) #[] #[]
  | 17 => .func (.func 116) #[] #[.pointer (some ⟨b, 0, none⟩)]
  | 18 => .func (.func 116) #[] #[.pointer (some ⟨b, 0, none⟩)]
  | 19 => .func (.func 116) #[] #[.pointer (some ⟨b, 0, none⟩)]
  | 20 => .func (.func 116) #[] #[.pointer (some ⟨b, 0, none⟩)]
  | 21 => .func (.func 116) #[] #[.pointer (some ⟨b, 0, none⟩)]
  | 22 => .func (.func 84) #[] #[]
  | 23 => .func (.func 85) #[] #[]
  | _ => .nilFunc
/-- What lies in an action's box. -/
def actB (B : Nat) (w : World) (op b : Nat) : Prop :=
  match op with
  | 1 => B ≤ b ∧ Bx w b 61 119
  | 2 => B ≤ b ∧ Bx w b 63 119
  | 3 => B ≤ b ∧ Bx w b 64 119
  | 4 => B ≤ b ∧ Bx w b 65 119
  | 5 => B ≤ b ∧ Bx w b 66 119
  | 6 => B ≤ b ∧ Bx w b 67 119
  | 7 => B ≤ b ∧ Bx w b 68 119
  | 8 => B ≤ b ∧ Bx w b 69 119
  | 9 => B ≤ b ∧ Bx w b 70 119
  | 10 => B ≤ b ∧ Bx w b 71 119
  | 11 => B ≤ b ∧ Bx w b 72 119
  | 12 => B ≤ b ∧ Bx w b 73 119
  | 13 => B ≤ b ∧ Bx w b 74 119
  | 17 => B ≤ b ∧ Bx w b 79 93
  | 18 => B ≤ b ∧ Bx w b 80 93
  | 19 => B ≤ b ∧ Bx w b 81 93
  | 20 => B ≤ b ∧ Bx w b 82 93
  | 21 => B ≤ b ∧ Bx w b 83 93
  | _ => True
/-- Which box is whose. -/
def actSel (op : Nat) (l : List Nat) : Nat := l.getD (if op ≤ 13 then op - 1 else if 17 ≤ op then op - 4 else 20) 0
set_option maxHeartbeats 4000000 in
theorem actionOf_any (op : Nat) (h1 : 1 ≤ op) (h2 : op ≤ 23) (w : World) : Calls Tryz.prog 47 #[.int .i64 (op : Int)] w fun e w' => ∃ b, e = .returned (actV op b) ∧ actB w.heap.size w' op b ∧ Below w.heap.size w w' := by
  have S0 := hide (Bxs.nil w)
  have E := hide (show op = 1 ∨ op = 2 ∨ op = 3 ∨ op = 4 ∨ op = 5 ∨ op = 6 ∨ op = 7 ∨ op = 8 ∨ op = 9 ∨ op = 10 ∨ op = 11 ∨ op = 12 ∨ op = 13 ∨ op = 14 ∨ op = 15 ∨ op = 16 ∨ op = 17 ∨ op = 18 ∨ op = 19 ∨ op = 20 ∨ op = 21 ∨ op = 22 ∨ op = 23 by omega)
  clear h1 h2
  go_enter Tryz.func47, Tryz.ntmps47
  go_wp2_with fail
  refine (stored_c 61 _).mono ?_
  rintro e w1 ⟨b1, rfl, l1, x1, c1⟩
  have S1 := hide ((unhide S0).more l1 x1 c1)
  clear S0 l1 x1 c1
  go_wp2_with fail
  refine (told_c 63 _).mono ?_
  rintro e w2 ⟨b2, rfl, l2, x2, c2⟩
  have S2 := hide ((unhide S1).more l2 x2 c2)
  clear S1 l2 x2 c2
  go_wp2_with fail
  refine (stored_c 64 _).mono ?_
  rintro e w3 ⟨b3, rfl, l3, x3, c3⟩
  have S3 := hide ((unhide S2).more l3 x3 c3)
  clear S2 l3 x3 c3
  go_wp2_with fail
  refine (stored_c 65 _).mono ?_
  rintro e w4 ⟨b4, rfl, l4, x4, c4⟩
  have S4 := hide ((unhide S3).more l4 x4 c4)
  clear S3 l4 x4 c4
  go_wp2_with fail
  refine (stored_c 66 _).mono ?_
  rintro e w5 ⟨b5, rfl, l5, x5, c5⟩
  have S5 := hide ((unhide S4).more l5 x5 c5)
  clear S4 l5 x5 c5
  go_wp2_with fail
  refine (stored_c 67 _).mono ?_
  rintro e w6 ⟨b6, rfl, l6, x6, c6⟩
  have S6 := hide ((unhide S5).more l6 x6 c6)
  clear S5 l6 x6 c6
  go_wp2_with fail
  refine (stored_c 68 _).mono ?_
  rintro e w7 ⟨b7, rfl, l7, x7, c7⟩
  have S7 := hide ((unhide S6).more l7 x7 c7)
  clear S6 l7 x7 c7
  go_wp2_with fail
  refine (stored_c 69 _).mono ?_
  rintro e w8 ⟨b8, rfl, l8, x8, c8⟩
  have S8 := hide ((unhide S7).more l8 x8 c8)
  clear S7 l8 x8 c8
  go_wp2_with fail
  refine (stored_c 70 _).mono ?_
  rintro e w9 ⟨b9, rfl, l9, x9, c9⟩
  have S9 := hide ((unhide S8).more l9 x9 c9)
  clear S8 l9 x9 c9
  go_wp2_with fail
  refine (stored_c 71 _).mono ?_
  rintro e w10 ⟨b10, rfl, l10, x10, c10⟩
  have S10 := hide ((unhide S9).more l10 x10 c10)
  clear S9 l10 x10 c10
  go_wp2_with fail
  refine (told_c 72 _).mono ?_
  rintro e w11 ⟨b11, rfl, l11, x11, c11⟩
  have S11 := hide ((unhide S10).more l11 x11 c11)
  clear S10 l11 x11 c11
  go_wp2_with fail
  refine (stored_c 73 _).mono ?_
  rintro e w12 ⟨b12, rfl, l12, x12, c12⟩
  have S12 := hide ((unhide S11).more l12 x12 c12)
  clear S11 l12 x12 c12
  go_wp2_with fail
  refine (stored_c 74 _).mono ?_
  rintro e w13 ⟨b13, rfl, l13, x13, c13⟩
  have S13 := hide ((unhide S12).more l13 x13 c13)
  clear S12 l13 x13 c13
  go_wp2_with fail
  refine (branch_c 79 _).mono ?_
  rintro e w14 ⟨b14, rfl, l14, x14, c14⟩
  have S14 := hide ((unhide S13).more l14 x14 c14)
  clear S13 l14 x14 c14
  go_wp2_with fail
  refine (branch_c 80 _).mono ?_
  rintro e w15 ⟨b15, rfl, l15, x15, c15⟩
  have S15 := hide ((unhide S14).more l15 x15 c15)
  clear S14 l15 x15 c15
  go_wp2_with fail
  refine (branch_c 81 _).mono ?_
  rintro e w16 ⟨b16, rfl, l16, x16, c16⟩
  have S16 := hide ((unhide S15).more l16 x16 c16)
  clear S15 l16 x16 c16
  go_wp2_with fail
  refine (branch_c 82 _).mono ?_
  rintro e w17 ⟨b17, rfl, l17, x17, c17⟩
  have S17 := hide ((unhide S16).more l17 x17 c17)
  clear S16 l17 x17 c17
  go_wp2_with fail
  refine (branch_c 83 _).mono ?_
  rintro e w18 ⟨b18, rfl, l18, x18, c18⟩
  have S18 := hide ((unhide S17).more l18 x18 c18)
  clear S17 l18 x18 c18
  have IX := hide (show ∀ v : World, (Instr.index 94 (.agg #[.nilFunc, .func (.func 105) #[] #[.pointer (some ⟨b1, 0, none⟩)], .func (.func 107) #[] #[.pointer (some ⟨b2, 0, none⟩)], .func (.func 105) #[] #[.pointer (some ⟨b3, 0, none⟩)], .func (.func 105) #[] #[.pointer (some ⟨b4, 0, none⟩)], .func (.func 105) #[] #[.pointer (some ⟨b5, 0, none⟩)], .func (.func 105) #[] #[.pointer (some ⟨b6, 0, none⟩)], .func (.func 105) #[] #[.pointer (some ⟨b7, 0, none⟩)], .func (.func 105) #[] #[.pointer (some ⟨b8, 0, none⟩)], .func (.func 105) #[] #[.pointer (some ⟨b9, 0, none⟩)], .func (.func 105) #[] #[.pointer (some ⟨b10, 0, none⟩)], .func (.func 107) #[] #[.pointer (some ⟨b11, 0, none⟩)], .func (.func 105) #[] #[.pointer (some ⟨b12, 0, none⟩)], .func (.func 105) #[] #[.pointer (some ⟨b13, 0, none⟩)], .func (.func 75) #[] #[], .func (.func 76) #[] #[], .func (.func 77) #[] #[], .func (.func 116) #[] #[.pointer (some ⟨b14, 0, none⟩)], .func (.func 116) #[] #[.pointer (some ⟨b15, 0, none⟩)], .func (.func 116) #[] #[.pointer (some ⟨b16, 0, none⟩)], .func (.func 116) #[] #[.pointer (some ⟨b17, 0, none⟩)], .func (.func 116) #[] #[.pointer (some ⟨b18, 0, none⟩)], .func (.func 84) #[] #[], .func (.func 85) #[] #[]]) (.int .i64 (op : Int))).run Tryz.prog v = .ok (actV op (actSel op [b1, b2, b3, b4, b5, b6, b7, b8, b9, b10, b11, b12, b13, b14, b15, b16, b17, b18])) v by
    rcases unhide E with rfl | rfl | rfl | rfl | rfl | rfl | rfl | rfl | rfl | rfl | rfl | rfl | rfl | rfl | rfl | rfl | rfl | rfl | rfl | rfl | rfl | rfl | rfl <;> exact fun v => by kernel_rfl)
  have FB := hide (show actB w.heap.size w18 op (actSel op [b1, b2, b3, b4, b5, b6, b7, b8, b9, b10, b11, b12, b13, b14, b15, b16, b17, b18]) by
    rcases unhide E with rfl | rfl | rfl | rfl | rfl | rfl | rfl | rfl | rfl | rfl | rfl | rfl | rfl | rfl | rfl | rfl | rfl | rfl | rfl | rfl | rfl | rfl | rfl
    · exact (unhide S18).all (b1, _, _) (by simp)
    · exact (unhide S18).all (b2, _, _) (by simp)
    · exact (unhide S18).all (b3, _, _) (by simp)
    · exact (unhide S18).all (b4, _, _) (by simp)
    · exact (unhide S18).all (b5, _, _) (by simp)
    · exact (unhide S18).all (b6, _, _) (by simp)
    · exact (unhide S18).all (b7, _, _) (by simp)
    · exact (unhide S18).all (b8, _, _) (by simp)
    · exact (unhide S18).all (b9, _, _) (by simp)
    · exact (unhide S18).all (b10, _, _) (by simp)
    · exact (unhide S18).all (b11, _, _) (by simp)
    · exact (unhide S18).all (b12, _, _) (by simp)
    · exact (unhide S18).all (b13, _, _) (by simp)
    · exact trivial
    · exact trivial
    · exact trivial
    · exact (unhide S18).all (b14, _, _) (by simp)
    · exact (unhide S18).all (b15, _, _) (by simp)
    · exact (unhide S18).all (b16, _, _) (by simp)
    · exact (unhide S18).all (b17, _, _) (by simp)
    · exact (unhide S18).all (b18, _, _) (by simp)
    · exact trivial
    · exact trivial)
  have HB := hide (unhide S18).bel
  clear S18 E
  generalize actSel op [b1, b2, b3, b4, b5, b6, b7, b8, b9, b10, b11, b12, b13, b14, b15, b16, b17, b18] = bb at IX FB
  obtain ⟨vv, hvv⟩ : ∃ v, actV op bb = v := ⟨_, rfl⟩
  rw [hvv] at IX
  have HV := hide hvv
  clear hvv
  go_wp2_with (refine wpList_index_at rfl 94 _ _ rfl _ _ vv rfl rfl (unhide IX) ?_)
  go_ret
  exact ⟨bb, by rw [unhide HV]; rfl, unhide FB, unhide HB⟩
end Go.Proofs.YtjpbjbnialehbaaGreatDoor

namespace Go.Proofs.YtjpbjbnialehbaaGreatDoor
open Go.ChangeShapes Go.WideShapes Go.ChangeAt Go.RowKit
set_option linter.unusedVariables false
set_option maxRecDepth 8000
set_option linter.unusedSimpArgs false
section
variable {w : World} {b : Nat} {op sm sr dm dr : Nat} {sx dx n : Int} {ty : TypeId}
theorem insR (k : Nat) (v : Value) (h : w.heap[b]? = some (.cells #[.int .i64 (op : Int), .int .i64 (sm : Int), .int .i64 (sr : Int), .int .i64 sx, .int .i64 (dm : Int), .int .i64 (dr : Int), .int .i64 dx, .int .i64 n] ty (0, 0))) (hv : (#[.int .i64 (op : Int), .int .i64 (sm : Int), .int .i64 (sr : Int), .int .i64 sx, .int .i64 (dm : Int), .int .i64 (dr : Int), .int .i64 dx, .int .i64 n] : Array Value)[k]? = some v) : w.cell? ⟨b, k, none⟩ = some v := (cell_of_row w b k _ ty _ h).trans hv
end
def Ms.sB (t : Ms) (op sm sr : Nat) : Bool := if op ≤ 6 then t.opB sm sr else true
def Ms.sT (t : Ms) (op sm sr : Nat) : Ms := if op ≤ 6 then t.op sm sr else t
def Ms.sV (t : Ms) (op sm sr : Nat) : Int := if op ≤ 6 then t.opV sm sr else 0
theorem dk_sT {t : Ms} (h : Dk t.d) (op sm sr : Nat) : Dk (t.sT op sm sr).d := by
  unfold Ms.sT
  split
  · exact dk_op h sm sr
  · exact h
theorem sV_b {t : Ms} (h : Dk t.d) (op sm sr : Nat) : 0 ≤ t.sV op sm sr ∧ t.sV op sm sr ≤ 65535 := by
  unfold Ms.sV
  split
  · exact op_v h sm sr
  · omega
/-- Whether both operands can be reached. -/
def Ms.woB (t : Ms) (op sm sr dm dr : Nat) : Bool := t.sB op sm sr && (t.sT op sm sr).opB dm dr
def Ms.woT (t : Ms) (op sm sr dm dr : Nat) : Ms := (t.sT op sm sr).op dm dr
/-- An answer that is there or not. -/
structure OsE (ok : Bool) (s s0 : Int) (q : Option Addr) (p : Addr) (P F : Prop) : Prop where
  no : ok = false → q = none
  yes : ok = true → s = s0 ∧ q = some p ∧ P
  fm : F
/-- What operands answers. -/
def OsIs (g B gr rc op sm sr dm dr : Nat) (sx dx n : Int) (y : Mv) (t : Ms) (st : Int) (w : World) : Prop :=
  Calls Tryz.prog 138 #[.pointer (some ⟨g, 0, none⟩), .agg #[.int .i64 (op : Int), .int .i64 (sm : Int), .int .i64 (sr : Int), .int .i64 sx, .int .i64 (dm : Int), .int .i64 (dr : Int), .int .i64 dx, .int .i64 n]] w fun e w' => ∃ s q, e = .returned (.tuple #[.int .i64 s, .pointer q]) ∧ OsE (t.woB op sm sr dm dr) s (t.sV op sm sr) q ((t.sT op sm sr).opP g gr dm dr) (Pz w' g B gr rc y (t.woT op sm sr dm dr) st (t.woT op sm sr dm dr).d.m) (Fm w w' g y y)
set_option maxHeartbeats 4000000 in
theorem os_two (g B gr rc op sm sr dm dr : Nat) (sx dx n : Int) (y : Mv) (t : Ms) (st : Int) (w : World) (h : Pz w g B gr rc y t st t.d.m) (hk : Dk t.d) (h1 : 1 ≤ op) (h6 : op ≤ 6) (s7 : sm ≤ 7) (s8 : sr < 8) (d7 : dm ≤ 7) (d8 : dr < 8) : OsIs g B gr rc op sm sr dm dr sx dx n y t st w := by
  have GL := hide h.gl
  have YL := hide (fun b (hb : y.at b) => h.yl hb)
  have HS := hide (fun v => hasSrc_any (op : Int) v)
  rw [show inB (op : Int) 1 6 = true by unfold inB; simp; omega] at HS
  have H1 := hide (h.later (below_new w (Obj.cells #[.int .i64 (op : Int), .int .i64 (sm : Int), .int .i64 (sr : Int), .int .i64 sx, .int .i64 (dm : Int), .int .i64 (dr : Int), .int .i64 dx, .int .i64 n] 69)))
  have F1 := hide (Fm.of (g := g) (y := y) (below_new w (Obj.cells #[.int .i64 (op : Int), .int .i64 (sm : Int), .int .i64 (sr : Int), .int .i64 sx, .int .i64 (dm : Int), .int .i64 (dr : Int), .int .i64 dx, .int .i64 n] 69)))
  have R1 := hide (heap_alloc_last w (Obj.cells #[.int .i64 (op : Int), .int .i64 (sm : Int), .int .i64 (sr : Int), .int .i64 sx, .int .i64 (dm : Int), .int .i64 (dr : Int), .int .i64 dx, .int .i64 n] 69))
  have O1 := hide (operand_any g B gr rc sm sr sx y t st _ (unhide H1) hk s7 s8)
  have O2 := hide (fun v (p : Pz v g B gr rc y (t.op sm sr) st (t.op sm sr).d.m) => operand_any g B gr rc dm dr dx y (t.op sm sr) st v p (dk_op hk sm sr) d7 d8)
  have PL := hide (fun v (hb : t.opB sm sr = true) (p : Pz v g B gr rc y (t.op sm sr) st (t.op sm sr).d.m) => Pz.place2 hk s8 hb p)
  unfold OsIs Ms.woB Ms.woT Ms.sB Ms.sT Ms.sV
  simp only [if_pos h6]
  generalize t.opB sm sr = b1 at O1 PL ⊢
  generalize t.opP g gr sm sr = p1 at O1 PL
  generalize t.opV sm sr = v1 at PL ⊢
  generalize t.op sm sr = t1 at O1 O2 PL ⊢
  generalize t1.opB dm dr = b2 at O2 ⊢
  generalize t1.opP g gr dm dr = p2 at O2 ⊢
  generalize t1.op dm dr = t2 at O2 ⊢
  clear h hk
  have k0 := insR 0 _ (unhide R1) rfl
  have k1 := insR 1 _ (unhide R1) rfl
  have k2 := insR 2 _ (unhide R1) rfl
  have k3 := insR 3 _ (unhide R1) rfl
  cases b1
  · go_enter Tryz.func138, Tryz.ntmps138
    go_wp2_with fail
    refine (unhide HS _).mono ?_
    rintro e w9 ⟨rfl, hw9⟩
    rw [hw9]
    clear hw9 w9
    go_wp2_with fail
    refine (unhide O1).mono ?_
    rintro e w2 ⟨rfl, -, f2⟩
    have F2 := hide ((unhide F1).trans f2)
    clear f2 O1
    go_wp2
    go_ret2
    exact ⟨0, none, rfl, ⟨fun _ => rfl, fun h => by simp at h, unhide F2⟩⟩
  · go_enter Tryz.func138, Tryz.ntmps138
    go_wp2_with fail
    refine (unhide HS _).mono ?_
    rintro e w9 ⟨rfl, hw9⟩
    rw [hw9]
    clear hw9 w9
    go_wp2_with fail
    refine (unhide O1).mono ?_
    rintro e w2 ⟨rfl, p2, f2⟩
    have F2 := hide ((unhide F1).trans f2)
    have H2 := hide (p2 (by trivial))
    have R2 := hide (f2.row (unhide R1) (by have := unhide GL; omega) (fun e => by have := unhide YL _ e; omega))
    obtain ⟨cp, -⟩ := unhide PL _ (by trivial) (unhide H2)
    have OP := hide (unhide O2 _ (unhide H2))
    clear p2 f2 O1 O2 PL
    clear k0 k1 k2 k3
    have k4 := insR 4 _ (unhide R2) rfl
    have k5 := insR 5 _ (unhide R2) rfl
    have k6 := insR 6 _ (unhide R2) rfl
    go_wp2_with fail
    refine (unhide OP).mono ?_
    rintro e w3 ⟨rfl, p3, f3⟩
    have F3 := hide ((unhide F2).trans f3)
    have H3 := hide p3
    clear p3 f3 OP
    cases b2
    · go_wp2
      go_ret2
      exact ⟨v1, none, rfl, ⟨fun _ => rfl, fun h => by simp at h, unhide F3⟩⟩
    · go_wp2
      go_ret2
      exact ⟨v1, _, rfl, ⟨fun h => by simp at h, fun _ => ⟨rfl, rfl, unhide H3 (by trivial)⟩, unhide F3⟩⟩
set_option maxHeartbeats 4000000 in
theorem os_one (g B gr rc op sm sr dm dr : Nat) (sx dx n : Int) (y : Mv) (t : Ms) (st : Int) (w : World) (h : Pz w g B gr rc y t st t.d.m) (hk : Dk t.d) (h7 : 7 ≤ op) (d7 : dm ≤ 7) (d8 : dr < 8) : OsIs g B gr rc op sm sr dm dr sx dx n y t st w := by
  have GL := hide h.gl
  have YL := hide (fun b (hb : y.at b) => h.yl hb)
  have HS := hide (fun v => hasSrc_any (op : Int) v)
  rw [show inB (op : Int) 1 6 = false by unfold inB; simp; omega] at HS
  have H1 := hide (h.later (below_new w (Obj.cells #[.int .i64 (op : Int), .int .i64 (sm : Int), .int .i64 (sr : Int), .int .i64 sx, .int .i64 (dm : Int), .int .i64 (dr : Int), .int .i64 dx, .int .i64 n] 69)))
  have F1 := hide (Fm.of (g := g) (y := y) (below_new w (Obj.cells #[.int .i64 (op : Int), .int .i64 (sm : Int), .int .i64 (sr : Int), .int .i64 sx, .int .i64 (dm : Int), .int .i64 (dr : Int), .int .i64 dx, .int .i64 n] 69)))
  have R1 := hide (heap_alloc_last w (Obj.cells #[.int .i64 (op : Int), .int .i64 (sm : Int), .int .i64 (sr : Int), .int .i64 sx, .int .i64 (dm : Int), .int .i64 (dr : Int), .int .i64 dx, .int .i64 n] 69))
  have OP := hide (operand_any g B gr rc dm dr dx y t st _ (unhide H1) hk d7 d8)
  unfold OsIs Ms.woB Ms.woT Ms.sB Ms.sT Ms.sV
  simp only [if_neg (show ¬ op ≤ 6 by omega), Bool.true_and]
  generalize t.opB dm dr = b2 at OP ⊢
  generalize t.opP g gr dm dr = p2 at OP ⊢
  generalize t.op dm dr = t2 at OP ⊢
  clear h hk
  have k0 := insR 0 _ (unhide R1) rfl
  have k4 := insR 4 _ (unhide R1) rfl
  have k5 := insR 5 _ (unhide R1) rfl
  have k6 := insR 6 _ (unhide R1) rfl
  go_enter Tryz.func138, Tryz.ntmps138
  go_wp2_with fail
  refine (unhide HS _).mono ?_
  rintro e w9 ⟨rfl, hw9⟩
  rw [hw9]
  clear hw9 w9
  go_wp2_with fail
  refine (unhide OP).mono ?_
  rintro e w3 ⟨rfl, p3, f3⟩
  have F3 := hide ((unhide F1).trans f3)
  have H3 := hide p3
  clear p3 f3 OP
  cases b2
  · go_wp2
    go_ret2
    exact ⟨0, none, rfl, ⟨fun _ => rfl, fun h => by simp at h, unhide F3⟩⟩
  · go_wp2
    go_ret2
    exact ⟨0, _, rfl, ⟨fun h => by simp at h, fun _ => ⟨rfl, rfl, unhide H3 (by trivial)⟩, unhide F3⟩⟩
theorem os_any (g B gr rc op sm sr dm dr : Nat) (sx dx n : Int) (y : Mv) (t : Ms) (st : Int) (w : World) (h : Pz w g B gr rc y t st t.d.m) (hk : Dk t.d) (h1 : 1 ≤ op) (hs : op ≤ 6 → sm ≤ 7 ∧ sr < 8) (d7 : dm ≤ 7) (d8 : dr < 8) : OsIs g B gr rc op sm sr dm dr sx dx n y t st w := by
  by_cases h6 : op ≤ 6
  · exact os_two g B gr rc op sm sr dm dr sx dx n y t st w h hk h1 h6 (hs h6).1 (hs h6).2 d7 d8
  · exact os_one g B gr rc op sm sr dm dr sx dx n y t st w h hk (by omega) d7 d8
end Go.Proofs.YtjpbjbnialehbaaGreatDoor

namespace Go.Proofs.YtjpbjbnialehbaaGreatDoor
open Go.ChangeShapes Go.WideShapes Go.ChangeAt Go.RowKit
set_option linter.unusedVariables false
set_option maxRecDepth 8000
set_option linter.unusedSimpArgs false
theorem Fm.src {w w1 : World} {g : Nat} {y y1 y2 : Mv} (h : Fm w w1 g y y1) (e : ∀ b, y2.at b ↔ y.at b) : Fm w w1 g y2 y1 :=
  ⟨h.os, h.tape, h.output, h.size, fun k hk hg hy => h.blk k hk hg (fun c => hy ((e k).2 c)), fun b hb => (h.new b hb).elim (fun c => .inl ((e b).2 c)) .inr⟩
theorem Fm.dst {w w1 : World} {g : Nat} {y y1 y2 : Mv} (h : Fm w w1 g y y1) (e : ∀ b, y2.at b → y1.at b) : Fm w w1 g y y2 :=
  ⟨h.os, h.tape, h.output, h.size, h.blk, fun b hb => h.new b (e b hb)⟩
def wkS (t : Ms) (op sm sr dm dr : Nat) : Int := wkR op (t.sV op sm sr) ((t.sT op sm sr).opV dm dr)
def Ms.nzI (t : Ms) (r : Int) : Ms := { t with n := sgI r, z := (r == 0) }
def Mv.nzI (y : Mv) (r : Int) : Mv := { y with n := sgI r, z := (r == 0) }
def Ms.wo (t : Ms) (op sm sr dm dr : Nat) : Ms := ((t.woT op sm sr dm dr).wk op (t.sV op sm sr) ((t.sT op sm sr).opV dm dr)).nzI (wkS t op sm sr dm dr)
def Mv.wo (y : Mv) (t : Ms) (op sm sr dm dr : Nat) : Mv := (y.wk op (t.sV op sm sr) ((t.sT op sm sr).opV dm dr)).nzI (wkS t op sm sr dm dr)
theorem Pz.setNZ {w : World} {g B gr rc : Nat} {y : Mv} {t : Ms} {st : Int} {m0 : List Int} (h : Pz w g B gr rc y t st m0) (a b : Bool) : Pz ((w.setCell ⟨g, 258, none⟩ (.bool a)).setCell ⟨g, 259, none⟩ (.bool b)) g B gr rc { y with n := a, z := b } { t with n := a, z := b } st m0 ∧ Fm w ((w.setCell ⟨g, 258, none⟩ (.bool a)).setCell ⟨g, 259, none⟩ (.bool b)) g y { y with n := a, z := b } :=
  ⟨((h.setN a).1.setZ b).1, (h.setN a).2.trans ((h.setN a).1.setZ b).2⟩
/-- What workOut answers. -/
def WoIs (f g B gr rc op sm sr dm dr : Nat) (sx dx n : Int) (y : Mv) (t : Ms) (st : Int) (w : World) : Prop :=
  Calls Tryz.prog 106 #[.pointer (some ⟨g, 0, none⟩), .agg #[.int .i64 (op : Int), .int .i64 (sm : Int), .int .i64 (sr : Int), .int .i64 sx, .int .i64 (dm : Int), .int .i64 (dr : Int), .int .i64 dx, .int .i64 n], .func (.func f) #[] #[]] w fun e w' => ∃ s q, e = .returned (.tuple #[.int .i64 s, .pointer q]) ∧ OsE (t.woB op sm sr dm dr) s (wkS t op sm sr dm dr) q ((t.sT op sm sr).opP g gr dm dr) (Pz w' g B gr rc (y.wo t op sm sr dm dr) (t.wo op sm sr dm dr) st (t.woT op sm sr dm dr).d.m) (Fm w w' g y y)
set_option maxHeartbeats 4000000 in
theorem wo_any (f : Nat) (g B gr rc op sm sr dm dr : Nat) (sx dx n : Int) (y : Mv) (t : Ms) (st : Int) (w : World) (h : Pz w g B gr rc y t st t.d.m) (hk : Dk t.d) (h1 : 1 ≤ op) (h13 : op ≤ 13) (hs : op ≤ 6 → sm ≤ 7 ∧ sr < 8) (d7 : dm ≤ 7) (d8 : dr < 8) (wk : WkIs f op) (hcf : ∀ vs w, (callFunc f vs).run Tryz.prog w = .ok (.enter f vs) w) : WoIs f g B gr rc op sm sr dm dr sx dx n y t st w := by
  have H1 := hide (h.later (below_new w (Obj.cells #[.int .i64 (op : Int), .int .i64 (sm : Int), .int .i64 (sr : Int), .int .i64 sx, .int .i64 (dm : Int), .int .i64 (dr : Int), .int .i64 dx, .int .i64 n] 69)))
  have F1 := hide (Fm.of (g := g) (y := y) (below_new w (Obj.cells #[.int .i64 (op : Int), .int .i64 (sm : Int), .int .i64 (sr : Int), .int .i64 sx, .int .i64 (dm : Int), .int .i64 (dr : Int), .int .i64 dx, .int .i64 n] 69)))
  have OS := hide (os_any g B gr rc op sm sr dm dr sx dx n y t st _ (unhide H1) hk h1 hs d7 d8)
  have PL := hide (fun v (hb : t.woB op sm sr dm dr = true) (p : Pz v g B gr rc y (t.woT op sm sr dm dr) st (t.woT op sm sr dm dr).d.m) => Pz.place2 (dk_sT hk op sm sr) d8 (show (t.sT op sm sr).opB dm dr = true by unfold Ms.woB at hb; simp only [Bool.and_eq_true] at hb; exact hb.2) p)
  have VB := sV_b hk op sm sr
  have DB := op_v (dk_sT hk op sm sr) dm dr
  have WK := hide (fun v (p : Pz v g B gr rc y (t.woT op sm sr dm dr) st (t.woT op sm sr dm dr).d.m) => wk g B gr rc y (t.woT op sm sr dm dr) st _ (t.sV op sm sr) ((t.sT op sm sr).opV dm dr) v p VB.1 VB.2 DB.1 DB.2)
  have HS := hide (fun v => hasSign_any (wkS t op sm sr dm dr) v)
  unfold OsIs at OS
  unfold WoIs Ms.wo Mv.wo
  rw [← show wkS t op sm sr dm dr = wkR op (t.sV op sm sr) ((t.sT op sm sr).opV dm dr) from rfl] at WK
  have FA := hide (show ∀ b, (y.wk op (t.sV op sm sr) ((t.sT op sm sr).opV dm dr)).at b ↔ y.at b from fun b => Iff.rfl)
  generalize y.wk op (t.sV op sm sr) ((t.sT op sm sr).opV dm dr) = y2 at WK FA ⊢
  generalize (t.woT op sm sr dm dr).wk op (t.sV op sm sr) ((t.sT op sm sr).opV dm dr) = t2 at WK ⊢
  generalize wkS t op sm sr dm dr = r at WK HS ⊢
  unfold Ms.nzI Mv.nzI
  generalize sgI r = r9 at HS ⊢
  generalize (t.woT op sm sr dm dr).d.m = m1 at OS PL WK ⊢
  generalize t.woT op sm sr dm dr = t1 at OS PL WK
  generalize t.woB op sm sr dm dr = ok at OS PL ⊢
  generalize t.sV op sm sr = sv at OS PL WK
  generalize (t.sT op sm sr).opV dm dr = dv at PL WK
  generalize (t.sT op sm sr).opP g gr dm dr = pp at OS PL ⊢
  clear h hk VB DB wk
  go_enter Tryz.func106, Tryz.ntmps106
  go_wp2_with fail
  refine (unhide OS).mono ?_
  rintro e w2 ⟨s, q, rfl, hs2⟩
  have F2 := hide ((unhide F1).trans hs2.fm)
  cases ok
  · obtain rfl := hs2.no rfl
    clear hs2 OS WK PL
    go_wp2
    go_ret2
    exact ⟨0, none, rfl, ⟨fun _ => rfl, fun h => by simp at h, unhide F2⟩⟩
  · obtain ⟨rfl, rfl, p2⟩ := hs2.yes rfl
    have C2 := (unhide PL _ (by trivial) p2).1
    have WC := hide (unhide WK _ p2)
    clear hs2 OS WK PL p2
    go_wp2_with fail
    refine (unhide WC).mono ?_
    rintro e w3 ⟨rfl, h3, f3⟩
    have F3 := hide ((unhide F2).trans f3)
    have c2 := h3.cell 2 _ rfl
    have e2 := h3.fz 258
    have c3 := h3.cell 3 _ rfl
    have e3 := h3.fz 259
    have H4 := hide (h3.setNZ r9 (r == 0))
    clear h3 f3 WC C2
    go_wp2_with fail
    refine (unhide HS _).mono ?_
    rintro e w9 ⟨rfl, hw9⟩
    rw [hw9]
    clear hw9 w9
    go_wp2
    go_ret2
    exact ⟨r, _, rfl, ⟨fun h => by simp at h, fun _ => ⟨rfl, rfl, (unhide H4).1⟩, ((unhide F3).trans (unhide H4).2).dst (fun b hb => (unhide FA b).2 hb)⟩⟩
/-- What an action answers. -/
structure AcE (ok : Bool) (P F : Prop) : Prop where
  yes : ok = true → P
  fm : F
/-- What stored's and told's actions answer. -/
def ActIs (k : Nat) (fb g B gr rc op sm sr dm dr : Nat) (sx dx n : Int) (y : Mv) (t t2 : Ms) (st : Int) (m0 : List Int) (w : World) : Prop :=
  Calls Tryz.prog k #[.pointer (some ⟨g, 0, none⟩), .agg #[.int .i64 (op : Int), .int .i64 (sm : Int), .int .i64 (sr : Int), .int .i64 sx, .int .i64 (dm : Int), .int .i64 (dr : Int), .int .i64 dx, .int .i64 n], .pointer (some ⟨fb, 0, none⟩)] w fun e w' => e = .returned (.bool (t.woB op sm sr dm dr)) ∧ AcE (t.woB op sm sr dm dr) (Pz w' g B gr rc (y.wo t op sm sr dm dr) t2 st m0) (Fm w w' g y y)
set_option maxHeartbeats 4000000 in
theorem told_any (f fb : Nat) (g B gr rc op sm sr dm dr : Nat) (sx dx n : Int) (y : Mv) (t : Ms) (st : Int) (w : World) (h : Pz w g B gr rc y t st t.d.m) (hk : Dk t.d) (h1 : 1 ≤ op) (h13 : op ≤ 13) (hs : op ≤ 6 → sm ≤ 7 ∧ sr < 8) (d7 : dm ≤ 7) (d8 : dr < 8) (wk : WkIs f op) (hcf : ∀ vs w, (callFunc f vs).run Tryz.prog w = .ok (.enter f vs) w) (hb : Bx w fb f 119) : ActIs 107 fb g B gr rc op sm sr dm dr sx dx n y t (t.wo op sm sr dm dr) st (t.woT op sm sr dm dr).d.m w := by
  have H1 := hide (h.later (below_new w (Obj.cells #[.int .i64 (op : Int), .int .i64 (sm : Int), .int .i64 (sr : Int), .int .i64 sx, .int .i64 (dm : Int), .int .i64 (dr : Int), .int .i64 dx, .int .i64 n] 69)))
  have F1 := hide (Fm.of (g := g) (y := y) (below_new w (Obj.cells #[.int .i64 (op : Int), .int .i64 (sm : Int), .int .i64 (sr : Int), .int .i64 sx, .int .i64 (dm : Int), .int .i64 (dr : Int), .int .i64 dx, .int .i64 n] 69)))
  have WO := hide (wo_any f g B gr rc op sm sr dm dr sx dx n y t st _ (unhide H1) hk h1 h13 hs d7 d8 wk hcf)
  have CF : (w.alloc (Obj.cells #[.int .i64 (op : Int), .int .i64 (sm : Int), .int .i64 (sr : Int), .int .i64 sx, .int .i64 (dm : Int), .int .i64 (dr : Int), .int .i64 dx, .int .i64 n] 69)).cell? ⟨fb, 0, none⟩ = some (.func (.func f) #[] #[]) := (cell_of_row _ fb 0 _ 119 _ (hb.later (below_new w (Obj.cells #[.int .i64 (op : Int), .int .i64 (sm : Int), .int .i64 (sr : Int), .int .i64 sx, .int .i64 (dm : Int), .int .i64 (dr : Int), .int .i64 dx, .int .i64 n] 69)))).trans rfl
  unfold WoIs at WO
  unfold ActIs
  generalize t.woB op sm sr dm dr = ok at WO ⊢
  generalize t.wo op sm sr dm dr = t2 at WO ⊢
  generalize y.wo t op sm sr dm dr = y2 at WO ⊢
  generalize (t.woT op sm sr dm dr).d.m = m1 at WO ⊢
  generalize (t.sT op sm sr).opP g gr dm dr = pp at WO
  generalize wkS t op sm sr dm dr = r at WO
  clear h hk hb wk
  go_enter Tryz.func107, Tryz.ntmps107
  go_wp2_with fail
  refine (unhide WO).mono ?_
  rintro e w2 ⟨s, q, rfl, hs2⟩
  have F2 := hide ((unhide F1).trans hs2.fm)
  cases ok
  · obtain rfl := hs2.no rfl
    clear hs2 WO
    go_wp2
    go_ret
    exact ⟨rfl, ⟨fun h => by simp at h, unhide F2⟩⟩
  · obtain ⟨rfl, rfl, p2⟩ := hs2.yes rfl
    have H2 := hide p2
    clear hs2 WO p2
    go_wp2
    go_ret
    exact ⟨rfl, ⟨fun _ => unhide H2, unhide F2⟩⟩
set_option maxHeartbeats 4000000 in
theorem stored_any (f fb : Nat) (g B gr rc op sm sr dm dr : Nat) (sx dx n : Int) (y : Mv) (t : Ms) (st : Int) (w : World) (h : Pz w g B gr rc y t st t.d.m) (hk : Dk t.d) (h1 : 1 ≤ op) (h13 : op ≤ 13) (hs : op ≤ 6 → sm ≤ 7 ∧ sr < 8) (d7 : dm ≤ 7) (d8 : dr < 8) (wk : WkIs f op) (hcf : ∀ vs w, (callFunc f vs).run Tryz.prog w = .ok (.enter f vs) w) (hb : Bx w fb f 119) (r0 : 0 ≤ wkS t op sm sr dm dr) (r1 : wkS t op sm sr dm dr ≤ 65535) : ActIs 105 fb g B gr rc op sm sr dm dr sx dx n y t ((t.wo op sm sr dm dr).st ((t.sT op sm sr).d.plR dm dr) ((t.sT op sm sr).d.plA dm dr) (wkS t op sm sr dm dr)) st (t.woT op sm sr dm dr).d.m w := by
  have H1 := hide (h.later (below_new w (Obj.cells #[.int .i64 (op : Int), .int .i64 (sm : Int), .int .i64 (sr : Int), .int .i64 sx, .int .i64 (dm : Int), .int .i64 (dr : Int), .int .i64 dx, .int .i64 n] 69)))
  have F1 := hide (Fm.of (g := g) (y := y) (below_new w (Obj.cells #[.int .i64 (op : Int), .int .i64 (sm : Int), .int .i64 (sr : Int), .int .i64 sx, .int .i64 (dm : Int), .int .i64 (dr : Int), .int .i64 dx, .int .i64 n] 69)))
  have WO := hide (wo_any f g B gr rc op sm sr dm dr sx dx n y t st _ (unhide H1) hk h1 h13 hs d7 d8 wk hcf)
  have CF : (w.alloc (Obj.cells #[.int .i64 (op : Int), .int .i64 (sm : Int), .int .i64 (sr : Int), .int .i64 sx, .int .i64 (dm : Int), .int .i64 (dr : Int), .int .i64 dx, .int .i64 n] 69)).cell? ⟨fb, 0, none⟩ = some (.func (.func f) #[] #[]) := (cell_of_row _ fb 0 _ 119 _ (hb.later (below_new w (Obj.cells #[.int .i64 (op : Int), .int .i64 (sm : Int), .int .i64 (sr : Int), .int .i64 sx, .int .i64 (dm : Int), .int .i64 (dr : Int), .int .i64 dx, .int .i64 n] 69)))).trans rfl
  unfold WoIs at WO
  have PL := hide (show ∀ v m1, t.woB op sm sr dm dr = true → Pz v g B gr rc (y.wo t op sm sr dm dr) (t.wo op sm sr dm dr) st m1 → _ from fun v m1 (hb : t.woB op sm sr dm dr = true) (p : Pz v g B gr rc (y.wo t op sm sr dm dr) (t.wo op sm sr dm dr) st m1) =>
    (show v.cell? ((t.sT op sm sr).opP g gr dm dr) = some (.int .i64 ((t.sT op sm sr).opV dm dr)) ∧ v.frozen? ((t.sT op sm sr).opP g gr dm dr) = false ∧ (Pz (v.setCell ((t.sT op sm sr).opP g gr dm dr) (.int .i64 (wkS t op sm sr dm dr))) g B gr rc (y.wo t op sm sr dm dr) ((t.wo op sm sr dm dr).st ((t.sT op sm sr).d.plR dm dr) ((t.sT op sm sr).d.plA dm dr) (wkS t op sm sr dm dr)) st m1 ∧ Fm v (v.setCell ((t.sT op sm sr).opP g gr dm dr) (.int .i64 (wkS t op sm sr dm dr))) g (y.wo t op sm sr dm dr) (y.wo t op sm sr dm dr)) from by
      unfold Ms.woB Ms.opB at hb
      simp only [Bool.and_eq_true] at hb
      obtain ⟨a, b, c⟩ := p.place (r := (t.sT op sm sr).d.plR dm dr) (a := (t.sT op sm sr).d.plA dm dr) hb.2.2 (pl_sh (dk_sT hk op sm sr) dm dr d8 hb.2.1)
      exact ⟨a, b, c _ r0 r1⟩))
  unfold ActIs
  have FA := hide (show ∀ b, (y.wo t op sm sr dm dr).at b ↔ y.at b from fun b => Iff.rfl)
  generalize t.woB op sm sr dm dr = ok at WO PL ⊢
  generalize (t.wo op sm sr dm dr).st ((t.sT op sm sr).d.plR dm dr) ((t.sT op sm sr).d.plA dm dr) (wkS t op sm sr dm dr) = t3 at PL ⊢
  generalize t.wo op sm sr dm dr = t2 at WO PL
  generalize y.wo t op sm sr dm dr = y2 at WO PL FA ⊢
  generalize (t.woT op sm sr dm dr).d.m = m1 at WO ⊢
  generalize (t.sT op sm sr).opP g gr dm dr = pp at WO PL
  generalize (t.sT op sm sr).opV dm dr = dv at PL
  generalize wkS t op sm sr dm dr = r at WO PL r0 r1
  clear h hk hb wk
  go_enter Tryz.func105, Tryz.ntmps105
  go_wp2_with fail
  refine (unhide WO).mono ?_
  rintro e w2 ⟨s, q, rfl, hs2⟩
  have F2 := hide ((unhide F1).trans hs2.fm)
  cases ok
  · obtain rfl := hs2.no rfl
    clear hs2 WO PL
    go_wp2
    go_ret
    exact ⟨rfl, ⟨fun h => by simp at h, unhide F2⟩⟩
  · obtain ⟨rfl, rfl, p2⟩ := hs2.yes rfl
    obtain ⟨c1, c2, c3⟩ := unhide PL _ _ (by trivial) p2
    have H3 := hide c3.1
    have F3 := hide ((unhide F2).trans ((c3.2.src (fun b => (unhide FA b).symm)).dst (fun b hb => (unhide FA b).2 hb)))
    clear hs2 WO p2 PL c3 CF
    go_wp2
    go_ret
    exact ⟨rfl, ⟨fun _ => unhide H3, unhide F3⟩⟩
end Go.Proofs.YtjpbjbnialehbaaGreatDoor

namespace Go.Proofs.YtjpbjbnialehbaaGreatDoor
open Go.ChangeShapes Go.WideShapes Go.ChangeAt Go.RowKit
set_option linter.unusedVariables false
set_option maxRecDepth 8000
set_option linter.unusedSimpArgs false
theorem Ms.rg_at (t : Ms) (k j : Nat) (v : Int) (h : j ≠ k) : nAt (t.rg k v).d.r j = nAt t.d.r j := by
  unfold Ms.rg Md.reg nAt
  simp [List.getElem?_set, Ne.symm h]
theorem Dk.rgk {t : Ms} (h : Dk t.d) (k : Nat) (v : Int) (v0 : 0 ≤ v) (v1 : v ≤ 65535) : Dk (t.rg k v).d := h.setR k v v0 v1
def Ms.back1 (t : Ms) (k : Nat) : Ms := t.rg 7 (nAt t.d.r k)
def Ms.back (t : Ms) (k : Nat) : Ms := ((t.back1 k).rg 6 ((nAt t.d.r 6 + 2) % 65536)).rg k ((t.back1 k).d.get (nAt t.d.r 6))
def BkIs (B g : Nat) (y : Mv) (t t2 : Ms) (st : Int) (k : Nat) (ok : Bool) (w : World) : Prop :=
  Calls Tryz.prog 94 #[.pointer (some ⟨g, 0, none⟩), .int .i64 (k : Int)] w fun e w' => e = .returned (.bool ok) ∧ (ok = true → Sm w' B g y t2 st) ∧ Fm w w' g y y
set_option maxHeartbeats 8000000 in
theorem back_false (B g k : Nat) (y : Mv) (t : Ms) (st : Int) (w : World) (h : Sm w B g y t st) (hk : Dk t.d) (hr : k < 8) (hq : (t.back1 k).d.has (nAt t.d.r 6) = false) : BkIs B g y t (t.back k) st k false w := by
  obtain ⟨gr, rc, er⟩ := h.regs hk.rl
  have ER := hide er
  have H8 := hide hk.rl
  have HR := hide hr
  have kr : (k : Int) < 8 := by omega
  have kn : ¬ (8 : Int) ≤ (k : Int) := by omega
  obtain ⟨a0, a1⟩ := hk.rw _ (nAt_mem (show k < t.d.r.length by have := hk.rl; omega))
  obtain ⟨s0, s1⟩ := hk.rw _ (nAt_mem (show 6 < t.d.r.length by have := hk.rl; omega))
  have E6 := hide (t.rg_at 7 6 (nAt t.d.r k) (by omega))
  have DK := hide (hk.rgk 7 (nAt t.d.r k) a0 a1)
  have H0 := hide h
  have F0 := hide (Fm.of (g := g) (y := y) (Below.refl w.heap.size w))
  unfold BkIs Ms.back Ms.back1
  rw [show (t.back1 k) = t.rg 7 (nAt t.d.r k) from rfl] at hq
  obtain ⟨ak, hak⟩ : ∃ q, nAt t.d.r k = q := ⟨_, rfl⟩
  obtain ⟨s6, hs6⟩ : ∃ q, nAt t.d.r 6 = q := ⟨_, rfl⟩
  have HA := hide hak
  have CA := hide (show w.drew.cell? ⟨gr, k, none⟩ = some (.int .i64 ak) by rw [((h.later (below_drew (w := w))).setR er k 0 (by have := hk.rl; omega)).2.2.1, hak])
  rw [hak] at a0 a1 E6 DK hq
  rw [hs6] at s0 s1 E6 hq
  rw [hak, hs6]
  clear hak hs6
  have HD := hide ((unhide H0).later (below_drew (w := w)))
  have SC := hide ((unhide HD).setR (unhide ER) 7 ak (by have := unhide H8; omega))
  have C0 := hide ((unhide HD).rcell (unhide ER))
  have C3 := hide (unhide SC).2.2.2
  have C4 := hide (show (w.drew.setCell ⟨gr, 7, none⟩ (.int .i64 ak)).cell? ⟨g, 1, none⟩ = some (.slice (some ⟨gr, 0, none⟩) 8 rc) from (unhide SC).1.rcell (unhide ER))
  have CK := hide (unhide SC).2.2.1
  have H1 := hide (unhide SC).1
  have F1 := hide ((unhide F0).trans ((Fm.of (below_drew (w := w))).trans (unhide SC).2.1))
  have T8 := hide (show (t.rg 7 ak).d.r.length = 8 by rw [Ms.rg_len, unhide H8])
  clear SC HD H0 F0 H8
  generalize t.rg 7 ak = t1 at H1 E6 DK hq T8 ⊢
  have RD6 := hide (fun v (r : RdM v y t1.d) => readS_any y t1.d s6 v ((unhide H1).small (unhide DK)) r)
  rw [hq] at RD6
  generalize t1.d.get s6 = u at RD6 ⊢
  clear h hk hq er
  go_enter Tryz.func94, Tryz.ntmps94
  go_wp2_with fail
  refine wp_region_held_drew (S := fun v => v.cell? ⟨g, 1, none⟩ = some (.slice (some ⟨gr, 0, none⟩) 8 rc)) (by kernel_rfl) (unhide C0) (fun hS => ?_)
  have HS := hide hS
  clear hS
  refine wpAnyH_take (i := 0) (v := .pointer (some ⟨g, 0, none⟩)) rfl (by kernel_rfl) (by kernel_rfl) (by kernel_rfl) (fun _ _ _ h => h) (Or.inl ⟨by rfl, fun w hc => ?_⟩) (unhide HS) ?_
  · clear hc; go_simp
  go_simp
  refine wpAnyH_take (i := 1) (v := .pointer (some ⟨g, 0, none⟩)) rfl (by kernel_rfl) (by kernel_rfl) (by kernel_rfl) (fun _ _ _ h => h) (Or.inl ⟨by rfl, fun w hc => ?_⟩) (unhide HS) ?_
  · clear hc; go_simp
  go_simp
  refine wpAnyH_take (i := 2) (v := .pointer (some ⟨g, 1, none⟩)) rfl (by kernel_rfl) (by kernel_rfl) (by kernel_rfl) (fun _ _ _ h => h) (Or.inl ⟨by rfl, fun w hc => ?_⟩) (unhide HS) ?_
  · clear hc; go_simp
  go_simp
  refine wpAnyH_take (i := 3) (v := .slice (some ⟨gr, 0, none⟩) 8 rc) rfl (by kernel_rfl) (by kernel_rfl) (by kernel_rfl) (fun _ _ _ h => h) (Or.inl ⟨by rfl, fun w hc => ?_⟩) (unhide HS) ?_
  · go_simp
  go_simp
  refine wpAnyH_take (i := 4) (v := .pointer (some ⟨g, 0, none⟩)) rfl (by kernel_rfl) (by kernel_rfl) (by kernel_rfl) (fun _ _ _ h => h) (Or.inl ⟨by rfl, fun w hc => ?_⟩) (unhide HS) ?_
  · clear hc; go_simp
  go_simp
  refine wpAnyH_take (i := 5) (v := .pointer (some ⟨g, 0, none⟩)) rfl (by kernel_rfl) (by kernel_rfl) (by kernel_rfl) (fun _ _ _ h => h) (Or.inl ⟨by rfl, fun w hc => ?_⟩) (unhide HS) ?_
  · clear hc; go_simp
  go_simp
  refine wpAnyH_take (i := 6) (v := .pointer (some ⟨g, 1, none⟩)) rfl (by kernel_rfl) (by kernel_rfl) (by kernel_rfl) (fun _ _ _ h => h) (Or.inl ⟨by rfl, fun w hc => ?_⟩) (unhide HS) ?_
  · clear hc; go_simp
  go_simp
  refine wpAnyH_take (i := 7) (v := .slice (some ⟨gr, 0, none⟩) 8 rc) rfl (by kernel_rfl) (by kernel_rfl) (by kernel_rfl) (fun _ _ _ h => h) (Or.inl ⟨by rfl, fun w hc => ?_⟩) (unhide HS) ?_
  · go_simp
  go_simp
  refine wpAnyH_take (i := 8) (v := .int .i64 (k : Int)) rfl (by kernel_rfl) (by kernel_rfl) (by kernel_rfl) (fun _ _ _ h => h) (Or.inl ⟨by rfl, fun w hc => ?_⟩) (unhide HS) ?_
  · clear hc; go_simp
  go_simp
  refine wpAnyH_take (i := 9) (v := .pointer (some ⟨gr, k, none⟩)) rfl (by kernel_rfl) (by kernel_rfl) (by kernel_rfl) (fun _ _ _ h => h) (Or.inl ⟨by rfl, fun w hc => ?_⟩) (unhide HS) ?_
  · clear hc; go_simp
  go_simp
  refine wpAnyH_ready (rs := [10]) (by kernel_rfl) (by simp) ?_
  refine AllReadyH.cons rfl (fun K2 hK => ?_) AllReadyH.nil
  have c2 := unhide CA
  go_simp
  clear c2
  refine hK.out _ _ (unhide C0) (fun hS => ?_)
  clear HS
  have HS := hide hS
  clear hS hK K2
  refine wpAnyH_take (i := 11) (v := .pointer (some ⟨gr, 7, none⟩)) rfl (by kernel_rfl) (by kernel_rfl) (by kernel_rfl) (fun _ _ _ h => h) (Or.inl ⟨by rfl, fun w hc => ?_⟩) (unhide HS) ?_
  · clear hc; go_simp
  go_simp
  refine wpAnyH_ready (rs := [12]) (by kernel_rfl) (by simp) ?_
  refine AllReadyH.cons rfl (fun K2 hK => ?_) AllReadyH.nil
  have c2 := unhide C3
  have c3 := unhide CK
  go_simp
  clear c2 c3
  refine hK.out _ _ (unhide C4) (fun hS => ?_)
  clear HS
  have HS := hide hS
  clear hS hK K2
  refine wpAnyH_done (by kernel_rfl) ?_ _
  clear HS C0 C3 CA CK
  generalize hwd : w.drew.setCell ⟨gr, 7, none⟩ (.int .i64 ak) = w1 at H1 F1 C4
  rw [show (w.setCell ⟨gr, 7, none⟩ (.int .i64 ak)).drew = w1 from hwd]
  clear hwd
  clear C4
  have HE := hide ((unhide H1).later (below_drew (w := w1)))
  have F2 := hide ((unhide F1).trans (Fm.of (below_drew (w := w1))))
  have C6 := hide (show w1.drew.cell? ⟨gr, 6, none⟩ = some (.int .i64 s6) by rw [((unhide HE).setR (unhide ER) 6 0 (by have := unhide T8; omega)).2.2.1, unhide E6])
  have C1 := hide ((unhide HE).rcell (unhide ER))
  clear H1 F1
  go_wp2_with fail
  refine wp_region_held_drew (S := fun v => v.heap[g]? = some (.cells y.cs 26 (0, 0)) ∧ v.cell? ⟨g, 1, none⟩ = some (.slice (some ⟨gr, 0, none⟩) 8 rc) ∧ v.cell? ⟨gr, 6, none⟩ = some (.int .i64 s6)) (by kernel_rfl) (⟨(unhide HE).row, unhide C1, unhide C6⟩) (fun hS => ?_)
  have HS := hide hS
  clear hS
  generalize w1.drew = wd at HE F2 C6 C1 HS ⊢
  refine wpAnyH_take (i := 0) (v := .pointer (some ⟨g, 0, none⟩)) rfl (by kernel_rfl) (by kernel_rfl) (by kernel_rfl) (fun _ _ _ h => h) (Or.inl ⟨by rfl, fun w hc => ?_⟩) (unhide HS) ?_
  · clear hc; go_simp
  go_simp
  refine wpAnyH_take (i := 1) (v := .pointer (some ⟨g, 0, none⟩)) rfl (by kernel_rfl) (by kernel_rfl) (by kernel_rfl) (fun _ _ _ h => h) (Or.inl ⟨by rfl, fun w hc => ?_⟩) (unhide HS) ?_
  · clear hc; go_simp
  go_simp
  refine wpAnyH_take (i := 2) (v := .agg y.cs) rfl (by kernel_rfl) (by kernel_rfl) (by kernel_rfl) (fun _ _ _ h => h) (yields_load rfl 26 _ rfl g rfl 26 y.cs _ (fun w h => h.1) Tryz.underlying26 rfl (by kernel_rfl)) (unhide HS) ?_
  go_simp
  refine wpAnyH_take (i := 3) (v := .pointer (some ⟨g, 0, none⟩)) rfl (by kernel_rfl) (by kernel_rfl) (by kernel_rfl) (fun _ _ _ h => h) (Or.inl ⟨by rfl, fun w hc => ?_⟩) (unhide HS) ?_
  · clear hc; go_simp
  go_simp
  refine wpAnyH_take (i := 4) (v := .pointer (some ⟨g, 0, none⟩)) rfl (by kernel_rfl) (by kernel_rfl) (by kernel_rfl) (fun _ _ _ h => h) (Or.inl ⟨by rfl, fun w hc => ?_⟩) (unhide HS) ?_
  · clear hc; go_simp
  go_simp
  refine wpAnyH_take (i := 5) (v := .pointer (some ⟨g, 1, none⟩)) rfl (by kernel_rfl) (by kernel_rfl) (by kernel_rfl) (fun _ _ _ h => h) (Or.inl ⟨by rfl, fun w hc => ?_⟩) (unhide HS) ?_
  · clear hc; go_simp
  go_simp
  refine wpAnyH_take (i := 6) (v := .slice (some ⟨gr, 0, none⟩) 8 rc) rfl (by kernel_rfl) (by kernel_rfl) (by kernel_rfl) (fun _ _ _ h => h) (Or.inl ⟨by rfl, fun w hc => ?_⟩) (unhide HS) ?_
  · obtain ⟨h1, h2, h3⟩ := hc; clear h1; go_simp
  go_simp
  refine wpAnyH_take (i := 7) (v := .pointer (some ⟨gr, 6, none⟩)) rfl (by kernel_rfl) (by kernel_rfl) (by kernel_rfl) (fun _ _ _ h => h) (Or.inl ⟨by rfl, fun w hc => ?_⟩) (unhide HS) ?_
  · clear hc; go_simp
  go_simp
  refine wpAnyH_take (i := 8) (v := .int .i64 s6) rfl (by kernel_rfl) (by kernel_rfl) (by kernel_rfl) (fun _ _ _ h => h) (Or.inl ⟨by rfl, fun w hc => ?_⟩) (unhide HS) ?_
  · obtain ⟨h1, h2, h3⟩ := hc; clear h1; go_simp
  go_simp
  refine wpAnyH_ready (rs := [9]) (by kernel_rfl) (by simp) ?_
  refine AllReadyH.cons rfl (fun K2 hK => ?_) AllReadyH.nil
  go_simp
  refine (unhide RD6 wd (unhide HE).own.rd).mono ?_
  rintro e w2 ⟨rfl, hb⟩
  have H2 := hide ((unhide HE).later hb)
  have F3 := hide ((unhide F2).trans (Fm.of hb))
  have C7 := hide (show w2.cell? ⟨gr, 6, none⟩ = some (.int .i64 s6) by rw [((unhide H2).setR (unhide ER) 6 0 (by have := unhide T8; omega)).2.2.1, unhide E6])
  refine hK.out _ _ ⟨(unhide H2).row, (unhide H2).rcell (unhide ER), unhide C7⟩ (fun hS => ?_)
  clear HS
  have HS := hide hS
  clear hS hK K2 hb RD6 HE F2 C6 C1
  refine wpAnyH_take (i := 10) (v := .tuple #[.int .i64 u, .bool false]) rfl (by kernel_rfl) (by kernel_rfl) (by kernel_rfl) (fun _ _ _ h => h) (Or.inl ⟨by rfl, fun w hc => ?_⟩) (unhide HS) ?_
  · clear hc; go_simp
  go_simp
  refine wpAnyH_take (i := 11) (v := .int .i64 u) rfl (by kernel_rfl) (by kernel_rfl) (by kernel_rfl) (fun _ _ _ h => h) (Or.inl ⟨by rfl, fun w hc => ?_⟩) (unhide HS) ?_
  · clear hc; go_simp
  go_simp
  refine wpAnyH_take (i := 12) (v := .bool false) rfl (by kernel_rfl) (by kernel_rfl) (by kernel_rfl) (fun _ _ _ h => h) (Or.inl ⟨by rfl, fun w hc => ?_⟩) (unhide HS) ?_
  · clear hc; go_simp
  go_simp
  refine wpAnyH_take (i := 13) (v := .int .i64 u) rfl (by kernel_rfl) (by kernel_rfl) (by kernel_rfl) (fun _ _ _ h => h) (Or.inl ⟨by rfl, fun w hc => ?_⟩) (unhide HS) ?_
  · clear hc; go_simp
  go_simp
  refine wpAnyH_take (i := 14) (v := .bool false) rfl (by kernel_rfl) (by kernel_rfl) (by kernel_rfl) (fun _ _ _ h => h) (Or.inl ⟨by rfl, fun w hc => ?_⟩) (unhide HS) ?_
  · clear hc; go_simp
  go_simp
  refine wpAnyH_done (by kernel_rfl) ?_ _
  clear HS
  go_wp2_with fail
  go_ret
  exact ⟨rfl, fun h => Bool.noConfusion h, unhide F3⟩
set_option maxHeartbeats 8000000 in
theorem back_true (B g k : Nat) (y : Mv) (t : Ms) (st : Int) (w : World) (h : Sm w B g y t st) (hk : Dk t.d) (hr : k < 8) (hq : (t.back1 k).d.has (nAt t.d.r 6) = true) : BkIs B g y t (t.back k) st k true w := by
  obtain ⟨gr, rc, er⟩ := h.regs hk.rl
  have ER := hide er
  have H8 := hide hk.rl
  have HR := hide hr
  have kr : (k : Int) < 8 := by omega
  have kn : ¬ (8 : Int) ≤ (k : Int) := by omega
  obtain ⟨a0, a1⟩ := hk.rw _ (nAt_mem (show k < t.d.r.length by have := hk.rl; omega))
  obtain ⟨s0, s1⟩ := hk.rw _ (nAt_mem (show 6 < t.d.r.length by have := hk.rl; omega))
  have E6 := hide (t.rg_at 7 6 (nAt t.d.r k) (by omega))
  have DK := hide (hk.rgk 7 (nAt t.d.r k) a0 a1)
  have H0 := hide h
  have F0 := hide (Fm.of (g := g) (y := y) (Below.refl w.heap.size w))
  unfold BkIs Ms.back Ms.back1
  rw [show (t.back1 k) = t.rg 7 (nAt t.d.r k) from rfl] at hq
  obtain ⟨ak, hak⟩ : ∃ q, nAt t.d.r k = q := ⟨_, rfl⟩
  obtain ⟨s6, hs6⟩ : ∃ q, nAt t.d.r 6 = q := ⟨_, rfl⟩
  have HA := hide hak
  have CA := hide (show w.drew.cell? ⟨gr, k, none⟩ = some (.int .i64 ak) by rw [((h.later (below_drew (w := w))).setR er k 0 (by have := hk.rl; omega)).2.2.1, hak])
  rw [hak] at a0 a1 E6 DK hq
  rw [hs6] at s0 s1 E6 hq
  rw [hak, hs6]
  clear hak hs6
  have HD := hide ((unhide H0).later (below_drew (w := w)))
  have SC := hide ((unhide HD).setR (unhide ER) 7 ak (by have := unhide H8; omega))
  have C0 := hide ((unhide HD).rcell (unhide ER))
  have C3 := hide (unhide SC).2.2.2
  have C4 := hide (show (w.drew.setCell ⟨gr, 7, none⟩ (.int .i64 ak)).cell? ⟨g, 1, none⟩ = some (.slice (some ⟨gr, 0, none⟩) 8 rc) from (unhide SC).1.rcell (unhide ER))
  have CK := hide (unhide SC).2.2.1
  have H1 := hide (unhide SC).1
  have F1 := hide ((unhide F0).trans ((Fm.of (below_drew (w := w))).trans (unhide SC).2.1))
  have T8 := hide (show (t.rg 7 ak).d.r.length = 8 by rw [Ms.rg_len, unhide H8])
  clear SC HD H0 F0 H8
  generalize t.rg 7 ak = t1 at H1 E6 DK hq T8 ⊢
  have RD6 := hide (fun v (r : RdM v y t1.d) => readS_any y t1.d s6 v ((unhide H1).small (unhide DK)) r)
  rw [hq] at RD6
  generalize t1.d.get s6 = u at RD6 ⊢
  clear h hk hq er
  go_enter Tryz.func94, Tryz.ntmps94
  go_wp2_with fail
  refine wp_region_held_drew (S := fun v => v.cell? ⟨g, 1, none⟩ = some (.slice (some ⟨gr, 0, none⟩) 8 rc)) (by kernel_rfl) (unhide C0) (fun hS => ?_)
  have HS := hide hS
  clear hS
  refine wpAnyH_take (i := 0) (v := .pointer (some ⟨g, 0, none⟩)) rfl (by kernel_rfl) (by kernel_rfl) (by kernel_rfl) (fun _ _ _ h => h) (Or.inl ⟨by rfl, fun w hc => ?_⟩) (unhide HS) ?_
  · clear hc; go_simp
  go_simp
  refine wpAnyH_take (i := 1) (v := .pointer (some ⟨g, 0, none⟩)) rfl (by kernel_rfl) (by kernel_rfl) (by kernel_rfl) (fun _ _ _ h => h) (Or.inl ⟨by rfl, fun w hc => ?_⟩) (unhide HS) ?_
  · clear hc; go_simp
  go_simp
  refine wpAnyH_take (i := 2) (v := .pointer (some ⟨g, 1, none⟩)) rfl (by kernel_rfl) (by kernel_rfl) (by kernel_rfl) (fun _ _ _ h => h) (Or.inl ⟨by rfl, fun w hc => ?_⟩) (unhide HS) ?_
  · clear hc; go_simp
  go_simp
  refine wpAnyH_take (i := 3) (v := .slice (some ⟨gr, 0, none⟩) 8 rc) rfl (by kernel_rfl) (by kernel_rfl) (by kernel_rfl) (fun _ _ _ h => h) (Or.inl ⟨by rfl, fun w hc => ?_⟩) (unhide HS) ?_
  · go_simp
  go_simp
  refine wpAnyH_take (i := 4) (v := .pointer (some ⟨g, 0, none⟩)) rfl (by kernel_rfl) (by kernel_rfl) (by kernel_rfl) (fun _ _ _ h => h) (Or.inl ⟨by rfl, fun w hc => ?_⟩) (unhide HS) ?_
  · clear hc; go_simp
  go_simp
  refine wpAnyH_take (i := 5) (v := .pointer (some ⟨g, 0, none⟩)) rfl (by kernel_rfl) (by kernel_rfl) (by kernel_rfl) (fun _ _ _ h => h) (Or.inl ⟨by rfl, fun w hc => ?_⟩) (unhide HS) ?_
  · clear hc; go_simp
  go_simp
  refine wpAnyH_take (i := 6) (v := .pointer (some ⟨g, 1, none⟩)) rfl (by kernel_rfl) (by kernel_rfl) (by kernel_rfl) (fun _ _ _ h => h) (Or.inl ⟨by rfl, fun w hc => ?_⟩) (unhide HS) ?_
  · clear hc; go_simp
  go_simp
  refine wpAnyH_take (i := 7) (v := .slice (some ⟨gr, 0, none⟩) 8 rc) rfl (by kernel_rfl) (by kernel_rfl) (by kernel_rfl) (fun _ _ _ h => h) (Or.inl ⟨by rfl, fun w hc => ?_⟩) (unhide HS) ?_
  · go_simp
  go_simp
  refine wpAnyH_take (i := 8) (v := .int .i64 (k : Int)) rfl (by kernel_rfl) (by kernel_rfl) (by kernel_rfl) (fun _ _ _ h => h) (Or.inl ⟨by rfl, fun w hc => ?_⟩) (unhide HS) ?_
  · clear hc; go_simp
  go_simp
  refine wpAnyH_take (i := 9) (v := .pointer (some ⟨gr, k, none⟩)) rfl (by kernel_rfl) (by kernel_rfl) (by kernel_rfl) (fun _ _ _ h => h) (Or.inl ⟨by rfl, fun w hc => ?_⟩) (unhide HS) ?_
  · clear hc; go_simp
  go_simp
  refine wpAnyH_ready (rs := [10]) (by kernel_rfl) (by simp) ?_
  refine AllReadyH.cons rfl (fun K2 hK => ?_) AllReadyH.nil
  have c2 := unhide CA
  go_simp
  clear c2
  refine hK.out _ _ (unhide C0) (fun hS => ?_)
  clear HS
  have HS := hide hS
  clear hS hK K2
  refine wpAnyH_take (i := 11) (v := .pointer (some ⟨gr, 7, none⟩)) rfl (by kernel_rfl) (by kernel_rfl) (by kernel_rfl) (fun _ _ _ h => h) (Or.inl ⟨by rfl, fun w hc => ?_⟩) (unhide HS) ?_
  · clear hc; go_simp
  go_simp
  refine wpAnyH_ready (rs := [12]) (by kernel_rfl) (by simp) ?_
  refine AllReadyH.cons rfl (fun K2 hK => ?_) AllReadyH.nil
  have c2 := unhide C3
  have c3 := unhide CK
  go_simp
  clear c2 c3
  refine hK.out _ _ (unhide C4) (fun hS => ?_)
  clear HS
  have HS := hide hS
  clear hS hK K2
  refine wpAnyH_done (by kernel_rfl) ?_ _
  clear HS C0 C3 CA CK
  generalize hwd : w.drew.setCell ⟨gr, 7, none⟩ (.int .i64 ak) = w1 at H1 F1 C4
  rw [show (w.setCell ⟨gr, 7, none⟩ (.int .i64 ak)).drew = w1 from hwd]
  clear hwd
  clear C4
  have HE := hide ((unhide H1).later (below_drew (w := w1)))
  have F2 := hide ((unhide F1).trans (Fm.of (below_drew (w := w1))))
  have C6 := hide (show w1.drew.cell? ⟨gr, 6, none⟩ = some (.int .i64 s6) by rw [((unhide HE).setR (unhide ER) 6 0 (by have := unhide T8; omega)).2.2.1, unhide E6])
  have C1 := hide ((unhide HE).rcell (unhide ER))
  clear H1 F1
  go_wp2_with fail
  refine wp_region_held_drew (S := fun v => v.heap[g]? = some (.cells y.cs 26 (0, 0)) ∧ v.cell? ⟨g, 1, none⟩ = some (.slice (some ⟨gr, 0, none⟩) 8 rc) ∧ v.cell? ⟨gr, 6, none⟩ = some (.int .i64 s6)) (by kernel_rfl) (⟨(unhide HE).row, unhide C1, unhide C6⟩) (fun hS => ?_)
  have HS := hide hS
  clear hS
  generalize w1.drew = wd at HE F2 C6 C1 HS ⊢
  refine wpAnyH_take (i := 0) (v := .pointer (some ⟨g, 0, none⟩)) rfl (by kernel_rfl) (by kernel_rfl) (by kernel_rfl) (fun _ _ _ h => h) (Or.inl ⟨by rfl, fun w hc => ?_⟩) (unhide HS) ?_
  · clear hc; go_simp
  go_simp
  refine wpAnyH_take (i := 1) (v := .pointer (some ⟨g, 0, none⟩)) rfl (by kernel_rfl) (by kernel_rfl) (by kernel_rfl) (fun _ _ _ h => h) (Or.inl ⟨by rfl, fun w hc => ?_⟩) (unhide HS) ?_
  · clear hc; go_simp
  go_simp
  refine wpAnyH_take (i := 2) (v := .agg y.cs) rfl (by kernel_rfl) (by kernel_rfl) (by kernel_rfl) (fun _ _ _ h => h) (yields_load rfl 26 _ rfl g rfl 26 y.cs _ (fun w h => h.1) Tryz.underlying26 rfl (by kernel_rfl)) (unhide HS) ?_
  go_simp
  refine wpAnyH_take (i := 3) (v := .pointer (some ⟨g, 0, none⟩)) rfl (by kernel_rfl) (by kernel_rfl) (by kernel_rfl) (fun _ _ _ h => h) (Or.inl ⟨by rfl, fun w hc => ?_⟩) (unhide HS) ?_
  · clear hc; go_simp
  go_simp
  refine wpAnyH_take (i := 4) (v := .pointer (some ⟨g, 0, none⟩)) rfl (by kernel_rfl) (by kernel_rfl) (by kernel_rfl) (fun _ _ _ h => h) (Or.inl ⟨by rfl, fun w hc => ?_⟩) (unhide HS) ?_
  · clear hc; go_simp
  go_simp
  refine wpAnyH_take (i := 5) (v := .pointer (some ⟨g, 1, none⟩)) rfl (by kernel_rfl) (by kernel_rfl) (by kernel_rfl) (fun _ _ _ h => h) (Or.inl ⟨by rfl, fun w hc => ?_⟩) (unhide HS) ?_
  · clear hc; go_simp
  go_simp
  refine wpAnyH_take (i := 6) (v := .slice (some ⟨gr, 0, none⟩) 8 rc) rfl (by kernel_rfl) (by kernel_rfl) (by kernel_rfl) (fun _ _ _ h => h) (Or.inl ⟨by rfl, fun w hc => ?_⟩) (unhide HS) ?_
  · obtain ⟨h1, h2, h3⟩ := hc; clear h1; go_simp
  go_simp
  refine wpAnyH_take (i := 7) (v := .pointer (some ⟨gr, 6, none⟩)) rfl (by kernel_rfl) (by kernel_rfl) (by kernel_rfl) (fun _ _ _ h => h) (Or.inl ⟨by rfl, fun w hc => ?_⟩) (unhide HS) ?_
  · clear hc; go_simp
  go_simp
  refine wpAnyH_take (i := 8) (v := .int .i64 s6) rfl (by kernel_rfl) (by kernel_rfl) (by kernel_rfl) (fun _ _ _ h => h) (Or.inl ⟨by rfl, fun w hc => ?_⟩) (unhide HS) ?_
  · obtain ⟨h1, h2, h3⟩ := hc; clear h1; go_simp
  go_simp
  refine wpAnyH_ready (rs := [9]) (by kernel_rfl) (by simp) ?_
  refine AllReadyH.cons rfl (fun K2 hK => ?_) AllReadyH.nil
  go_simp
  refine (unhide RD6 wd (unhide HE).own.rd).mono ?_
  rintro e w2 ⟨rfl, hb⟩
  have H2 := hide ((unhide HE).later hb)
  have F3 := hide ((unhide F2).trans (Fm.of hb))
  have C7 := hide (show w2.cell? ⟨gr, 6, none⟩ = some (.int .i64 s6) by rw [((unhide H2).setR (unhide ER) 6 0 (by have := unhide T8; omega)).2.2.1, unhide E6])
  refine hK.out _ _ ⟨(unhide H2).row, (unhide H2).rcell (unhide ER), unhide C7⟩ (fun hS => ?_)
  clear HS
  have HS := hide hS
  clear hS hK K2 hb RD6 HE F2 C6 C1
  refine wpAnyH_take (i := 10) (v := .tuple #[.int .i64 u, .bool true]) rfl (by kernel_rfl) (by kernel_rfl) (by kernel_rfl) (fun _ _ _ h => h) (Or.inl ⟨by rfl, fun w hc => ?_⟩) (unhide HS) ?_
  · clear hc; go_simp
  go_simp
  refine wpAnyH_take (i := 11) (v := .int .i64 u) rfl (by kernel_rfl) (by kernel_rfl) (by kernel_rfl) (fun _ _ _ h => h) (Or.inl ⟨by rfl, fun w hc => ?_⟩) (unhide HS) ?_
  · clear hc; go_simp
  go_simp
  refine wpAnyH_take (i := 12) (v := .bool true) rfl (by kernel_rfl) (by kernel_rfl) (by kernel_rfl) (fun _ _ _ h => h) (Or.inl ⟨by rfl, fun w hc => ?_⟩) (unhide HS) ?_
  · clear hc; go_simp
  go_simp
  refine wpAnyH_take (i := 13) (v := .int .i64 u) rfl (by kernel_rfl) (by kernel_rfl) (by kernel_rfl) (fun _ _ _ h => h) (Or.inl ⟨by rfl, fun w hc => ?_⟩) (unhide HS) ?_
  · clear hc; go_simp
  go_simp
  refine wpAnyH_take (i := 14) (v := .bool true) rfl (by kernel_rfl) (by kernel_rfl) (by kernel_rfl) (fun _ _ _ h => h) (Or.inl ⟨by rfl, fun w hc => ?_⟩) (unhide HS) ?_
  · clear hc; go_simp
  go_simp
  refine wpAnyH_done (by kernel_rfl) ?_ _
  clear HS
  have WR := hide (fun v => wrapS_any (s6 + 2) v)
  have HW := hide (show IntKind.i64.wrap (s6 + 2) = s6 + 2 by rw [IntKind.wrap_i64]; omega)
  have HD := hide ((unhide H2).later (below_drew (w := w2)))
  have SC := hide ((unhide HD).setR (unhide ER) 6 ((s6 + 2) % 65536) (by have := unhide T8; omega))
  have C0 := hide ((unhide HD).rcell (unhide ER))
  have C3 := hide (unhide SC).2.2.2
  have C4 := hide (show (w2.drew.setCell ⟨gr, 6, none⟩ (.int .i64 ((s6 + 2) % 65536))).cell? ⟨g, 1, none⟩ = some (.slice (some ⟨gr, 0, none⟩) 8 rc) from (unhide SC).1.rcell (unhide ER))
  have CK := hide (unhide SC).2.2.1
  have H4 := hide (unhide SC).1
  have F4 := hide ((unhide F3).trans ((Fm.of (below_drew (w := w2))).trans (unhide SC).2.1))
  rw [unhide E6] at CK
  have L4 := hide (show (t1.rg 6 ((s6 + 2) % 65536)).d.r.length = 8 by rw [Ms.rg_len, unhide T8])
  have HQ6 := hide (show ∃ q, (s6 + 2) % 65536 = q from ⟨_, rfl⟩)
  obtain ⟨X, hX⟩ := unhide HQ6
  have HX := hide hX
  rw [hX] at C4 H4 F4 L4 WR
  clear hX HQ6 SC HD H2 F3 C7
  go_wp2_with fail
  refine wp_region_held_drew (S := fun v => v.cell? ⟨g, 1, none⟩ = some (.slice (some ⟨gr, 0, none⟩) 8 rc)) (by kernel_rfl) (unhide C0) (fun hS => ?_)
  have HS := hide hS
  clear hS
  refine wpAnyH_take (i := 0) (v := .pointer (some ⟨g, 0, none⟩)) rfl (by kernel_rfl) (by kernel_rfl) (by kernel_rfl) (fun _ _ _ h => h) (Or.inl ⟨by rfl, fun w hc => ?_⟩) (unhide HS) ?_
  · clear hc; go_simp
  go_simp
  refine wpAnyH_take (i := 1) (v := .pointer (some ⟨g, 0, none⟩)) rfl (by kernel_rfl) (by kernel_rfl) (by kernel_rfl) (fun _ _ _ h => h) (Or.inl ⟨by rfl, fun w hc => ?_⟩) (unhide HS) ?_
  · clear hc; go_simp
  go_simp
  refine wpAnyH_take (i := 2) (v := .pointer (some ⟨g, 1, none⟩)) rfl (by kernel_rfl) (by kernel_rfl) (by kernel_rfl) (fun _ _ _ h => h) (Or.inl ⟨by rfl, fun w hc => ?_⟩) (unhide HS) ?_
  · clear hc; go_simp
  go_simp
  refine wpAnyH_take (i := 3) (v := .slice (some ⟨gr, 0, none⟩) 8 rc) rfl (by kernel_rfl) (by kernel_rfl) (by kernel_rfl) (fun _ _ _ h => h) (Or.inl ⟨by rfl, fun w hc => ?_⟩) (unhide HS) ?_
  · go_simp
  go_simp
  refine wpAnyH_take (i := 4) (v := .pointer (some ⟨g, 0, none⟩)) rfl (by kernel_rfl) (by kernel_rfl) (by kernel_rfl) (fun _ _ _ h => h) (Or.inl ⟨by rfl, fun w hc => ?_⟩) (unhide HS) ?_
  · clear hc; go_simp
  go_simp
  refine wpAnyH_take (i := 5) (v := .pointer (some ⟨g, 0, none⟩)) rfl (by kernel_rfl) (by kernel_rfl) (by kernel_rfl) (fun _ _ _ h => h) (Or.inl ⟨by rfl, fun w hc => ?_⟩) (unhide HS) ?_
  · clear hc; go_simp
  go_simp
  refine wpAnyH_take (i := 6) (v := .pointer (some ⟨g, 1, none⟩)) rfl (by kernel_rfl) (by kernel_rfl) (by kernel_rfl) (fun _ _ _ h => h) (Or.inl ⟨by rfl, fun w hc => ?_⟩) (unhide HS) ?_
  · clear hc; go_simp
  go_simp
  refine wpAnyH_take (i := 7) (v := .slice (some ⟨gr, 0, none⟩) 8 rc) rfl (by kernel_rfl) (by kernel_rfl) (by kernel_rfl) (fun _ _ _ h => h) (Or.inl ⟨by rfl, fun w hc => ?_⟩) (unhide HS) ?_
  · go_simp
  go_simp
  refine wpAnyH_take (i := 8) (v := .pointer (some ⟨gr, 6, none⟩)) rfl (by kernel_rfl) (by kernel_rfl) (by kernel_rfl) (fun _ _ _ h => h) (Or.inl ⟨by rfl, fun w hc => ?_⟩) (unhide HS) ?_
  · clear hc; go_simp
  go_simp
  refine wpAnyH_ready (rs := [9]) (by kernel_rfl) (by simp) ?_
  refine AllReadyH.cons rfl (fun K2 hK => ?_) AllReadyH.nil
  have c2 := unhide CK
  go_simp
  clear c2
  refine hK.out _ _ (unhide C0) (fun hS => ?_)
  clear HS
  have HS := hide hS
  clear hS hK K2
  refine wpAnyH_take (i := 10) (v := .int .i64 (s6 + 2)) rfl (by kernel_rfl) (by kernel_rfl) (by kernel_rfl) (fun _ _ _ h => h) (Or.inl ⟨by rfl, fun w hc => ?_⟩) (unhide HS) ?_
  · clear hc; have hw := unhide HW; go_simp
  go_simp
  refine wpAnyH_ready (rs := [11]) (by kernel_rfl) (by simp) ?_
  refine AllReadyH.cons rfl (fun K2 hK => ?_) AllReadyH.nil
  go_simp
  refine (unhide WR _).mono ?_
  rintro e w' ⟨rfl, hw'⟩
  rw [hw']
  clear hw' w'
  refine hK.out _ _ (unhide C0) (fun hS => ?_)
  clear HS
  have HS := hide hS
  clear hS hK K2
  refine wpAnyH_take (i := 12) (v := .pointer (some ⟨gr, 6, none⟩)) rfl (by kernel_rfl) (by kernel_rfl) (by kernel_rfl) (fun _ _ _ h => h) (Or.inl ⟨by rfl, fun w hc => ?_⟩) (unhide HS) ?_
  · clear hc; go_simp
  go_simp
  refine wpAnyH_ready (rs := [13]) (by kernel_rfl) (by simp) ?_
  refine AllReadyH.cons rfl (fun K2 hK => ?_) AllReadyH.nil
  have c2 := unhide C3
  have c3 := unhide CK
  go_simp
  clear c2 c3
  refine hK.out _ _ (unhide C4) (fun hS => ?_)
  clear HS
  have HS := hide hS
  clear hS hK K2
  refine wpAnyH_done (by kernel_rfl) ?_ _
  clear HS C0 C3 CK
  generalize hwd : w2.drew.setCell ⟨gr, 6, none⟩ (.int .i64 X) = w4 at H4 F4 C4
  rw [show (w2.setCell ⟨gr, 6, none⟩ (.int .i64 X)).drew = w4 from hwd]
  clear hwd
  have c1 := unhide C4
  have SK := hide ((unhide H4).setR (unhide ER) k u (by have := unhide L4; omega))
  have c2 := (unhide SK).2.2.1
  have c3 := (unhide SK).2.2.2
  have H5 := hide (unhide SK).1
  have F5 := hide ((unhide F4).trans (unhide SK).2.1)
  clear SK
  go_wp2_with fail
  go_ret
  refine ⟨rfl, fun _ => ?_, unhide F5⟩
  rw [unhide HX]
  exact unhide H5
theorem back_any (B g k : Nat) (y : Mv) (t : Ms) (st : Int) (w : World) (h : Sm w B g y t st) (hk : Dk t.d) (hr : k < 8) : BkIs B g y t (t.back k) st k ((t.back1 k).d.has (nAt t.d.r 6)) w := by
  obtain ⟨q, hq⟩ : ∃ q, (t.back1 k).d.has (nAt t.d.r 6) = q := ⟨_, rfl⟩
  rw [hq]
  cases q
  · exact back_false B g k y t st w h hk hr hq
  · exact back_true B g k y t st w h hk hr hq
end Go.Proofs.YtjpbjbnialehbaaGreatDoor
