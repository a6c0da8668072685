/- For every code drawn from, the law on what is stored answers true: what the program stores in the place of a drawn operand it loads from there again, and the machine stays right; where there is no such word it says so; nothing that came in is written into. No condition. -/
import Derived.Test.YtfkmibgamkignaaRows
import Derived.Test.YtfkmibgamkignaaBndL
import Derived.WalkKit
import Derived.ProofKit
import Derived.OpenShut
import Derived.ShutString
import Derived.ChangeOld
import Derived.Below
namespace Go.Proofs.Ytfkmibgamkignaa.fnStored
open Go.ChangeShapes Go.WideShapes Go.ChangeAt Go.RowKit
open Go.ChangeMaps (open_string shut_string)
set_option linter.unusedVariables false
set_option maxRecDepth 8000

theorem own : ownKnob Try.prog.godebug = none := by kernel_rfl
theorem laidOut : laidOutB Try.prog = true := by kernel_rfl

set_option maxHeartbeats 16000000 in
theorem walk (a : Option Addr) (len cap : Nat) (zs : List Int) (W : World) (r0 : IsRow .u8 W a len cap zs) :
    Calls Try.prog 5 #[.slice a len cap] W fun e W' => e = .returned (.bool true) ∧ Below W.heap.size W W' := by
  obtain ⟨xs, hl, lc, mcap, hr⟩ := rd_of_row r0
  unfold maxLen at mcap
  have L := hide (show Lc W W a xs from ⟨Below.refl _ _, hr⟩)
  clear r0 hr
  have BG := hide (fun w => big_free a len cap w (by omega))
  by_cases hbig : len ≤ 1048576
  rotate_left
  · have hd : decide ((1048576 : Int) < (len : Int)) = true := by simp; omega
    rw [hd] at BG
    clear L hd
    go_enter Try.func5, Try.ntmps5
    go_wp2_with (go_at_call 11; refine (unhide BG _).mono ?_; rintro e w' ⟨rfl, rfl⟩)
    go_ret
    exact ⟨rfl, Below.refl _ _⟩
  have hd : decide ((1048576 : Int) < (len : Int)) = false := by simp; omega
  rw [hd] at BG
  have HL := hide hl
  have P := hide (drawMach_any a len cap xs W hl hbig (unhide L).rd)
  clear hd hl
  go_enter Try.func5, Try.ntmps5
  go_wp2_with (first | (go_at_call 11; refine (unhide BG _).mono ?_; rintro e w' ⟨rfl, hw'⟩; rw [hw']; clear hw' w'))
  refine (unhide P).mono ?_
  rintro e w1 ⟨m, d, rfl, hst, hD, om_, hb⟩
  have T_ := hide ((unhide L).later hb)
  clear L
  have L := hide (unhide T_)
  clear T_
  have OM := hide om_
  have DK := hide hD
  have ST := hide hst
  clear hb om_ hD hst P BG
  have RM := hide (heap_alloc_last w1 (.cells m.cs 28))
  have T_ := hide ((unhide L).later (below_new w1 (.cells m.cs 28)))
  clear L
  have L := hide (unhide T_)
  clear T_
  have T_ := hide ((unhide OM).later (below_new w1 (.cells m.cs 28)))
  clear OM
  have OM := hide (unhide T_)
  clear T_
  have P := hide (drawP_any a len cap xs (w1.alloc (.cells m.cs 28)) (unhide HL) hbig (unhide L).rd)
  go_wp2_with (first | (refine wpList_store_new rfl 28 _ _ rfl m.cs rfl rfl _ (by kernel_rfl) rfl (Mv.cs_one _) ?_))
  refine (unhide P).mono ?_
  rintro e w2 ⟨mm, dmm, ⟨om, orr, ox⟩, rfl, -, hb⟩
  unfold Od.v
  simp only
  have T_ := hide ((unhide L).later hb)
  clear L
  have L := hide (unhide T_)
  clear T_
  have T_ := hide ((unhide OM).later hb)
  clear OM
  have OM := hide (unhide T_)
  clear T_
  have T_ := hide (row_lat (unhide RM) hb)
  clear RM
  have RM := hide (unhide T_)
  clear T_
  clear hb P
  have KI := hide (fun w (h : RdM w m d) => placeI_any m d ⟨om, orr, ox⟩ w (small_mv (unhide OM).rd (unhide DK).small) (unhide OM).nz h)
  have DD := hide (dk_pc (unhide DK) m.st ⟨om, orr, ox⟩)
  have DN := hide (pc_no d m.st ⟨om, orr, ox⟩)
  generalize d.pcR m.st ⟨om, orr, ox⟩ = pr at KI
  generalize d.pcA m.st ⟨om, orr, ox⟩ = pa at KI
  generalize d.pcO m.st ⟨om, orr, ox⟩ = ok at KI DN
  generalize d.pcD m.st ⟨om, orr, ox⟩ = D at KI DD DN
  unfold Od.v at KI
  simp only at KI
  have TB := hide (bw_new w2 #[.int .i64 0, .int .i64 0, .int .i64 0] 40)
  have T_ := hide ((unhide L).later (two_b w2 #[.int .i64 0, .int .i64 0, .int .i64 0] 40 mm.cs #[.int .i64 om, .int .i64 orr, .int .i64 ox]))
  clear L
  have L := hide (unhide T_)
  clear T_
  have T_ := hide ((unhide OM).later (two_b w2 #[.int .i64 0, .int .i64 0, .int .i64 0] 40 mm.cs #[.int .i64 om, .int .i64 orr, .int .i64 ox]))
  clear OM
  have OM := hide (unhide T_)
  clear T_
  have T_ := hide (row_lat (unhide RM) (two_b w2 #[.int .i64 0, .int .i64 0, .int .i64 0] 40 mm.cs #[.int .i64 om, .int .i64 orr, .int .i64 ox]))
  clear RM
  have RM := hide (unhide T_)
  clear T_
  have RN := hide (two_m w2 #[.int .i64 0, .int .i64 0, .int .i64 0] 40 mm.cs #[.int .i64 om, .int .i64 orr, .int .i64 ox])
  have RO := hide (two_p w2 #[.int .i64 0, .int .i64 0, .int .i64 0] 40 mm.cs #[.int .i64 om, .int .i64 orr, .int .i64 ox])
  have P := hide (unhide KI (two w2 #[.int .i64 0, .int .i64 0, .int .i64 0] 40 mm.cs #[.int .i64 om, .int .i64 orr, .int .i64 ox]) (unhide OM).rd)
  go_wp2_with (first | (refine wpList_store_row rfl 28 _ _ rfl w2.heap.size mm.cs rfl rfl 28 zMv.cs (unhide TB).rm (by kernel_rfl) rfl (Mv.cs_one _) ?_) | (refine wpList_store_row rfl 40 _ _ rfl (w2.heap.size + 1) #[.int .i64 om, .int .i64 orr, .int .i64 ox] rfl rfl 40 #[.int .i64 0, .int .i64 0, .int .i64 0] ((unhide TB).rp2 mm.cs) (by kernel_rfl) rfl (by simp [Value.oneCell']) ?_) | (refine wpList_load_row rfl 28 _ rfl (w1.heap.size) rfl 28 m.cs (0, 0) _ (unhide RM) Try.underlying28 rfl (by kernel_rfl) ?_) | (refine wpList_load_row rfl 40 _ rfl (w2.heap.size + 1) rfl 40 #[.int .i64 om, .int .i64 orr, .int .i64 ox] (0, 0) _ (unhide RO) Try.underlying40 rfl (by kernel_rfl) ?_))
  clear TB
  refine (unhide P).mono ?_
  rintro e w3 ⟨x, rfl, fx, ox_, hb⟩
  have T_ := hide ((unhide L).later hb)
  clear L
  have L := hide (unhide T_)
  clear T_
  have T_ := hide ((unhide OM).later hb)
  clear OM
  have OM := hide (unhide T_)
  clear T_
  have T_ := hide (row_lat (unhide RM) hb)
  clear RM
  have RM := hide (unhide T_)
  clear T_
  have T_ := hide (row_lat (unhide RN) hb)
  clear RN
  have RN := hide (unhide T_)
  clear T_
  have T_ := hide (row_lat (unhide RO) hb)
  clear RO
  have RO := hide (unhide T_)
  clear T_
  have OX := hide ox_
  have FX := hide fx
  clear hb ox_ fx P KI
  clear RN RO
  have TB := hide (bw_new w3 #[.int .i64 0, .int .i64 0] 44)
  have T_ := hide ((unhide L).later (two_b w3 #[.int .i64 0, .int .i64 0] 44 x.cs #[.int .i64 pr, .int .i64 pa]))
  clear L
  have L := hide (unhide T_)
  clear T_
  have T_ := hide ((unhide OM).later (two_b w3 #[.int .i64 0, .int .i64 0] 44 x.cs #[.int .i64 pr, .int .i64 pa]))
  clear OM
  have OM := hide (unhide T_)
  clear T_
  have T_ := hide (row_lat (unhide RM) (two_b w3 #[.int .i64 0, .int .i64 0] 44 x.cs #[.int .i64 pr, .int .i64 pa]))
  clear RM
  have RM := hide (unhide T_)
  clear T_
  have T_ := hide ((unhide OX).later (two_b w3 #[.int .i64 0, .int .i64 0] 44 x.cs #[.int .i64 pr, .int .i64 pa]))
  clear OX
  have OX := hide (unhide T_)
  clear T_
  have RX := hide (two_m w3 #[.int .i64 0, .int .i64 0] 44 x.cs #[.int .i64 pr, .int .i64 pa])
  have RP := hide (two_p w3 #[.int .i64 0, .int .i64 0] 44 x.cs #[.int .i64 pr, .int .i64 pa])
  cases ok
  · skip
    obtain rfl := unhide DN (by trivial)
    have P := hide (sameM_any x m D (two w3 #[.int .i64 0, .int .i64 0] 44 x.cs #[.int .i64 pr, .int .i64 pa]) (unhide FX).symm (small_mv (unhide OX).rd (unhide DK).small) (unhide OX).rd (unhide OM).rd)
    go_wp2_with (first | (refine wpList_store_row rfl 28 _ _ rfl w3.heap.size x.cs rfl rfl 28 zMv.cs (unhide TB).rm (by kernel_rfl) rfl (Mv.cs_one _) ?_) | (refine wpList_store_row rfl 44 _ _ rfl (w3.heap.size + 1) #[.int .i64 pr, .int .i64 pa] rfl rfl 44 #[.int .i64 0, .int .i64 0] ((unhide TB).rp2 x.cs) (by kernel_rfl) rfl (by simp [Value.oneCell']) ?_) | (refine wpList_load_row rfl 28 _ rfl (w3.heap.size) rfl 28 x.cs (0, 0) _ (unhide RX) Try.underlying28 rfl (by kernel_rfl) ?_) | (refine wpList_load_row rfl 28 _ rfl (w1.heap.size) rfl 28 m.cs (0, 0) _ (unhide RM) Try.underlying28 rfl (by kernel_rfl) ?_))
    refine (unhide P).mono ?_
    rintro e w4 ⟨rfl, hb⟩
    have BB := hide ((unhide L).later hb).bel
    clear hb P
    go_wp2
    go_ret
    exact ⟨rfl, unhide BB⟩
  · skip
    have A2 := hide (fun w hr => at_any a len cap 2 xs w (by omega) (unhide HL) hbig hr)
    have A3 := hide (fun w hr => at_any a len cap 3 xs w (by omega) (unhide HL) hbig hr)
    obtain ⟨z0, z1⟩ := atV_bd xs 2
    obtain ⟨t0, t1⟩ := atV_bd xs 3
    generalize atV xs 2 = z2 at A2 z0 z1
    generalize atV xs 3 = z3 at A3 t0 t1
    have hw1 : IntKind.i64.wrap (z2 * 256) = z2 * 256 := by rw [IntKind.wrap_i64]; omega
    have hw2 : IntKind.i64.wrap (z2 * 256 + z3) = z2 * 256 + z3 := by rw [IntKind.wrap_i64]; omega
    have hm : (z2 * 256 + z3) % 65536 = z2 * 256 + z3 := by omega
    have HM := hide hm
    clear hm
    go_wp2_with (first | (refine wpList_store_row rfl 28 _ _ rfl w3.heap.size x.cs rfl rfl 28 zMv.cs (unhide TB).rm (by kernel_rfl) rfl (Mv.cs_one _) ?_) | (refine wpList_store_row rfl 44 _ _ rfl (w3.heap.size + 1) #[.int .i64 pr, .int .i64 pa] rfl rfl 44 #[.int .i64 0, .int .i64 0] ((unhide TB).rp2 x.cs) (by kernel_rfl) rfl (by simp [Value.oneCell']) ?_))
    clear TB
    refine (unhide A2 _ (unhide L).rd).mono ?_
    rintro e w' ⟨rfl, hw'⟩
    rw [hw']
    clear hw' w' A2
    go_wp2_with fail
    refine (unhide A3 _ (unhide L).rd).mono ?_
    rintro e w' ⟨rfl, hw'⟩
    rw [hw']
    clear hw' w' A3
    have P := hide (storeI_any x D pr pa (z2 * 256 + z3) (two w3 #[.int .i64 0, .int .i64 0] 44 x.cs #[.int .i64 pr, .int .i64 pa]) (small_mv (unhide OX).rd (unhide DD).small) (unhide OX).nz (unhide OX).rd (by have := (unhide DD).rl; omega))
    have LS := hide (ld_st D pr pa (z2 * 256 + z3))
    rw [unhide HM] at LS
    have EK := hide (dk_st (unhide DD) pr pa (z2 * 256 + z3))
    have KS := hide (fun w (h : RdM w x D) => loadS_any x D pr pa w (small_mv (unhide OX).rd (unhide DD).small) h)
    generalize D.stD pr pa (z2 * 256 + z3) = E at P LS EK
    generalize D.ldB pr pa = b at P LS KS
    generalize D.ldV pr pa = dv at KS
    go_wp2_with (first | (refine wpList_load_row rfl 28 _ rfl (w3.heap.size) rfl 28 x.cs (0, 0) _ (unhide RX) Try.underlying28 rfl (by kernel_rfl) ?_) | (refine wpList_load_row rfl 44 _ rfl (w3.heap.size + 1) rfl 44 #[.int .i64 pr, .int .i64 pa] (0, 0) _ (unhide RP) Try.underlying44 rfl (by kernel_rfl) ?_))
    refine (unhide P).mono ?_
    rintro e w5 ⟨y, rfl, fy, oy, hb⟩
    have T_ := hide ((unhide L).later hb)
    clear L
    have L := hide (unhide T_)
    clear T_
    have T_ := hide ((unhide OM).later hb)
    clear OM
    have OM := hide (unhide T_)
    clear T_
    have T_ := hide (row_lat (unhide RM) hb)
    clear RM
    have RM := hide (unhide T_)
    clear T_
    have T_ := hide ((unhide OX).later hb)
    clear OX
    have OX := hide (unhide T_)
    clear T_
    have T_ := hide (row_lat (unhide RX) hb)
    clear RX
    have RX := hide (unhide T_)
    clear T_
    have T_ := hide (row_lat (unhide RP) hb)
    clear RP
    have RP := hide (unhide T_)
    clear T_
    have OY := hide oy
    have FY := hide fy
    clear hb oy fy P
    have RY := hide (heap_alloc_last w5 (.cells y.cs 28))
    have T_ := hide ((unhide L).later (below_new w5 (.cells y.cs 28)))
    clear L
    have L := hide (unhide T_)
    clear T_
    have T_ := hide ((unhide OM).later (below_new w5 (.cells y.cs 28)))
    clear OM
    have OM := hide (unhide T_)
    clear T_
    have T_ := hide (row_lat (unhide RM) (below_new w5 (.cells y.cs 28)))
    clear RM
    have RM := hide (unhide T_)
    clear T_
    have T_ := hide ((unhide OX).later (below_new w5 (.cells y.cs 28)))
    clear OX
    have OX := hide (unhide T_)
    clear T_
    have T_ := hide (row_lat (unhide RX) (below_new w5 (.cells y.cs 28)))
    clear RX
    have RX := hide (unhide T_)
    clear T_
    have T_ := hide (row_lat (unhide RP) (below_new w5 (.cells y.cs 28)))
    clear RP
    have RP := hide (unhide T_)
    clear T_
    have T_ := hide ((unhide OY).later (below_new w5 (.cells y.cs 28)))
    clear OY
    have OY := hide (unhide T_)
    clear T_
    have P := hide (loadI_any y E pr pa (w5.alloc (.cells y.cs 28)) (small_mv (unhide OY).rd (unhide EK).small) (unhide OY).nz (unhide OY).rd (by have := (unhide EK).rl; omega))
    generalize E.ldV pr pa = ev at P LS
    generalize E.ldB pr pa = eb at P LS
    go_wp2_with (first | (refine wpList_store_new rfl 28 _ _ rfl y.cs rfl rfl _ (by kernel_rfl) rfl (Mv.cs_one _) ?_) | (refine wpList_load_row rfl 28 _ rfl (w5.heap.size) rfl 28 y.cs (0, 0) _ (unhide RY) Try.underlying28 rfl (by kernel_rfl) ?_) | (refine wpList_load_row rfl 44 _ rfl (w3.heap.size + 1) rfl 44 #[.int .i64 pr, .int .i64 pa] (0, 0) _ (unhide RP) Try.underlying44 rfl (by kernel_rfl) ?_))
    refine (unhide P).mono ?_
    rintro e w6 ⟨rfl, hb⟩
    have T_ := hide ((unhide L).later hb)
    clear L
    have L := hide (unhide T_)
    clear T_
    have T_ := hide ((unhide OM).later hb)
    clear OM
    have OM := hide (unhide T_)
    clear T_
    have T_ := hide (row_lat (unhide RM) hb)
    clear RM
    have RM := hide (unhide T_)
    clear T_
    have T_ := hide ((unhide OX).later hb)
    clear OX
    have OX := hide (unhide T_)
    clear T_
    have T_ := hide (row_lat (unhide RX) hb)
    clear RX
    have RX := hide (unhide T_)
    clear T_
    have T_ := hide (row_lat (unhide RP) hb)
    clear RP
    have RP := hide (unhide T_)
    clear T_
    have T_ := hide ((unhide OY).later hb)
    clear OY
    have OY := hide (unhide T_)
    clear T_
    have T_ := hide (row_lat (unhide RY) hb)
    clear RY
    have RY := hide (unhide T_)
    clear T_
    clear hb P
    have P := hide (unhide KS w6 (unhide OX).rd)
    go_wp2_with (first | (refine wpList_load_row rfl 28 _ rfl (w3.heap.size) rfl 28 x.cs (0, 0) _ (unhide RX) Try.underlying28 rfl (by kernel_rfl) ?_) | (refine wpList_load_row rfl 44 _ rfl (w3.heap.size + 1) rfl 44 #[.int .i64 pr, .int .i64 pa] (0, 0) _ (unhide RP) Try.underlying44 rfl (by kernel_rfl) ?_))
    refine (unhide P).mono ?_
    rintro e w7 ⟨rfl, hb⟩
    have T_ := hide ((unhide L).later hb)
    clear L
    have L := hide (unhide T_)
    clear T_
    have T_ := hide ((unhide OM).later hb)
    clear OM
    have OM := hide (unhide T_)
    clear T_
    have T_ := hide (row_lat (unhide RM) hb)
    clear RM
    have RM := hide (unhide T_)
    clear T_
    have T_ := hide ((unhide OX).later hb)
    clear OX
    have OX := hide (unhide T_)
    clear T_
    have T_ := hide (row_lat (unhide RX) hb)
    clear RX
    have RX := hide (unhide T_)
    clear T_
    have T_ := hide (row_lat (unhide RP) hb)
    clear RP
    have RP := hide (unhide T_)
    clear T_
    have T_ := hide ((unhide OY).later hb)
    clear OY
    have OY := hide (unhide T_)
    clear T_
    have T_ := hide (row_lat (unhide RY) hb)
    clear RY
    have RY := hide (unhide T_)
    clear T_
    clear hb P KS
    cases b
    · skip
      go_wp2
      go_ret
      exact ⟨rfl, (unhide L).bel⟩
    · skip
      obtain ⟨rfl, rfl⟩ := unhide LS (by trivial)
      have y_m := row_m (unhide RY)
      have y_r := row_r (unhide RY)
      have y_n := row_n (unhide RY)
      have y_z := row_z (unhide RY)
      have y_v := row_v (unhide RY)
      have y_c := row_c (unhide RY)
      have y_i := row_i (unhide RY)
      have y_o := row_o (unhide RY)
      have y_st := row_st (unhide RY)
      have P := hide (okI_any y E w7 (small_mv (unhide OY).rd (unhide EK).small) (unhide OY).rd)
      rw [(unhide EK).ok y.st (by rw [fl_st (unhide FY), fl_st (unhide FX), unhide ST]; omega) (by rw [fl_st (unhide FY), fl_st (unhide FX), unhide ST]; omega)] at P
      go_wp2_with fail
      clear y_m y_r y_n y_z y_v y_c y_i y_o y_st
      refine (unhide P).mono ?_
      rintro e w8 ⟨rfl, hb⟩
      have T_ := hide ((unhide L).later hb)
      clear L
      have L := hide (unhide T_)
      clear T_
      have T_ := hide ((unhide OM).later hb)
      clear OM
      have OM := hide (unhide T_)
      clear T_
      have T_ := hide (row_lat (unhide RM) hb)
      clear RM
      have RM := hide (unhide T_)
      clear T_
      have T_ := hide ((unhide OX).later hb)
      clear OX
      have OX := hide (unhide T_)
      clear T_
      have T_ := hide (row_lat (unhide RX) hb)
      clear RX
      have RX := hide (unhide T_)
      clear T_
      have T_ := hide (row_lat (unhide RP) hb)
      clear RP
      have RP := hide (unhide T_)
      clear T_
      have T_ := hide ((unhide OY).later hb)
      clear OY
      have OY := hide (unhide T_)
      clear T_
      have T_ := hide (row_lat (unhide RY) hb)
      clear RY
      have RY := hide (unhide T_)
      clear T_
      clear hb P
      go_wp2
      go_ret
      exact ⟨rfl, (unhide L).bel⟩

set_option maxRecDepth 100000 in
theorem lifted (os : Os) (started : os.Started) (H : Type) (enc : TypeId × Value → H) :
    ReturnsInHanded {} Try.checked os 5 .any (Rows.fnStoredSpec.pre6 enc Try.prog Try.f5 Rows.fnStoredRow.domain false) (Rows.fnStoredSpec.post enc Try.prog Try.f5 false true false false) := by
  refine returnsInHanded_of_change (C := Try.checked) own started (by kernel_rfl) Try.func5
    (ChangeSpec.witness6 (enc := enc) (C := Try.checked) false ⟨#[], #[.slice none 0 0], []⟩ 8 (by kernel_rfl) (by kernel_rfl) (by kernel_rfl) (by kernel_rfl)) ?_
  intro W base args ds gs before hval0 hW hcnd _
  have hval : ∀ (j : Nat) t v, Try.f5.params[j]? = some t → args[j]? = some v → Value.okWide Try.prog W .any base t v := hval0
  have hW' := hW
  obtain ⟨p, q, hA0, hV, rfl, hfz, hnd⟩ := hW
  have hA : DataW.TrodAll enc Try.prog W 0 (fun _ => true) true Try.f5.params.toList args.toList ds p := hA0
  rw [Try.params5] at hA hval
  obtain ⟨v0, vs0, d0, ds0, p0, q0, hargs, rfl, rfl, h0, r0⟩ := trodAll_cons hA
  obtain ⟨rfl, rfl, rfl⟩ := trodAll_nil r0
  obtain rfl : args = #[v0] := by cases args; simp_all
  obtain ⟨rfl, rfl⟩ := trodVars_none hV
  have k0 := h0
  have lt0 : ∀ x ∈ p0, x.block < W.heap.size := by obtain ⟨m, hm⟩ := k0; exact DataW.trod_lt m _ _ _ hm
  obtain ⟨a0, len0, cap0, rfl⟩ := okWide_slice Try.underlying22 (hval 0 22 v0 rfl rfl)
  obtain ⟨z0, w0⟩ : ∃ zs, IsRow .u8 W a0 len0 cap0 zs := by
    obtain ⟨fuel, hf⟩ := h0
    rcases open_ints Try.underlying22 Try.underlying5 (by kernel_rfl) hf with ⟨hcs, _⟩ | ⟨x, l, c, zs, hcs, _, hl, hm, hz, _, hcell, hwz⟩
    · simp [Value.cells] at hcs
      obtain ⟨rfl, rfl, rfl⟩ := hcs
      exact ⟨[], .inl ⟨rfl, rfl, rfl, rfl⟩⟩
    · simp [Value.cells] at hcs
      obtain ⟨rfl, rfl, rfl⟩ := hcs
      exact ⟨zs, .inr ⟨_, rfl, hl, hm, by simpa using hz, hcell, hwz⟩⟩
  clear hA0 hval0
  refine (walk a0 len0 cap0 z0 W w0).mono fun e W' ⟨he, bel⟩ => ?_
  subst he
  exact ⟨_, rfl, _, _, _, [], _, [], hW', trodAll_mk1 (shut_bool Try.underlying4 _), (trodAll_cons_mk (Below.trod laidOut (by kernel_rfl) (of_decide_eq_true (by kernel_rfl)) k0 bel lt0) trodAll_mk0), rfl, bel.frame _, fun h => by cases h⟩

theorem over : Rows.fnStoredRow.holds Try.pinned (OpenSpec.ofChange Rows.fnStoredSpec) :=
  OpenClaim.holds_of_wide 5 Try.f5 rfl rfl rfl rfl rfl rfl rfl ⟨rfl, rfl, rfl, rfl, rfl⟩ rfl rfl rfl rfl rfl (by kernel_rfl) Try.func5 (by kernel_rfl)
    (of_decide_eq_true (by kernel_rfl)) (by unfold Func.isWrapper; first | (rw [if_pos (by decide +kernel)]; kernel_rfl) | (rw [if_neg (by decide +kernel)]; exact ⟨rfl, rfl⟩))
    (fun os started H enc _ => lifted os started H enc)

theorem proved : Rows.FnStoredSaid := over
end Go.Proofs.Ytfkmibgamkignaa.fnStored

namespace Go.Proofs.Ytfkmibgamkignaa
theorem fnStored_holds : Rows.FnStoredSaid := fnStored.proved
#print axioms fnStored_holds
end Go.Proofs.Ytfkmibgamkignaa
