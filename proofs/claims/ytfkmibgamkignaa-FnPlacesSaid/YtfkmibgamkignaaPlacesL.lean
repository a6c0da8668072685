/- For every code drawn from, the law on the places answers true: where an operand is, of a drawn machine, is found by the program just as by the model; but for registers nothing turns; what is loaded and stored in a drawn place, too; nothing that came in is written into. No condition. -/
import Derived.Test.YtfkmibgamkignaaRows
import Derived.Test.YtfkmibgamkignaaBndL
import Derived.WalkKit
import Derived.ProofKit
import Derived.OpenShut
import Derived.ShutString
import Derived.ChangeOld
import Derived.Below
namespace Go.Proofs.Ytfkmibgamkignaa.fnPlaces
open Go.ChangeShapes Go.WideShapes Go.ChangeAt Go.RowKit
open Go.ChangeMaps (open_string shut_string)
set_option linter.unusedVariables false
set_option maxRecDepth 8000

theorem own : ownKnob Try.prog.godebug = none := by kernel_rfl
theorem laidOut : laidOutB Try.prog = true := by kernel_rfl

set_option maxHeartbeats 16000000 in
theorem walk (a : Option Addr) (len cap : Nat) (zs : List Int) (W : World) (r0 : IsRow .u8 W a len cap zs) :
    Calls Try.prog 4 #[.slice a len cap] W fun e W' => e = .returned (.bool true) ∧ Below W.heap.size W W' := by
  obtain ⟨xs, hl, lc, mcap, hr⟩ := rd_of_row r0
  unfold maxLen at mcap
  have L := hide (show Lc W W a xs from ⟨Below.refl _ _, hr⟩)
  clear r0 hr
  have BG := hide (fun w => big_free a len cap w (by omega))
  by_cases hbig : len ≤ 1048576
  rotate_left
  · have hd : decide ((1048576 : Int) < (len : Int)) = true := by simp; omega
    rw [hd] at BG
    clear L hd
    go_enter Try.func4, Try.ntmps4
    go_wp2_with (go_at_call 11; refine (unhide BG _).mono ?_; rintro e w' ⟨rfl, rfl⟩)
    go_ret
    exact ⟨rfl, Below.refl _ _⟩
  have hd : decide ((1048576 : Int) < (len : Int)) = false := by simp; omega
  rw [hd] at BG
  have HL := hide hl
  have P := hide (drawP_any a len cap xs W hl hbig (unhide L).rd)
  clear hd hl
  go_enter Try.func4, Try.ntmps4
  go_wp2_with (first | (go_at_call 11; refine (unhide BG _).mono ?_; rintro e w' ⟨rfl, hw'⟩; rw [hw']; clear hw' w'))
  refine (unhide P).mono ?_
  rintro e w1 ⟨m, dm, ⟨om, orr, ox⟩, rfl, am, hb⟩
  unfold Od.v
  simp only
  have T_ := hide ((unhide L).later hb)
  clear L
  have L := hide (unhide T_)
  clear T_
  have AM := hide am
  clear hb am P BG
  have KI := hide (fun w (h : Am w (W.heap.size + 3) m dm) => placeI_any m dm ⟨om, orr, ox⟩ w h.small h.nz h.rd)
  have KS := hide (fun w (h : Am w (W.heap.size + 3) m dm) => placeS_any m dm ⟨om, orr, ox⟩ w h.small h.nz h.rd)
  have DM := hide (pc_m dm m.st ⟨om, orr, ox⟩)
  have DS := hide (small_pc (unhide AM).sm m.st ⟨om, orr, ox⟩)
  generalize dm.pcR m.st ⟨om, orr, ox⟩ = pr at KI KS
  generalize dm.pcA m.st ⟨om, orr, ox⟩ = pa at KI KS
  generalize dm.pcO m.st ⟨om, orr, ox⟩ = ok at KI KS
  generalize dm.pcD m.st ⟨om, orr, ox⟩ = D at KI KS DM DS
  unfold Od.v at KI KS
  simp only at KI KS
  have TB := hide (bw_new w1 #[.int .i64 0, .int .i64 0, .int .i64 0] 40)
  have T_ := hide ((unhide L).later (two_b w1 #[.int .i64 0, .int .i64 0, .int .i64 0] 40 m.cs #[.int .i64 om, .int .i64 orr, .int .i64 ox]))
  clear L
  have L := hide (unhide T_)
  clear T_
  have T_ := hide ((unhide AM).later (two_b w1 #[.int .i64 0, .int .i64 0, .int .i64 0] 40 m.cs #[.int .i64 om, .int .i64 orr, .int .i64 ox]))
  clear AM
  have AM := hide (unhide T_)
  clear T_
  have RM := hide (two_m w1 #[.int .i64 0, .int .i64 0, .int .i64 0] 40 m.cs #[.int .i64 om, .int .i64 orr, .int .i64 ox])
  have RO := hide (two_p w1 #[.int .i64 0, .int .i64 0, .int .i64 0] 40 m.cs #[.int .i64 om, .int .i64 orr, .int .i64 ox])
  have P := hide (unhide KI (two w1 #[.int .i64 0, .int .i64 0, .int .i64 0] 40 m.cs #[.int .i64 om, .int .i64 orr, .int .i64 ox]) (unhide AM))
  go_wp2_with (first | (refine wpList_store_row rfl 28 _ _ rfl w1.heap.size m.cs rfl rfl 28 zMv.cs (unhide TB).rm (by kernel_rfl) rfl (Mv.cs_one _) ?_) | (refine wpList_store_row rfl 40 _ _ rfl (w1.heap.size + 1) #[.int .i64 om, .int .i64 orr, .int .i64 ox] rfl rfl 40 #[.int .i64 0, .int .i64 0, .int .i64 0] ((unhide TB).rp2 m.cs) (by kernel_rfl) rfl (by simp [Value.oneCell']) ?_) | (refine wpList_load_row rfl 28 _ rfl (w1.heap.size) rfl 28 m.cs (0, 0) _ (unhide RM) Try.underlying28 rfl (by kernel_rfl) ?_) | (refine wpList_load_row rfl 40 _ rfl (w1.heap.size + 1) rfl 40 #[.int .i64 om, .int .i64 orr, .int .i64 ox] (0, 0) _ (unhide RO) Try.underlying40 rfl (by kernel_rfl) ?_))
  clear TB
  refine (unhide P).mono ?_
  rintro e w2 ⟨x, rfl, fx, ox_, hb⟩
  have T_ := hide ((unhide L).later hb)
  clear L
  have L := hide (unhide T_)
  clear T_
  have T_ := hide ((unhide AM).later hb)
  clear AM
  have AM := hide (unhide T_)
  clear T_
  have T_ := hide (row_lat (unhide RM) hb)
  clear RM
  have RM := hide (unhide T_)
  clear T_
  have T_ := hide (row_lat (unhide RO) hb)
  clear RO
  have RO := hide (unhide T_)
  clear T_
  have OX := hide ox_
  have FX := hide fx
  clear hb ox_ fx P
  have TB := hide (bw_new w2 #[.int .i64 0, .int .i64 0] 44)
  have T_ := hide ((unhide L).later (two_b w2 #[.int .i64 0, .int .i64 0] 44 x.cs #[.int .i64 pr, .int .i64 pa]))
  clear L
  have L := hide (unhide T_)
  clear T_
  have T_ := hide ((unhide AM).later (two_b w2 #[.int .i64 0, .int .i64 0] 44 x.cs #[.int .i64 pr, .int .i64 pa]))
  clear AM
  have AM := hide (unhide T_)
  clear T_
  have T_ := hide (row_lat (unhide RM) (two_b w2 #[.int .i64 0, .int .i64 0] 44 x.cs #[.int .i64 pr, .int .i64 pa]))
  clear RM
  have RM := hide (unhide T_)
  clear T_
  have T_ := hide (row_lat (unhide RO) (two_b w2 #[.int .i64 0, .int .i64 0] 44 x.cs #[.int .i64 pr, .int .i64 pa]))
  clear RO
  have RO := hide (unhide T_)
  clear T_
  have T_ := hide ((unhide OX).later (two_b w2 #[.int .i64 0, .int .i64 0] 44 x.cs #[.int .i64 pr, .int .i64 pa]))
  clear OX
  have OX := hide (unhide T_)
  clear T_
  have RX := hide (two_m w2 #[.int .i64 0, .int .i64 0] 44 x.cs #[.int .i64 pr, .int .i64 pa])
  have RP := hide (two_p w2 #[.int .i64 0, .int .i64 0] 44 x.cs #[.int .i64 pr, .int .i64 pa])
  have P := hide (unhide KS (two w2 #[.int .i64 0, .int .i64 0] 44 x.cs #[.int .i64 pr, .int .i64 pa]) (unhide AM))
  go_wp2_with (first | (refine wpList_store_row rfl 28 _ _ rfl w2.heap.size x.cs rfl rfl 28 zMv.cs (unhide TB).rm (by kernel_rfl) rfl (Mv.cs_one _) ?_) | (refine wpList_store_row rfl 44 _ _ rfl (w2.heap.size + 1) #[.int .i64 pr, .int .i64 pa] rfl rfl 44 #[.int .i64 0, .int .i64 0] ((unhide TB).rp2 x.cs) (by kernel_rfl) rfl (by simp [Value.oneCell']) ?_) | (refine wpList_load_row rfl 28 _ rfl (w1.heap.size) rfl 28 m.cs (0, 0) _ (unhide RM) Try.underlying28 rfl (by kernel_rfl) ?_) | (refine wpList_load_row rfl 40 _ rfl (w1.heap.size + 1) rfl 40 #[.int .i64 om, .int .i64 orr, .int .i64 ox] (0, 0) _ (unhide RO) Try.underlying40 rfl (by kernel_rfl) ?_))
  clear TB
  refine (unhide P).mono ?_
  rintro e w3 ⟨y, rfl, fy, oy, hb⟩
  have T_ := hide ((unhide L).later hb)
  clear L
  have L := hide (unhide T_)
  clear T_
  have T_ := hide ((unhide AM).later hb)
  clear AM
  have AM := hide (unhide T_)
  clear T_
  have T_ := hide (row_lat (unhide RM) hb)
  clear RM
  have RM := hide (unhide T_)
  clear T_
  have T_ := hide (row_lat (unhide RO) hb)
  clear RO
  have RO := hide (unhide T_)
  clear T_
  have T_ := hide ((unhide OX).later hb)
  clear OX
  have OX := hide (unhide T_)
  clear T_
  have T_ := hide (row_lat (unhide RX) hb)
  clear RX
  have RX := hide (unhide T_)
  clear T_
  have T_ := hide (row_lat (unhide RP) hb)
  clear RP
  have RP := hide (unhide T_)
  clear T_
  have OY := hide oy
  have FY := hide fy
  clear hb oy fy P KI KS
  have TB := hide (bw_new w3 #[.int .i64 0, .int .i64 0] 44)
  have T_ := hide ((unhide L).later (two_b w3 #[.int .i64 0, .int .i64 0] 44 y.cs #[.int .i64 pr, .int .i64 pa]))
  clear L
  have L := hide (unhide T_)
  clear T_
  have T_ := hide ((unhide AM).later (two_b w3 #[.int .i64 0, .int .i64 0] 44 y.cs #[.int .i64 pr, .int .i64 pa]))
  clear AM
  have AM := hide (unhide T_)
  clear T_
  have T_ := hide (row_lat (unhide RM) (two_b w3 #[.int .i64 0, .int .i64 0] 44 y.cs #[.int .i64 pr, .int .i64 pa]))
  clear RM
  have RM := hide (unhide T_)
  clear T_
  have T_ := hide (row_lat (unhide RO) (two_b w3 #[.int .i64 0, .int .i64 0] 44 y.cs #[.int .i64 pr, .int .i64 pa]))
  clear RO
  have RO := hide (unhide T_)
  clear T_
  have T_ := hide ((unhide OX).later (two_b w3 #[.int .i64 0, .int .i64 0] 44 y.cs #[.int .i64 pr, .int .i64 pa]))
  clear OX
  have OX := hide (unhide T_)
  clear T_
  have T_ := hide (row_lat (unhide RX) (two_b w3 #[.int .i64 0, .int .i64 0] 44 y.cs #[.int .i64 pr, .int .i64 pa]))
  clear RX
  have RX := hide (unhide T_)
  clear T_
  have T_ := hide (row_lat (unhide RP) (two_b w3 #[.int .i64 0, .int .i64 0] 44 y.cs #[.int .i64 pr, .int .i64 pa]))
  clear RP
  have RP := hide (unhide T_)
  clear T_
  have T_ := hide ((unhide OY).later (two_b w3 #[.int .i64 0, .int .i64 0] 44 y.cs #[.int .i64 pr, .int .i64 pa]))
  clear OY
  have OY := hide (unhide T_)
  clear T_
  have RY := hide (two_m w3 #[.int .i64 0, .int .i64 0] 44 y.cs #[.int .i64 pr, .int .i64 pa])
  have RQ := hide (two_p w3 #[.int .i64 0, .int .i64 0] 44 y.cs #[.int .i64 pr, .int .i64 pa])
  have P := hide (drawL_any a len cap xs (two w3 #[.int .i64 0, .int .i64 0] 44 y.cs #[.int .i64 pr, .int .i64 pa]) (unhide HL) hbig (unhide L).rd)
  go_wp2_with (first | (refine wpList_store_row rfl 28 _ _ rfl w3.heap.size y.cs rfl rfl 28 zMv.cs (unhide TB).rm (by kernel_rfl) rfl (Mv.cs_one _) ?_) | (refine wpList_store_row rfl 44 _ _ rfl (w3.heap.size + 1) #[.int .i64 pr, .int .i64 pa] rfl rfl 44 #[.int .i64 0, .int .i64 0] ((unhide TB).rp2 y.cs) (by kernel_rfl) rfl (by simp [Value.oneCell']) ?_))
  clear TB
  refine (unhide P).mono ?_
  rintro e w4 ⟨l, dl, r, p, rfl, al, hb⟩
  have T_ := hide ((unhide L).later hb)
  clear L
  have L := hide (unhide T_)
  clear T_
  have T_ := hide ((unhide AM).later hb)
  clear AM
  have AM := hide (unhide T_)
  clear T_
  have T_ := hide (row_lat (unhide RM) hb)
  clear RM
  have RM := hide (unhide T_)
  clear T_
  have T_ := hide (row_lat (unhide RO) hb)
  clear RO
  have RO := hide (unhide T_)
  clear T_
  have T_ := hide ((unhide OX).later hb)
  clear OX
  have OX := hide (unhide T_)
  clear T_
  have T_ := hide (row_lat (unhide RX) hb)
  clear RX
  have RX := hide (unhide T_)
  clear T_
  have T_ := hide (row_lat (unhide RP) hb)
  clear RP
  have RP := hide (unhide T_)
  clear T_
  have T_ := hide ((unhide OY).later hb)
  clear OY
  have OY := hide (unhide T_)
  clear T_
  have T_ := hide (row_lat (unhide RY) hb)
  clear RY
  have RY := hide (unhide T_)
  clear T_
  have T_ := hide (row_lat (unhide RQ) hb)
  clear RQ
  have RQ := hide (unhide T_)
  clear T_
  have AL := hide al
  clear hb al P
  have TB := hide (bw_new w4 #[.int .i64 0, .int .i64 0] 44)
  have T_ := hide ((unhide L).later (two_b w4 #[.int .i64 0, .int .i64 0] 44 l.cs #[.int .i64 r, .int .i64 p]))
  clear L
  have L := hide (unhide T_)
  clear T_
  have T_ := hide ((unhide AM).later (two_b w4 #[.int .i64 0, .int .i64 0] 44 l.cs #[.int .i64 r, .int .i64 p]))
  clear AM
  have AM := hide (unhide T_)
  clear T_
  have T_ := hide (row_lat (unhide RM) (two_b w4 #[.int .i64 0, .int .i64 0] 44 l.cs #[.int .i64 r, .int .i64 p]))
  clear RM
  have RM := hide (unhide T_)
  clear T_
  have T_ := hide (row_lat (unhide RO) (two_b w4 #[.int .i64 0, .int .i64 0] 44 l.cs #[.int .i64 r, .int .i64 p]))
  clear RO
  have RO := hide (unhide T_)
  clear T_
  have T_ := hide ((unhide OX).later (two_b w4 #[.int .i64 0, .int .i64 0] 44 l.cs #[.int .i64 r, .int .i64 p]))
  clear OX
  have OX := hide (unhide T_)
  clear T_
  have T_ := hide (row_lat (unhide RX) (two_b w4 #[.int .i64 0, .int .i64 0] 44 l.cs #[.int .i64 r, .int .i64 p]))
  clear RX
  have RX := hide (unhide T_)
  clear T_
  have T_ := hide (row_lat (unhide RP) (two_b w4 #[.int .i64 0, .int .i64 0] 44 l.cs #[.int .i64 r, .int .i64 p]))
  clear RP
  have RP := hide (unhide T_)
  clear T_
  have T_ := hide ((unhide OY).later (two_b w4 #[.int .i64 0, .int .i64 0] 44 l.cs #[.int .i64 r, .int .i64 p]))
  clear OY
  have OY := hide (unhide T_)
  clear T_
  have T_ := hide (row_lat (unhide RY) (two_b w4 #[.int .i64 0, .int .i64 0] 44 l.cs #[.int .i64 r, .int .i64 p]))
  clear RY
  have RY := hide (unhide T_)
  clear T_
  have T_ := hide (row_lat (unhide RQ) (two_b w4 #[.int .i64 0, .int .i64 0] 44 l.cs #[.int .i64 r, .int .i64 p]))
  clear RQ
  have RQ := hide (unhide T_)
  clear T_
  have T_ := hide ((unhide AL).later (two_b w4 #[.int .i64 0, .int .i64 0] 44 l.cs #[.int .i64 r, .int .i64 p]))
  clear AL
  have AL := hide (unhide T_)
  clear T_
  have RL := hide (two_m w4 #[.int .i64 0, .int .i64 0] 44 l.cs #[.int .i64 r, .int .i64 p])
  have RI := hide (two_p w4 #[.int .i64 0, .int .i64 0] 44 l.cs #[.int .i64 r, .int .i64 p])
  have P := hide (loadI_any l dl r p (two w4 #[.int .i64 0, .int .i64 0] 44 l.cs #[.int .i64 r, .int .i64 p]) (unhide AL).small (unhide AL).nz (unhide AL).rd (unhide AL).r8)
  have KS := hide (fun w (h : RdM w l dl) => loadS_any l dl r p w (unhide AL).small h)
  generalize dl.ldV r p = lv at P KS
  generalize dl.ldB r p = lb at P KS
  go_wp2_with (first | (refine wpList_store_row rfl 28 _ _ rfl w4.heap.size l.cs rfl rfl 28 zMv.cs (unhide TB).rm (by kernel_rfl) rfl (Mv.cs_one _) ?_) | (refine wpList_store_row rfl 44 _ _ rfl (w4.heap.size + 1) #[.int .i64 r, .int .i64 p] rfl rfl 44 #[.int .i64 0, .int .i64 0] ((unhide TB).rp2 l.cs) (by kernel_rfl) rfl (by simp [Value.oneCell']) ?_) | (refine wpList_load_row rfl 28 _ rfl (w4.heap.size) rfl 28 l.cs (0, 0) _ (unhide RL) Try.underlying28 rfl (by kernel_rfl) ?_) | (refine wpList_load_row rfl 44 _ rfl (w4.heap.size + 1) rfl 44 #[.int .i64 r, .int .i64 p] (0, 0) _ (unhide RI) Try.underlying44 rfl (by kernel_rfl) ?_))
  clear TB
  refine (unhide P).mono ?_
  rintro e w5 ⟨rfl, hb⟩
  have T_ := hide ((unhide L).later hb)
  clear L
  have L := hide (unhide T_)
  clear T_
  have T_ := hide ((unhide AM).later hb)
  clear AM
  have AM := hide (unhide T_)
  clear T_
  have T_ := hide (row_lat (unhide RM) hb)
  clear RM
  have RM := hide (unhide T_)
  clear T_
  have T_ := hide (row_lat (unhide RO) hb)
  clear RO
  have RO := hide (unhide T_)
  clear T_
  have T_ := hide ((unhide OX).later hb)
  clear OX
  have OX := hide (unhide T_)
  clear T_
  have T_ := hide (row_lat (unhide RX) hb)
  clear RX
  have RX := hide (unhide T_)
  clear T_
  have T_ := hide (row_lat (unhide RP) hb)
  clear RP
  have RP := hide (unhide T_)
  clear T_
  have T_ := hide ((unhide OY).later hb)
  clear OY
  have OY := hide (unhide T_)
  clear T_
  have T_ := hide (row_lat (unhide RY) hb)
  clear RY
  have RY := hide (unhide T_)
  clear T_
  have T_ := hide (row_lat (unhide RQ) hb)
  clear RQ
  have RQ := hide (unhide T_)
  clear T_
  have T_ := hide ((unhide AL).later hb)
  clear AL
  have AL := hide (unhide T_)
  clear T_
  have T_ := hide (row_lat (unhide RL) hb)
  clear RL
  have RL := hide (unhide T_)
  clear T_
  have T_ := hide (row_lat (unhide RI) hb)
  clear RI
  have RI := hide (unhide T_)
  clear T_
  clear hb P
  have P := hide (unhide KS w5 (unhide AL).rd)
  go_wp2_with (first | (refine wpList_load_row rfl 28 _ rfl (w4.heap.size) rfl 28 l.cs (0, 0) _ (unhide RL) Try.underlying28 rfl (by kernel_rfl) ?_) | (refine wpList_load_row rfl 44 _ rfl (w4.heap.size + 1) rfl 44 #[.int .i64 r, .int .i64 p] (0, 0) _ (unhide RI) Try.underlying44 rfl (by kernel_rfl) ?_))
  refine (unhide P).mono ?_
  rintro e w6 ⟨rfl, hb⟩
  have T_ := hide ((unhide L).later hb)
  clear L
  have L := hide (unhide T_)
  clear T_
  have T_ := hide ((unhide AM).later hb)
  clear AM
  have AM := hide (unhide T_)
  clear T_
  have T_ := hide (row_lat (unhide RM) hb)
  clear RM
  have RM := hide (unhide T_)
  clear T_
  have T_ := hide (row_lat (unhide RO) hb)
  clear RO
  have RO := hide (unhide T_)
  clear T_
  have T_ := hide ((unhide OX).later hb)
  clear OX
  have OX := hide (unhide T_)
  clear T_
  have T_ := hide (row_lat (unhide RX) hb)
  clear RX
  have RX := hide (unhide T_)
  clear T_
  have T_ := hide (row_lat (unhide RP) hb)
  clear RP
  have RP := hide (unhide T_)
  clear T_
  have T_ := hide ((unhide OY).later hb)
  clear OY
  have OY := hide (unhide T_)
  clear T_
  have T_ := hide (row_lat (unhide RY) hb)
  clear RY
  have RY := hide (unhide T_)
  clear T_
  have T_ := hide (row_lat (unhide RQ) hb)
  clear RQ
  have RQ := hide (unhide T_)
  clear T_
  have T_ := hide ((unhide AL).later hb)
  clear AL
  have AL := hide (unhide T_)
  clear T_
  have T_ := hide (row_lat (unhide RL) hb)
  clear RL
  have RL := hide (unhide T_)
  clear T_
  have T_ := hide (row_lat (unhide RI) hb)
  clear RI
  have RI := hide (unhide T_)
  clear T_
  clear hb P KS
  clear AL RL RI
  have P := hide (drawS_any a len cap xs w6 (unhide HL) hbig (unhide L).rd)
  go_wp2_with fail
  refine (unhide P).mono ?_
  rintro e w7 ⟨s, ds, r2, p2, n2, rfl, as_, hb⟩
  have T_ := hide ((unhide L).later hb)
  clear L
  have L := hide (unhide T_)
  clear T_
  have T_ := hide ((unhide AM).later hb)
  clear AM
  have AM := hide (unhide T_)
  clear T_
  have T_ := hide (row_lat (unhide RM) hb)
  clear RM
  have RM := hide (unhide T_)
  clear T_
  have T_ := hide (row_lat (unhide RO) hb)
  clear RO
  have RO := hide (unhide T_)
  clear T_
  have T_ := hide ((unhide OX).later hb)
  clear OX
  have OX := hide (unhide T_)
  clear T_
  have T_ := hide (row_lat (unhide RX) hb)
  clear RX
  have RX := hide (unhide T_)
  clear T_
  have T_ := hide (row_lat (unhide RP) hb)
  clear RP
  have RP := hide (unhide T_)
  clear T_
  have T_ := hide ((unhide OY).later hb)
  clear OY
  have OY := hide (unhide T_)
  clear T_
  have T_ := hide (row_lat (unhide RY) hb)
  clear RY
  have RY := hide (unhide T_)
  clear T_
  have T_ := hide (row_lat (unhide RQ) hb)
  clear RQ
  have RQ := hide (unhide T_)
  clear T_
  have AS := hide as_
  clear hb as_ P
  have TB := hide (bw_new w7 #[.int .i64 0, .int .i64 0] 44)
  have T_ := hide ((unhide L).later (two_b w7 #[.int .i64 0, .int .i64 0] 44 s.cs #[.int .i64 r2, .int .i64 p2]))
  clear L
  have L := hide (unhide T_)
  clear T_
  have T_ := hide ((unhide AM).later (two_b w7 #[.int .i64 0, .int .i64 0] 44 s.cs #[.int .i64 r2, .int .i64 p2]))
  clear AM
  have AM := hide (unhide T_)
  clear T_
  have T_ := hide (row_lat (unhide RM) (two_b w7 #[.int .i64 0, .int .i64 0] 44 s.cs #[.int .i64 r2, .int .i64 p2]))
  clear RM
  have RM := hide (unhide T_)
  clear T_
  have T_ := hide (row_lat (unhide RO) (two_b w7 #[.int .i64 0, .int .i64 0] 44 s.cs #[.int .i64 r2, .int .i64 p2]))
  clear RO
  have RO := hide (unhide T_)
  clear T_
  have T_ := hide ((unhide OX).later (two_b w7 #[.int .i64 0, .int .i64 0] 44 s.cs #[.int .i64 r2, .int .i64 p2]))
  clear OX
  have OX := hide (unhide T_)
  clear T_
  have T_ := hide (row_lat (unhide RX) (two_b w7 #[.int .i64 0, .int .i64 0] 44 s.cs #[.int .i64 r2, .int .i64 p2]))
  clear RX
  have RX := hide (unhide T_)
  clear T_
  have T_ := hide (row_lat (unhide RP) (two_b w7 #[.int .i64 0, .int .i64 0] 44 s.cs #[.int .i64 r2, .int .i64 p2]))
  clear RP
  have RP := hide (unhide T_)
  clear T_
  have T_ := hide ((unhide OY).later (two_b w7 #[.int .i64 0, .int .i64 0] 44 s.cs #[.int .i64 r2, .int .i64 p2]))
  clear OY
  have OY := hide (unhide T_)
  clear T_
  have T_ := hide (row_lat (unhide RY) (two_b w7 #[.int .i64 0, .int .i64 0] 44 s.cs #[.int .i64 r2, .int .i64 p2]))
  clear RY
  have RY := hide (unhide T_)
  clear T_
  have T_ := hide (row_lat (unhide RQ) (two_b w7 #[.int .i64 0, .int .i64 0] 44 s.cs #[.int .i64 r2, .int .i64 p2]))
  clear RQ
  have RQ := hide (unhide T_)
  clear T_
  have T_ := hide ((unhide AS).later (two_b w7 #[.int .i64 0, .int .i64 0] 44 s.cs #[.int .i64 r2, .int .i64 p2]))
  clear AS
  have AS := hide (unhide T_)
  clear T_
  have RS := hide (two_m w7 #[.int .i64 0, .int .i64 0] 44 s.cs #[.int .i64 r2, .int .i64 p2])
  have RT := hide (two_p w7 #[.int .i64 0, .int .i64 0] 44 s.cs #[.int .i64 r2, .int .i64 p2])
  have P := hide (storeI_any s ds r2 p2 n2 (two w7 #[.int .i64 0, .int .i64 0] 44 s.cs #[.int .i64 r2, .int .i64 p2]) (unhide AS).small (unhide AS).nz (unhide AS).rd (unhide AS).r8)
  have KS := hide (fun w (h : RdM w s ds) => storeS_any s ds r2 p2 n2 w (unhide AS).small (unhide AS).nz h)
  have ES := hide (st_small (unhide AS).sm r2 p2 n2)
  generalize ds.stD r2 p2 n2 = E at P KS ES
  generalize ds.ldB r2 p2 = sb at P KS
  go_wp2_with (first | (refine wpList_store_row rfl 28 _ _ rfl w7.heap.size s.cs rfl rfl 28 zMv.cs (unhide TB).rm (by kernel_rfl) rfl (Mv.cs_one _) ?_) | (refine wpList_store_row rfl 44 _ _ rfl (w7.heap.size + 1) #[.int .i64 r2, .int .i64 p2] rfl rfl 44 #[.int .i64 0, .int .i64 0] ((unhide TB).rp2 s.cs) (by kernel_rfl) rfl (by simp [Value.oneCell']) ?_) | (refine wpList_load_row rfl 28 _ rfl (w7.heap.size) rfl 28 s.cs (0, 0) _ (unhide RS) Try.underlying28 rfl (by kernel_rfl) ?_) | (refine wpList_load_row rfl 44 _ rfl (w7.heap.size + 1) rfl 44 #[.int .i64 r2, .int .i64 p2] (0, 0) _ (unhide RT) Try.underlying44 rfl (by kernel_rfl) ?_))
  clear TB
  refine (unhide P).mono ?_
  rintro e w8 ⟨u, rfl, fu, ou, hb⟩
  have T_ := hide ((unhide L).later hb)
  clear L
  have L := hide (unhide T_)
  clear T_
  have T_ := hide ((unhide AM).later hb)
  clear AM
  have AM := hide (unhide T_)
  clear T_
  have T_ := hide (row_lat (unhide RM) hb)
  clear RM
  have RM := hide (unhide T_)
  clear T_
  have T_ := hide (row_lat (unhide RO) hb)
  clear RO
  have RO := hide (unhide T_)
  clear T_
  have T_ := hide ((unhide OX).later hb)
  clear OX
  have OX := hide (unhide T_)
  clear T_
  have T_ := hide (row_lat (unhide RX) hb)
  clear RX
  have RX := hide (unhide T_)
  clear T_
  have T_ := hide (row_lat (unhide RP) hb)
  clear RP
  have RP := hide (unhide T_)
  clear T_
  have T_ := hide ((unhide OY).later hb)
  clear OY
  have OY := hide (unhide T_)
  clear T_
  have T_ := hide (row_lat (unhide RY) hb)
  clear RY
  have RY := hide (unhide T_)
  clear T_
  have T_ := hide (row_lat (unhide RQ) hb)
  clear RQ
  have RQ := hide (unhide T_)
  clear T_
  have T_ := hide ((unhide AS).later hb)
  clear AS
  have AS := hide (unhide T_)
  clear T_
  have T_ := hide (row_lat (unhide RS) hb)
  clear RS
  have RS := hide (unhide T_)
  clear T_
  have T_ := hide (row_lat (unhide RT) hb)
  clear RT
  have RT := hide (unhide T_)
  clear T_
  have OU := hide ou
  have FU := hide fu
  clear hb ou fu P
  have RU := hide (heap_alloc_last w8 (.cells u.cs 28))
  have T_ := hide ((unhide L).later (below_new w8 (.cells u.cs 28)))
  clear L
  have L := hide (unhide T_)
  clear T_
  have T_ := hide ((unhide AM).later (below_new w8 (.cells u.cs 28)))
  clear AM
  have AM := hide (unhide T_)
  clear T_
  have T_ := hide (row_lat (unhide RM) (below_new w8 (.cells u.cs 28)))
  clear RM
  have RM := hide (unhide T_)
  clear T_
  have T_ := hide (row_lat (unhide RO) (below_new w8 (.cells u.cs 28)))
  clear RO
  have RO := hide (unhide T_)
  clear T_
  have T_ := hide ((unhide OX).later (below_new w8 (.cells u.cs 28)))
  clear OX
  have OX := hide (unhide T_)
  clear T_
  have T_ := hide (row_lat (unhide RX) (below_new w8 (.cells u.cs 28)))
  clear RX
  have RX := hide (unhide T_)
  clear T_
  have T_ := hide (row_lat (unhide RP) (below_new w8 (.cells u.cs 28)))
  clear RP
  have RP := hide (unhide T_)
  clear T_
  have T_ := hide ((unhide OY).later (below_new w8 (.cells u.cs 28)))
  clear OY
  have OY := hide (unhide T_)
  clear T_
  have T_ := hide (row_lat (unhide RY) (below_new w8 (.cells u.cs 28)))
  clear RY
  have RY := hide (unhide T_)
  clear T_
  have T_ := hide (row_lat (unhide RQ) (below_new w8 (.cells u.cs 28)))
  clear RQ
  have RQ := hide (unhide T_)
  clear T_
  have T_ := hide ((unhide AS).later (below_new w8 (.cells u.cs 28)))
  clear AS
  have AS := hide (unhide T_)
  clear T_
  have T_ := hide (row_lat (unhide RS) (below_new w8 (.cells u.cs 28)))
  clear RS
  have RS := hide (unhide T_)
  clear T_
  have T_ := hide (row_lat (unhide RT) (below_new w8 (.cells u.cs 28)))
  clear RT
  have RT := hide (unhide T_)
  clear T_
  have T_ := hide ((unhide OU).later (below_new w8 (.cells u.cs 28)))
  clear OU
  have OU := hide (unhide T_)
  clear T_
  have P := hide (unhide KS (w8.alloc (.cells u.cs 28)) (unhide AS).rd)
  go_wp2_with (first | (refine wpList_store_new rfl 28 _ _ rfl u.cs rfl rfl _ (by kernel_rfl) rfl (Mv.cs_one _) ?_) | (refine wpList_load_row rfl 28 _ rfl (w7.heap.size) rfl 28 s.cs (0, 0) _ (unhide RS) Try.underlying28 rfl (by kernel_rfl) ?_) | (refine wpList_load_row rfl 44 _ rfl (w7.heap.size + 1) rfl 44 #[.int .i64 r2, .int .i64 p2] (0, 0) _ (unhide RT) Try.underlying44 rfl (by kernel_rfl) ?_))
  refine (unhide P).mono ?_
  rintro e w9 ⟨v, rfl, fv, ov, hb⟩
  have T_ := hide ((unhide L).later hb)
  clear L
  have L := hide (unhide T_)
  clear T_
  have T_ := hide ((unhide AM).later hb)
  clear AM
  have AM := hide (unhide T_)
  clear T_
  have T_ := hide (row_lat (unhide RM) hb)
  clear RM
  have RM := hide (unhide T_)
  clear T_
  have T_ := hide (row_lat (unhide RO) hb)
  clear RO
  have RO := hide (unhide T_)
  clear T_
  have T_ := hide ((unhide OX).later hb)
  clear OX
  have OX := hide (unhide T_)
  clear T_
  have T_ := hide (row_lat (unhide RX) hb)
  clear RX
  have RX := hide (unhide T_)
  clear T_
  have T_ := hide (row_lat (unhide RP) hb)
  clear RP
  have RP := hide (unhide T_)
  clear T_
  have T_ := hide ((unhide OY).later hb)
  clear OY
  have OY := hide (unhide T_)
  clear T_
  have T_ := hide (row_lat (unhide RY) hb)
  clear RY
  have RY := hide (unhide T_)
  clear T_
  have T_ := hide (row_lat (unhide RQ) hb)
  clear RQ
  have RQ := hide (unhide T_)
  clear T_
  have T_ := hide ((unhide AS).later hb)
  clear AS
  have AS := hide (unhide T_)
  clear T_
  have T_ := hide (row_lat (unhide RS) hb)
  clear RS
  have RS := hide (unhide T_)
  clear T_
  have T_ := hide (row_lat (unhide RT) hb)
  clear RT
  have RT := hide (unhide T_)
  clear T_
  have T_ := hide ((unhide OU).later hb)
  clear OU
  have OU := hide (unhide T_)
  clear T_
  have T_ := hide (row_lat (unhide RU) hb)
  clear RU
  have RU := hide (unhide T_)
  clear T_
  have OV := hide ov
  have FV := hide fv
  clear hb ov fv P KS
  have RV := hide (heap_alloc_last w9 (.cells v.cs 28))
  have T_ := hide ((unhide L).later (below_new w9 (.cells v.cs 28)))
  clear L
  have L := hide (unhide T_)
  clear T_
  have T_ := hide ((unhide AM).later (below_new w9 (.cells v.cs 28)))
  clear AM
  have AM := hide (unhide T_)
  clear T_
  have T_ := hide (row_lat (unhide RM) (below_new w9 (.cells v.cs 28)))
  clear RM
  have RM := hide (unhide T_)
  clear T_
  have T_ := hide (row_lat (unhide RO) (below_new w9 (.cells v.cs 28)))
  clear RO
  have RO := hide (unhide T_)
  clear T_
  have T_ := hide ((unhide OX).later (below_new w9 (.cells v.cs 28)))
  clear OX
  have OX := hide (unhide T_)
  clear T_
  have T_ := hide (row_lat (unhide RX) (below_new w9 (.cells v.cs 28)))
  clear RX
  have RX := hide (unhide T_)
  clear T_
  have T_ := hide (row_lat (unhide RP) (below_new w9 (.cells v.cs 28)))
  clear RP
  have RP := hide (unhide T_)
  clear T_
  have T_ := hide ((unhide OY).later (below_new w9 (.cells v.cs 28)))
  clear OY
  have OY := hide (unhide T_)
  clear T_
  have T_ := hide (row_lat (unhide RY) (below_new w9 (.cells v.cs 28)))
  clear RY
  have RY := hide (unhide T_)
  clear T_
  have T_ := hide (row_lat (unhide RQ) (below_new w9 (.cells v.cs 28)))
  clear RQ
  have RQ := hide (unhide T_)
  clear T_
  have T_ := hide ((unhide AS).later (below_new w9 (.cells v.cs 28)))
  clear AS
  have AS := hide (unhide T_)
  clear T_
  have T_ := hide (row_lat (unhide RS) (below_new w9 (.cells v.cs 28)))
  clear RS
  have RS := hide (unhide T_)
  clear T_
  have T_ := hide (row_lat (unhide RT) (below_new w9 (.cells v.cs 28)))
  clear RT
  have RT := hide (unhide T_)
  clear T_
  have T_ := hide ((unhide OU).later (below_new w9 (.cells v.cs 28)))
  clear OU
  have OU := hide (unhide T_)
  clear T_
  have T_ := hide (row_lat (unhide RU) (below_new w9 (.cells v.cs 28)))
  clear RU
  have RU := hide (unhide T_)
  clear T_
  have T_ := hide ((unhide OV).later (below_new w9 (.cells v.cs 28)))
  clear OV
  have OV := hide (unhide T_)
  clear T_
  clear AS RS RT
  have q0 := row2_0 (unhide RP)
  have q1 := row2_1 (unhide RP)
  have q2 := row2_0 (unhide RQ)
  have q3 := row2_1 (unhide RQ)
  have x_m := row_m (unhide RX)
  have x_r := row_r (unhide RX)
  have x_n := row_n (unhide RX)
  have x_z := row_z (unhide RX)
  have x_v := row_v (unhide RX)
  have x_c := row_c (unhide RX)
  have x_i := row_i (unhide RX)
  have x_o := row_o (unhide RX)
  have x_st := row_st (unhide RX)
  have y_m := row_m (unhide RY)
  have y_r := row_r (unhide RY)
  have y_n := row_n (unhide RY)
  have y_z := row_z (unhide RY)
  have y_v := row_v (unhide RY)
  have y_c := row_c (unhide RY)
  have y_i := row_i (unhide RY)
  have y_o := row_o (unhide RY)
  have y_st := row_st (unhide RY)
  have P := hide (sameM_any x y D _ ((unhide FY).trans (unhide FX).symm) (small_mv (unhide OX).rd (unhide DS)) (unhide OX).rd (unhide OY).rd)
  go_wp2_with (first | (refine wpList_store_new rfl 28 _ _ rfl v.cs rfl rfl _ (by kernel_rfl) rfl (Mv.cs_one _) ?_))
  clear q0 q1 q2 q3 x_m y_m x_r y_r x_n y_n x_z y_z x_v y_v x_c y_c x_i y_i x_o y_o x_st y_st
  refine (unhide P).mono ?_
  rintro e w10 ⟨rfl, hb⟩
  have T_ := hide ((unhide L).later hb)
  clear L
  have L := hide (unhide T_)
  clear T_
  have T_ := hide ((unhide AM).later hb)
  clear AM
  have AM := hide (unhide T_)
  clear T_
  have T_ := hide (row_lat (unhide RM) hb)
  clear RM
  have RM := hide (unhide T_)
  clear T_
  have T_ := hide (row_lat (unhide RO) hb)
  clear RO
  have RO := hide (unhide T_)
  clear T_
  have T_ := hide ((unhide OX).later hb)
  clear OX
  have OX := hide (unhide T_)
  clear T_
  have T_ := hide (row_lat (unhide RX) hb)
  clear RX
  have RX := hide (unhide T_)
  clear T_
  have T_ := hide (row_lat (unhide RP) hb)
  clear RP
  have RP := hide (unhide T_)
  clear T_
  have T_ := hide ((unhide OY).later hb)
  clear OY
  have OY := hide (unhide T_)
  clear T_
  have T_ := hide (row_lat (unhide RY) hb)
  clear RY
  have RY := hide (unhide T_)
  clear T_
  have T_ := hide (row_lat (unhide RQ) hb)
  clear RQ
  have RQ := hide (unhide T_)
  clear T_
  have T_ := hide ((unhide OU).later hb)
  clear OU
  have OU := hide (unhide T_)
  clear T_
  have T_ := hide (row_lat (unhide RU) hb)
  clear RU
  have RU := hide (unhide T_)
  clear T_
  have T_ := hide ((unhide OV).later hb)
  clear OV
  have OV := hide (unhide T_)
  clear T_
  have T_ := hide (row_lat (unhide RV) hb)
  clear RV
  have RV := hide (unhide T_)
  clear T_
  clear hb P
  have u_m := row_m (unhide RU)
  have u_r := row_r (unhide RU)
  have u_n := row_n (unhide RU)
  have u_z := row_z (unhide RU)
  have u_v := row_v (unhide RU)
  have u_c := row_c (unhide RU)
  have u_i := row_i (unhide RU)
  have u_o := row_o (unhide RU)
  have u_st := row_st (unhide RU)
  have v_m := row_m (unhide RV)
  have v_r := row_r (unhide RV)
  have v_n := row_n (unhide RV)
  have v_z := row_z (unhide RV)
  have v_v := row_v (unhide RV)
  have v_c := row_c (unhide RV)
  have v_i := row_i (unhide RV)
  have v_o := row_o (unhide RV)
  have v_st := row_st (unhide RV)
  have P := hide (sameM_any u v E _ ((unhide FV).trans (unhide FU).symm) (small_mv (unhide OU).rd (unhide ES)) (unhide OU).rd (unhide OV).rd)
  go_wp2_with fail
  clear u_m v_m u_r v_r u_n v_n u_z v_z u_v v_v u_c v_c u_i v_i u_o v_o u_st v_st
  refine (unhide P).mono ?_
  rintro e w11 ⟨rfl, hb⟩
  have T_ := hide ((unhide L).later hb)
  clear L
  have L := hide (unhide T_)
  clear T_
  have T_ := hide ((unhide AM).later hb)
  clear AM
  have AM := hide (unhide T_)
  clear T_
  have T_ := hide (row_lat (unhide RM) hb)
  clear RM
  have RM := hide (unhide T_)
  clear T_
  have T_ := hide (row_lat (unhide RO) hb)
  clear RO
  have RO := hide (unhide T_)
  clear T_
  have T_ := hide ((unhide OX).later hb)
  clear OX
  have OX := hide (unhide T_)
  clear T_
  have T_ := hide (row_lat (unhide RX) hb)
  clear RX
  have RX := hide (unhide T_)
  clear T_
  have T_ := hide (row_lat (unhide RP) hb)
  clear RP
  have RP := hide (unhide T_)
  clear T_
  have T_ := hide ((unhide OY).later hb)
  clear OY
  have OY := hide (unhide T_)
  clear T_
  have T_ := hide (row_lat (unhide RY) hb)
  clear RY
  have RY := hide (unhide T_)
  clear T_
  have T_ := hide (row_lat (unhide RQ) hb)
  clear RQ
  have RQ := hide (unhide T_)
  clear T_
  have T_ := hide ((unhide OU).later hb)
  clear OU
  have OU := hide (unhide T_)
  clear T_
  have T_ := hide (row_lat (unhide RU) hb)
  clear RU
  have RU := hide (unhide T_)
  clear T_
  have T_ := hide ((unhide OV).later hb)
  clear OV
  have OV := hide (unhide T_)
  clear T_
  have T_ := hide (row_lat (unhide RV) hb)
  clear RV
  have RV := hide (unhide T_)
  clear T_
  clear hb P
  have p0 := row_m (unhide RX)
  have q0 : w11.cell? ⟨w1.heap.size, 0, none⟩ = some (.slice m.m.a x.m.n m.m.c) := by rw [← (unhide OX).rd.ml, unhide DM, (unhide AM).rd.ml]; exact row_m (unhide RM)
  have P := hide (sameInts_any x.m.a m.m.a x.m.n x.m.c m.m.c D.m w11 (unhide OX).rd.ml (by have := (small_mv (unhide OX).rd (unhide DS)).1; omega) (unhide OX).rd.m (by rw [unhide DM]; exact (unhide AM).rd.m))
  go_wp2_with fail
  refine (unhide P).mono ?_
  rintro e w12 ⟨rfl, hb⟩
  have T_ := hide ((unhide L).later hb)
  clear L
  have L := hide (unhide T_)
  clear T_
  have T_ := hide ((unhide AM).later hb)
  clear AM
  have AM := hide (unhide T_)
  clear T_
  have T_ := hide (row_lat (unhide RM) hb)
  clear RM
  have RM := hide (unhide T_)
  clear T_
  have T_ := hide (row_lat (unhide RO) hb)
  clear RO
  have RO := hide (unhide T_)
  clear T_
  have T_ := hide ((unhide OX).later hb)
  clear OX
  have OX := hide (unhide T_)
  clear T_
  have T_ := hide (row_lat (unhide RX) hb)
  clear RX
  have RX := hide (unhide T_)
  clear T_
  have T_ := hide (row_lat (unhide RP) hb)
  clear RP
  have RP := hide (unhide T_)
  clear T_
  have T_ := hide ((unhide OY).later hb)
  clear OY
  have OY := hide (unhide T_)
  clear T_
  have T_ := hide (row_lat (unhide RY) hb)
  clear RY
  have RY := hide (unhide T_)
  clear T_
  have T_ := hide (row_lat (unhide RQ) hb)
  clear RQ
  have RQ := hide (unhide T_)
  clear T_
  have T_ := hide ((unhide OU).later hb)
  clear OU
  have OU := hide (unhide T_)
  clear T_
  have T_ := hide (row_lat (unhide RU) hb)
  clear RU
  have RU := hide (unhide T_)
  clear T_
  have T_ := hide ((unhide OV).later hb)
  clear OV
  have OV := hide (unhide T_)
  clear T_
  have T_ := hide (row_lat (unhide RV) hb)
  clear RV
  have RV := hide (unhide T_)
  clear T_
  clear hb P
  go_wp2
  go_ret
  exact ⟨rfl, (unhide L).bel⟩

set_option maxRecDepth 100000 in
theorem lifted (os : Os) (started : os.Started) (H : Type) (enc : TypeId × Value → H) :
    ReturnsInHanded {} Try.checked os 4 .any (Rows.fnPlacesSpec.pre6 enc Try.prog Try.f4 Rows.fnPlacesRow.domain false) (Rows.fnPlacesSpec.post enc Try.prog Try.f4 false true false false) := by
  refine returnsInHanded_of_change (C := Try.checked) own started (by kernel_rfl) Try.func4
    (ChangeSpec.witness6 (enc := enc) (C := Try.checked) false ⟨#[], #[.slice none 0 0], []⟩ 8 (by kernel_rfl) (by kernel_rfl) (by kernel_rfl) (by kernel_rfl)) ?_
  intro W base args ds gs before hval0 hW hcnd _
  have hval : ∀ (j : Nat) t v, Try.f4.params[j]? = some t → args[j]? = some v → Value.okWide Try.prog W .any base t v := hval0
  have hW' := hW
  obtain ⟨p, q, hA0, hV, rfl, hfz, hnd⟩ := hW
  have hA : DataW.TrodAll enc Try.prog W 0 (fun _ => true) true Try.f4.params.toList args.toList ds p := hA0
  rw [Try.params4] at hA hval
  obtain ⟨v0, vs0, d0, ds0, p0, q0, hargs, rfl, rfl, h0, r0⟩ := trodAll_cons hA
  obtain ⟨rfl, rfl, rfl⟩ := trodAll_nil r0
  obtain rfl : args = #[v0] := by cases args; simp_all
  obtain ⟨rfl, rfl⟩ := trodVars_none hV
  have k0 := h0
  have lt0 : ∀ x ∈ p0, x.block < W.heap.size := by obtain ⟨m, hm⟩ := k0; exact DataW.trod_lt m _ _ _ hm
  obtain ⟨a0, len0, cap0, rfl⟩ := okWide_slice Try.underlying22 (hval 0 22 v0 rfl rfl)
  obtain ⟨z0, w0⟩ : ∃ zs, IsRow .u8 W a0 len0 cap0 zs := by
    obtain ⟨fuel, hf⟩ := h0
    rcases open_ints Try.underlying22 Try.underlying5 (by kernel_rfl) hf with ⟨hcs, _⟩ | ⟨x, l, c, zs, hcs, _, hl, hm, hz, _, hcell, hwz⟩
    · simp [Value.cells] at hcs
      obtain ⟨rfl, rfl, rfl⟩ := hcs
      exact ⟨[], .inl ⟨rfl, rfl, rfl, rfl⟩⟩
    · simp [Value.cells] at hcs
      obtain ⟨rfl, rfl, rfl⟩ := hcs
      exact ⟨zs, .inr ⟨_, rfl, hl, hm, by simpa using hz, hcell, hwz⟩⟩
  clear hA0 hval0
  refine (walk a0 len0 cap0 z0 W w0).mono fun e W' ⟨he, bel⟩ => ?_
  subst he
  exact ⟨_, rfl, _, _, _, [], _, [], hW', trodAll_mk1 (shut_bool Try.underlying4 _), (trodAll_cons_mk (Below.trod laidOut (by kernel_rfl) (of_decide_eq_true (by kernel_rfl)) k0 bel lt0) trodAll_mk0), rfl, bel.frame _, fun h => by cases h⟩

theorem over : Rows.fnPlacesRow.holds Try.pinned (OpenSpec.ofChange Rows.fnPlacesSpec) :=
  OpenClaim.holds_of_wide 4 Try.f4 rfl rfl rfl rfl rfl rfl rfl ⟨rfl, rfl, rfl, rfl, rfl⟩ rfl rfl rfl rfl rfl (by kernel_rfl) Try.func4 (by kernel_rfl)
    (of_decide_eq_true (by kernel_rfl)) (by unfold Func.isWrapper; first | (rw [if_pos (by decide +kernel)]; kernel_rfl) | (rw [if_neg (by decide +kernel)]; exact ⟨rfl, rfl⟩))
    (fun os started H enc _ => lifted os started H enc)

theorem proved : Rows.FnPlacesSaid := over
end Go.Proofs.Ytfkmibgamkignaa.fnPlaces

namespace Go.Proofs.Ytfkmibgamkignaa
theorem fnPlaces_holds : Rows.FnPlacesSaid := fnPlaces.proved
#print axioms fnPlaces_holds
end Go.Proofs.Ytfkmibgamkignaa
