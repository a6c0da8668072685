/- For every code the law on machines of any kind answers true: MachOk, ReadW, WriteW and Flags answer as the model answers -/
import Derived.Test.YtjpbjbnialehbaaRows
import Derived.Test.YtjpbjbnialehbaaBtE
import Derived.Deep.RegionHeld
import Derived.WalkKit
import Derived.ProofKit
import Derived.OpenShut
import Derived.ShutString
import Derived.ChangeOld
import Derived.Below
namespace Go.Proofs.Ytjpbjbnialehbaa.fnMachsBent
open Go.ChangeShapes Go.WideShapes Go.ChangeAt Go.RowKit
open Go.ChangeMaps (open_string shut_string)
set_option linter.unusedVariables false

theorem own : ownKnob Try.prog.godebug = none := by kernel_rfl
theorem laidOut : laidOutB Try.prog = true := by kernel_rfl

set_option maxRecDepth 100000 in
set_option maxHeartbeats 16000000 in
theorem walk (a : Option Addr) (len cap : Nat) (zs : List Int) (W : World) (r0 : IsRow .u8 W a len cap zs) :
    Calls Try.prog 4 #[.slice a len cap] W fun e W' => e = .returned (.bool true) ∧ Below W.heap.size W W' := by
  obtain ⟨xs, hl, lc, mcap, hr⟩ := rd_of_row r0
  unfold maxLen at mcap
  have L := hide (show Lc W W a xs from ⟨Below.refl _ _, hr⟩)
  clear r0 hr
  have BG := hide (fun w => big_free a len cap w (by omega))
  by_cases hbig : len ≤ 1048576
  rotate_left
  · have hd : decide ((1048576 : Int) < (len : Int)) = true := by simp; omega
    rw [hd] at BG
    clear L hd
    go_enter Try.func4, Try.ntmps4
    go_wp2_with (go_at_call 7; refine (unhide BG _).mono ?_; rintro e w' ⟨rfl, rfl⟩)
    go_ret
    exact ⟨rfl, Below.refl _ _⟩
  have hd : decide ((1048576 : Int) < (len : Int)) = false := by simp; omega
  rw [hd] at BG
  have HL := hide hl
  have HM := hide hbig
  have P := hide (drawOk_any a len cap xs W hl hbig (unhide L).rd)
  clear hd hl hbig lc mcap
  go_enter Try.func4, Try.ntmps4
  go_wp2_with (first | (go_at_call 7; refine (unhide BG _).mono ?_; rintro e w' ⟨rfl, hw'⟩; rw [hw']; clear hw' w'))
  refine (unhide P).mono ?_
  rintro e w1 ⟨x, dx, rfl, am, hb⟩
  have T_ := hide ((unhide L).later hb)
  clear L
  have L := hide (unhide T_)
  clear T_
  have AX := hide am
  have RX := hide (heap_alloc_last w1 (.cells x.cs 38))
  have T_ := hide ((unhide L).later (below_new w1 (.cells x.cs 38)))
  clear L
  have L := hide (unhide T_)
  clear T_
  have T_ := hide ((unhide AX).later (below_new w1 (.cells x.cs 38)))
  clear AX
  have AX := hide (unhide T_)
  clear T_
  clear hb P am
  clear BG
  have P := hide (drawRead_any a len cap xs (w1.alloc (.cells x.cs 38)) (unhide HL) (unhide HM) (unhide L).rd)
  go_wp2_with (first | (refine wpList_store_new rfl 38 _ _ rfl x.cs rfl rfl _ (by kernel_rfl) rfl (Mv.cs_one _) ?_))
  refine (unhide P).mono ?_
  rintro e w2 ⟨m, dm, at1, rfl, am, hb⟩
  have T_ := hide ((unhide L).later hb)
  clear L
  have L := hide (unhide T_)
  clear T_
  have T_ := hide ((unhide AX).later hb)
  clear AX
  have AX := hide (unhide T_)
  clear T_
  have T_ := hide (row_lat (unhide RX) hb)
  clear RX
  have RX := hide (unhide T_)
  clear T_
  have AM := hide am
  have RM := hide (heap_alloc_last w2 (.cells m.cs 38))
  have T_ := hide ((unhide L).later (below_new w2 (.cells m.cs 38)))
  clear L
  have L := hide (unhide T_)
  clear T_
  have T_ := hide ((unhide AX).later (below_new w2 (.cells m.cs 38)))
  clear AX
  have AX := hide (unhide T_)
  clear T_
  have T_ := hide (row_lat (unhide RX) (below_new w2 (.cells m.cs 38)))
  clear RX
  have RX := hide (unhide T_)
  clear T_
  have T_ := hide ((unhide AM).later (below_new w2 (.cells m.cs 38)))
  clear AM
  have AM := hide (unhide T_)
  clear T_
  clear hb P am
  have P := hide (readI_any m dm at1 (w2.alloc (.cells m.cs 38)) (small_mv (unhide AM).rd (unhide AM).sm) (unhide AM).nz (unhide AM).rd)
  have P2 := hide (fun w (h : RdM w m dm) => readS_any m dm at1 w (small_mv (unhide AM).rd (unhide AM).sm) h)
  generalize dm.get at1 = g1 at P P2
  generalize dm.has at1 = h1 at P P2
  go_wp2_with (first | (refine wpList_store_new rfl 38 _ _ rfl m.cs rfl rfl _ (by kernel_rfl) rfl (Mv.cs_one _) ?_) | (refine wpList_load_row rfl 38 _ rfl w2.heap.size rfl 38 m.cs (0, 0) _ (unhide RM) Try.underlying38 rfl (by kernel_rfl) ?_))
  refine (unhide P).mono ?_
  rintro e w3 ⟨rfl, hb⟩
  have T_ := hide ((unhide L).later hb)
  clear L
  have L := hide (unhide T_)
  clear T_
  have T_ := hide ((unhide AX).later hb)
  clear AX
  have AX := hide (unhide T_)
  clear T_
  have T_ := hide (row_lat (unhide RX) hb)
  clear RX
  have RX := hide (unhide T_)
  clear T_
  have T_ := hide ((unhide AM).later hb)
  clear AM
  have AM := hide (unhide T_)
  clear T_
  have T_ := hide (row_lat (unhide RM) hb)
  clear RM
  have RM := hide (unhide T_)
  clear T_
  clear hb P
  have P := hide (unhide P2 w3 (unhide AM).rd)
  go_wp2_with (first | (refine wpList_load_row rfl 38 _ rfl w2.heap.size rfl 38 m.cs (0, 0) _ (unhide RM) Try.underlying38 rfl (by kernel_rfl) ?_))
  refine (unhide P).mono ?_
  rintro e w4 ⟨rfl, hb⟩
  have T_ := hide ((unhide L).later hb)
  clear L
  have L := hide (unhide T_)
  clear T_
  have T_ := hide ((unhide AX).later hb)
  clear AX
  have AX := hide (unhide T_)
  clear T_
  have T_ := hide (row_lat (unhide RX) hb)
  clear RX
  have RX := hide (unhide T_)
  clear T_
  have T_ := hide ((unhide AM).later hb)
  clear AM
  have AM := hide (unhide T_)
  clear T_
  have T_ := hide (row_lat (unhide RM) hb)
  clear RM
  have RM := hide (unhide T_)
  clear T_
  clear hb P P2 AM RM
  have P := hide (drawWrite_any a len cap xs w4 (unhide HL) (unhide HM) (unhide L).rd)
  go_wp2_with fail
  refine (unhide P).mono ?_
  rintro e w5 ⟨n, dn, at2, va, rfl, am, hb⟩
  have T_ := hide ((unhide L).later hb)
  clear L
  have L := hide (unhide T_)
  clear T_
  have T_ := hide ((unhide AX).later hb)
  clear AX
  have AX := hide (unhide T_)
  clear T_
  have T_ := hide (row_lat (unhide RX) hb)
  clear RX
  have RX := hide (unhide T_)
  clear T_
  have AN := hide am
  have RN := hide (heap_alloc_last w5 (.cells n.cs 38))
  have T_ := hide ((unhide L).later (below_new w5 (.cells n.cs 38)))
  clear L
  have L := hide (unhide T_)
  clear T_
  have T_ := hide ((unhide AX).later (below_new w5 (.cells n.cs 38)))
  clear AX
  have AX := hide (unhide T_)
  clear T_
  have T_ := hide (row_lat (unhide RX) (below_new w5 (.cells n.cs 38)))
  clear RX
  have RX := hide (unhide T_)
  clear T_
  have T_ := hide ((unhide AN).later (below_new w5 (.cells n.cs 38)))
  clear AN
  have AN := hide (unhide T_)
  clear T_
  clear hb P am
  have P := hide (writeI_any n dn at2 va (w5.alloc (.cells n.cs 38)) (small_mv (unhide AN).rd (unhide AN).sm) (unhide AN).nz (unhide AN).rd)
  have P2 := hide (fun w (h : RdM w n dn) => writeS_any n dn at2 va w (small_mv (unhide AN).rd (unhide AN).sm) (unhide AN).nz h)
  have SE := hide (small_put (unhide AN).sm at2 va)
  generalize dn.put at2 va = ee at P P2 SE
  generalize dn.has at2 = h2 at P P2
  go_wp2_with (first | (refine wpList_store_new rfl 38 _ _ rfl n.cs rfl rfl _ (by kernel_rfl) rfl (Mv.cs_one _) ?_) | (refine wpList_load_row rfl 38 _ rfl w5.heap.size rfl 38 n.cs (0, 0) _ (unhide RN) Try.underlying38 rfl (by kernel_rfl) ?_))
  refine (unhide P).mono ?_
  rintro e w6 ⟨p, rfl, fy, oy, hb⟩
  have T_ := hide ((unhide L).later hb)
  clear L
  have L := hide (unhide T_)
  clear T_
  have T_ := hide ((unhide AX).later hb)
  clear AX
  have AX := hide (unhide T_)
  clear T_
  have T_ := hide (row_lat (unhide RX) hb)
  clear RX
  have RX := hide (unhide T_)
  clear T_
  have T_ := hide ((unhide AN).later hb)
  clear AN
  have AN := hide (unhide T_)
  clear T_
  have T_ := hide (row_lat (unhide RN) hb)
  clear RN
  have RN := hide (unhide T_)
  clear T_
  have FP := hide fy
  have OP := hide oy
  have RP := hide (heap_alloc_last w6 (.cells p.cs 38))
  have T_ := hide ((unhide L).later (below_new w6 (.cells p.cs 38)))
  clear L
  have L := hide (unhide T_)
  clear T_
  have T_ := hide ((unhide AX).later (below_new w6 (.cells p.cs 38)))
  clear AX
  have AX := hide (unhide T_)
  clear T_
  have T_ := hide (row_lat (unhide RX) (below_new w6 (.cells p.cs 38)))
  clear RX
  have RX := hide (unhide T_)
  clear T_
  have T_ := hide ((unhide AN).later (below_new w6 (.cells p.cs 38)))
  clear AN
  have AN := hide (unhide T_)
  clear T_
  have T_ := hide (row_lat (unhide RN) (below_new w6 (.cells p.cs 38)))
  clear RN
  have RN := hide (unhide T_)
  clear T_
  have T_ := hide ((unhide OP).later (below_new w6 (.cells p.cs 38)))
  clear OP
  have OP := hide (unhide T_)
  clear T_
  clear hb fy oy P
  have P := hide (unhide P2 (w6.alloc (.cells p.cs 38)) (unhide AN).rd)
  go_wp2_with (first | (refine wpList_store_new rfl 38 _ _ rfl p.cs rfl rfl _ (by kernel_rfl) rfl (Mv.cs_one _) ?_) | (refine wpList_load_row rfl 38 _ rfl w5.heap.size rfl 38 n.cs (0, 0) _ (unhide RN) Try.underlying38 rfl (by kernel_rfl) ?_))
  refine (unhide P).mono ?_
  rintro e w7 ⟨q, rfl, fy, oy, hb⟩
  have T_ := hide ((unhide L).later hb)
  clear L
  have L := hide (unhide T_)
  clear T_
  have T_ := hide ((unhide AX).later hb)
  clear AX
  have AX := hide (unhide T_)
  clear T_
  have T_ := hide (row_lat (unhide RX) hb)
  clear RX
  have RX := hide (unhide T_)
  clear T_
  have T_ := hide ((unhide AN).later hb)
  clear AN
  have AN := hide (unhide T_)
  clear T_
  have T_ := hide (row_lat (unhide RN) hb)
  clear RN
  have RN := hide (unhide T_)
  clear T_
  have T_ := hide ((unhide OP).later hb)
  clear OP
  have OP := hide (unhide T_)
  clear T_
  have T_ := hide (row_lat (unhide RP) hb)
  clear RP
  have RP := hide (unhide T_)
  clear T_
  have FQ := hide fy
  have OQ := hide oy
  have RQ := hide (heap_alloc_last w7 (.cells q.cs 38))
  have T_ := hide ((unhide L).later (below_new w7 (.cells q.cs 38)))
  clear L
  have L := hide (unhide T_)
  clear T_
  have T_ := hide ((unhide AX).later (below_new w7 (.cells q.cs 38)))
  clear AX
  have AX := hide (unhide T_)
  clear T_
  have T_ := hide (row_lat (unhide RX) (below_new w7 (.cells q.cs 38)))
  clear RX
  have RX := hide (unhide T_)
  clear T_
  have T_ := hide ((unhide AN).later (below_new w7 (.cells q.cs 38)))
  clear AN
  have AN := hide (unhide T_)
  clear T_
  have T_ := hide (row_lat (unhide RN) (below_new w7 (.cells q.cs 38)))
  clear RN
  have RN := hide (unhide T_)
  clear T_
  have T_ := hide ((unhide OP).later (below_new w7 (.cells q.cs 38)))
  clear OP
  have OP := hide (unhide T_)
  clear T_
  have T_ := hide (row_lat (unhide RP) (below_new w7 (.cells q.cs 38)))
  clear RP
  have RP := hide (unhide T_)
  clear T_
  have T_ := hide ((unhide OQ).later (below_new w7 (.cells q.cs 38)))
  clear OQ
  have OQ := hide (unhide T_)
  clear T_
  clear hb fy oy P
  clear P2 AN RN
  have P := hide (drawFlags_any a len cap xs (w7.alloc (.cells q.cs 38)) (unhide HL) (unhide HM) (unhide L).rd)
  go_wp2_with (first | (refine wpList_store_new rfl 38 _ _ rfl q.cs rfl rfl _ (by kernel_rfl) rfl (Mv.cs_one _) ?_))
  refine (unhide P).mono ?_
  rintro e w8 ⟨b, rfl, hb⟩
  have T_ := hide ((unhide L).later hb)
  clear L
  have L := hide (unhide T_)
  clear T_
  have T_ := hide ((unhide AX).later hb)
  clear AX
  have AX := hide (unhide T_)
  clear T_
  have T_ := hide (row_lat (unhide RX) hb)
  clear RX
  have RX := hide (unhide T_)
  clear T_
  have T_ := hide ((unhide OP).later hb)
  clear OP
  have OP := hide (unhide T_)
  clear T_
  have T_ := hide (row_lat (unhide RP) hb)
  clear RP
  have RP := hide (unhide T_)
  clear T_
  have T_ := hide ((unhide OQ).later hb)
  clear OQ
  have OQ := hide (unhide T_)
  clear T_
  have T_ := hide (row_lat (unhide RQ) hb)
  clear RQ
  have RQ := hide (unhide T_)
  clear T_
  have RB := hide (heap_alloc_last w8 (.cells b.cs 38))
  have T_ := hide ((unhide L).later (below_new w8 (.cells b.cs 38)))
  clear L
  have L := hide (unhide T_)
  clear T_
  have T_ := hide ((unhide AX).later (below_new w8 (.cells b.cs 38)))
  clear AX
  have AX := hide (unhide T_)
  clear T_
  have T_ := hide (row_lat (unhide RX) (below_new w8 (.cells b.cs 38)))
  clear RX
  have RX := hide (unhide T_)
  clear T_
  have T_ := hide ((unhide OP).later (below_new w8 (.cells b.cs 38)))
  clear OP
  have OP := hide (unhide T_)
  clear T_
  have T_ := hide (row_lat (unhide RP) (below_new w8 (.cells b.cs 38)))
  clear RP
  have RP := hide (unhide T_)
  clear T_
  have T_ := hide ((unhide OQ).later (below_new w8 (.cells b.cs 38)))
  clear OQ
  have OQ := hide (unhide T_)
  clear T_
  have T_ := hide (row_lat (unhide RQ) (below_new w8 (.cells b.cs 38)))
  clear RQ
  have RQ := hide (unhide T_)
  clear T_
  clear hb P
  go_wp2_with (first | (refine wpList_store_new rfl 38 _ _ rfl b.cs rfl rfl _ (by kernel_rfl) rfl (Mv.cs_one _) ?_))
  generalize hw9 : w8.alloc (.cells b.cs 38) = w9 at *
  clear hw9
  have T_ := hide ((unhide L).later (below_drew (w := w9)))
  clear L
  have L := hide (unhide T_)
  clear T_
  have T_ := hide ((unhide AX).later (below_drew (w := w9)))
  clear AX
  have AX := hide (unhide T_)
  clear T_
  have T_ := hide (row_lat (unhide RX) (below_drew (w := w9)))
  clear RX
  have RX := hide (unhide T_)
  clear T_
  have T_ := hide ((unhide OP).later (below_drew (w := w9)))
  clear OP
  have OP := hide (unhide T_)
  clear T_
  have T_ := hide (row_lat (unhide RP) (below_drew (w := w9)))
  clear RP
  have RP := hide (unhide T_)
  clear T_
  have T_ := hide ((unhide OQ).later (below_drew (w := w9)))
  clear OQ
  have OQ := hide (unhide T_)
  clear T_
  have T_ := hide (row_lat (unhide RQ) (below_drew (w := w9)))
  clear RQ
  have RQ := hide (unhide T_)
  clear T_
  have T_ := hide (row_lat (unhide RB) (below_drew (w := w9)))
  clear RB
  have RB := hide (unhide T_)
  clear T_
  refine wp_region_held_drew (S := fun v => v.heap[w1.heap.size]? = some (.cells x.cs 38 (0, 0)) ∧ v.heap[w6.heap.size]? = some (.cells p.cs 38 (0, 0)) ∧ v.heap[w7.heap.size]? = some (.cells q.cs 38 (0, 0)) ∧ v.heap[w8.heap.size]? = some (.cells b.cs 38 (0, 0))) (by kernel_rfl) ⟨unhide RX, unhide RP, unhide RQ, unhide RB⟩ (fun hS => ?_)
  have HS := hide hS
  clear hS
  refine wpAnyH_take (i := 0) (v := .agg x.cs) rfl (by kernel_rfl) (by kernel_rfl) (by kernel_rfl) (fun _ _ _ h => h) (yields_loadG (by rfl) 38 _ rfl w1.heap.size rfl 38 x.cs _ (fun w h => h.1) Try.underlying38 rfl (by kernel_rfl)) (unhide HS) ?_
  go_simp
  refine wpAnyH_take (i := 2) (v := .agg x.cs) rfl (by kernel_rfl) (by kernel_rfl) (by kernel_rfl) (fun _ _ _ h => h) (yields_loadG (by rfl) 38 _ rfl w1.heap.size rfl 38 x.cs _ (fun w h => h.1) Try.underlying38 rfl (by kernel_rfl)) (unhide HS) ?_
  go_simp
  obtain ⟨kb, hkb⟩ : ∃ b, dx.ok x.st = b := ⟨_, rfl⟩
  have HKB := hide hkb
  clear hkb
  have P := hide (okI_any x dx w9.drew (small_mv (unhide AX).rd (unhide AX).sm) (unhide AX).rd)
  rw [unhide HKB] at P
  refine wpAnyH_ready (rs := [1]) (by kernel_rfl) (by simp) ?_
  refine AllReadyH.cons rfl (fun K2 hK => ?_) AllReadyH.nil
  go_simp
  refine (unhide P).mono ?_
  rintro e w10 ⟨rfl, hb⟩
  have T_ := hide ((unhide L).later hb)
  clear L
  have L := hide (unhide T_)
  clear T_
  have T_ := hide ((unhide AX).later hb)
  clear AX
  have AX := hide (unhide T_)
  clear T_
  have T_ := hide (row_lat (unhide RX) hb)
  clear RX
  have RX := hide (unhide T_)
  clear T_
  have T_ := hide ((unhide OP).later hb)
  clear OP
  have OP := hide (unhide T_)
  clear T_
  have T_ := hide (row_lat (unhide RP) hb)
  clear RP
  have RP := hide (unhide T_)
  clear T_
  have T_ := hide ((unhide OQ).later hb)
  clear OQ
  have OQ := hide (unhide T_)
  clear T_
  have T_ := hide (row_lat (unhide RQ) hb)
  clear RQ
  have RQ := hide (unhide T_)
  clear T_
  have T_ := hide (row_lat (unhide RB) hb)
  clear RB
  have RB := hide (unhide T_)
  clear T_
  refine hK.out _ _ ⟨unhide RX, unhide RP, unhide RQ, unhide RB⟩ (fun hS => ?_)
  clear HS
  have HS := hide hS
  clear hS hK K2
  clear hb P
  have P := hide (okS_any x dx w10 (small_mv (unhide AX).rd (unhide AX).sm) (unhide AX).rd)
  rw [unhide HKB] at P
  refine wpAnyH_ready (rs := [3]) (by kernel_rfl) (by simp) ?_
  refine AllReadyH.cons rfl (fun K2 hK => ?_) AllReadyH.nil
  go_simp
  refine (unhide P).mono ?_
  rintro e w11 ⟨rfl, hb⟩
  have T_ := hide ((unhide L).later hb)
  clear L
  have L := hide (unhide T_)
  clear T_
  have T_ := hide ((unhide AX).later hb)
  clear AX
  have AX := hide (unhide T_)
  clear T_
  have T_ := hide (row_lat (unhide RX) hb)
  clear RX
  have RX := hide (unhide T_)
  clear T_
  have T_ := hide ((unhide OP).later hb)
  clear OP
  have OP := hide (unhide T_)
  clear T_
  have T_ := hide (row_lat (unhide RP) hb)
  clear RP
  have RP := hide (unhide T_)
  clear T_
  have T_ := hide ((unhide OQ).later hb)
  clear OQ
  have OQ := hide (unhide T_)
  clear T_
  have T_ := hide (row_lat (unhide RQ) hb)
  clear RQ
  have RQ := hide (unhide T_)
  clear T_
  have T_ := hide (row_lat (unhide RB) hb)
  clear RB
  have RB := hide (unhide T_)
  clear T_
  refine hK.out _ _ ⟨unhide RX, unhide RP, unhide RQ, unhide RB⟩ (fun hS => ?_)
  clear HS
  have HS := hide hS
  clear hS hK K2
  clear hb P
  refine wpAnyH_take (i := 4) (v := .bool true) rfl (by kernel_rfl) (by kernel_rfl) (by kernel_rfl) (fun _ _ _ h => h) (Or.inl ⟨by rfl, fun w hc => ?_⟩) (unhide HS) ?_
  · clear hc; go_simp
  go_simp
  refine wpAnyH_take (i := 5) (v := .bool true) rfl (by kernel_rfl) (by kernel_rfl) (by kernel_rfl) (fun _ _ _ h => h) (Or.inl ⟨by rfl, fun w hc => ?_⟩) (unhide HS) ?_
  · clear hc; go_simp
  go_simp
  refine wpAnyH_take (i := 6) (v := .bool h1) rfl (by kernel_rfl) (by kernel_rfl) (by kernel_rfl) (fun _ _ _ h => h) (Or.inl ⟨by rfl, fun w hc => ?_⟩) (unhide HS) ?_
  · clear hc; go_simp
  go_simp
  refine wpAnyH_take (i := 7) (v := .bool h1) rfl (by kernel_rfl) (by kernel_rfl) (by kernel_rfl) (fun _ _ _ h => h) (Or.inl ⟨by rfl, fun w hc => ?_⟩) (unhide HS) ?_
  · clear hc; go_simp
  go_simp
  refine wpAnyH_take (i := 8) (v := .bool true) rfl (by kernel_rfl) (by kernel_rfl) (by kernel_rfl) (fun _ _ _ h => h) (Or.inl ⟨by rfl, fun w hc => ?_⟩) (unhide HS) ?_
  · clear hc; go_simp
  go_simp
  refine wpAnyH_take (i := 9) (v := .bool true) rfl (by kernel_rfl) (by kernel_rfl) (by kernel_rfl) (fun _ _ _ h => h) (Or.inl ⟨by rfl, fun w hc => ?_⟩) (unhide HS) ?_
  · clear hc; go_simp
  go_simp
  refine wpAnyH_take (i := 10) (v := .bool true) rfl (by kernel_rfl) (by kernel_rfl) (by kernel_rfl) (fun _ _ _ h => h) (Or.inl ⟨by rfl, fun w hc => ?_⟩) (unhide HS) ?_
  · clear hc; go_simp
  go_simp
  refine wpAnyH_take (i := 11) (v := .int .i64 g1) rfl (by kernel_rfl) (by kernel_rfl) (by kernel_rfl) (fun _ _ _ h => h) (Or.inl ⟨by rfl, fun w hc => ?_⟩) (unhide HS) ?_
  · clear hc; go_simp
  go_simp
  refine wpAnyH_take (i := 12) (v := .int .i64 g1) rfl (by kernel_rfl) (by kernel_rfl) (by kernel_rfl) (fun _ _ _ h => h) (Or.inl ⟨by rfl, fun w hc => ?_⟩) (unhide HS) ?_
  · clear hc; go_simp
  go_simp
  refine wpAnyH_take (i := 13) (v := .bool true) rfl (by kernel_rfl) (by kernel_rfl) (by kernel_rfl) (fun _ _ _ h => h) (Or.inl ⟨by rfl, fun w hc => ?_⟩) (unhide HS) ?_
  · clear hc; go_simp
  go_simp
  refine wpAnyH_take (i := 14) (v := .bool true) rfl (by kernel_rfl) (by kernel_rfl) (by kernel_rfl) (fun _ _ _ h => h) (Or.inl ⟨by rfl, fun w hc => ?_⟩) (unhide HS) ?_
  · clear hc; go_simp
  go_simp
  refine wpAnyH_take (i := 15) (v := .bool true) rfl (by kernel_rfl) (by kernel_rfl) (by kernel_rfl) (fun _ _ _ h => h) (Or.inl ⟨by rfl, fun w hc => ?_⟩) (unhide HS) ?_
  · clear hc; go_simp
  go_simp
  refine wpAnyH_take (i := 16) (v := .bool h2) rfl (by kernel_rfl) (by kernel_rfl) (by kernel_rfl) (fun _ _ _ h => h) (Or.inl ⟨by rfl, fun w hc => ?_⟩) (unhide HS) ?_
  · clear hc; go_simp
  go_simp
  refine wpAnyH_take (i := 17) (v := .bool h2) rfl (by kernel_rfl) (by kernel_rfl) (by kernel_rfl) (fun _ _ _ h => h) (Or.inl ⟨by rfl, fun w hc => ?_⟩) (unhide HS) ?_
  · clear hc; go_simp
  go_simp
  refine wpAnyH_take (i := 18) (v := .bool true) rfl (by kernel_rfl) (by kernel_rfl) (by kernel_rfl) (fun _ _ _ h => h) (Or.inl ⟨by rfl, fun w hc => ?_⟩) (unhide HS) ?_
  · clear hc; go_simp
  go_simp
  refine wpAnyH_take (i := 19) (v := .bool true) rfl (by kernel_rfl) (by kernel_rfl) (by kernel_rfl) (fun _ _ _ h => h) (Or.inl ⟨by rfl, fun w hc => ?_⟩) (unhide HS) ?_
  · clear hc; go_simp
  go_simp
  refine wpAnyH_take (i := 20) (v := .bool true) rfl (by kernel_rfl) (by kernel_rfl) (by kernel_rfl) (fun _ _ _ h => h) (Or.inl ⟨by rfl, fun w hc => ?_⟩) (unhide HS) ?_
  · clear hc; go_simp
  go_simp
  refine wpAnyH_take (i := 21) (v := .agg p.cs) rfl (by kernel_rfl) (by kernel_rfl) (by kernel_rfl) (fun _ _ _ h => h) (yields_loadG (by rfl) 38 _ rfl w6.heap.size rfl 38 p.cs _ (fun w h => h.2.1) Try.underlying38 rfl (by kernel_rfl)) (unhide HS) ?_
  go_simp
  refine wpAnyH_take (i := 22) (v := .agg q.cs) rfl (by kernel_rfl) (by kernel_rfl) (by kernel_rfl) (fun _ _ _ h => h) (yields_loadG (by rfl) 38 _ rfl w7.heap.size rfl 38 q.cs _ (fun w h => h.2.2.1) Try.underlying38 rfl (by kernel_rfl)) (unhide HS) ?_
  go_simp
  have P := hide (sameM_any p q ee w11 ((unhide FQ).trans (unhide FP).symm) (small_mv (unhide OP).rd (unhide SE)) (unhide OP).rd (unhide OQ).rd)
  refine wpAnyH_ready (rs := [23]) (by kernel_rfl) (by simp) ?_
  refine AllReadyH.cons rfl (fun K2 hK => ?_) AllReadyH.nil
  go_simp
  refine (unhide P).mono ?_
  rintro e w12 ⟨rfl, hb⟩
  have T_ := hide ((unhide L).later hb)
  clear L
  have L := hide (unhide T_)
  clear T_
  have T_ := hide ((unhide AX).later hb)
  clear AX
  have AX := hide (unhide T_)
  clear T_
  have T_ := hide (row_lat (unhide RX) hb)
  clear RX
  have RX := hide (unhide T_)
  clear T_
  have T_ := hide ((unhide OP).later hb)
  clear OP
  have OP := hide (unhide T_)
  clear T_
  have T_ := hide (row_lat (unhide RP) hb)
  clear RP
  have RP := hide (unhide T_)
  clear T_
  have T_ := hide ((unhide OQ).later hb)
  clear OQ
  have OQ := hide (unhide T_)
  clear T_
  have T_ := hide (row_lat (unhide RQ) hb)
  clear RQ
  have RQ := hide (unhide T_)
  clear T_
  have T_ := hide (row_lat (unhide RB) hb)
  clear RB
  have RB := hide (unhide T_)
  clear T_
  refine hK.out _ _ ⟨unhide RX, unhide RP, unhide RQ, unhide RB⟩ (fun hS => ?_)
  clear HS
  have HS := hide hS
  clear hS hK K2
  clear hb P
  refine wpAnyH_take (i := 24) (v := .bool true) rfl (by kernel_rfl) (by kernel_rfl) (by kernel_rfl) (fun _ _ _ h => h) (Or.inl ⟨by rfl, fun w hc => ?_⟩) (unhide HS) ?_
  · clear hc; go_simp
  go_simp
  refine wpAnyH_take (i := 25) (v := .bool true) rfl (by kernel_rfl) (by kernel_rfl) (by kernel_rfl) (fun _ _ _ h => h) (Or.inl ⟨by rfl, fun w hc => ?_⟩) (unhide HS) ?_
  · clear hc; go_simp
  go_simp
  refine wpAnyH_take (i := 26) (v := .agg b.cs) rfl (by kernel_rfl) (by kernel_rfl) (by kernel_rfl) (fun _ _ _ h => h) (yields_loadG (by rfl) 38 _ rfl w8.heap.size rfl 38 b.cs _ (fun w h => h.2.2.2) Try.underlying38 rfl (by kernel_rfl)) (unhide HS) ?_
  go_simp
  refine wpAnyH_take (i := 28) (v := .agg b.cs) rfl (by kernel_rfl) (by kernel_rfl) (by kernel_rfl) (fun _ _ _ h => h) (yields_loadG (by rfl) 38 _ rfl w8.heap.size rfl 38 b.cs _ (fun w h => h.2.2.2) Try.underlying38 rfl (by kernel_rfl)) (unhide HS) ?_
  go_simp
  obtain ⟨fq, hfq⟩ : ∃ n, flQ b.n b.z b.v b.c = n := ⟨_, rfl⟩
  have HFQ := hide hfq
  clear hfq
  have P := hide (flagsI_any b w12)
  rw [unhide HFQ] at P
  refine wpAnyH_ready (rs := [27]) (by kernel_rfl) (by simp) ?_
  refine AllReadyH.cons rfl (fun K2 hK => ?_) AllReadyH.nil
  go_simp
  refine (unhide P).mono ?_
  rintro e w13 ⟨rfl, hb⟩
  have T_ := hide ((unhide L).later hb)
  clear L
  have L := hide (unhide T_)
  clear T_
  have T_ := hide ((unhide AX).later hb)
  clear AX
  have AX := hide (unhide T_)
  clear T_
  have T_ := hide (row_lat (unhide RX) hb)
  clear RX
  have RX := hide (unhide T_)
  clear T_
  have T_ := hide ((unhide OP).later hb)
  clear OP
  have OP := hide (unhide T_)
  clear T_
  have T_ := hide (row_lat (unhide RP) hb)
  clear RP
  have RP := hide (unhide T_)
  clear T_
  have T_ := hide ((unhide OQ).later hb)
  clear OQ
  have OQ := hide (unhide T_)
  clear T_
  have T_ := hide (row_lat (unhide RQ) hb)
  clear RQ
  have RQ := hide (unhide T_)
  clear T_
  have T_ := hide (row_lat (unhide RB) hb)
  clear RB
  have RB := hide (unhide T_)
  clear T_
  refine hK.out _ _ ⟨unhide RX, unhide RP, unhide RQ, unhide RB⟩ (fun hS => ?_)
  clear HS
  have HS := hide hS
  clear hS hK K2
  clear hb P
  have P := hide (flagsS_any b w13)
  rw [unhide HFQ] at P
  refine wpAnyH_ready (rs := [29]) (by kernel_rfl) (by simp) ?_
  refine AllReadyH.cons rfl (fun K2 hK => ?_) AllReadyH.nil
  go_simp
  refine (unhide P).mono ?_
  rintro e w14 ⟨rfl, hb⟩
  have T_ := hide ((unhide L).later hb)
  clear L
  have L := hide (unhide T_)
  clear T_
  have T_ := hide ((unhide AX).later hb)
  clear AX
  have AX := hide (unhide T_)
  clear T_
  have T_ := hide (row_lat (unhide RX) hb)
  clear RX
  have RX := hide (unhide T_)
  clear T_
  have T_ := hide ((unhide OP).later hb)
  clear OP
  have OP := hide (unhide T_)
  clear T_
  have T_ := hide (row_lat (unhide RP) hb)
  clear RP
  have RP := hide (unhide T_)
  clear T_
  have T_ := hide ((unhide OQ).later hb)
  clear OQ
  have OQ := hide (unhide T_)
  clear T_
  have T_ := hide (row_lat (unhide RQ) hb)
  clear RQ
  have RQ := hide (unhide T_)
  clear T_
  have T_ := hide (row_lat (unhide RB) hb)
  clear RB
  have RB := hide (unhide T_)
  clear T_
  refine hK.out _ _ ⟨unhide RX, unhide RP, unhide RQ, unhide RB⟩ (fun hS => ?_)
  clear HS
  have HS := hide hS
  clear hS hK K2
  clear hb P
  refine wpAnyH_take (i := 30) (v := .bool true) rfl (by kernel_rfl) (by kernel_rfl) (by kernel_rfl) (fun _ _ _ h => h) (Or.inl ⟨by rfl, fun w hc => ?_⟩) (unhide HS) ?_
  · clear hc; go_simp
  go_simp
  refine wpAnyH_take (i := 31) (v := .bool true) rfl (by kernel_rfl) (by kernel_rfl) (by kernel_rfl) (fun _ _ _ h => h) (Or.inl ⟨by rfl, fun w hc => ?_⟩) (unhide HS) ?_
  · clear hc; go_simp
  go_simp
  refine wpAnyH_take (i := 32) (v := .bool true) rfl (by kernel_rfl) (by kernel_rfl) (by kernel_rfl) (fun _ _ _ h => h) (Or.inl ⟨by rfl, fun w hc => ?_⟩) (unhide HS) ?_
  · clear hc; go_simp
  go_simp
  refine wpAnyH_done (by kernel_rfl) ?_ _
  have BL := hide (unhide L).bel
  clear HS
  go_wp2_with fail
  go_ret
  exact ⟨rfl, unhide BL⟩

set_option maxRecDepth 100000 in
theorem lifted (os : Os) (started : os.Started) (H : Type) (enc : TypeId × Value → H) :
    ReturnsInHanded {} Try.checked os 4 .any (Rows.fnMachsBentSpec.pre6 enc Try.prog Try.f4 Rows.fnMachsBentRow.domain false) (Rows.fnMachsBentSpec.post enc Try.prog Try.f4 false true false false) := by
  refine returnsInHanded_of_change (C := Try.checked) own started (by kernel_rfl) Try.func4
    (ChangeSpec.witness6 (enc := enc) (C := Try.checked) false ⟨#[], #[.slice none 0 0], []⟩ 8 (by kernel_rfl) (by kernel_rfl) (by kernel_rfl) (by kernel_rfl)) ?_
  intro W base args ds gs before hval0 hW hcnd _
  have hval : ∀ (j : Nat) t v, Try.f4.params[j]? = some t → args[j]? = some v → Value.okWide Try.prog W .any base t v := hval0
  have hW' := hW
  obtain ⟨p, q, hA0, hV, rfl, hfz, hnd⟩ := hW
  have hA : DataW.TrodAll enc Try.prog W 0 (fun _ => true) true Try.f4.params.toList args.toList ds p := hA0
  rw [Try.params4] at hA hval
  obtain ⟨v0, vs0, d0, ds0, p0, q0, hargs, rfl, rfl, h0, r0⟩ := trodAll_cons hA
  obtain ⟨rfl, rfl, rfl⟩ := trodAll_nil r0
  obtain rfl : args = #[v0] := by cases args; simp_all
  obtain ⟨rfl, rfl⟩ := trodVars_none hV
  have k0 := h0
  have lt0 : ∀ x ∈ p0, x.block < W.heap.size := by obtain ⟨m, hm⟩ := k0; exact DataW.trod_lt m _ _ _ hm
  obtain ⟨a0, len0, cap0, rfl⟩ := okWide_slice Try.underlying22 (hval 0 22 v0 rfl rfl)
  obtain ⟨z0, w0⟩ : ∃ zs, IsRow .u8 W a0 len0 cap0 zs := by
    obtain ⟨fuel, hf⟩ := h0
    rcases open_ints Try.underlying22 Try.underlying5 (by kernel_rfl) hf with ⟨hcs, _⟩ | ⟨x, l, c, zs, hcs, _, hl, hm, hz, _, hcell, hwz⟩
    · simp [Value.cells] at hcs
      obtain ⟨rfl, rfl, rfl⟩ := hcs
      exact ⟨[], .inl ⟨rfl, rfl, rfl, rfl⟩⟩
    · simp [Value.cells] at hcs
      obtain ⟨rfl, rfl, rfl⟩ := hcs
      exact ⟨zs, .inr ⟨_, rfl, hl, hm, by simpa using hz, hcell, hwz⟩⟩
  clear hA0 hval0
  refine (walk a0 len0 cap0 z0 W w0).mono fun e W' ⟨he, bel⟩ => ?_
  subst he
  exact ⟨_, rfl, _, _, _, [], _, [], hW', trodAll_mk1 (shut_bool Try.underlying4 _), (trodAll_cons_mk (Below.trod laidOut (by kernel_rfl) (of_decide_eq_true (by kernel_rfl)) k0 bel lt0) trodAll_mk0), rfl, bel.frame _, fun h => by cases h⟩

theorem over : Rows.fnMachsBentRow.holds Try.pinned (OpenSpec.ofChange Rows.fnMachsBentSpec) :=
  OpenClaim.holds_of_wide 4 Try.f4 rfl rfl rfl rfl rfl rfl rfl ⟨rfl, rfl, rfl, rfl, rfl⟩ rfl rfl rfl rfl rfl (by kernel_rfl) Try.func4 (by kernel_rfl)
    (of_decide_eq_true (by kernel_rfl)) (by unfold Func.isWrapper; first | (rw [if_pos (by decide +kernel)]; kernel_rfl) | (rw [if_neg (by decide +kernel)]; exact ⟨rfl, rfl⟩))
    (fun os started H enc _ => lifted os started H enc)

theorem proved : Rows.FnMachsBentSaid := over
end Go.Proofs.Ytjpbjbnialehbaa.fnMachsBent

namespace Go.Proofs.Ytjpbjbnialehbaa
theorem fnMachsBent_holds : Rows.FnMachsBentSaid := fnMachsBent.proved
#print axioms fnMachsBent_holds
end Go.Proofs.Ytjpbjbnialehbaa
