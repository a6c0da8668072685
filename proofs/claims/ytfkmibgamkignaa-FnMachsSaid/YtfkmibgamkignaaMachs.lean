/- For every code drawn from, the law on the machines answers true: a new machine has its program and nothing else; what is written is read, and no other word turns; nothing that came in is written into. No condition. -/
import Derived.Test.YtfkmibgamkignaaRows
import Derived.Test.YtfkmibgamkignaaLawE
import Derived.WalkKit
import Derived.ProofKit
import Derived.OpenShut
import Derived.ShutString
import Derived.ChangeOld
import Derived.Below
namespace Go.Proofs.Ytfkmibgamkignaa.fnMachs
open Go.ChangeShapes Go.WideShapes Go.ChangeAt Go.RowKit
open Go.ChangeMaps (open_string shut_string)
set_option linter.unusedVariables false
set_option maxRecDepth 8000

theorem own : ownKnob Try.prog.godebug = none := by kernel_rfl
theorem laidOut : laidOutB Try.prog = true := by kernel_rfl

set_option maxHeartbeats 16000000 in
theorem walk (a : Option Addr) (len cap : Nat) (zs : List Int) (W : World) (r0 : IsRow .u8 W a len cap zs) :
    Calls Try.prog 3 #[.slice a len cap] W fun e W' => e = .returned (.bool true) ∧ Below W.heap.size W W' := by
  obtain ⟨xs, hl, lc, mcap, hr⟩ := rd_of_row r0
  unfold maxLen at mcap
  have L := hide (show Lc W W a xs from ⟨Below.refl _ _, hr⟩)
  clear r0 hr
  have BG := hide (fun w => big_free a len cap w (by omega))
  by_cases hbig : len ≤ 1048576
  rotate_left
  · have hd : decide ((1048576 : Int) < (len : Int)) = true := by simp; omega
    rw [hd] at BG
    clear L hd
    go_enter Try.func3, Try.ntmps3
    go_wp2_with (go_at_call 11; refine (unhide BG _).mono ?_; rintro e w' ⟨rfl, rfl⟩)
    go_ret
    exact ⟨rfl, Below.refl _ _⟩
  have hd : decide ((1048576 : Int) < (len : Int)) = false := by simp; omega
  rw [hd] at BG
  have HL := hide hl
  have P := hide (drawNew_any a len cap xs W hl hbig (unhide L).rd)
  clear hd hl
  go_enter Try.func3, Try.ntmps3
  go_wp2_with (first | (go_at_call 11; refine (unhide BG _).mono ?_; rintro e w' ⟨rfl, hw'⟩; rw [hw']; clear hw' w'))
  refine (unhide P).mono ?_
  rintro e w1 ⟨s, t, ni, nn, p, q, rfl, ho1, ho2, li, ln, hb⟩
  have T_ := hide ((unhide L).later hb)
  clear L
  have L := hide (unhide T_)
  clear T_
  have N1 := hide ho1
  have N2 := hide ho2
  clear hb ho1 ho2 P BG
  have P := hide (newI_any s t ni nn p q w1 (unhide N1).rdS (unhide N2).rdS (unhide N1).len (unhide N2).len (by have := (unhide N1).len; omega) (by have := (unhide N2).len; omega) (unhide N2).nz)
  go_wp2_with fail
  refine (unhide P).mono ?_
  rintro e w2 ⟨m, rfl, fm, om, hb⟩
  have T_ := hide ((unhide L).later hb)
  clear L
  have L := hide (unhide T_)
  clear T_
  have T_ := hide ((unhide N1).later hb)
  clear N1
  have N1 := hide (unhide T_)
  clear T_
  have T_ := hide ((unhide N2).later hb)
  clear N2
  have N2 := hide (unhide T_)
  clear T_
  have OM := hide om
  have FM := hide fm
  have RM := hide (heap_alloc_last w2 (.cells m.cs 28))
  have T_ := hide ((unhide L).later (below_new w2 (.cells m.cs 28)))
  clear L
  have L := hide (unhide T_)
  clear T_
  have T_ := hide ((unhide N1).later (below_new w2 (.cells m.cs 28)))
  clear N1
  have N1 := hide (unhide T_)
  clear T_
  have T_ := hide ((unhide N2).later (below_new w2 (.cells m.cs 28)))
  clear N2
  have N2 := hide (unhide T_)
  clear T_
  have T_ := hide ((unhide OM).later (below_new w2 (.cells m.cs 28)))
  clear OM
  have OM := hide (unhide T_)
  clear T_
  clear hb om fm P
  have P := hide (drawMach_any a len cap xs (w2.alloc (.cells m.cs 28)) (unhide HL) hbig (unhide L).rd)
  go_wp2_with (first | (refine wpList_store_new rfl 28 _ _ rfl m.cs rfl rfl _ (by kernel_rfl) rfl (Mv.cs_one _) ?_))
  refine (unhide P).mono ?_
  rintro e w3 ⟨x, d, rfl, hst, hD, ox, hb⟩
  have T_ := hide ((unhide L).later hb)
  clear L
  have L := hide (unhide T_)
  clear T_
  have T_ := hide ((unhide N1).later hb)
  clear N1
  have N1 := hide (unhide T_)
  clear T_
  have T_ := hide ((unhide N2).later hb)
  clear N2
  have N2 := hide (unhide T_)
  clear T_
  have T_ := hide ((unhide OM).later hb)
  clear OM
  have OM := hide (unhide T_)
  clear T_
  have T_ := hide (row_lat (unhide RM) hb)
  clear RM
  have RM := hide (unhide T_)
  clear T_
  have OX := hide ox
  have DK := hide hD
  have SX := hide hst
  have RX := hide (heap_alloc_last w3 (.cells x.cs 28))
  have T_ := hide ((unhide L).later (below_new w3 (.cells x.cs 28)))
  clear L
  have L := hide (unhide T_)
  clear T_
  have T_ := hide ((unhide N1).later (below_new w3 (.cells x.cs 28)))
  clear N1
  have N1 := hide (unhide T_)
  clear T_
  have T_ := hide ((unhide N2).later (below_new w3 (.cells x.cs 28)))
  clear N2
  have N2 := hide (unhide T_)
  clear T_
  have T_ := hide ((unhide OM).later (below_new w3 (.cells x.cs 28)))
  clear OM
  have OM := hide (unhide T_)
  clear T_
  have T_ := hide (row_lat (unhide RM) (below_new w3 (.cells x.cs 28)))
  clear RM
  have RM := hide (unhide T_)
  clear T_
  have T_ := hide ((unhide OX).later (below_new w3 (.cells x.cs 28)))
  clear OX
  have OX := hide (unhide T_)
  clear T_
  clear hb ox hD hst P
  have A2 := hide (fun w hr => at_any a len cap 2 xs w (by omega) (unhide HL) hbig hr)
  have A3 := hide (fun w hr => at_any a len cap 3 xs w (by omega) (unhide HL) hbig hr)
  obtain ⟨z0, z1⟩ := atV_bd xs 2
  obtain ⟨t0, t1⟩ := atV_bd xs 3
  obtain ⟨kk, hkk⟩ := Int.eq_ofNat_of_zero_le z0
  rw [hkk] at A2 z0 z1
  clear hkk
  generalize atV xs 3 = z3 at A3 t0 t1
  have kb : kk ≤ 255 := by omega
  have hmod : (kk : Int) % 256 = (kk : Int) := by omega
  go_wp2_with (first | (refine wpList_store_new rfl 28 _ _ rfl x.cs rfl rfl _ (by kernel_rfl) rfl (Mv.cs_one _) ?_))
  refine (unhide A2 _ (unhide L).rd).mono ?_
  rintro e w' ⟨rfl, hw'⟩
  rw [hw']
  clear hw' w' A2
  generalize hwx : w3.alloc (.cells x.cs 28) = wx at L N1 N2 OM RM OX RX ⊢
  clear hwx
  obtain ⟨ge1, ge2, ge3⟩ := get_put (unhide DK) kk (z3 * 300) kb
  have HH := hide (dk_has (unhide DK) kk kb)
  have G1 := hide ge1
  have G2 := hide ge2
  have DE := hide ge3
  clear ge1 ge2 ge3
  have GO := hide (other_put (unhide DK) kk · (z3 * 300) kb)
  have WI := hide (fun w (r : RdM w x d) => writeI_any x d (2 * (kk : Int)) (z3 * 300) w (small_mv (unhide OX).rd (unhide DK).small) (unhide OX).nz r)
  rw [unhide HH] at WI
  generalize d.put (2 * (kk : Int)) (z3 * 300) = ee at *
  have hm3 : Hid (IntKind.i64.wrap (z3 * 300) = z3 * 300) := hide (by rw [IntKind.wrap_i64]; omega)
  go_wp2_with fail
  simp only [hmod]
  go_cut [10, 11] from 35 to 43 (fun v10 v11 w5 => ∃ (y : Mv) (g : Nat), v10 = .pointer (some ⟨g, 0, none⟩) ∧ v11 = .bool true ∧ y.fl = x.fl ∧ OwnM w5 0 y ee ∧ w5.heap[g]? = some (.cells y.cs 28 (0, 0)) ∧ Below wx.heap.size wx w5)
  case first =>
    rename_i J7 K7 hJ7 hM7
    have D0 := hide (row_lat (unhide RX) (below_drew (w := wx)))
    refine wp_region_held_drew (S := fun w' => w'.heap[w3.heap.size]? = some (.cells x.cs 28 (0, 0))) (by kernel_rfl) (unhide D0) (fun hS => ?_)
    have HS := hide hS
    clear hS
    refine wpAnyH_take (i := 0) (v := .agg x.cs) rfl (by kernel_rfl) (by kernel_rfl) (by kernel_rfl) (fun _ _ _ h => h) (yields_loadG (by rfl) 28 _ rfl w3.heap.size rfl 28 x.cs _ (fun w h => h) Try.underlying28 rfl (by kernel_rfl)) (unhide HS) ?_
    go_simp
    refine wpAnyH_take (i := 1) (v := .int .i64 (2 * (kk : Int))) rfl (by kernel_rfl) (by kernel_rfl) (by kernel_rfl) (fun _ _ _ h => h) (Or.inl ⟨by rfl, fun w hc => ?_⟩) (unhide HS) ?_
    · clear hc; go_simp
    go_simp
    refine wpAnyH_take (i := 2) (v := .slice a len cap) rfl (by kernel_rfl) (by kernel_rfl) (by kernel_rfl) (fun _ _ _ h => h) (Or.inl ⟨by rfl, fun w hc => ?_⟩) (unhide HS) ?_
    · clear hc; go_simp
    go_simp
    refine wpAnyH_ready (rs := [3, 9]) (by kernel_rfl) (by simp) ?_
    refine AllReadyH.cons rfl (fun K2 hK => ?_) (AllReadyH.cons rfl (fun K2 hK => ?_) AllReadyH.nil)
    · skip
      go_simp
      refine (unhide A3 wx.drew ((unhide L).later below_drew).rd).mono ?_
      rintro e w' ⟨rfl, hw'⟩
      rw [hw']
      clear hw' w'
      refine hK.out _ _ (unhide D0) (fun hS => ?_)
      clear HS
      have HS := hide hS
      clear hS hK K2
      refine wpAnyH_take (i := 4) (v := .int .i64 (z3 * 300)) rfl (by kernel_rfl) (by kernel_rfl) (by kernel_rfl) (fun _ _ _ h => h) (Or.inl ⟨by rfl, fun w hc => ?_⟩) (unhide HS) ?_
      · clear hc; have hm := unhide hm3; go_simp
      go_simp
      refine wpAnyH_ready (rs := [5, 9]) (by kernel_rfl) (by simp) ?_
      refine AllReadyH.cons rfl (fun K2 hK => ?_) (AllReadyH.cons rfl (fun K2 hK => ?_) AllReadyH.nil)
      · skip
        go_simp
        refine (unhide WI wx.drew ((unhide OX).later below_drew).rd).mono ?_
        rintro e w5 ⟨y, rfl, fy, oy, hb⟩
        refine hK.out _ _ (row_lat (unhide D0) hb) (fun hS => ?_)
        clear HS
        have HS := hide hS
        clear hS hK K2
        have FY := hide fy
        have OY := hide (oy.base (Nat.zero_le _))
        have BY := hide (Below.trans (below_drew (w := wx)) (hb.mono (Nat.le_refl _)))
        clear fy oy hb
        refine wpAnyH_take (i := 6) (v := .tuple #[.agg y.cs, .bool true]) rfl (by kernel_rfl) (by kernel_rfl) (by kernel_rfl) (fun _ _ _ h => h) (Or.inl ⟨by rfl, fun w hc => ?_⟩) (unhide HS) ?_
        · clear hc; go_simp
        go_simp
        refine wpAnyH_take (i := 7) (v := .agg y.cs) rfl (by kernel_rfl) (by kernel_rfl) (by kernel_rfl) (fun _ _ _ h => h) (Or.inl ⟨by rfl, fun w hc => ?_⟩) (unhide HS) ?_
        · clear hc; go_simp
        go_simp
        refine wpAnyH_take (i := 8) (v := .bool true) rfl (by kernel_rfl) (by kernel_rfl) (by kernel_rfl) (fun _ _ _ h => h) (Or.inl ⟨by rfl, fun w hc => ?_⟩) (unhide HS) ?_
        · clear hc; go_simp
        go_simp
        refine wpAnyH_ready (rs := [9]) (by kernel_rfl) (by simp) ?_
        refine AllReadyH.cons rfl (fun K2 hK => ?_) AllReadyH.nil
        go_simp
        refine hK.out _ _ (row_lat (unhide HS) (below_new w5 (.cells zMv.cs 28))) (fun hS => ?_)
        clear HS
        have HS := hide hS
        clear hS hK K2
        refine wpAnyH_ready (rs := [10]) (by kernel_rfl) (by simp) ?_
        refine AllReadyH.cons rfl (fun K2 hK => ?_) AllReadyH.nil
        rw [if_pos (by rfl)]
        refine wp_store_row 28 _ _ rfl w5.heap.size y.cs rfl rfl 28 zMv.cs (heap_alloc_last w5 _) (by kernel_rfl) rfl (Mv.cs_one _) ?_
        refine hK.out _ _ ((setRow_other _ _ _ _ (by have := row_lt (unhide RX); have := (unhide BY).size; omega)).trans (unhide HS)) (fun hS => ?_)
        clear HS
        have HS := hide hS
        clear hS hK K2
        go_simp
        refine wpAnyH_take (i := 11) (v := .bool true) rfl (by kernel_rfl) (by kernel_rfl) (by kernel_rfl) (fun _ _ _ h => h) (Or.inl ⟨by rfl, fun w hc => ?_⟩) (unhide HS) ?_
        · clear hc; go_simp
        go_simp
        refine wpAnyH_done (by kernel_rfl) ?_ _
        refine hM7 _ _ (Met.intro (hJ7 _ _ ?_))
        (repeat apply Exists.intro)
        refine ⟨?_, rfl⟩
        exact ⟨y, w5.heap.size, rfl, rfl, unhide FY, by rw [World.setRow_alloc_new]; exact (unhide OY).later (below_new w5 _), setRow_heap _ _ _ _ 28 _ (heap_alloc_last w5 _), by rw [World.setRow_alloc_new]; exact (unhide BY).alloc (unhide BY).size _⟩
      · skip
        go_simp
        refine hK.out _ _ (row_lat (unhide D0) (below_new wx.drew (.cells zMv.cs 28))) (fun hS => ?_)
        clear HS
        have HS := hide hS
        clear hS hK K2
        have BW6 : Below wx.heap.size wx (wx.drew.alloc (.cells zMv.cs 28)) := below_drew.alloc (Nat.le_refl _) _
        have ROW6 : (wx.drew.alloc (.cells zMv.cs 28)).heap[wx.heap.size]? = some (.cells zMv.cs 28 (0, 0)) := heap_alloc_last wx.drew _
        have sz6 : (wx.drew.alloc (.cells zMv.cs 28)).heap.size = wx.heap.size + 1 := alloc_size wx.drew _
        generalize hw6 : wx.drew.alloc (.cells zMv.cs 28) = w6 at HS BW6 ROW6 sz6
        rw [show (wx.alloc (.cells #[Value.slice none 0 0, Value.slice none 0 0, Value.bool false, Value.bool false, Value.bool false, Value.bool false, Value.slice none 0 0, Value.slice none 0 0, Value.int .i64 0] 28)).drew = w6 from hw6] at HS ⊢
        clear hw6
        refine wpAnyH_ready (rs := [5]) (by kernel_rfl) (by simp) ?_
        refine AllReadyH.cons rfl (fun K2 hK => ?_) AllReadyH.nil
        go_simp
        have OX6 := (unhide OX).later BW6
        refine (unhide WI w6 OX6.rd).mono ?_
        rintro e w5 ⟨y, rfl, fy, oy, hb⟩
        clear OX6
        refine hK.out _ _ (row_lat (unhide HS) hb) (fun hS => ?_)
        clear HS
        have HS := hide hS
        clear hS hK K2
        have FY := hide fy
        have OY := hide oy
        have BY := hide (hb.mono (Nat.le_refl _))
        have R9 := hide (row_lat ROW6 hb)
        have s5 := hb.size
        clear fy oy hb
        refine wpAnyH_take (i := 6) (v := .tuple #[.agg y.cs, .bool true]) rfl (by kernel_rfl) (by kernel_rfl) (by kernel_rfl) (fun _ _ _ h => h) (Or.inl ⟨by rfl, fun w hc => ?_⟩) (unhide HS) ?_
        · clear hc; go_simp
        go_simp
        refine wpAnyH_take (i := 7) (v := .agg y.cs) rfl (by kernel_rfl) (by kernel_rfl) (by kernel_rfl) (fun _ _ _ h => h) (Or.inl ⟨by rfl, fun w hc => ?_⟩) (unhide HS) ?_
        · clear hc; go_simp
        go_simp
        refine wpAnyH_take (i := 8) (v := .bool true) rfl (by kernel_rfl) (by kernel_rfl) (by kernel_rfl) (fun _ _ _ h => h) (Or.inl ⟨by rfl, fun w hc => ?_⟩) (unhide HS) ?_
        · clear hc; go_simp
        go_simp
        refine wpAnyH_ready (rs := [10]) (by kernel_rfl) (by simp) ?_
        refine AllReadyH.cons rfl (fun K2 hK => ?_) AllReadyH.nil
        rw [if_pos (by rfl)]
        refine wp_store_row 28 _ _ rfl wx.heap.size y.cs rfl rfl 28 zMv.cs (unhide R9) (by kernel_rfl) rfl (Mv.cs_one _) ?_
        refine hK.out _ _ ((setRow_other _ _ _ _ (by have := row_lt (unhide RX); omega)).trans (unhide HS)) (fun hS => ?_)
        clear HS
        have HS := hide hS
        clear hS hK K2
        go_simp
        refine wpAnyH_take (i := 11) (v := .bool true) rfl (by kernel_rfl) (by kernel_rfl) (by kernel_rfl) (fun _ _ _ h => h) (Or.inl ⟨by rfl, fun w hc => ?_⟩) (unhide HS) ?_
        · clear hc; go_simp
        go_simp
        refine wpAnyH_done (by kernel_rfl) ?_ _
        refine hM7 _ _ (Met.intro (hJ7 _ _ ?_))
        (repeat apply Exists.intro)
        refine ⟨?_, rfl⟩
        exact ⟨y, wx.heap.size, rfl, rfl, unhide FY, ((unhide OY).row (by omega) _).base (Nat.zero_le _), setRow_heap _ _ _ _ 28 _ (unhide R9), below_setRow (BW6.trans ((unhide BY).mono (by omega))) (Nat.le_refl _) _⟩
    · skip
      go_simp
      refine hK.out _ _ (row_lat (unhide D0) (below_new wx.drew (.cells zMv.cs 28))) (fun hS => ?_)
      clear HS
      have HS := hide hS
      clear hS hK K2
      have BW6 : Below wx.heap.size wx (wx.drew.alloc (.cells zMv.cs 28)) := below_drew.alloc (Nat.le_refl _) _
      have ROW6 : (wx.drew.alloc (.cells zMv.cs 28)).heap[wx.heap.size]? = some (.cells zMv.cs 28 (0, 0)) := heap_alloc_last wx.drew _
      have sz6 : (wx.drew.alloc (.cells zMv.cs 28)).heap.size = wx.heap.size + 1 := alloc_size wx.drew _
      generalize hw6 : wx.drew.alloc (.cells zMv.cs 28) = w6 at HS BW6 ROW6 sz6
      rw [show (wx.alloc (.cells #[Value.slice none 0 0, Value.slice none 0 0, Value.bool false, Value.bool false, Value.bool false, Value.bool false, Value.slice none 0 0, Value.slice none 0 0, Value.int .i64 0] 28)).drew = w6 from hw6] at HS ⊢
      clear hw6
      refine wpAnyH_ready (rs := [3]) (by kernel_rfl) (by simp) ?_
      refine AllReadyH.cons rfl (fun K2 hK => ?_) AllReadyH.nil
      go_simp
      refine (unhide A3 w6 ((unhide L).later BW6).rd).mono ?_
      rintro e w' ⟨rfl, hw'⟩
      rw [hw']
      clear hw' w'
      refine hK.out _ _ (unhide HS) (fun hS => ?_)
      clear HS
      have HS := hide hS
      clear hS hK K2
      refine wpAnyH_take (i := 4) (v := .int .i64 (z3 * 300)) rfl (by kernel_rfl) (by kernel_rfl) (by kernel_rfl) (fun _ _ _ h => h) (Or.inl ⟨by rfl, fun w hc => ?_⟩) (unhide HS) ?_
      · clear hc; have hm := unhide hm3; go_simp
      go_simp
      refine wpAnyH_ready (rs := [5]) (by kernel_rfl) (by simp) ?_
      refine AllReadyH.cons rfl (fun K2 hK => ?_) AllReadyH.nil
      go_simp
      have OX6 := (unhide OX).later BW6
      refine (unhide WI w6 OX6.rd).mono ?_
      rintro e w5 ⟨y, rfl, fy, oy, hb⟩
      clear OX6
      refine hK.out _ _ (row_lat (unhide HS) hb) (fun hS => ?_)
      clear HS
      have HS := hide hS
      clear hS hK K2
      have FY := hide fy
      have OY := hide oy
      have BY := hide (hb.mono (Nat.le_refl _))
      have R9 := hide (row_lat ROW6 hb)
      have s5 := hb.size
      clear fy oy hb
      refine wpAnyH_take (i := 6) (v := .tuple #[.agg y.cs, .bool true]) rfl (by kernel_rfl) (by kernel_rfl) (by kernel_rfl) (fun _ _ _ h => h) (Or.inl ⟨by rfl, fun w hc => ?_⟩) (unhide HS) ?_
      · clear hc; go_simp
      go_simp
      refine wpAnyH_take (i := 7) (v := .agg y.cs) rfl (by kernel_rfl) (by kernel_rfl) (by kernel_rfl) (fun _ _ _ h => h) (Or.inl ⟨by rfl, fun w hc => ?_⟩) (unhide HS) ?_
      · clear hc; go_simp
      go_simp
      refine wpAnyH_take (i := 8) (v := .bool true) rfl (by kernel_rfl) (by kernel_rfl) (by kernel_rfl) (fun _ _ _ h => h) (Or.inl ⟨by rfl, fun w hc => ?_⟩) (unhide HS) ?_
      · clear hc; go_simp
      go_simp
      refine wpAnyH_ready (rs := [10]) (by kernel_rfl) (by simp) ?_
      refine AllReadyH.cons rfl (fun K2 hK => ?_) AllReadyH.nil
      rw [if_pos (by rfl)]
      refine wp_store_row 28 _ _ rfl wx.heap.size y.cs rfl rfl 28 zMv.cs (unhide R9) (by kernel_rfl) rfl (Mv.cs_one _) ?_
      refine hK.out _ _ ((setRow_other _ _ _ _ (by have := row_lt (unhide RX); omega)).trans (unhide HS)) (fun hS => ?_)
      clear HS
      have HS := hide hS
      clear hS hK K2
      go_simp
      refine wpAnyH_take (i := 11) (v := .bool true) rfl (by kernel_rfl) (by kernel_rfl) (by kernel_rfl) (fun _ _ _ h => h) (Or.inl ⟨by rfl, fun w hc => ?_⟩) (unhide HS) ?_
      · clear hc; go_simp
      go_simp
      refine wpAnyH_done (by kernel_rfl) ?_ _
      refine hM7 _ _ (Met.intro (hJ7 _ _ ?_))
      (repeat apply Exists.intro)
      refine ⟨?_, rfl⟩
      exact ⟨y, wx.heap.size, rfl, rfl, unhide FY, ((unhide OY).row (by omega) _).base (Nat.zero_le _), setRow_heap _ _ _ _ 28 _ (unhide R9), below_setRow (BW6.trans ((unhide BY).mono (by omega))) (Nat.le_refl _) _⟩
  case rest =>
    obtain ⟨y, g, rfl, rfl, fy, oy, ry, hb⟩ := hcut
    have T_ := hide ((unhide L).later hb)
    clear L
    have L := hide (unhide T_)
    clear T_
    have T_ := hide ((unhide N1).later hb)
    clear N1
    have N1 := hide (unhide T_)
    clear T_
    have T_ := hide ((unhide N2).later hb)
    clear N2
    have N2 := hide (unhide T_)
    clear T_
    have T_ := hide ((unhide OM).later hb)
    clear OM
    have OM := hide (unhide T_)
    clear T_
    have T_ := hide (row_lat (unhide RM) hb)
    clear RM
    have RM := hide (unhide T_)
    clear T_
    have T_ := hide ((unhide OX).later hb)
    clear OX
    have OX := hide (unhide T_)
    clear T_
    have T_ := hide (row_lat (unhide RX) hb)
    clear RX
    have RX := hide (unhide T_)
    clear T_
    have OY := hide oy
    have RY := hide ry
    have FY := hide fy
    clear fy oy ry hb
    have P := hide (readI_any y ee (2 * (kk : Int)) wc (small_mv (unhide OY).rd (unhide DE).small) (unhide OY).nz (unhide OY).rd)
    rw [unhide G1, unhide G2] at P
    go_wp2_with (first | (refine wpList_load_row rfl 28 _ rfl g rfl 28 y.cs (0, 0) _ (unhide RY) Try.underlying28 rfl (by kernel_rfl) ?_))
    refine (unhide P).mono ?_
    rintro e w6 ⟨rfl, hb⟩
    have T_ := hide ((unhide L).later hb)
    clear L
    have L := hide (unhide T_)
    clear T_
    have T_ := hide ((unhide N1).later hb)
    clear N1
    have N1 := hide (unhide T_)
    clear T_
    have T_ := hide ((unhide N2).later hb)
    clear N2
    have N2 := hide (unhide T_)
    clear T_
    have T_ := hide ((unhide OM).later hb)
    clear OM
    have OM := hide (unhide T_)
    clear T_
    have T_ := hide (row_lat (unhide RM) hb)
    clear RM
    have RM := hide (unhide T_)
    clear T_
    have T_ := hide ((unhide OX).later hb)
    clear OX
    have OX := hide (unhide T_)
    clear T_
    have T_ := hide (row_lat (unhide RX) hb)
    clear RX
    have RX := hide (unhide T_)
    clear T_
    have T_ := hide ((unhide OY).later hb)
    clear OY
    have OY := hide (unhide T_)
    clear T_
    have T_ := hide (row_lat (unhide RY) hb)
    clear RY
    have RY := hide (unhide T_)
    clear T_
    clear hb P
    go_wp2_with fail
    have T_ := hide ((unhide L).later below_drew)
    clear L
    have L := hide (unhide T_)
    clear T_
    have T_ := hide ((unhide N1).later below_drew)
    clear N1
    have N1 := hide (unhide T_)
    clear T_
    have T_ := hide ((unhide N2).later below_drew)
    clear N2
    have N2 := hide (unhide T_)
    clear T_
    have T_ := hide ((unhide OM).later below_drew)
    clear OM
    have OM := hide (unhide T_)
    clear T_
    have T_ := hide (row_lat (unhide RM) below_drew)
    clear RM
    have RM := hide (unhide T_)
    clear T_
    have T_ := hide ((unhide OX).later below_drew)
    clear OX
    have OX := hide (unhide T_)
    clear T_
    have T_ := hide (row_lat (unhide RX) below_drew)
    clear RX
    have RX := hide (unhide T_)
    clear T_
    have T_ := hide ((unhide OY).later below_drew)
    clear OY
    have OY := hide (unhide T_)
    clear T_
    have T_ := hide (row_lat (unhide RY) below_drew)
    clear RY
    have RY := hide (unhide T_)
    clear T_
    refine wp_region_held_drew (S := fun v => v.heap[w2.heap.size]? = some (.cells m.cs 28 (0, 0)) ∧ v.heap[g]? = some (.cells y.cs 28 (0, 0))) (by kernel_rfl) ⟨unhide RM, unhide RY⟩ (fun hS => ?_)
    have HS := hide hS
    clear hS
    have st0 : m.st = 0 := fl_st (unhide FM)
    have hQ : (newD ni p q nn).ok m.st = decide (0 < m.m.n) := by rw [st0, newD_ok, (unhide OM).rd.ml]; exact decide_eq_decide.mpr (by omega)
    obtain ⟨Qb, hQb⟩ : ∃ b, decide (0 < m.m.n) = b := ⟨_, rfl⟩
    rw [hQb] at hQ
    have HQ := hide hQ
    have HQB := hide hQb
    clear hQ hQb st0
    refine wpAnyH_take (i := 0) (v := .agg m.cs) rfl (by kernel_rfl) (by kernel_rfl) (by kernel_rfl) (fun _ _ _ h => h) (yields_loadG (by rfl) 28 _ rfl w2.heap.size rfl 28 m.cs _ (fun w h => h.1) Try.underlying28 rfl (by kernel_rfl)) (unhide HS) ?_
    go_simp
    refine wpAnyH_take (i := 1) (v := .slice s.a s.n s.c) rfl (by kernel_rfl) (by kernel_rfl) (by kernel_rfl) (fun _ _ _ h => h) (Or.inl ⟨by rfl, fun w hc => ?_⟩) (unhide HS) ?_
    · clear hc; go_simp
    go_simp
    refine wpAnyH_take (i := 2) (v := .int .i64 p) rfl (by kernel_rfl) (by kernel_rfl) (by kernel_rfl) (fun _ _ _ h => h) (Or.inl ⟨by rfl, fun w hc => ?_⟩) (unhide HS) ?_
    · clear hc; go_simp
    go_simp
    refine wpAnyH_take (i := 3) (v := .int .i64 q) rfl (by kernel_rfl) (by kernel_rfl) (by kernel_rfl) (fun _ _ _ h => h) (Or.inl ⟨by rfl, fun w hc => ?_⟩) (unhide HS) ?_
    · clear hc; go_simp
    go_simp
    refine wpAnyH_take (i := 4) (v := .slice t.a t.n t.c) rfl (by kernel_rfl) (by kernel_rfl) (by kernel_rfl) (fun _ _ _ h => h) (Or.inl ⟨by rfl, fun w hc => ?_⟩) (unhide HS) ?_
    · clear hc; go_simp
    go_simp
    have P := hide (newS_any s t ni nn p q w6.drew (unhide N1).rdS (unhide N2).rdS (unhide N1).len (unhide N2).len (by have := (unhide N1).len; omega) (by have := (unhide N2).len; omega) (unhide N2).nz)
    refine wpAnyH_ready (rs := [5]) (by kernel_rfl) (by simp) ?_
    refine AllReadyH.cons rfl (fun K2 hK => ?_) AllReadyH.nil
    go_simp
    refine (unhide P).mono ?_
    rintro e w7 ⟨m2, rfl, fm2, om2, hb⟩
    have T_ := hide ((unhide L).later hb)
    clear L
    have L := hide (unhide T_)
    clear T_
    have T_ := hide ((unhide N1).later hb)
    clear N1
    have N1 := hide (unhide T_)
    clear T_
    have T_ := hide ((unhide N2).later hb)
    clear N2
    have N2 := hide (unhide T_)
    clear T_
    have T_ := hide ((unhide OM).later hb)
    clear OM
    have OM := hide (unhide T_)
    clear T_
    have T_ := hide (row_lat (unhide RM) hb)
    clear RM
    have RM := hide (unhide T_)
    clear T_
    have T_ := hide ((unhide OX).later hb)
    clear OX
    have OX := hide (unhide T_)
    clear T_
    have T_ := hide (row_lat (unhide RX) hb)
    clear RX
    have RX := hide (unhide T_)
    clear T_
    have T_ := hide ((unhide OY).later hb)
    clear OY
    have OY := hide (unhide T_)
    clear T_
    have T_ := hide (row_lat (unhide RY) hb)
    clear RY
    have RY := hide (unhide T_)
    clear T_
    refine hK.out _ _ (⟨unhide RM, unhide RY⟩) (fun hS => ?_)
    clear HS
    have HS := hide hS
    clear hS hK K2
    have F2 := hide fm2
    have O2 := hide om2
    clear fm2 om2 hb P
    have P := hide (sameM_any m m2 (newD ni p q nn) w7 ((unhide F2).trans (unhide FM).symm) (small_mv (unhide OM).rd (small_new ni nn p q)) (unhide OM).rd (unhide O2).rd)
    refine wpAnyH_ready (rs := [6]) (by kernel_rfl) (by simp) ?_
    refine AllReadyH.cons rfl (fun K2 hK => ?_) AllReadyH.nil
    go_simp
    refine (unhide P).mono ?_
    rintro e w8 ⟨rfl, hb⟩
    have T_ := hide ((unhide L).later hb)
    clear L
    have L := hide (unhide T_)
    clear T_
    have T_ := hide ((unhide N1).later hb)
    clear N1
    have N1 := hide (unhide T_)
    clear T_
    have T_ := hide ((unhide N2).later hb)
    clear N2
    have N2 := hide (unhide T_)
    clear T_
    have T_ := hide ((unhide OM).later hb)
    clear OM
    have OM := hide (unhide T_)
    clear T_
    have T_ := hide (row_lat (unhide RM) hb)
    clear RM
    have RM := hide (unhide T_)
    clear T_
    have T_ := hide ((unhide OX).later hb)
    clear OX
    have OX := hide (unhide T_)
    clear T_
    have T_ := hide (row_lat (unhide RX) hb)
    clear RX
    have RX := hide (unhide T_)
    clear T_
    have T_ := hide ((unhide OY).later hb)
    clear OY
    have OY := hide (unhide T_)
    clear T_
    have T_ := hide (row_lat (unhide RY) hb)
    clear RY
    have RY := hide (unhide T_)
    clear T_
    have T_ := hide ((unhide O2).later hb)
    clear O2
    have O2 := hide (unhide T_)
    clear T_
    refine hK.out _ _ (⟨unhide RM, unhide RY⟩) (fun hS => ?_)
    clear HS
    have HS := hide hS
    clear hS hK K2
    clear hb P
    refine wpAnyH_take (i := 7) (v := .bool false) rfl (by kernel_rfl) (by kernel_rfl) (by kernel_rfl) (fun _ _ _ h => h) (Or.inl ⟨by rfl, fun w hc => ?_⟩) (unhide HS) ?_
    · clear hc; go_simp
    go_simp
    refine wpAnyH_take (i := 8) (v := .bool false) rfl (by kernel_rfl) (by kernel_rfl) (by kernel_rfl) (fun _ _ _ h => h) (Or.inl ⟨by rfl, fun w hc => ?_⟩) (unhide HS) ?_
    · clear hc; go_simp
    go_simp
    refine wpAnyH_take (i := 9) (v := .agg m.cs) rfl (by kernel_rfl) (by kernel_rfl) (by kernel_rfl) (fun _ _ _ h => h) (yields_loadG (by rfl) 28 _ rfl w2.heap.size rfl 28 m.cs _ (fun w h => h.1) Try.underlying28 rfl (by kernel_rfl)) (unhide HS) ?_
    go_simp
    refine wpAnyH_take (i := 11) (v := .pointer (some ⟨w2.heap.size, 0, none⟩)) rfl (by kernel_rfl) (by kernel_rfl) (by kernel_rfl) (fun _ _ _ h => h) (Or.inl ⟨by rfl, fun w hc => ?_⟩) (unhide HS) ?_
    · clear hc; go_simp
    go_simp
    refine wpAnyH_take (i := 12) (v := .slice m.m.a m.m.n m.m.c) rfl (by kernel_rfl) (by kernel_rfl) (by kernel_rfl) (fun _ _ _ h => h) (Or.inl ⟨by rfl, fun w hc => ?_⟩) (unhide HS) ?_
    · have hcm := row_m hc.1; clear hc; go_simp
    go_simp
    refine wpAnyH_take (i := 13) (v := .int .i64 (m.m.n : Int)) rfl (by kernel_rfl) (by kernel_rfl) (by kernel_rfl) (fun _ _ _ h => h) (Or.inl ⟨by rfl, fun w hc => ?_⟩) (unhide HS) ?_
    · clear hc; go_simp
    go_simp
    refine wpAnyH_take (i := 14) (v := .bool Qb) rfl (by kernel_rfl) (by kernel_rfl) (by kernel_rfl) (fun _ _ _ h => h) (Or.inl ⟨by rfl, fun w hc => ?_⟩) (unhide HS) ?_
    · clear hc; have hq := unhide HQB; go_simp
    go_simp
    have P := hide (okI_any m (newD ni p q nn) w8 (small_mv (unhide OM).rd (small_new ni nn p q)) (unhide OM).rd)
    rw [unhide HQ] at P
    refine wpAnyH_ready (rs := [10]) (by kernel_rfl) (by simp) ?_
    refine AllReadyH.cons rfl (fun K2 hK => ?_) AllReadyH.nil
    go_simp
    refine (unhide P).mono ?_
    rintro e w9 ⟨rfl, hb⟩
    have T_ := hide ((unhide L).later hb)
    clear L
    have L := hide (unhide T_)
    clear T_
    have T_ := hide ((unhide N1).later hb)
    clear N1
    have N1 := hide (unhide T_)
    clear T_
    have T_ := hide ((unhide N2).later hb)
    clear N2
    have N2 := hide (unhide T_)
    clear T_
    have T_ := hide ((unhide OM).later hb)
    clear OM
    have OM := hide (unhide T_)
    clear T_
    have T_ := hide (row_lat (unhide RM) hb)
    clear RM
    have RM := hide (unhide T_)
    clear T_
    have T_ := hide ((unhide OX).later hb)
    clear OX
    have OX := hide (unhide T_)
    clear T_
    have T_ := hide (row_lat (unhide RX) hb)
    clear RX
    have RX := hide (unhide T_)
    clear T_
    have T_ := hide ((unhide OY).later hb)
    clear OY
    have OY := hide (unhide T_)
    clear T_
    have T_ := hide (row_lat (unhide RY) hb)
    clear RY
    have RY := hide (unhide T_)
    clear T_
    have T_ := hide ((unhide O2).later hb)
    clear O2
    have O2 := hide (unhide T_)
    clear T_
    refine hK.out _ _ (⟨unhide RM, unhide RY⟩) (fun hS => ?_)
    clear HS
    have HS := hide hS
    clear hS hK K2
    clear hb P
    refine wpAnyH_take (i := 15) (v := .bool false) rfl (by kernel_rfl) (by kernel_rfl) (by kernel_rfl) (fun _ _ _ h => h) (Or.inl ⟨by rfl, fun w hc => ?_⟩) (unhide HS) ?_
    · clear hc; go_simp
    go_simp
    refine wpAnyH_take (i := 16) (v := .bool false) rfl (by kernel_rfl) (by kernel_rfl) (by kernel_rfl) (fun _ _ _ h => h) (Or.inl ⟨by rfl, fun w hc => ?_⟩) (unhide HS) ?_
    · clear hc; go_simp
    go_simp
    refine wpAnyH_take (i := 17) (v := .bool false) rfl (by kernel_rfl) (by kernel_rfl) (by kernel_rfl) (fun _ _ _ h => h) (Or.inl ⟨by rfl, fun w hc => ?_⟩) (unhide HS) ?_
    · clear hc; go_simp
    go_simp
    refine wpAnyH_take (i := 18) (v := .bool true) rfl (by kernel_rfl) (by kernel_rfl) (by kernel_rfl) (fun _ _ _ h => h) (Or.inl ⟨by rfl, fun w hc => ?_⟩) (unhide HS) ?_
    · clear hc; go_simp
    go_simp
    refine wpAnyH_take (i := 19) (v := .bool false) rfl (by kernel_rfl) (by kernel_rfl) (by kernel_rfl) (fun _ _ _ h => h) (Or.inl ⟨by rfl, fun w hc => ?_⟩) (unhide HS) ?_
    · clear hc; go_simp
    go_simp
    refine wpAnyH_take (i := 20) (v := .bool false) rfl (by kernel_rfl) (by kernel_rfl) (by kernel_rfl) (fun _ _ _ h => h) (Or.inl ⟨by rfl, fun w hc => ?_⟩) (unhide HS) ?_
    · clear hc; go_simp
    go_simp
    refine wpAnyH_take (i := 21) (v := .bool false) rfl (by kernel_rfl) (by kernel_rfl) (by kernel_rfl) (fun _ _ _ h => h) (Or.inl ⟨by rfl, fun w hc => ?_⟩) (unhide HS) ?_
    · clear hc; go_simp
    go_simp
    refine wpAnyH_take (i := 22) (v := .bool true) rfl (by kernel_rfl) (by kernel_rfl) (by kernel_rfl) (fun _ _ _ h => h) (Or.inl ⟨by rfl, fun w hc => ?_⟩) (unhide HS) ?_
    · clear hc; go_simp
    go_simp
    refine wpAnyH_take (i := 23) (v := .bool false) rfl (by kernel_rfl) (by kernel_rfl) (by kernel_rfl) (fun _ _ _ h => h) (Or.inl ⟨by rfl, fun w hc => ?_⟩) (unhide HS) ?_
    · clear hc; go_simp
    go_simp
    refine wpAnyH_take (i := 24) (v := .bool false) rfl (by kernel_rfl) (by kernel_rfl) (by kernel_rfl) (fun _ _ _ h => h) (Or.inl ⟨by rfl, fun w hc => ?_⟩) (unhide HS) ?_
    · clear hc; go_simp
    go_simp
    refine wpAnyH_take (i := 25) (v := .bool false) rfl (by kernel_rfl) (by kernel_rfl) (by kernel_rfl) (fun _ _ _ h => h) (Or.inl ⟨by rfl, fun w hc => ?_⟩) (unhide HS) ?_
    · clear hc; go_simp
    go_simp
    refine wpAnyH_take (i := 26) (v := .int .i64 (z3 * 300 % 65536)) rfl (by kernel_rfl) (by kernel_rfl) (by kernel_rfl) (fun _ _ _ h => h) (Or.inl ⟨by rfl, fun w hc => ?_⟩) (unhide HS) ?_
    · clear hc; go_simp
    go_simp
    refine wpAnyH_take (i := 27) (v := .slice a len cap) rfl (by kernel_rfl) (by kernel_rfl) (by kernel_rfl) (fun _ _ _ h => h) (Or.inl ⟨by rfl, fun w hc => ?_⟩) (unhide HS) ?_
    · clear hc; go_simp
    go_simp
    refine wpAnyH_ready (rs := [28]) (by kernel_rfl) (by simp) ?_
    refine AllReadyH.cons rfl (fun K2 hK => ?_) AllReadyH.nil
    go_simp
    refine (unhide A3 w9 (unhide L).rd).mono ?_
    rintro e w' ⟨rfl, hw'⟩
    rw [hw']
    clear hw' w'
    refine hK.out _ _ (⟨unhide RM, unhide RY⟩) (fun hS => ?_)
    clear HS
    have HS := hide hS
    clear hS hK K2
    refine wpAnyH_take (i := 29) (v := .int .i64 (z3 * 300)) rfl (by kernel_rfl) (by kernel_rfl) (by kernel_rfl) (fun _ _ _ h => h) (Or.inl ⟨by rfl, fun w hc => ?_⟩) (unhide HS) ?_
    · clear hc; have hm := unhide hm3; go_simp
    go_simp
    refine wpAnyH_ready (rs := [30]) (by kernel_rfl) (by simp) ?_
    refine AllReadyH.cons rfl (fun K2 hK => ?_) AllReadyH.nil
    go_simp
    refine (wrapI_any (z3 * 300) w9).mono ?_
    rintro e w' ⟨rfl, hw'⟩
    rw [hw']
    clear hw' w'
    refine hK.out _ _ (⟨unhide RM, unhide RY⟩) (fun hS => ?_)
    clear HS
    have HS := hide hS
    clear hS hK K2
    refine wpAnyH_take (i := 31) (v := .bool false) rfl (by kernel_rfl) (by kernel_rfl) (by kernel_rfl) (fun _ _ _ h => h) (Or.inl ⟨by rfl, fun w hc => ?_⟩) (unhide HS) ?_
    · clear hc; go_simp
    go_simp
    refine wpAnyH_take (i := 32) (v := .bool false) rfl (by kernel_rfl) (by kernel_rfl) (by kernel_rfl) (fun _ _ _ h => h) (Or.inl ⟨by rfl, fun w hc => ?_⟩) (unhide HS) ?_
    · clear hc; go_simp
    go_simp
    refine wpAnyH_take (i := 33) (v := .bool false) rfl (by kernel_rfl) (by kernel_rfl) (by kernel_rfl) (fun _ _ _ h => h) (Or.inl ⟨by rfl, fun w hc => ?_⟩) (unhide HS) ?_
    · clear hc; go_simp
    go_simp
    refine wpAnyH_take (i := 34) (v := .agg y.cs) rfl (by kernel_rfl) (by kernel_rfl) (by kernel_rfl) (fun _ _ _ h => h) (yields_loadG (by rfl) 28 _ rfl g rfl 28 y.cs _ (fun w h => h.2) Try.underlying28 rfl (by kernel_rfl)) (unhide HS) ?_
    go_simp
    have hE : ee.ok y.st = true := by rw [fl_st (unhide FY), unhide SX]; exact (unhide DE).ok 0 (by omega) (by omega)
    have P := hide (okI_any y ee w9 (small_mv (unhide OY).rd (unhide DE).small) (unhide OY).rd)
    rw [hE] at P
    clear hE
    refine wpAnyH_ready (rs := [35]) (by kernel_rfl) (by simp) ?_
    refine AllReadyH.cons rfl (fun K2 hK => ?_) AllReadyH.nil
    go_simp
    refine (unhide P).mono ?_
    rintro e w10 ⟨rfl, hb⟩
    have T_ := hide ((unhide L).later hb)
    clear L
    have L := hide (unhide T_)
    clear T_
    have T_ := hide ((unhide N1).later hb)
    clear N1
    have N1 := hide (unhide T_)
    clear T_
    have T_ := hide ((unhide N2).later hb)
    clear N2
    have N2 := hide (unhide T_)
    clear T_
    have T_ := hide ((unhide OM).later hb)
    clear OM
    have OM := hide (unhide T_)
    clear T_
    have T_ := hide (row_lat (unhide RM) hb)
    clear RM
    have RM := hide (unhide T_)
    clear T_
    have T_ := hide ((unhide OX).later hb)
    clear OX
    have OX := hide (unhide T_)
    clear T_
    have T_ := hide (row_lat (unhide RX) hb)
    clear RX
    have RX := hide (unhide T_)
    clear T_
    have T_ := hide ((unhide OY).later hb)
    clear OY
    have OY := hide (unhide T_)
    clear T_
    have T_ := hide (row_lat (unhide RY) hb)
    clear RY
    have RY := hide (unhide T_)
    clear T_
    have T_ := hide ((unhide O2).later hb)
    clear O2
    have O2 := hide (unhide T_)
    clear T_
    refine hK.out _ _ (⟨unhide RM, unhide RY⟩) (fun hS => ?_)
    clear HS
    have HS := hide hS
    clear hS hK K2
    clear hb P
    refine wpAnyH_take (i := 36) (v := .bool false) rfl (by kernel_rfl) (by kernel_rfl) (by kernel_rfl) (fun _ _ _ h => h) (Or.inl ⟨by rfl, fun w hc => ?_⟩) (unhide HS) ?_
    · clear hc; go_simp
    go_simp
    refine wpAnyH_take (i := 37) (v := .bool false) rfl (by kernel_rfl) (by kernel_rfl) (by kernel_rfl) (fun _ _ _ h => h) (Or.inl ⟨by rfl, fun w hc => ?_⟩) (unhide HS) ?_
    · clear hc; go_simp
    go_simp
    refine wpAnyH_done (by kernel_rfl) ?_ _
    obtain ⟨gy, cy, gx, cx, tl⟩ := tl_of (unhide RY) (unhide RX) (unhide OY) (unhide OX) (unhide DE) (unhide DK)
    have TL := hide tl
    have BL := hide (unhide L).bel
    clear tl
    clear HS HQ HQB O2 F2 OY OX RY RX OM RM N1 N2 L WI A3 HH G1 G2 SX DK DE FM FY hm3 hmod z0 z1
    go_wp2_with fail
    go_loopw [14] (fun v14 wr => ∃ k : Nat, k ≤ 256 ∧ v14 = .int .i64 k ∧ Hid (Tl wr g w3.heap.size ee d gy cy gx cx) ∧ Hid (Below W.heap.size W wr)) (fun v14 _ => 256 - (intOf v14).toNat)
    case atStart => exact ⟨0, Nat.zero_le _, rfl, TL, BL⟩
    case round =>
      clear TL BL
      obtain ⟨k, hk, rfl, TL, BL⟩ := hrel
      have HDV := hide (show (2 * (kk : Int)).tdiv 2 = (kk : Int) by rw [Int.mul_comm]; exact Int.mul_tdiv_cancel _ (by decide))
      have HWK := hide (show IntKind.i64.wrap (kk : Int) = (kk : Int) by rw [IntKind.wrap_i64]; omega)
      by_cases hlt : k < 256
      · have hlk : (k : Int) < 256 := by omega
        by_cases hkk : k = kk
        · have HKK := hide hkk
          clear hkk
          go_wp2_with fail
          refine wp_region_held_drew (S := fun _ => True) (by kernel_rfl) trivial (fun hS => ?_)
          have HS := hide hS
          clear hS
          refine wpAnyH_take (i := 0) (v := .int .i64 (k : Int)) rfl (by kernel_rfl) (by kernel_rfl) (by kernel_rfl) (fun _ _ _ h => h) (Or.inl ⟨by rfl, fun w hc => ?_⟩) (unhide HS) ?_
          · clear hc; go_simp
          go_simp
          refine wpAnyH_take (i := 1) (v := .int .i64 (2 * (kk : Int))) rfl (by kernel_rfl) (by kernel_rfl) (by kernel_rfl) (fun _ _ _ h => h) (Or.inl ⟨by rfl, fun w hc => ?_⟩) (unhide HS) ?_
          · clear hc; go_simp
          go_simp
          refine wpAnyH_take (i := 2) (v := .int .i64 (kk : Int)) rfl (by kernel_rfl) (by kernel_rfl) (by kernel_rfl) (fun _ _ _ h => h) (Or.inl ⟨by rfl, fun w hc => ?_⟩) (unhide HS) ?_
          · clear hc; have hdv := unhide HDV; have hwk := unhide HWK; go_simp
          go_simp
          refine wpAnyH_take (i := 3) (v := .bool false) rfl (by kernel_rfl) (by kernel_rfl) (by kernel_rfl) (fun _ _ _ h => h) (Or.inl ⟨by rfl, fun w hc => ?_⟩) (unhide HS) ?_
          · clear hc; have hkk := unhide HKK; go_simp
          go_simp
          refine wpAnyH_take (i := 4) (v := .bool false) rfl (by kernel_rfl) (by kernel_rfl) (by kernel_rfl) (fun _ _ _ h => h) (Or.inl ⟨by rfl, fun w hc => ?_⟩) (unhide HS) ?_
          · clear hc; go_simp
          go_simp
          refine wpAnyH_take (i := 5) (v := undef) rfl (by kernel_rfl) (by kernel_rfl) (by kernel_rfl) (fun _ _ _ h => h) (Or.inr ⟨by rfl, rfl⟩) (unhide HS) ?_
          go_simp
          refine wpAnyH_take (i := 6) (v := undef) rfl (by kernel_rfl) (by kernel_rfl) (by kernel_rfl) (fun _ _ _ h => h) (Or.inr ⟨by rfl, rfl⟩) (unhide HS) ?_
          go_simp
          refine wpAnyH_take (i := 7) (v := undef) rfl (by kernel_rfl) (by kernel_rfl) (by kernel_rfl) (fun _ _ _ h => h) (Or.inr ⟨by rfl, rfl⟩) (unhide HS) ?_
          go_simp
          refine wpAnyH_take (i := 8) (v := undef) rfl (by kernel_rfl) (by kernel_rfl) (by kernel_rfl) (fun _ _ _ h => h) (Or.inr ⟨by rfl, rfl⟩) (unhide HS) ?_
          go_simp
          refine wpAnyH_take (i := 9) (v := undef) rfl (by kernel_rfl) (by kernel_rfl) (by kernel_rfl) (fun _ _ _ h => h) (Or.inr ⟨by rfl, rfl⟩) (unhide HS) ?_
          go_simp
          refine wpAnyH_take (i := 10) (v := undef) rfl (by kernel_rfl) (by kernel_rfl) (by kernel_rfl) (fun _ _ _ h => h) (Or.inr ⟨by rfl, rfl⟩) (unhide HS) ?_
          go_simp
          refine wpAnyH_take (i := 11) (v := undef) rfl (by kernel_rfl) (by kernel_rfl) (by kernel_rfl) (fun _ _ _ h => h) (Or.inr ⟨by rfl, rfl⟩) (unhide HS) ?_
          go_simp
          refine wpAnyH_take (i := 12) (v := undef) rfl (by kernel_rfl) (by kernel_rfl) (by kernel_rfl) (fun _ _ _ h => h) (Or.inr ⟨by rfl, rfl⟩) (unhide HS) ?_
          go_simp
          refine wpAnyH_take (i := 13) (v := undef) rfl (by kernel_rfl) (by kernel_rfl) (by kernel_rfl) (fun _ _ _ h => h) (Or.inr ⟨by rfl, rfl⟩) (unhide HS) ?_
          go_simp
          refine wpAnyH_take (i := 14) (v := undef) rfl (by kernel_rfl) (by kernel_rfl) (by kernel_rfl) (fun _ _ _ h => h) (Or.inr ⟨by rfl, rfl⟩) (unhide HS) ?_
          go_simp
          refine wpAnyH_take (i := 15) (v := undef) rfl (by kernel_rfl) (by kernel_rfl) (by kernel_rfl) (fun _ _ _ h => h) (Or.inr ⟨by rfl, rfl⟩) (unhide HS) ?_
          go_simp
          refine wpAnyH_take (i := 16) (v := .bool false) rfl (by kernel_rfl) (by kernel_rfl) (by kernel_rfl) (fun _ _ _ h => h) (Or.inl ⟨by rfl, fun w hc => ?_⟩) (unhide HS) ?_
          · clear hc; go_simp
          go_simp
          refine wpAnyH_done (by kernel_rfl) ?_ _
          clear HS
          go_wp2_with fail
          go_roundw
          case rel => exact ⟨k + 1, by omega, by go_num, hide ((unhide TL).later below_drew), hide ((unhide BL).trans (below_drew.mono (unhide BL).size))⟩
          case measure => simp [intOf]; omega
        · have HNE := hide (show ¬ (k : Int) = (kk : Int) by omega)
          have e3 := (unhide TL).c3 k hlt
          have e4 := (unhide TL).c4 k hlt
          rw [← unhide GO k hkk] at e4
          generalize nAt ee.m k = vv at e3 e4
          have E3 := hide e3
          have E4 := hide e4
          clear e3 e4 hkk
          go_wp2_with fail
          refine wp_region_held_drew (S := fun v => v.cell? ⟨g, 0, none⟩ = some (.slice (some ⟨gy, 0, none⟩) 256 cy) ∧ v.cell? ⟨w3.heap.size, 0, none⟩ = some (.slice (some ⟨gx, 0, none⟩) 256 cx) ∧ v.cell? ⟨gy, k, none⟩ = some (.int .i64 vv) ∧ v.cell? ⟨gx, k, none⟩ = some (.int .i64 vv)) (by kernel_rfl) ⟨(unhide TL).c1, (unhide TL).c2, unhide E3, unhide E4⟩ (fun hS => ?_)
          have HS := hide hS
          clear hS
          clear E3 E4
          refine wpAnyH_take (i := 0) (v := .int .i64 (k : Int)) rfl (by kernel_rfl) (by kernel_rfl) (by kernel_rfl) (fun _ _ _ h => h) (Or.inl ⟨by rfl, fun w hc => ?_⟩) (unhide HS) ?_
          · clear hc; go_simp
          go_simp
          refine wpAnyH_take (i := 1) (v := .int .i64 (2 * (kk : Int))) rfl (by kernel_rfl) (by kernel_rfl) (by kernel_rfl) (fun _ _ _ h => h) (Or.inl ⟨by rfl, fun w hc => ?_⟩) (unhide HS) ?_
          · clear hc; go_simp
          go_simp
          refine wpAnyH_take (i := 2) (v := .int .i64 (kk : Int)) rfl (by kernel_rfl) (by kernel_rfl) (by kernel_rfl) (fun _ _ _ h => h) (Or.inl ⟨by rfl, fun w hc => ?_⟩) (unhide HS) ?_
          · clear hc; have hdv := unhide HDV; have hwk := unhide HWK; go_simp
          go_simp
          refine wpAnyH_take (i := 3) (v := .bool true) rfl (by kernel_rfl) (by kernel_rfl) (by kernel_rfl) (fun _ _ _ h => h) (Or.inl ⟨by rfl, fun w hc => ?_⟩) (unhide HS) ?_
          · clear hc; have hne := unhide HNE; go_simp
          go_simp
          refine wpAnyH_take (i := 4) (v := .bool true) rfl (by kernel_rfl) (by kernel_rfl) (by kernel_rfl) (fun _ _ _ h => h) (Or.inl ⟨by rfl, fun w hc => ?_⟩) (unhide HS) ?_
          · clear hc; go_simp
          go_simp
          refine wpAnyH_take (i := 5) (v := .pointer (some ⟨g, 0, none⟩)) rfl (by kernel_rfl) (by kernel_rfl) (by kernel_rfl) (fun _ _ _ h => h) (Or.inl ⟨by rfl, fun w hc => ?_⟩) (unhide HS) ?_
          · clear hc; go_simp
          go_simp
          refine wpAnyH_take (i := 6) (v := .slice (some ⟨gy, 0, none⟩) 256 cy) rfl (by kernel_rfl) (by kernel_rfl) (by kernel_rfl) (fun _ _ _ h => h) (Or.inl ⟨by rfl, fun w hc => ?_⟩) (unhide HS) ?_
          · have hc1 := hc.1; clear hc; go_simp
          go_simp
          refine wpAnyH_take (i := 7) (v := .int .i64 (k : Int)) rfl (by kernel_rfl) (by kernel_rfl) (by kernel_rfl) (fun _ _ _ h => h) (Or.inl ⟨by rfl, fun w hc => ?_⟩) (unhide HS) ?_
          · clear hc; go_simp
          go_simp
          refine wpAnyH_take (i := 8) (v := .pointer (some ⟨gy, k, none⟩)) rfl (by kernel_rfl) (by kernel_rfl) (by kernel_rfl) (fun _ _ _ h => h) (Or.inl ⟨by rfl, fun w hc => ?_⟩) (unhide HS) ?_
          · clear hc; go_simp
          go_simp
          refine wpAnyH_take (i := 9) (v := .int .i64 vv) rfl (by kernel_rfl) (by kernel_rfl) (by kernel_rfl) (fun _ _ _ h => h) (Or.inl ⟨by rfl, fun w hc => ?_⟩) (unhide HS) ?_
          · have hc1 := hc.2.2.1; clear hc; go_simp
          go_simp
          refine wpAnyH_take (i := 10) (v := .pointer (some ⟨w3.heap.size, 0, none⟩)) rfl (by kernel_rfl) (by kernel_rfl) (by kernel_rfl) (fun _ _ _ h => h) (Or.inl ⟨by rfl, fun w hc => ?_⟩) (unhide HS) ?_
          · clear hc; go_simp
          go_simp
          refine wpAnyH_take (i := 11) (v := .slice (some ⟨gx, 0, none⟩) 256 cx) rfl (by kernel_rfl) (by kernel_rfl) (by kernel_rfl) (fun _ _ _ h => h) (Or.inl ⟨by rfl, fun w hc => ?_⟩) (unhide HS) ?_
          · have hc1 := hc.2.1; clear hc; go_simp
          go_simp
          refine wpAnyH_take (i := 12) (v := .int .i64 (k : Int)) rfl (by kernel_rfl) (by kernel_rfl) (by kernel_rfl) (fun _ _ _ h => h) (Or.inl ⟨by rfl, fun w hc => ?_⟩) (unhide HS) ?_
          · clear hc; go_simp
          go_simp
          refine wpAnyH_take (i := 13) (v := .pointer (some ⟨gx, k, none⟩)) rfl (by kernel_rfl) (by kernel_rfl) (by kernel_rfl) (fun _ _ _ h => h) (Or.inl ⟨by rfl, fun w hc => ?_⟩) (unhide HS) ?_
          · clear hc; go_simp
          go_simp
          refine wpAnyH_take (i := 14) (v := .int .i64 vv) rfl (by kernel_rfl) (by kernel_rfl) (by kernel_rfl) (fun _ _ _ h => h) (Or.inl ⟨by rfl, fun w hc => ?_⟩) (unhide HS) ?_
          · have hc1 := hc.2.2.2; clear hc; go_simp
          go_simp
          refine wpAnyH_take (i := 15) (v := .bool false) rfl (by kernel_rfl) (by kernel_rfl) (by kernel_rfl) (fun _ _ _ h => h) (Or.inl ⟨by rfl, fun w hc => ?_⟩) (unhide HS) ?_
          · clear hc; go_simp
          go_simp
          refine wpAnyH_take (i := 16) (v := .bool false) rfl (by kernel_rfl) (by kernel_rfl) (by kernel_rfl) (fun _ _ _ h => h) (Or.inl ⟨by rfl, fun w hc => ?_⟩) (unhide HS) ?_
          · clear hc; go_simp
          go_simp
          refine wpAnyH_done (by kernel_rfl) ?_ _
          clear HS
          go_wp2_with fail
          go_roundw
          case rel => exact ⟨k + 1, by omega, by go_num, hide ((unhide TL).later below_drew), hide ((unhide BL).trans (below_drew.mono (unhide BL).size))⟩
          case measure => simp [intOf]; omega
      · obtain rfl : k = 256 := by omega
        go_wp2
        go_ret
        exact ⟨rfl, unhide BL⟩

set_option maxRecDepth 100000 in
theorem lifted (os : Os) (started : os.Started) (H : Type) (enc : TypeId × Value → H) :
    ReturnsInHanded {} Try.checked os 3 .any (Rows.fnMachsSpec.pre6 enc Try.prog Try.f3 Rows.fnMachsRow.domain false) (Rows.fnMachsSpec.post enc Try.prog Try.f3 false true false false) := by
  refine returnsInHanded_of_change (C := Try.checked) own started (by kernel_rfl) Try.func3
    (ChangeSpec.witness6 (enc := enc) (C := Try.checked) false ⟨#[], #[.slice none 0 0], []⟩ 8 (by kernel_rfl) (by kernel_rfl) (by kernel_rfl) (by kernel_rfl)) ?_
  intro W base args ds gs before hval0 hW hcnd _
  have hval : ∀ (j : Nat) t v, Try.f3.params[j]? = some t → args[j]? = some v → Value.okWide Try.prog W .any base t v := hval0
  have hW' := hW
  obtain ⟨p, q, hA0, hV, rfl, hfz, hnd⟩ := hW
  have hA : DataW.TrodAll enc Try.prog W 0 (fun _ => true) true Try.f3.params.toList args.toList ds p := hA0
  rw [Try.params3] at hA hval
  obtain ⟨v0, vs0, d0, ds0, p0, q0, hargs, rfl, rfl, h0, r0⟩ := trodAll_cons hA
  obtain ⟨rfl, rfl, rfl⟩ := trodAll_nil r0
  obtain rfl : args = #[v0] := by cases args; simp_all
  obtain ⟨rfl, rfl⟩ := trodVars_none hV
  have k0 := h0
  have lt0 : ∀ x ∈ p0, x.block < W.heap.size := by obtain ⟨m, hm⟩ := k0; exact DataW.trod_lt m _ _ _ hm
  obtain ⟨a0, len0, cap0, rfl⟩ := okWide_slice Try.underlying22 (hval 0 22 v0 rfl rfl)
  obtain ⟨z0, w0⟩ : ∃ zs, IsRow .u8 W a0 len0 cap0 zs := by
    obtain ⟨fuel, hf⟩ := h0
    rcases open_ints Try.underlying22 Try.underlying5 (by kernel_rfl) hf with ⟨hcs, _⟩ | ⟨x, l, c, zs, hcs, _, hl, hm, hz, _, hcell, hwz⟩
    · simp [Value.cells] at hcs
      obtain ⟨rfl, rfl, rfl⟩ := hcs
      exact ⟨[], .inl ⟨rfl, rfl, rfl, rfl⟩⟩
    · simp [Value.cells] at hcs
      obtain ⟨rfl, rfl, rfl⟩ := hcs
      exact ⟨zs, .inr ⟨_, rfl, hl, hm, by simpa using hz, hcell, hwz⟩⟩
  clear hA0 hval0
  refine (walk a0 len0 cap0 z0 W w0).mono fun e W' ⟨he, bel⟩ => ?_
  subst he
  exact ⟨_, rfl, _, _, _, [], _, [], hW', trodAll_mk1 (shut_bool Try.underlying4 _), (trodAll_cons_mk (Below.trod laidOut (by kernel_rfl) (of_decide_eq_true (by kernel_rfl)) k0 bel lt0) trodAll_mk0), rfl, bel.frame _, fun h => by cases h⟩

theorem over : Rows.fnMachsRow.holds Try.pinned (OpenSpec.ofChange Rows.fnMachsSpec) :=
  OpenClaim.holds_of_wide 3 Try.f3 rfl rfl rfl rfl rfl rfl rfl ⟨rfl, rfl, rfl, rfl, rfl⟩ rfl rfl rfl rfl rfl (by kernel_rfl) Try.func3 (by kernel_rfl)
    (of_decide_eq_true (by kernel_rfl)) (by unfold Func.isWrapper; first | (rw [if_pos (by decide +kernel)]; kernel_rfl) | (rw [if_neg (by decide +kernel)]; exact ⟨rfl, rfl⟩))
    (fun os started H enc _ => lifted os started H enc)

theorem proved : Rows.FnMachsSaid := over
end Go.Proofs.Ytfkmibgamkignaa.fnMachs

namespace Go.Proofs.Ytfkmibgamkignaa
theorem fnMachs_holds : Rows.FnMachsSaid := fnMachs.proved
#print axioms fnMachs_holds
end Go.Proofs.Ytfkmibgamkignaa
