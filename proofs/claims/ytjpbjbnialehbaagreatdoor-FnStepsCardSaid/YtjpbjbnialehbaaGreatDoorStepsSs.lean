/- For every code the law on Step answers true: the program answers just the machine that the model answers behind one step; a machine that is no machine, or stands, is given back; a fault leaves all but the stop; else the answer is a machine, its Out no shorter, its In no longer -/
import Derived.Test.YtjpbjbnialehbaaGreatDoorRows
import Derived.Test.YtjpbjbnialehbaaGreatDoorSsB
import Derived.Test.YtjpbjbnialehbaaGreatDoorSsC
import Derived.Test.YtjpbjbnialehbaaGreatDoorSsL
import Derived.Test.YtjpbjbnialehbaaGreatDoorSsZ
import Derived.Test.YtjpbjbnialehbaaGreatDoorSsZB
import Derived.Test.YtjpbjbnialehbaaGreatDoorSsZC
import Derived.Deep.RegionHeld
import Derived.Test.YtjpbjbnialehbaaGreatDoorTie
import Derived.Test.YtjpbjbnialehbaaGreatDoorCards
import Derived.SevenTiedAt
import Derived.Lay
import Derived.MakeChecks
import Derived.OpenVars
import Derived.WalkKit
import Derived.ProofKit
import Derived.OpenShut
import Derived.ShutString
import Derived.ChangeOld
import Derived.Below
import Derived.Lib.SmallJoins
namespace Go.Proofs.YtjpbjbnialehbaaGreatDoor.fnSteps
open Go.ChangeShapes Go.WideShapes Go.ChangeAt Go.RowKit
open Go.ChangeMaps (open_string shut_string)
set_option linter.unusedVariables false
set_option maxRecDepth 8000

theorem rdn_overC {w0 wr : World} {a : Option Addr} {ns : List Int} {g j : Nat} {v : Value} (h0 : RdN w0 a ns) (h : RdN wr a ns) (hg : w0.heap.size ≤ g) : RdN (wr.setCell ⟨g, j, none⟩ v) a ns := by
  rcases h0 with h0 | ⟨b, off, ha, hb, _⟩
  · exact .inl h0
  · exact h.put (.inr fun ad e => by rw [ha] at e; cases e; show b ≠ g; omega)
theorem rdm_overC {w0 wr : World} {x : Mv} {d : Md} {g j : Nat} {v : Value} (h0 : RdM w0 x d) (h : RdM wr x d) (hg : w0.heap.size ≤ g) : RdM (wr.setCell ⟨g, j, none⟩ v) x d :=
  ⟨rdn_overC h0.m h.m hg, rdn_overC h0.r h.r hg, rdn_overC h0.i h.i hg, rdn_overC h0.o h.o hg, h.ml, h.rl, h.il, h.ol⟩
theorem rdm_st {w : World} {x : Mv} {d : Md} (h : RdM w x d) (s : Int) : RdM w { x with st := s } d := ⟨h.m, h.r, h.i, h.o, h.ml, h.rl, h.il, h.ol⟩
theorem fl_put {g x : Mv} (h : g.fl = (x.n, x.z, x.v, x.c, 2)) : x.fl = ({ g with st := x.st } : Mv).fl := by
  have h2 := h
  simp only [Mv.fl, Prod.mk.injEq] at h2 ⊢
  exact ⟨h2.1.symm, h2.2.1.symm, h2.2.2.1.symm, h2.2.2.2.1.symm, trivial⟩
set_option maxRecDepth 100000 in
set_option maxHeartbeats 16000000 in
theorem walk (a : Option Addr) (len cap : Nat) (zs : List Int) (W : World) (r0 : IsRow .u8 W a len cap zs) (ht : Tab W) :
    Calls Tryz.prog 3 #[.slice a len cap] W fun e W' => e = .returned (.bool true) ∧ Below W.heap.size W W' := by
  obtain ⟨xs, hl, lc, mcap, hr⟩ := rd_of_row r0
  unfold maxLen at mcap
  have L := hide (show Lc W W a xs from ⟨Below.refl _ _, hr⟩)
  have TB := hide ht
  clear r0 hr ht
  have BG := hide (fun w => big_free a len cap w (by omega))
  by_cases hbig : len ≤ 1048576
  rotate_left
  · have hd : decide ((1048576 : Int) < (len : Int)) = true := by simp; omega
    rw [hd] at BG
    clear L hd
    go_enter Tryz.func3, Tryz.ntmps3
    go_wp2_with (go_at_call 5; refine (uh BG _).mono ?_; rintro e w' ⟨rfl, rfl⟩)
    go_ret
    exact ⟨rfl, Below.refl _ _⟩
  have hd : decide ((1048576 : Int) < (len : Int)) = false := by simp; omega
  rw [hd] at BG
  have P := hide (drawStep_any a len cap xs W hl hbig (uh L).rd)
  clear hd hl hbig lc mcap
  go_enter Tryz.func3, Tryz.ntmps3
  go_wp2_with (first | (go_at_call 5; refine (uh BG _).mono ?_; rintro e w' ⟨rfl, hw'⟩; rw [hw']; clear hw' w'))
  refine (uh P).mono ?_
  rintro e w1 ⟨x, d, rfl, am, hb⟩
  have hbz := hb.size
  have T_ := hide ((uh L).later hb)
  clear L
  have L := hide (uh T_)
  clear T_
  have AX := hide am
  have RX := hide (heap_alloc_last w1 (.cells x.cs 26))
  have T_ := hide ((uh L).later (below_new w1 (.cells x.cs 26)))
  clear L
  have L := hide (uh T_)
  clear T_
  have T_ := hide ((uh AX).later (below_new w1 (.cells x.cs 26)))
  clear AX
  have AX := hide (uh T_)
  clear T_
  clear hb P am BG
  have SX := hide (small_mv (uh AX).rd (uh AX).sm)
  have NZ := hide (uh AX).nz
  have SD := hide (uh AX).sm
  have LW := hide (show W.heap.size ≤ w1.heap.size from hbz)
  clear hbz
  have TR := hide (tri_of x d)
  have ES := hide (small_stA (x.ms d) x.st (uh SD))
  have P := hide (stepI_all x d (w1.alloc (.cells x.cs 26)) (uh SX) (uh NZ) (uh AX).rd ((uh TB).later (uh L).bel))
  have P2 := hide (fun w (h : RdM w x d) => stepS_all x d w (uh SX) (uh NZ) h)
  unfold SsIs at P2
  unfold StIs at P
  generalize ((x.ms d).stA x.st).fl ((x.ms d).stN x.st) = F2 at P P2 TR
  generalize ((x.ms d).stA x.st).d = D2 at P P2 TR ES
  go_wp2_with (first | (refine wpList_store_new rfl 26 _ _ rfl x.cs rfl rfl _ (by kernel_rfl) rfl (Mv.cs_one _) ?_) | (refine wpList_load_row rfl 26 _ rfl w1.heap.size rfl 26 x.cs (0, 0) _ (uh RX) Tryz.underlying26 rfl (by kernel_rfl) ?_))
  refine (uh P).mono ?_
  rintro e w2 ⟨g, rfl, fg, og, hb⟩
  have T_ := hide ((uh L).later hb)
  clear L
  have L := hide (uh T_)
  clear T_
  have T_ := hide ((uh AX).later hb)
  clear AX
  have AX := hide (uh T_)
  clear T_
  have T_ := hide (row_lat (uh RX) hb)
  clear RX
  have RX := hide (uh T_)
  clear T_
  have FG := hide fg
  have OG := hide og
  have GX := hide (uh AX).rd
  have GG := hide og.rd
  have HW := hide (row_lt (uh RX))
  have HL := hide (show W.heap.size < w2.heap.size from Nat.lt_of_le_of_lt (uh LW) (uh HW))
  have RG := hide (heap_alloc_last w2 (.cells g.cs 26))
  have T_ := hide ((uh L).later (below_new w2 (.cells g.cs 26)))
  clear L
  have L := hide (uh T_)
  clear T_
  have T_ := hide ((uh AX).later (below_new w2 (.cells g.cs 26)))
  clear AX
  have AX := hide (uh T_)
  clear T_
  have T_ := hide (row_lat (uh RX) (below_new w2 (.cells g.cs 26)))
  clear RX
  have RX := hide (uh T_)
  clear T_
  have T_ := hide ((uh OG).later (below_new w2 (.cells g.cs 26)))
  clear OG
  have OG := hide (uh T_)
  clear T_
  clear hb fg og P TB
  have SG := hide (small_mv (uh OG).rd (uh ES))
  go_wp2_with (first | (refine wpList_store_new rfl 26 _ _ rfl g.cs rfl rfl _ (by kernel_rfl) rfl (Mv.cs_one _) ?_))
  generalize hw9 : w2.alloc (.cells g.cs 26) = w9 at L AX RX OG RG ⊢
  clear hw9
  have T_ := hide ((uh L).later (below_drew (w := w9)))
  clear L
  have L := hide (uh T_)
  clear T_
  have T_ := hide ((uh AX).later (below_drew (w := w9)))
  clear AX
  have AX := hide (uh T_)
  clear T_
  have T_ := hide (row_lat (uh RX) (below_drew (w := w9)))
  clear RX
  have RX := hide (uh T_)
  clear T_
  have T_ := hide ((uh OG).later (below_drew (w := w9)))
  clear OG
  have OG := hide (uh T_)
  clear T_
  have T_ := hide (row_lat (uh RG) (below_drew (w := w9)))
  clear RG
  have RG := hide (uh T_)
  clear T_
  refine wp_region_held_drew (S := fun v => v.heap[w2.heap.size]? = some (.cells g.cs 26 (0, 0)) ∧ v.heap[w1.heap.size]? = some (.cells x.cs 26 (0, 0))) (by kernel_rfl) ⟨uh RG, uh RX⟩ (fun hS => ?_)
  have HS := hide hS
  clear hS
  refine tkA 0 (.agg g.cs) rfl (yields_load rfl 26 _ rfl w2.heap.size rfl 26 g.cs _ (fun w h => h.1) Tryz.underlying26 rfl (by kernel_rfl)) (uh HS) ?_
  go_simp
  refine tkA 1 (.agg x.cs) rfl (yields_load rfl 26 _ rfl w1.heap.size rfl 26 x.cs _ (fun w h => h.2) Tryz.underlying26 rfl (by kernel_rfl)) (uh HS) ?_
  go_simp
  refine wpAnyH_ready (rs := [2]) (by kernel_rfl) (by simp) ?_
  refine AllReadyH.cons rfl (fun K2 hK => ?_) AllReadyH.nil
  go_simp
  refine (uh P2 _ (uh AX).rd).mono ?_
  rintro e w3 ⟨s, rfl, fs, os, hb⟩
  have T_ := hide ((uh L).later hb)
  clear L
  have L := hide (uh T_)
  clear T_
  have T_ := hide ((uh AX).later hb)
  clear AX
  have AX := hide (uh T_)
  clear T_
  have T_ := hide (row_lat (uh RX) hb)
  clear RX
  have RX := hide (uh T_)
  clear T_
  have T_ := hide ((uh OG).later hb)
  clear OG
  have OG := hide (uh T_)
  clear T_
  have T_ := hide (row_lat (uh RG) hb)
  clear RG
  have RG := hide (uh T_)
  clear T_
  refine hK.out _ _ ⟨uh RG, uh RX⟩ (fun hS => ?_)
  clear HS
  have HS := hide hS
  clear hS hK K2
  have P := hide (sameM_any g s D2 w3 (fs.trans (uh FG).symm) (uh SG) (uh OG).rd os.rd)
  clear hb fs os P2
  refine wpAnyH_ready (rs := [3]) (by kernel_rfl) (by simp) ?_
  refine AllReadyH.cons rfl (fun K2 hK => ?_) AllReadyH.nil
  go_simp
  refine (uh P).mono ?_
  rintro e w4 ⟨rfl, hb⟩
  have T_ := hide ((uh L).later hb)
  clear L
  have L := hide (uh T_)
  clear T_
  have T_ := hide ((uh AX).later hb)
  clear AX
  have AX := hide (uh T_)
  clear T_
  have T_ := hide (row_lat (uh RX) hb)
  clear RX
  have RX := hide (uh T_)
  clear T_
  have T_ := hide ((uh OG).later hb)
  clear OG
  have OG := hide (uh T_)
  clear T_
  have T_ := hide (row_lat (uh RG) hb)
  clear RG
  have RG := hide (uh T_)
  clear T_
  refine hK.out _ _ ⟨uh RG, uh RX⟩ (fun hS => ?_)
  clear HS
  have HS := hide hS
  clear hS hK K2
  clear hb P
  refine tkB 4 (.bool false) rfl (uh HS) ?_
  go_simp
  refine wpAnyH_done (by kernel_rfl) ?_ _
  clear HS
  have P := hide (okS_any x d w4 (uh SX) (uh AX).rd)
  rcases uh TR with ⟨tq, td, tf⟩ | ⟨tk, ts, td, tf⟩ | ⟨tk, ts, tn, tf⟩
  · have TD := hide td
    have FE := hide (show x.fl = g.fl from ((uh FG).trans tf).symm)
    have HQ := hide tq
    clear td tf tq TR
    have Q := hide (fun w (h1 : RdM w g D2) (h2 : RdM w x d) => (show Calls Tryz.prog 8 #[.agg g.cs, .agg x.cs] w fun e w' => e = .returned (.bool true) ∧ Below w.heap.size w w' from sameM_any g x d w (uh FE) (uh SG) (by rw [← uh TD]; exact h1) h2))
    cases hkb : d.ok x.st
    · rw [hkb] at P
      clear hkb
      go_wp2_with (first | (refine wpList_load_row rfl 26 _ rfl w1.heap.size rfl 26 x.cs (0, 0) _ (uh RX) Tryz.underlying26 rfl (by kernel_rfl) ?_))
      refine (uh P).mono ?_
      rintro e w5 ⟨rfl, hb⟩
      have T_ := hide ((uh L).later hb)
      clear L
      have L := hide (uh T_)
      clear T_
      have T_ := hide ((uh AX).later hb)
      clear AX
      have AX := hide (uh T_)
      clear T_
      have T_ := hide (row_lat (uh RX) hb)
      clear RX
      have RX := hide (uh T_)
      clear T_
      have T_ := hide ((uh OG).later hb)
      clear OG
      have OG := hide (uh T_)
      clear T_
      have T_ := hide (row_lat (uh RG) hb)
      clear RG
      have RG := hide (uh T_)
      clear T_
      clear hb P
      have P := hide (uh Q w5 (uh OG).rd (uh AX).rd)
      go_wp2_with (first | (refine wpList_load_row rfl 26 _ rfl w2.heap.size rfl 26 g.cs (0, 0) _ (uh RG) Tryz.underlying26 rfl (by kernel_rfl) ?_) | (refine wpList_load_row rfl 26 _ rfl w1.heap.size rfl 26 x.cs (0, 0) _ (uh RX) Tryz.underlying26 rfl (by kernel_rfl) ?_))
      refine (uh P).mono ?_
      rintro e w6 ⟨rfl, hb⟩
      have T_ := hide ((uh L).later hb)
      clear L
      have L := hide (uh T_)
      clear T_
      have T_ := hide ((uh AX).later hb)
      clear AX
      have AX := hide (uh T_)
      clear T_
      have T_ := hide (row_lat (uh RX) hb)
      clear RX
      have RX := hide (uh T_)
      clear T_
      have T_ := hide ((uh OG).later hb)
      clear OG
      have OG := hide (uh T_)
      clear T_
      have T_ := hide (row_lat (uh RG) hb)
      clear RG
      have RG := hide (uh T_)
      clear T_
      clear hb P
      have BL := hide (uh L).bel
      go_wp2_with fail
      go_ret
      exact ⟨rfl, uh BL⟩
    · have hne : x.st ≠ 0 := by rcases uh HQ with h | h; (rw [h] at hkb; cases hkb); exact h
      rw [hkb] at P
      clear hkb HQ
      have HNE := hide hne
      clear hne
      go_wp2_with (first | (refine wpList_load_row rfl 26 _ rfl w1.heap.size rfl 26 x.cs (0, 0) _ (uh RX) Tryz.underlying26 rfl (by kernel_rfl) ?_))
      refine (uh P).mono ?_
      rintro e w5 ⟨rfl, hb⟩
      have T_ := hide ((uh L).later hb)
      clear L
      have L := hide (uh T_)
      clear T_
      have T_ := hide ((uh AX).later hb)
      clear AX
      have AX := hide (uh T_)
      clear T_
      have T_ := hide (row_lat (uh RX) hb)
      clear RX
      have RX := hide (uh T_)
      clear T_
      have T_ := hide ((uh OG).later hb)
      clear OG
      have OG := hide (uh T_)
      clear T_
      have T_ := hide (row_lat (uh RG) hb)
      clear RG
      have RG := hide (uh T_)
      clear T_
      clear hb P
      have hst := row_st (uh RX)
      have hne := uh HNE
      have P := hide (uh Q w5 (uh OG).rd (uh AX).rd)
      go_wp2_with (first | (refine wpList_load_row rfl 26 _ rfl w2.heap.size rfl 26 g.cs (0, 0) _ (uh RG) Tryz.underlying26 rfl (by kernel_rfl) ?_) | (refine wpList_load_row rfl 26 _ rfl w1.heap.size rfl 26 x.cs (0, 0) _ (uh RX) Tryz.underlying26 rfl (by kernel_rfl) ?_))
      refine (uh P).mono ?_
      rintro e w6 ⟨rfl, hb⟩
      have T_ := hide ((uh L).later hb)
      clear L
      have L := hide (uh T_)
      clear T_
      have T_ := hide ((uh AX).later hb)
      clear AX
      have AX := hide (uh T_)
      clear T_
      have T_ := hide (row_lat (uh RX) hb)
      clear RX
      have RX := hide (uh T_)
      clear T_
      have T_ := hide ((uh OG).later hb)
      clear OG
      have OG := hide (uh T_)
      clear T_
      have T_ := hide (row_lat (uh RG) hb)
      clear RG
      have RG := hide (uh T_)
      clear T_
      clear hb P
      have BL := hide (uh L).bel
      go_wp2_with fail
      go_ret
      exact ⟨rfl, uh BL⟩
  · have TD := hide td
    have TS := hide ts
    have FE := hide (fl_put ((uh FG).trans tf))
    have G2 := hide (show g.st = 2 from congrArg (·.2.2.2.2) ((uh FG).trans tf))
    clear td tf ts TR
    rw [tk] at P
    go_wp2_with (first | (refine wpList_load_row rfl 26 _ rfl w1.heap.size rfl 26 x.cs (0, 0) _ (uh RX) Tryz.underlying26 rfl (by kernel_rfl) ?_))
    refine (uh P).mono ?_
    rintro e w5 ⟨rfl, hb⟩
    have T_ := hide ((uh L).later hb)
    clear L
    have L := hide (uh T_)
    clear T_
    have T_ := hide ((uh AX).later hb)
    clear AX
    have AX := hide (uh T_)
    clear T_
    have T_ := hide (row_lat (uh RX) hb)
    clear RX
    have RX := hide (uh T_)
    clear T_
    have T_ := hide ((uh OG).later hb)
    clear OG
    have OG := hide (uh T_)
    clear T_
    have T_ := hide (row_lat (uh RG) hb)
    clear RG
    have RG := hide (uh T_)
    clear T_
    clear hb P
    clear tk
    have hsx : w5.cell? ⟨w1.heap.size, 8, none⟩ = some (.int .i64 0) := by rw [← uh TS]; exact row_st (uh RX)
    have hsg : w5.cell? ⟨w2.heap.size, 8, none⟩ = some (.int .i64 2) := by rw [← uh G2]; exact row_st (uh RG)
    have hfz := row_fz (uh RG) 8
    have R5 := hide (row_put (uh RG) 8 (.int .i64 0) ({ g with st := x.st } : Mv) (by rw [uh TS]; rfl))
    have X5 := hide (row_keep (b := w2.heap.size) (j := 8) (u := .int .i64 0) (uh RX) (by have := uh HW; omega))
    have P := hide (sameM_any { g with st := x.st } x d (w5.setCell ⟨w2.heap.size, 8, none⟩ (.int .i64 0)) (uh FE) (uh SG) (by rw [← uh TD]; exact rdm_st (rdm_overC (uh GG) (uh OG).rd (Nat.le_refl _)) _) (rdm_overC (uh GX) (uh AX).rd (Nat.le_refl _)))
    have BL := hide ((uh L).bel.setCell (p := ⟨w2.heap.size, 8, none⟩) (show W.heap.size ≤ w2.heap.size from Nat.le_of_lt (uh HL)) (.int .i64 0))
    go_wp2_with (first | (refine wpList_load_row rfl 26 _ rfl w2.heap.size rfl 26 (Mv.cs { g with st := x.st }) (0, 0) _ (uh R5) Tryz.underlying26 rfl (by kernel_rfl) ?_) | (refine wpList_load_row rfl 26 _ rfl w1.heap.size rfl 26 x.cs (0, 0) _ (uh X5) Tryz.underlying26 rfl (by kernel_rfl) ?_))
    refine (uh P).mono ?_
    rintro e w6 ⟨rfl, hb⟩
    have BM := hide ((uh BL).trans (hb.mono (uh BL).size))
    clear hb P hsx hsg hfz
    go_wp2_with fail
    go_ret
    exact ⟨rfl, uh BM⟩
  · have TN := hide tn
    have GS := hide (show g.st = 0 ∨ g.st = 1 from by have e := congrArg (·.2.2.2.2) (uh FG); have e2 : g.st = F2.2.2.2.2 := e; rw [e2]; exact tf)
    have TS := hide ts
    clear tf ts TR tn
    rw [tk] at P
    go_wp2_with (first | (refine wpList_load_row rfl 26 _ rfl w1.heap.size rfl 26 x.cs (0, 0) _ (uh RX) Tryz.underlying26 rfl (by kernel_rfl) ?_))
    refine (uh P).mono ?_
    rintro e w5 ⟨rfl, hb⟩
    have T_ := hide ((uh L).later hb)
    clear L
    have L := hide (uh T_)
    clear T_
    have T_ := hide ((uh AX).later hb)
    clear AX
    have AX := hide (uh T_)
    clear T_
    have T_ := hide (row_lat (uh RX) hb)
    clear RX
    have RX := hide (uh T_)
    clear T_
    have T_ := hide ((uh OG).later hb)
    clear OG
    have OG := hide (uh T_)
    clear T_
    have T_ := hide (row_lat (uh RG) hb)
    clear RG
    have RG := hide (uh T_)
    clear T_
    clear hb P
    clear tk
    have P := hide (okI_any g D2 w5 (uh SG) (uh OG).rd)
    rw [(uh TN).dk.ok g.st (by rcases uh GS with h | h <;> omega) (by rcases uh GS with h | h <;> omega)] at P
    have hsx : w5.cell? ⟨w1.heap.size, 8, none⟩ = some (.int .i64 0) := by rw [← uh TS]; exact row_st (uh RX)
    have hsg := row_st (uh RG)
    have hg2 : ¬ g.st = 2 := by rcases uh GS with h | h <;> omega
    go_wp2_with (first | (refine wpList_load_row rfl 26 _ rfl w2.heap.size rfl 26 g.cs (0, 0) _ (uh RG) Tryz.underlying26 rfl (by kernel_rfl) ?_))
    refine (uh P).mono ?_
    rintro e w6 ⟨rfl, hb⟩
    have T_ := hide ((uh L).later hb)
    clear L
    have L := hide (uh T_)
    clear T_
    have T_ := hide ((uh AX).later hb)
    clear AX
    have AX := hide (uh T_)
    clear T_
    have T_ := hide (row_lat (uh RX) hb)
    clear RX
    have RX := hide (uh T_)
    clear T_
    have T_ := hide ((uh OG).later hb)
    clear OG
    have OG := hide (uh T_)
    clear T_
    have T_ := hide (row_lat (uh RG) hb)
    clear RG
    have RG := hide (uh T_)
    clear T_
    clear hb P hsx hsg hg2
    have ho1 := row_o (uh RG)
    have ho2 := row_o (uh RX)
    have hi1 := row_i (uh RG)
    have hi2 := row_i (uh RX)
    have n1 : (x.o.n : Int) ≤ (g.o.n : Int) := by have h1 := (uh OG).rd.ol; have h2 := (uh AX).rd.ol; have h3 := (uh TN).out; omega
    have n2 : (g.i.n : Int) ≤ (x.i.n : Int) := by have h1 := (uh OG).rd.il; have h2 := (uh AX).rd.il; have h3 := (uh TN).inp; omega
    have BL := hide (uh L).bel
    go_wp2_with fail
    go_ret
    exact ⟨rfl, uh BL⟩

set_option maxRecDepth 100000 in
theorem lifted (os : Os) (started : os.Started) (H : Type) (enc : TypeId × Value → H) :
    ReturnsInHanded {} Tryz.checked os 3 .any (fun w args => (Rows.fnStepsSpec.pre enc Tryz.prog Tryz.f3 [] false w args ∧ laidMetH Tryz.prog Rows.fnStepsRow.laid w) ∧ sizedMet enc Tryz.prog Tryz.f3 (OpenSpec.ofChange Rows.fnStepsSpec) false w args)
      (Rows.fnStepsSpec.post enc Tryz.prog Tryz.f3 false true false false) := by
  refine returnsInHanded_of_change_and (C := Tryz.checked) (X := fun w _ => laidMetH Tryz.prog Rows.fnStepsRow.laid w) (fun _ _ _ hh h => h.of_heap hh) own started (by kernel_rfl) Tryz.func3
    (ChangeSpec.witness_shaped (enc := enc) (C := Tryz.checked) (os := os) (X := fun w _ => laidMetH Tryz.prog Rows.fnStepsRow.laid w) false (World.laidAll Tryz.prog os Rows.fnStepsRow.laid) #[.slice none 0 0] 8 (World.laidAll_os _ _ _)
      (World.shaped_of_ZipB (by kernel_rfl) (by kernel_rfl)) (by kernel_rfl) (by kernel_rfl) (by kernel_rfl)
      (by rw [MakeChecks.laidMetH_plain _ _ _ (by kernel_rfl)]; exact laidMet_laidAll _ (by kernel_rfl) (by kernel_rfl))) ?_
  intro W base args ds gs before hval0 hW _ _ hL _
  have hval : ∀ (j : Nat) t v, Tryz.f3.params[j]? = some t → args[j]? = some v → Value.okWide Tryz.prog W .any base t v := hval0
  have hW' := hW
  obtain ⟨p, q, hA0, hV, rfl, hfz, hnd⟩ := hW
  have hA : DataW.TrodAll enc Tryz.prog W 0 (fun _ => true) true Tryz.f3.params.toList args.toList ds p := hA0
  rw [Tryz.params3] at hA hval
  obtain ⟨v0, vs0, d0, ds0, p0, q0, hargs, rfl, rfl, h0, r0⟩ := trodAll_cons hA
  obtain ⟨rfl, rfl, rfl⟩ := trodAll_nil r0
  obtain rfl : args = #[v0] := by cases args; simp_all
  have kV := hV
  obtain ⟨gv, tv, cv, fv, dv, pv, rfl, _⟩ := trodVars_one hV
  have k0 := h0
  have lt0 : ∀ x ∈ p0, x.block < W.heap.size := by obtain ⟨m, hm⟩ := k0; exact DataW.trod_lt m _ _ _ hm
  obtain ⟨a0, len0, cap0, rfl⟩ := okWide_slice Tryz.underlying22 (hval 0 22 v0 rfl rfl)
  obtain ⟨z0, w0⟩ : ∃ zs, IsRow .u8 W a0 len0 cap0 zs := by
    obtain ⟨fuel, hf⟩ := h0
    rcases open_ints Tryz.underlying22 Tryz.underlying5 (by kernel_rfl) hf with ⟨hcs, _⟩ | ⟨x, l, c, zs, hcs, _, hl, hm, hz, _, hcell, hwz⟩
    · simp [Value.cells] at hcs
      obtain ⟨rfl, rfl, rfl⟩ := hcs
      exact ⟨[], .inl ⟨rfl, rfl, rfl, rfl⟩⟩
    · simp [Value.cells] at hcs
      obtain ⟨rfl, rfl, rfl⟩ := hcs
      exact ⟨zs, .inr ⟨_, rfl, hl, hm, by simpa using hz, hcell, hwz⟩⟩
  clear hA0 hval0
  refine (walk a0 len0 cap0 z0 W w0 (tab_of_laid hL)).mono fun e W' ⟨he, bel⟩ => ?_
  subst he
  exact ⟨_, rfl, _, _, _, [], _, _, hW', trodAll_mk1 (shut_bool Tryz.underlying4 _), (trodAll_cons_mk (Below.trod laidOut (by kernel_rfl) (of_decide_eq_true (by kernel_rfl)) k0 bel lt0) trodAll_mk0), bel.trodVars laidOut (by kernel_rfl) kV, bel.frame _, fun h => by cases h⟩

theorem proved : Rows.FnStepsSaid :=
  OpenClaim.holds_of_wide 3 Tryz.f3 rfl rfl rfl rfl rfl rfl rfl ⟨rfl, rfl, rfl, rfl, rfl⟩ rfl rfl rfl rfl rfl (by kernel_rfl) Tryz.func3 (by kernel_rfl)
    (of_decide_eq_true (by kernel_rfl)) (by unfold Func.isWrapper; first | (rw [if_pos (by decide +kernel)]; kernel_rfl) | (rw [if_neg (by decide +kernel)]; exact ⟨rfl, rfl⟩))
    (fun os started H enc _ => lifted os started H enc)
end Go.Proofs.YtjpbjbnialehbaaGreatDoor.fnSteps

namespace Go.Proofs.YtjpbjbnialehbaaGreatDoor
theorem fnSteps_holds : Rows.FnStepsCardSaid :=
  Claim7.holds_tied_plain_at .later [] [.data] true (true, "99ab23aef5ec0494d262286fe57031b47249114345069df735d97cb6b7f69c35") false
    fnSteps.proved (fun _ h => by cases h) (by kernel_rfl) (fun _ h => by cases h) fnSteps_row_tie rfl ⟨rfl, rfl⟩ (by kernel_rfl) rfl
    (fun f fn hf hfn => by
      obtain rfl : f = 3 := Option.some.inj ((show Tryz.prog.funcNamed "loop.example/g00329/laws.FnSteps" = some 3 by kernel_rfl).symm.trans hf) |>.symm
      obtain rfl : fn = Tryz.f3 := (Option.some.inj (Tryz.func3.symm.trans hfn)).symm
      exact ⟨by kernel_rfl, fun j t ht => by
        rw [Tryz.params3] at ht
        have hm : t ∈ [22] := by simpa using Array.mem_of_getElem? ht
        have hall : ([22].all fun u => !Tryz.prog.wantsStandIn u) = true := by kernel_rfl
        exact (show Tryz.prog.wantsStandIn t = false by simpa using List.all_eq_true.1 hall t hm)⟩)
    (by kernel_rfl)
#print axioms fnSteps_holds
end Go.Proofs.YtjpbjbnialehbaaGreatDoor
