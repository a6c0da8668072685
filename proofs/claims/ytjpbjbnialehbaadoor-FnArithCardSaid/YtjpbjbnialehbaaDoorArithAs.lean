/- For every code the law on three instructions answers true: what OAdd, OSub and OCmp of two words leave in the registers and the flags is as the document says -/
import Derived.Test.YtjpbjbnialehbaaDoorRows
import Derived.Test.YtjpbjbnialehbaaDoorAsA
import Derived.Test.YtjpbjbnialehbaaDoorAsB
import Derived.Test.YtjpbjbnialehbaaDoorAsC
import Derived.Test.YtjpbjbnialehbaaDoorAsD
import Derived.Test.YtjpbjbnialehbaaDoorAsE
import Derived.Test.YtjpbjbnialehbaaDoorAsF
import Derived.Test.YtjpbjbnialehbaaDoorAsG
import Derived.Test.YtjpbjbnialehbaaDoorAsH
import Derived.Test.YtjpbjbnialehbaaDoorAsI
import Derived.Test.YtjpbjbnialehbaaDoorAsJ
import Derived.Test.YtjpbjbnialehbaaDoorAsK
import Derived.Test.YtjpbjbnialehbaaDoorAsL
import Derived.Test.YtjpbjbnialehbaaDoorAsM
import Derived.Test.YtjpbjbnialehbaaDoorAsN
import Derived.Test.YtjpbjbnialehbaaDoorAsO
import Derived.Test.YtjpbjbnialehbaaDoorAsP
import Derived.Test.YtjpbjbnialehbaaDoorAsQ
import Derived.Test.YtjpbjbnialehbaaDoorAsR
import Derived.Test.YtjpbjbnialehbaaDoorAsS
import Derived.Test.YtjpbjbnialehbaaDoorAsT
import Derived.Test.YtjpbjbnialehbaaDoorAsU
import Derived.Deep.RegionHeld
import Derived.Test.YtjpbjbnialehbaaDoorTie
import Derived.Test.YtjpbjbnialehbaaDoorCards
import Derived.SevenTiedAt
import Derived.Lay
import Derived.MakeChecks
import Derived.OpenVars
import Derived.WalkKit
import Derived.ProofKit
import Derived.OpenShut
import Derived.ShutString
import Derived.ChangeOld
import Derived.Below
namespace Go.Proofs.YtjpbjbnialehbaaDoor.fnArith
open Go.ChangeShapes Go.WideShapes Go.ChangeAt Go.RowKit
open Go.ChangeMaps (open_string shut_string)
set_option linter.unusedVariables false
set_option maxRecDepth 8000

theorem owno_nz {w : World} {B : Nat} {s : Sl} {ns : List Int} (h : OwnO w B s ns) : s.nz := by
  rcases h with ⟨rfl, _⟩ | ⟨g, off, cap, rfl, _⟩
  · exact fun _ => rfl
  · exact fun c => by cases c
theorem owne_nz {w : World} {B : Nat} {x : Mv} {d : Md} (h : OwnE w B x d) : x.nz := ⟨h.m.nz, h.r.nz, owno_nz h.i, h.o.nz⟩
structure Bl (W wr : World) : Prop where
  bel : Below W.heap.size W wr
theorem Bl.later {W wr w' : World} (h : Bl W wr) (hb : Below wr.heap.size wr w') : Bl W w' := ⟨h.bel.trans (hb.mono h.bel.size)⟩
/-- What stays while the program is laid together. -/
structure Ak (W wr : World) (v : Value) : Prop where
  l : Bl W wr
  r : wr.heap[W.heap.size + 1]? = some (.cells #[.int .i64 5, .int .i64 6, .int .i64 2] 3 (0, 0))
  n : ∀ g, v.ownBlock = some g → g ≠ W.heap.size + 1
set_option maxRecDepth 100000 in
set_option maxHeartbeats 16000000 in
theorem walk (a : Option Addr) (len cap : Nat) (zs : List Int) (W : World) (r0 : IsRow .u8 W a len cap zs) (ht : Tab W) :
    Calls Tryd.prog 3 #[.slice a len cap] W fun e W' => e = .returned (.bool true) ∧ Below W.heap.size W W' := by
  obtain ⟨xs, hl, lc, mcap, hr⟩ := rd_of_row r0
  obtain ⟨i0, hi, hz0, hz1, hz2⟩ := info_parts info3
  unfold maxLen at mcap
  have L := hide (show Lc W W a xs from ⟨Below.refl _ _, hr⟩)
  have TB := hide ht
  clear r0 hr ht
  have BG := hide (fun w => big_free a len cap w (by omega))
  by_cases hbig : len ≤ 1048576
  rotate_left
  · have hd : decide ((1048576 : Int) < (len : Int)) = true := by simp; omega
    rw [hd] at BG
    clear L hd
    go_enter Tryd.func3, Tryd.ntmps3
    go_wp2_with (go_at_call 4; refine (unhide BG _).mono ?_; rintro e w' ⟨rfl, rfl⟩)
    go_ret
    exact ⟨rfl, Below.refl _ _⟩
  have hd : decide ((1048576 : Int) < (len : Int)) = false := by simp; omega
  rw [hd] at BG
  have A2 := hide (fun w hr => at_any a len cap 2 xs w (by omega) hl hbig hr)
  have A3 := hide (fun w hr => at_any a len cap 3 xs w (by omega) hl hbig hr)
  have A4 := hide (fun w hr => at_any a len cap 4 xs w (by omega) hl hbig hr)
  have A5 := hide (fun w hr => at_any a len cap 5 xs w (by omega) hl hbig hr)
  obtain ⟨p2, q2⟩ := atV_bd xs 2
  obtain ⟨p3, q3⟩ := atV_bd xs 3
  obtain ⟨p4, q4⟩ := atV_bd xs 4
  obtain ⟨p5, q5⟩ := atV_bd xs 5
  generalize atV xs 2 = z2 at A2 p2 q2
  generalize atV xs 3 = z3 at A3 p3 q3
  generalize atV xs 4 = z4 at A4 p4 q4
  generalize atV xs 5 = z5 at A5 p5 q5
  clear hd hl hbig lc mcap
  go_enter Tryd.func3, Tryd.ntmps3
  go_wp2_with (first | (go_at_call 4; refine (unhide BG _).mono ?_; rintro e w' ⟨rfl, hw'⟩; rw [hw']; clear hw' w'))
  refine (unhide A2 _ (unhide L).rd).mono ?_
  rintro e w' ⟨rfl, hw'⟩
  rw [hw']
  clear hw' w'
  go_wp2_with fail
  refine (unhide A3 _ (unhide L).rd).mono ?_
  rintro e w' ⟨rfl, hw'⟩
  rw [hw']
  clear hw' w'
  go_wp2_with fail
  refine (unhide A4 _ (unhide L).rd).mono ?_
  rintro e w' ⟨rfl, hw'⟩
  rw [hw']
  clear hw' w'
  go_wp2_with fail
  refine (unhide A5 _ (unhide L).rd).mono ?_
  rintro e w' ⟨rfl, hw'⟩
  rw [hw']
  clear hw' w'
  go_wp2_with fail
  clear A2 A3 A4 A5 BG
  have hx : 0 ≤ z2 * 256 + z3 ∧ z2 * 256 + z3 ≤ 65535 := by omega
  have hy : 0 ≤ z4 * 256 + z5 ∧ z4 * 256 + z5 ≤ 65535 := by omega
  generalize z2 * 256 + z3 = x at hx ⊢
  generalize z4 * 256 + z5 = y at hy ⊢
  clear p2 q2 p3 q3 p4 q4 p5 q5
  have HX := hide hx
  have HY := hide hy
  clear hx hy
  have O0 := hide ((ownN_empty W).later (below_new (W.alloc (Obj.cells #[] 3)) (.cells #[.int .i64 5, .int .i64 6, .int .i64 2] 3)))
  have K0 := hide (show Ak W ((W.alloc (Obj.cells #[] 3)).alloc (.cells #[.int .i64 5, .int .i64 6, .int .i64 2] 3)) (.slice (some ⟨W.heap.size, 0, none⟩) 0 0) from ⟨⟨below_two W _ _⟩, by have := heap_alloc_last (W.alloc (Obj.cells #[] 3)) (.cells #[.int .i64 5, .int .i64 6, .int .i64 2] 3); simpa using this, by intro g h; simp [Value.ownBlock] at h; omega⟩)
  clear L
  go_loopw [5, 7] (fun v v7 wr => ∃ (k : Nat) (ns : List Int), k ≤ 3 ∧ v7 = .int .i64 k ∧ v ≠ .slice none 0 0 ∧ OwnN wr W.heap.size v ns ∧ ns.length = k ∧ Hid (ns = aW.take k) ∧ Hid (Ak W wr v)) (fun _ v7 _ => 3 - (intOf v7).toNat)
  case atStart => exact ⟨0, [], by omega, rfl, by simp, unhide O0, rfl, hide rfl, K0⟩
  case round =>
    clear O0 K0
    obtain ⟨k, ns, hk, rfl, hne, hown, hln, hns, AK⟩ := hrel
    have OW := hide hown
    clear hown
    have hob : ∀ g, u5.ownBlock = some g → W.heap.size ≤ g := fun g e => ((unhide OW).lt e).1
    have sW := (unhide AK).l.bel.size
    match k, hk with
    | 0, _ =>
      have c5 : wr.cell? ⟨W.heap.size + 1, 0, none⟩ = some (.int .i64 5) := (cell_of_row wr (W.heap.size + 1) 0 _ 3 (0, 0) (unhide AK).r).trans rfl
      have P4 := hide (show Calls Tryd.prog 6 #[.agg #[.int .i64 5, .int .i64 0, .int .i64 1, .int .i64 0, .int .i64 0, .int .i64 2, .int .i64 0, .int .i64 0]] wr fun e w' => ∃ v, e = .returned v ∧ v ≠ .slice none 0 0 ∧ OwnN w' wr.heap.size v [24642] ∧ Below wr.heap.size wr w' from by have q := encI_any (aI 5) wr ((unhide TB).later (unhide AK).l.bel); rw [aw_5] at q; exact q)
      obtain ⟨es, hes⟩ : ∃ es : List Int, es = [24642] := ⟨_, rfl⟩
      rw [← hes] at P4
      have les : es.length = 1 := by rw [hes]; rfl
      have HES := hide hes
      clear hes
      go_wp2_with fail
      refine (unhide P4).mono ?_
      rintro e w4 ⟨v4, rfl, hne4, own4, hb4⟩
      have s4 := hb4.size
      have O4 := hide ((unhide OW).later hb4)
      have K5 := hide ((unhide AK).l.later hb4)
      have R5 := hide (row_lat (unhide AK).r hb4)
      have N5 := hide (unhide AK).n
      rcases own4.form with ⟨e, _⟩ | ⟨g4, cap4, rfl, _⟩
      · exact absurd e hne4
      have K4 := hide (World.ownsRow.cells own4 rfl)
      clear own4 hb4 P4 OW AK hne4 c5
      go_wp2_with (at_builtin; go_must (refine wpList_append_own _ rfl (.tmp 35) (.tmp 43) 25 rfl W.heap.size 3 i0 (.int .i64 0) 1 8 Tryd.underlying25 hi hz0 hz1 hz2 rfl (by decide) u5 ns.length (cellsN ns) rfl (unhide O4) ⟨g4, 0, none⟩ 1 cap4 (cellsN es) rfl (by rw [cellsN_length]; omega) (unhide K4) (cellsN_one _) (by unfold maxLen; omega) (by omega) (by first | omega | (simp; omega)) ?_; intro v8 w8 hown hgrow hnil))
      have HN : v8 ≠ .slice none 0 0 := fun e => by have := hnil.1 e; exact hne this.1
      have O8 := hide (show OwnN w8 W.heap.size v8 (ns ++ es) by unfold OwnN; rw [cellsN_append, List.length_append, les]; exact hown)
      have R8 := hide (show w8.heap[W.heap.size + 1]? = some (.cells #[.int .i64 5, .int .i64 6, .int .i64 2] 3 (0, 0)) from (hgrow.block _ (row_lt (unhide R5)) (fun e => (unhide N5) _ e.symm rfl)).trans (unhide R5))
      have L8 := hide (show Bl W w8 from ⟨(unhide K5).bel.grown hgrow (unhide K5).bel.size hob⟩)
      have E8 := hide (show ns ++ es = aW.take 1 from by rw [unhide hns, unhide HES]; rfl)
      have N8 := hide (own_else (unhide O8) (by rw [unhide E8]; decide) (by rw [List.length_append]; omega) (unhide R8) rfl)
      clear hown hgrow hnil K4 O4 K5 R5 N5 hns HES
      go_wp2_with fail
      go_roundw
      case rel => exact ⟨1, ns ++ es, by omega, by go_num, HN, unhide O8, by rw [List.length_append]; omega, E8, hide ⟨unhide L8, unhide R8, unhide N8⟩⟩
      case measure => simp [intOf]
    | 1, _ =>
      have c5 : wr.cell? ⟨W.heap.size + 1, 1, none⟩ = some (.int .i64 6) := (cell_of_row wr (W.heap.size + 1) 1 _ 3 (0, 0) (unhide AK).r).trans rfl
      have P4 := hide (show Calls Tryd.prog 6 #[.agg #[.int .i64 6, .int .i64 0, .int .i64 1, .int .i64 0, .int .i64 0, .int .i64 2, .int .i64 0, .int .i64 0]] wr fun e w' => ∃ v, e = .returned v ∧ v ≠ .slice none 0 0 ∧ OwnN w' wr.heap.size v [57410] ∧ Below wr.heap.size wr w' from by have q := encI_any (aI 6) wr ((unhide TB).later (unhide AK).l.bel); rw [aw_6] at q; exact q)
      obtain ⟨es, hes⟩ : ∃ es : List Int, es = [57410] := ⟨_, rfl⟩
      rw [← hes] at P4
      have les : es.length = 1 := by rw [hes]; rfl
      have HES := hide hes
      clear hes
      go_wp2_with fail
      refine (unhide P4).mono ?_
      rintro e w4 ⟨v4, rfl, hne4, own4, hb4⟩
      have s4 := hb4.size
      have O4 := hide ((unhide OW).later hb4)
      have K5 := hide ((unhide AK).l.later hb4)
      have R5 := hide (row_lat (unhide AK).r hb4)
      have N5 := hide (unhide AK).n
      rcases own4.form with ⟨e, _⟩ | ⟨g4, cap4, rfl, _⟩
      · exact absurd e hne4
      have K4 := hide (World.ownsRow.cells own4 rfl)
      clear own4 hb4 P4 OW AK hne4 c5
      go_wp2_with (at_builtin; go_must (refine wpList_append_own _ rfl (.tmp 35) (.tmp 43) 25 rfl W.heap.size 3 i0 (.int .i64 0) 1 8 Tryd.underlying25 hi hz0 hz1 hz2 rfl (by decide) u5 ns.length (cellsN ns) rfl (unhide O4) ⟨g4, 0, none⟩ 1 cap4 (cellsN es) rfl (by rw [cellsN_length]; omega) (unhide K4) (cellsN_one _) (by unfold maxLen; omega) (by omega) (by first | omega | (simp; omega)) ?_; intro v8 w8 hown hgrow hnil))
      have HN : v8 ≠ .slice none 0 0 := fun e => by have := hnil.1 e; exact hne this.1
      have O8 := hide (show OwnN w8 W.heap.size v8 (ns ++ es) by unfold OwnN; rw [cellsN_append, List.length_append, les]; exact hown)
      have R8 := hide (show w8.heap[W.heap.size + 1]? = some (.cells #[.int .i64 5, .int .i64 6, .int .i64 2] 3 (0, 0)) from (hgrow.block _ (row_lt (unhide R5)) (fun e => (unhide N5) _ e.symm rfl)).trans (unhide R5))
      have L8 := hide (show Bl W w8 from ⟨(unhide K5).bel.grown hgrow (unhide K5).bel.size hob⟩)
      have E8 := hide (show ns ++ es = aW.take 2 from by rw [unhide hns, unhide HES]; rfl)
      have N8 := hide (own_else (unhide O8) (by rw [unhide E8]; decide) (by rw [List.length_append]; omega) (unhide R8) rfl)
      clear hown hgrow hnil K4 O4 K5 R5 N5 hns HES
      go_wp2_with fail
      go_roundw
      case rel => exact ⟨2, ns ++ es, by omega, by go_num, HN, unhide O8, by rw [List.length_append]; omega, E8, hide ⟨unhide L8, unhide R8, unhide N8⟩⟩
      case measure => simp [intOf]
    | 2, _ =>
      have c5 : wr.cell? ⟨W.heap.size + 1, 2, none⟩ = some (.int .i64 2) := (cell_of_row wr (W.heap.size + 1) 2 _ 3 (0, 0) (unhide AK).r).trans rfl
      have P4 := hide (show Calls Tryd.prog 6 #[.agg #[.int .i64 2, .int .i64 0, .int .i64 1, .int .i64 0, .int .i64 0, .int .i64 2, .int .i64 0, .int .i64 0]] wr fun e w' => ∃ v, e = .returned v ∧ v ≠ .slice none 0 0 ∧ OwnN w' wr.heap.size v [8258] ∧ Below wr.heap.size wr w' from by have q := encI_any (aI 2) wr ((unhide TB).later (unhide AK).l.bel); rw [aw_2] at q; exact q)
      obtain ⟨es, hes⟩ : ∃ es : List Int, es = [8258] := ⟨_, rfl⟩
      rw [← hes] at P4
      have les : es.length = 1 := by rw [hes]; rfl
      have HES := hide hes
      clear hes
      go_wp2_with fail
      refine (unhide P4).mono ?_
      rintro e w4 ⟨v4, rfl, hne4, own4, hb4⟩
      have s4 := hb4.size
      have O4 := hide ((unhide OW).later hb4)
      have K5 := hide ((unhide AK).l.later hb4)
      have R5 := hide (row_lat (unhide AK).r hb4)
      have N5 := hide (unhide AK).n
      rcases own4.form with ⟨e, _⟩ | ⟨g4, cap4, rfl, _⟩
      · exact absurd e hne4
      have K4 := hide (World.ownsRow.cells own4 rfl)
      clear own4 hb4 P4 OW AK hne4 c5
      go_wp2_with (at_builtin; go_must (refine wpList_append_own _ rfl (.tmp 35) (.tmp 43) 25 rfl W.heap.size 3 i0 (.int .i64 0) 1 8 Tryd.underlying25 hi hz0 hz1 hz2 rfl (by decide) u5 ns.length (cellsN ns) rfl (unhide O4) ⟨g4, 0, none⟩ 1 cap4 (cellsN es) rfl (by rw [cellsN_length]; omega) (unhide K4) (cellsN_one _) (by unfold maxLen; omega) (by omega) (by first | omega | (simp; omega)) ?_; intro v8 w8 hown hgrow hnil))
      have HN : v8 ≠ .slice none 0 0 := fun e => by have := hnil.1 e; exact hne this.1
      have O8 := hide (show OwnN w8 W.heap.size v8 (ns ++ es) by unfold OwnN; rw [cellsN_append, List.length_append, les]; exact hown)
      have R8 := hide (show w8.heap[W.heap.size + 1]? = some (.cells #[.int .i64 5, .int .i64 6, .int .i64 2] 3 (0, 0)) from (hgrow.block _ (row_lt (unhide R5)) (fun e => (unhide N5) _ e.symm rfl)).trans (unhide R5))
      have L8 := hide (show Bl W w8 from ⟨(unhide K5).bel.grown hgrow (unhide K5).bel.size hob⟩)
      have E8 := hide (show ns ++ es = aW.take 3 from by rw [unhide hns, unhide HES]; rfl)
      have N8 := hide (own_else (unhide O8) (by rw [unhide E8]; decide) (by rw [List.length_append]; omega) (unhide R8) rfl)
      clear hown hgrow hnil K4 O4 K5 R5 N5 hns HES
      go_wp2_with fail
      go_roundw
      case rel => exact ⟨3, ns ++ es, by omega, by go_num, HN, unhide O8, by rw [List.length_append]; omega, E8, hide ⟨unhide L8, unhide R8, unhide N8⟩⟩
      case measure => simp [intOf]
    | 3, _ =>
      have OZ := hide (own_one wr 0)
      have O4 := hide ((unhide OW).later (below_new wr (.cells #[.int .i64 0] 3)))
      have L4 := hide ((unhide AK).l.later (below_new wr (.cells #[.int .i64 0] 3)))
      have K4 := hide (World.ownsRow.cells (unhide OZ) rfl)
      obtain ⟨es, hes⟩ : ∃ es : List Int, es = [0] := ⟨_, rfl⟩
      rw [← hes] at K4
      have les : es.length = 1 := by rw [hes]; rfl
      have HES := hide hes
      clear hes OZ OW AK
      go_wp2_with (at_builtin; go_must (refine wpList_append_own _ rfl (.tmp 45) (.tmp 46) 25 rfl W.heap.size 3 i0 (.int .i64 0) 1 8 Tryd.underlying25 hi hz0 hz1 hz2 rfl (by decide) u5 ns.length (cellsN ns) rfl (unhide O4) ⟨wr.heap.size, 0, none⟩ 1 1 (cellsN es) rfl (by rw [cellsN_length]; omega) (unhide K4) (cellsN_one _) (by unfold maxLen; omega) (by omega) (by first | omega | (simp; omega)) ?_; intro v8 w8 hown hgrow hnil))
      have HN : v8 ≠ .slice none 0 0 := fun e => by have := hnil.1 e; exact hne this.1
      have O8 := hide (show OwnN w8 W.heap.size v8 aW from by have q : OwnN w8 W.heap.size v8 (ns ++ es) := (by unfold OwnN; rw [cellsN_append, List.length_append, les]; exact hown); rw [unhide hns, unhide HES] at q; exact q)
      have L8 := hide (show Bl W w8 from ⟨(unhide L4).bel.grown hgrow (unhide L4).bel.size hob⟩)
      clear hown hgrow hnil K4 O4 L4 hns HES
      rcases (unhide O8).form with ⟨e, _⟩ | ⟨g8, cap8, rfl, _⟩
      · exact absurd e HN
      have N1 := hide (show OwnN (w8.alloc (Obj.cells #[] 3)) W.heap.size (Sl.v ⟨some ⟨g8, 0, none⟩, 4, cap8⟩) aW from (unhide O8).later (below_new w8 _))
      have N2 := hide (show OwnN (w8.alloc (Obj.cells #[] 3)) w8.heap.size (Sl.v ⟨some ⟨w8.heap.size, 0, none⟩, 0, 0⟩) [] from ownN_empty w8)
      have P := hide (newI_any ⟨some ⟨g8, 0, none⟩, 4, cap8⟩ ⟨some ⟨w8.heap.size, 0, none⟩, 0, 0⟩ aW [] 64 64 (w8.alloc (Obj.cells #[] 3)) (unhide N1).rdS (unhide N2).rdS rfl rfl (by show (4 : Nat) ≤ 1048576; omega) (by show (0 : Nat) ≤ 1048576; omega) (unhide N2).nz)
      rw [a_new] at P
      have L := hide ((unhide L8).later (below_new w8 (Obj.cells #[] 3)))
      have SW8 := hide (unhide L).bel.size
      clear L8 O8 HN N1 N2
      go_wp2_with fail
      refine (unhide P).mono ?_
      rintro e w9 ⟨m, rfl, fm, om, hb⟩
      have T_ := hide ((unhide L).later hb)
      clear L
      have L := hide (unhide T_)
      clear T_
      clear hb P
      obtain ⟨gr, rc, er0, _⟩ := own_formL om.r (by decide)
      have er : m.r = ⟨some ⟨gr, 0, none⟩, 8, rc⟩ := er0
      clear er0
      have FM := hide (show m.fl = (false, false, false, false, 0) from fm)
      clear fm
      have SW9 := hide (unhide L).bel.size
      have RM := hide (heap_alloc_last w9 (.cells m.cs 32))
      obtain ⟨o1, g1, lo1, lt1, ca1, fz1⟩ := own_setR (om.later (below_new w9 (.cells m.cs 32))) er 1 x (by show 1 < 8; omega)
      obtain ⟨o2, g2, _, _, ca2, fz2⟩ := own_setR o1 er 2 y (by show 2 < 8; omega)
      have GL := hide (show gr < w9.heap.size from by have q := om.r; rw [show m.r.v = .slice (some ⟨gr, 0, none⟩) 8 rc from by rw [er]; rfl] at q; exact (q.lt rfl).2)
      have RM1 := hide (row_keep (b := gr) (j := 1) (u := .int .i64 x) (unhide RM) (by have := unhide GL; omega))
      have RM2 := hide (row_keep (b := gr) (j := 2) (u := .int .i64 y) (unhide RM1) (by have := unhide GL; omega))
      have cr0 := row_r (unhide RM)
      have cr1 := row_r (unhide RM1)
      rw [er] at cr0 cr1
      have O2 := hide (show OwnM _ _ m (aD x y 64) from o2)
      have BB := hide ((((unhide L).later (below_new w9 (.cells m.cs 32))).bel.setCell (p := ⟨gr, 1, none⟩) (show W.heap.size ≤ gr by have := unhide SW8; omega) (.int .i64 x)).setCell (p := ⟨gr, 2, none⟩) (show W.heap.size ≤ gr by have := unhide SW8; omega) (.int .i64 y))
      clear o1 o2 g1 g2 lt1 L RM RM1
      clear om
      obtain ⟨z1, v1, s1⟩ := s1_of (unhide HX) (unhide HY) false false false false
      obtain ⟨n2, z2, v2, c2, s2⟩ := s2_of (unhide HX) (unhide HY) (aN x y) z1 v1 (aC x y)
      have s3 := s3_of (unhide HX) (unhide HY) n2 z2 v2 c2
      have HXY : 0 ≤ (x + y) % 65536 ∧ (x + y) % 65536 ≤ 65535 := by omega
      have P := hide (step_is m (aD x y 64) (aD x ((x + y) % 65536) 66) _ _ _ _ _ _ _ _ (((w9.alloc (.cells m.cs 32)).setCell ⟨gr, 1, none⟩ (.int .i64 x)).setCell ⟨gr, 2, none⟩ (.int .i64 y)) (unhide FM) s1 (small_mv (unhide O2).rd (a_dk x y 64 (unhide HX) (unhide HY) (by omega)).small) (unhide O2).nz (unhide O2).rd ((unhide TB).later (unhide BB)))
      have S2 := hide (fun (q : Mv) w (hf : q.fl = (aN x y, z1, v1, aC x y, 0)) (hz : q.nz) (hr : RdM w q (aD x ((x + y) % 65536) 66)) (ht : Tab w) => step_is q (aD x ((x + y) % 65536) 66) (aD x y 68) _ _ _ _ _ _ _ _ w hf s2 (small_mv hr (a_dk x _ 66 (unhide HX) HXY (by omega)).small) hz hr ht)
      have S3 := hide (fun (q : Mv) w (hf : q.fl = (n2, z2, v2, c2, 0)) (hz : q.nz) (hr : RdM w q (aD x y 68)) (ht : Tab w) => step_is q (aD x y 68) (aD x y 70) _ _ _ _ _ _ _ _ w hf s3 (small_mv hr (a_dk x y 68 (unhide HX) (unhide HY) (by omega)).small) hz hr ht)
      unfold StIs at P S2 S3
      have QC := hide (q_c (unhide HX) (unhide HY))
      have QN := hide (q_n (unhide HX) (unhide HY))
      have QZ := hide (q_z (unhide HX) (unhide HY))
      have QV := hide (q_nv (unhide HX) (unhide HY))
      have HXY2 := hide (show IntKind.i64.wrap (x + y) = x + y by have h1 := unhide HX; have h2 := unhide HY; rw [IntKind.wrap_i64]; omega)
      have R2N := hide (show nAt (aD x ((x + y) % 65536) 66).r 2 = (x + y) % 65536 from rfl)
      generalize aN x y = N1 at P S2 QN
      generalize aC x y = C1 at P S2 QC
      generalize aN3 x y = N3 at S3 QV
      generalize aZ3 x y = Z3 at S3 QZ
      generalize aV3 x y = V3 at S3 QV
      obtain ⟨C3, hC3⟩ : ∃ b, decide (x < y) = b := ⟨_, rfl⟩
      rw [hC3] at S3
      have QD := hide hC3
      clear hC3 s1 s2 s3
      obtain ⟨QQ, hQQ⟩ : ∃ b, decide (sgV x < sgV y) = b := ⟨_, rfl⟩
      rw [hQQ] at QV
      have QS := hide hQQ
      clear hQQ
      have QE := hide (show (x == y) = Z3 from by rw [unhide QZ]; by_cases h : x = y <;> simp [h])
      have QW := hide (show (N3 == V3) = !QQ from by rw [← unhide QV]; cases N3 <;> cases V3 <;> rfl)
      generalize hsum : (x + y) % 65536 = sm at *
      have QM := hide hsum
      clear hsum HXY
      have L := hide (show Bl W (((w9.alloc (.cells m.cs 32)).setCell ⟨gr, 1, none⟩ (.int .i64 x)).setCell ⟨gr, 2, none⟩ (.int .i64 y)) from ⟨unhide BB⟩)
      go_wp2_with (first | (refine wpList_store_new rfl 32 _ _ rfl m.cs rfl rfl _ (by kernel_rfl) rfl (Mv.cs_one _) ?_) | (refine wpList_load_row rfl 32 _ rfl w9.heap.size rfl 32 m.cs (0, 0) _ (unhide RM2) Tryd.underlying32 rfl (by kernel_rfl) ?_))
      refine (unhide P).mono ?_
      rintro e w11 ⟨g1, rfl, f1, o1, hb⟩
      have T_ := hide ((unhide L).later hb)
      clear L
      have L := hide (unhide T_)
      clear T_
      clear O2 RM2 cr0 cr1 ca1 ca2 fz1 fz2 er BB FM
      have F1 := hide f1
      have OG1 := hide o1
      have RG1 := hide (heap_alloc_last w11 (.cells g1.cs 32))
      have T_ := hide ((unhide L).later (below_new w11 (.cells g1.cs 32)))
      clear L
      have L := hide (unhide T_)
      clear T_
      have T_ := hide ((unhide OG1).later (below_new w11 (.cells g1.cs 32)))
      clear OG1
      have OG1 := hide (unhide T_)
      clear T_
      clear hb f1 o1 P
      have P := hide (unhide S2 g1 (w11.alloc (.cells g1.cs 32)) (unhide F1) (owne_nz (unhide OG1)) (unhide OG1).rd ((unhide TB).later (unhide L).bel))
      clear S2
      go_wp2_with (first | (refine wpList_store_new rfl 32 _ _ rfl g1.cs rfl rfl _ (by kernel_rfl) rfl (Mv.cs_one _) ?_) | (refine wpList_load_row rfl 32 _ rfl w11.heap.size rfl 32 g1.cs (0, 0) _ (unhide RG1) Tryd.underlying32 rfl (by kernel_rfl) ?_))
      refine (unhide P).mono ?_
      rintro e w12 ⟨g2, rfl, f2, o2, hb⟩
      have T_ := hide ((unhide L).later hb)
      clear L
      have L := hide (unhide T_)
      clear T_
      have T_ := hide ((unhide OG1).later hb)
      clear OG1
      have OG1 := hide (unhide T_)
      clear T_
      have T_ := hide (row_lat (unhide RG1) hb)
      clear RG1
      have RG1 := hide (unhide T_)
      clear T_
      have F2 := hide f2
      have OG2 := hide o2
      have RG2 := hide (heap_alloc_last w12 (.cells g2.cs 32))
      have T_ := hide ((unhide L).later (below_new w12 (.cells g2.cs 32)))
      clear L
      have L := hide (unhide T_)
      clear T_
      have T_ := hide ((unhide OG1).later (below_new w12 (.cells g2.cs 32)))
      clear OG1
      have OG1 := hide (unhide T_)
      clear T_
      have T_ := hide (row_lat (unhide RG1) (below_new w12 (.cells g2.cs 32)))
      clear RG1
      have RG1 := hide (unhide T_)
      clear T_
      have T_ := hide ((unhide OG2).later (below_new w12 (.cells g2.cs 32)))
      clear OG2
      have OG2 := hide (unhide T_)
      clear T_
      clear hb f2 o2 P
      have P := hide (unhide S3 g2 (w12.alloc (.cells g2.cs 32)) (unhide F2) (owne_nz (unhide OG2)) (unhide OG2).rd ((unhide TB).later (unhide L).bel))
      clear S3
      go_wp2_with (first | (refine wpList_store_new rfl 32 _ _ rfl g2.cs rfl rfl _ (by kernel_rfl) rfl (Mv.cs_one _) ?_) | (refine wpList_load_row rfl 32 _ rfl w12.heap.size rfl 32 g2.cs (0, 0) _ (unhide RG2) Tryd.underlying32 rfl (by kernel_rfl) ?_))
      refine (unhide P).mono ?_
      rintro e w13 ⟨g3, rfl, f3, o3, hb⟩
      have T_ := hide ((unhide L).later hb)
      clear L
      have L := hide (unhide T_)
      clear T_
      have T_ := hide ((unhide OG1).later hb)
      clear OG1
      have OG1 := hide (unhide T_)
      clear T_
      have T_ := hide (row_lat (unhide RG1) hb)
      clear RG1
      have RG1 := hide (unhide T_)
      clear T_
      have T_ := hide ((unhide OG2).later hb)
      clear OG2
      have OG2 := hide (unhide T_)
      clear T_
      have T_ := hide (row_lat (unhide RG2) hb)
      clear RG2
      have RG2 := hide (unhide T_)
      clear T_
      have F3 := hide f3
      have OG3 := hide o3
      have RG3 := hide (heap_alloc_last w13 (.cells g3.cs 32))
      have T_ := hide ((unhide L).later (below_new w13 (.cells g3.cs 32)))
      clear L
      have L := hide (unhide T_)
      clear T_
      have T_ := hide ((unhide OG1).later (below_new w13 (.cells g3.cs 32)))
      clear OG1
      have OG1 := hide (unhide T_)
      clear T_
      have T_ := hide (row_lat (unhide RG1) (below_new w13 (.cells g3.cs 32)))
      clear RG1
      have RG1 := hide (unhide T_)
      clear T_
      have T_ := hide ((unhide OG2).later (below_new w13 (.cells g3.cs 32)))
      clear OG2
      have OG2 := hide (unhide T_)
      clear T_
      have T_ := hide (row_lat (unhide RG2) (below_new w13 (.cells g3.cs 32)))
      clear RG2
      have RG2 := hide (unhide T_)
      clear T_
      have T_ := hide ((unhide OG3).later (below_new w13 (.cells g3.cs 32)))
      clear OG3
      have OG3 := hide (unhide T_)
      clear T_
      clear hb f3 o3 P
      go_wp2_with (first | (refine wpList_store_new rfl 32 _ _ rfl g3.cs rfl rfl _ (by kernel_rfl) rfl (Mv.cs_one _) ?_))
      refine (signedI_any x _).mono ?_
      rintro e w' ⟨rfl, hw'⟩
      rw [hw']
      clear hw' w'
      go_wp2_with fail
      refine (signedI_any y _).mono ?_
      rintro e w' ⟨rfl, hw'⟩
      rw [hw']
      clear hw' w'
      have qs := unhide QS
      go_wp2_with fail
      clear qs
      generalize hwq : w13.alloc (.cells g3.cs 32) = wq at L OG1 RG1 OG2 RG2 OG3 RG3 ⊢
      clear hwq
      have T_ := hide ((unhide L).later (below_drew (w := wq)))
      clear L
      have L := hide (unhide T_)
      clear T_
      have T_ := hide ((unhide OG1).later (below_drew (w := wq)))
      clear OG1
      have OG1 := hide (unhide T_)
      clear T_
      have T_ := hide (row_lat (unhide RG1) (below_drew (w := wq)))
      clear RG1
      have RG1 := hide (unhide T_)
      clear T_
      have T_ := hide ((unhide OG2).later (below_drew (w := wq)))
      clear OG2
      have OG2 := hide (unhide T_)
      clear T_
      have T_ := hide (row_lat (unhide RG2) (below_drew (w := wq)))
      clear RG2
      have RG2 := hide (unhide T_)
      clear T_
      have T_ := hide ((unhide OG3).later (below_drew (w := wq)))
      clear OG3
      have OG3 := hide (unhide T_)
      clear T_
      have T_ := hide (row_lat (unhide RG3) (below_drew (w := wq)))
      clear RG3
      have RG3 := hide (unhide T_)
      clear T_
      obtain ⟨h1, c1, e0, _⟩ := own_formL (unhide OG1).r (by show 0 < 8; omega)
      have e1 : g1.r = ⟨some ⟨h1, 0, none⟩, 8, c1⟩ := e0
      clear e0
      have X1 := hide (show OwnN _ _ (.slice (some ⟨h1, 0, none⟩) 8 c1) (aD x sm 66).r from by have q := (unhide OG1).r; rw [show g1.r.v = .slice (some ⟨h1, 0, none⟩) 8 c1 from by rw [e1]; rfl] at q; exact q)
      have Y1 := hide (row_r (unhide RG1))
      rw [e1] at Y1
      clear e1
      obtain ⟨h2, c2, e0, _⟩ := own_formL (unhide OG2).r (by show 0 < 8; omega)
      have e2 : g2.r = ⟨some ⟨h2, 0, none⟩, 8, c2⟩ := e0
      clear e0
      have X2 := hide (show OwnN _ _ (.slice (some ⟨h2, 0, none⟩) 8 c2) (aD x y 68).r from by have q := (unhide OG2).r; rw [show g2.r.v = .slice (some ⟨h2, 0, none⟩) 8 c2 from by rw [e2]; rfl] at q; exact q)
      have Y2 := hide (row_r (unhide RG2))
      rw [e2] at Y2
      clear e2
      obtain ⟨h3, c3, e0, _⟩ := own_formL (unhide OG3).r (by show 0 < 8; omega)
      have e3 : g3.r = ⟨some ⟨h3, 0, none⟩, 8, c3⟩ := e0
      clear e0
      have X3 := hide (show OwnN _ _ (.slice (some ⟨h3, 0, none⟩) 8 c3) (aD x y 70).r from by have q := (unhide OG3).r; rw [show g3.r.v = .slice (some ⟨h3, 0, none⟩) 8 c3 from by rw [e3]; rfl] at q; exact q)
      have Y3 := hide (row_r (unhide RG3))
      rw [e3] at Y3
      clear e3
      have G1n := hide (row_n (unhide RG1))
      rw [show g1.n = N1 from congrArg (·.1) (unhide F1)] at G1n
      have G1c := hide (row_c (unhide RG1))
      rw [show g1.c = C1 from congrArg (·.2.2.2.1) (unhide F1)] at G1c
      have G3n := hide (row_n (unhide RG3))
      rw [show g3.n = N3 from congrArg (·.1) (unhide F3)] at G3n
      have G3z := hide (row_z (unhide RG3))
      rw [show g3.z = Z3 from congrArg (·.2.1) (unhide F3)] at G3z
      have G3v := hide (row_v (unhide RG3))
      rw [show g3.v = V3 from congrArg (·.2.2.1) (unhide F3)] at G3v
      have G3c := hide (row_c (unhide RG3))
      rw [show g3.c = C3 from congrArg (·.2.2.2.1) (unhide F3)] at G3c
      have SS := hide (show wq.drew.cell? ⟨w11.heap.size, 1, none⟩ = some (.slice (some ⟨h1, 0, none⟩) 8 c1) ∧ wq.drew.cell? ⟨h1, 2, none⟩ = some (.int .i64 sm) ∧ wq.drew.cell? ⟨w11.heap.size, 5, none⟩ = some (.bool C1) ∧ wq.drew.cell? ⟨w11.heap.size, 2, none⟩ = some (.bool N1) ∧ wq.drew.cell? ⟨w12.heap.size, 1, none⟩ = some (.slice (some ⟨h2, 0, none⟩) 8 c2) ∧ wq.drew.cell? ⟨h2, 2, none⟩ = some (.int .i64 y) ∧ wq.drew.cell? ⟨w13.heap.size, 1, none⟩ = some (.slice (some ⟨h3, 0, none⟩) 8 c3) ∧ wq.drew.cell? ⟨h3, 2, none⟩ = some (.int .i64 y) ∧ wq.drew.cell? ⟨h3, 1, none⟩ = some (.int .i64 x) ∧ wq.drew.cell? ⟨w13.heap.size, 3, none⟩ = some (.bool Z3) ∧ wq.drew.cell? ⟨w13.heap.size, 5, none⟩ = some (.bool C3) ∧ wq.drew.cell? ⟨w13.heap.size, 2, none⟩ = some (.bool N3) ∧ wq.drew.cell? ⟨w13.heap.size, 4, none⟩ = some (.bool V3) from ⟨unhide Y1, ((unhide X1).cellAt 2 (by show 2 < 8; omega)).1, unhide G1c, unhide G1n, unhide Y2, ((unhide X2).cellAt 2 (by show 2 < 8; omega)).1, unhide Y3, ((unhide X3).cellAt 2 (by show 2 < 8; omega)).1, ((unhide X3).cellAt 1 (by show 1 < 8; omega)).1, unhide G3z, unhide G3c, unhide G3n, unhide G3v⟩)
      refine wp_region_held_drew (S := fun v => v.cell? ⟨w11.heap.size, 1, none⟩ = some (.slice (some ⟨h1, 0, none⟩) 8 c1) ∧ v.cell? ⟨h1, 2, none⟩ = some (.int .i64 sm) ∧ v.cell? ⟨w11.heap.size, 5, none⟩ = some (.bool C1) ∧ v.cell? ⟨w11.heap.size, 2, none⟩ = some (.bool N1) ∧ v.cell? ⟨w12.heap.size, 1, none⟩ = some (.slice (some ⟨h2, 0, none⟩) 8 c2) ∧ v.cell? ⟨h2, 2, none⟩ = some (.int .i64 y) ∧ v.cell? ⟨w13.heap.size, 1, none⟩ = some (.slice (some ⟨h3, 0, none⟩) 8 c3) ∧ v.cell? ⟨h3, 2, none⟩ = some (.int .i64 y) ∧ v.cell? ⟨h3, 1, none⟩ = some (.int .i64 x) ∧ v.cell? ⟨w13.heap.size, 3, none⟩ = some (.bool Z3) ∧ v.cell? ⟨w13.heap.size, 5, none⟩ = some (.bool C3) ∧ v.cell? ⟨w13.heap.size, 2, none⟩ = some (.bool N3) ∧ v.cell? ⟨w13.heap.size, 4, none⟩ = some (.bool V3)) (by kernel_rfl) (unhide SS) (fun hS => ?_)
      have HS := hide hS
      have BL := hide (unhide L).bel
      clear hS L OG1 OG2 OG3 RG1 RG2 RG3 X1 X2 X3 Y1 Y2 Y3 G1n G1c G3n G3z G3v G3c F1 F2 F3
      refine wpAnyH_take (i := 0) (v := .pointer (some ⟨w11.heap.size, 1, none⟩)) rfl (by kernel_rfl) (by kernel_rfl) (by kernel_rfl) (fun _ _ _ h => h) (Or.inl ⟨by rfl, fun w hc => ?_⟩) (unhide HS) ?_
      · clear hc; go_simp
      go_simp
      refine wpAnyH_take (i := 1) (v := .slice (some ⟨h1, 0, none⟩) 8 c1) rfl (by kernel_rfl) (by kernel_rfl) (by kernel_rfl) (fun _ _ _ h => h) (Or.inl ⟨by rfl, fun w hc => ?_⟩) (unhide HS) ?_
      · have hq := hc.1; clear hc; go_simp
      go_simp
      refine wpAnyH_take (i := 2) (v := .pointer (some ⟨h1, 2, none⟩)) rfl (by kernel_rfl) (by kernel_rfl) (by kernel_rfl) (fun _ _ _ h => h) (Or.inl ⟨by rfl, fun w hc => ?_⟩) (unhide HS) ?_
      · clear hc; go_simp
      go_simp
      refine wpAnyH_take (i := 3) (v := .int .i64 sm) rfl (by kernel_rfl) (by kernel_rfl) (by kernel_rfl) (fun _ _ _ h => h) (Or.inl ⟨by rfl, fun w hc => ?_⟩) (unhide HS) ?_
      · have hq := hc.2.1; clear hc; go_simp
      go_simp
      refine wpAnyH_take (i := 4) (v := .int .i64 x) rfl (by kernel_rfl) (by kernel_rfl) (by kernel_rfl) (fun _ _ _ h => h) (Or.inl ⟨by rfl, fun w hc => ?_⟩) (unhide HS) ?_
      · clear hc; go_simp
      go_simp
      refine wpAnyH_take (i := 5) (v := .int .i64 y) rfl (by kernel_rfl) (by kernel_rfl) (by kernel_rfl) (fun _ _ _ h => h) (Or.inl ⟨by rfl, fun w hc => ?_⟩) (unhide HS) ?_
      · clear hc; go_simp
      go_simp
      refine wpAnyH_take (i := 6) (v := .int .i64 (x + y)) rfl (by kernel_rfl) (by kernel_rfl) (by kernel_rfl) (fun _ _ _ h => h) (Or.inl ⟨by rfl, fun w hc => ?_⟩) (unhide HS) ?_
      · clear hc; have hq := unhide HXY2; go_simp
      go_simp
      refine wpAnyH_ready (rs := [7]) (by kernel_rfl) (by simp) ?_
      refine AllReadyH.cons rfl (fun K2 hK => ?_) AllReadyH.nil
      go_simp
      have PW := wrapI_any (x + y) wq.drew
      rw [unhide QM] at PW
      refine PW.mono ?_
      rintro e w' ⟨rfl, hw'⟩
      rw [hw']
      clear hw' w' PW
      refine hK.out _ _ (unhide SS) (fun hS => ?_)
      clear HS
      have HS := hide hS
      clear hS hK K2
      refine wpAnyH_take (i := 8) (v := .bool true) rfl (by kernel_rfl) (by kernel_rfl) (by kernel_rfl) (fun _ _ _ h => h) (Or.inl ⟨by rfl, fun w hc => ?_⟩) (unhide HS) ?_
      · clear hc; go_simp
      go_simp
      refine wpAnyH_take (i := 9) (v := .bool true) rfl (by kernel_rfl) (by kernel_rfl) (by kernel_rfl) (fun _ _ _ h => h) (Or.inl ⟨by rfl, fun w hc => ?_⟩) (unhide HS) ?_
      · clear hc; go_simp
      go_simp
      refine wpAnyH_take (i := 10) (v := .pointer (some ⟨w11.heap.size, 5, none⟩)) rfl (by kernel_rfl) (by kernel_rfl) (by kernel_rfl) (fun _ _ _ h => h) (Or.inl ⟨by rfl, fun w hc => ?_⟩) (unhide HS) ?_
      · clear hc; go_simp
      go_simp
      refine wpAnyH_take (i := 11) (v := .bool C1) rfl (by kernel_rfl) (by kernel_rfl) (by kernel_rfl) (fun _ _ _ h => h) (Or.inl ⟨by rfl, fun w hc => ?_⟩) (unhide HS) ?_
      · have hq := hc.2.2.1; clear hc; go_simp
      go_simp
      refine wpAnyH_take (i := 12) (v := .int .i64 x) rfl (by kernel_rfl) (by kernel_rfl) (by kernel_rfl) (fun _ _ _ h => h) (Or.inl ⟨by rfl, fun w hc => ?_⟩) (unhide HS) ?_
      · clear hc; go_simp
      go_simp
      refine wpAnyH_take (i := 13) (v := .int .i64 y) rfl (by kernel_rfl) (by kernel_rfl) (by kernel_rfl) (fun _ _ _ h => h) (Or.inl ⟨by rfl, fun w hc => ?_⟩) (unhide HS) ?_
      · clear hc; go_simp
      go_simp
      refine wpAnyH_take (i := 14) (v := .int .i64 (x + y)) rfl (by kernel_rfl) (by kernel_rfl) (by kernel_rfl) (fun _ _ _ h => h) (Or.inl ⟨by rfl, fun w hc => ?_⟩) (unhide HS) ?_
      · clear hc; have hq := unhide HXY2; go_simp
      go_simp
      refine wpAnyH_take (i := 15) (v := .bool C1) rfl (by kernel_rfl) (by kernel_rfl) (by kernel_rfl) (fun _ _ _ h => h) (Or.inl ⟨by rfl, fun w hc => ?_⟩) (unhide HS) ?_
      · clear hc; have hq := unhide QC; go_simp
      go_simp
      refine wpAnyH_take (i := 16) (v := .bool true) rfl (by kernel_rfl) (by kernel_rfl) (by kernel_rfl) (fun _ _ _ h => h) (Or.inl ⟨by rfl, fun w hc => ?_⟩) (unhide HS) ?_
      · clear hc; go_simp
      go_simp
      refine wpAnyH_take (i := 17) (v := .bool true) rfl (by kernel_rfl) (by kernel_rfl) (by kernel_rfl) (fun _ _ _ h => h) (Or.inl ⟨by rfl, fun w hc => ?_⟩) (unhide HS) ?_
      · clear hc; go_simp
      go_simp
      refine wpAnyH_take (i := 18) (v := .bool true) rfl (by kernel_rfl) (by kernel_rfl) (by kernel_rfl) (fun _ _ _ h => h) (Or.inl ⟨by rfl, fun w hc => ?_⟩) (unhide HS) ?_
      · clear hc; go_simp
      go_simp
      refine wpAnyH_take (i := 19) (v := .pointer (some ⟨w11.heap.size, 2, none⟩)) rfl (by kernel_rfl) (by kernel_rfl) (by kernel_rfl) (fun _ _ _ h => h) (Or.inl ⟨by rfl, fun w hc => ?_⟩) (unhide HS) ?_
      · clear hc; go_simp
      go_simp
      refine wpAnyH_take (i := 20) (v := .bool N1) rfl (by kernel_rfl) (by kernel_rfl) (by kernel_rfl) (fun _ _ _ h => h) (Or.inl ⟨by rfl, fun w hc => ?_⟩) (unhide HS) ?_
      · have hq := hc.2.2.2.1; clear hc; go_simp
      go_simp
      refine wpAnyH_take (i := 21) (v := .pointer (some ⟨w11.heap.size, 1, none⟩)) rfl (by kernel_rfl) (by kernel_rfl) (by kernel_rfl) (fun _ _ _ h => h) (Or.inl ⟨by rfl, fun w hc => ?_⟩) (unhide HS) ?_
      · clear hc; go_simp
      go_simp
      refine wpAnyH_take (i := 22) (v := .slice (some ⟨h1, 0, none⟩) 8 c1) rfl (by kernel_rfl) (by kernel_rfl) (by kernel_rfl) (fun _ _ _ h => h) (Or.inl ⟨by rfl, fun w hc => ?_⟩) (unhide HS) ?_
      · have hq := hc.1; clear hc; go_simp
      go_simp
      refine wpAnyH_take (i := 23) (v := .pointer (some ⟨h1, 2, none⟩)) rfl (by kernel_rfl) (by kernel_rfl) (by kernel_rfl) (fun _ _ _ h => h) (Or.inl ⟨by rfl, fun w hc => ?_⟩) (unhide HS) ?_
      · clear hc; go_simp
      go_simp
      refine wpAnyH_take (i := 24) (v := .int .i64 sm) rfl (by kernel_rfl) (by kernel_rfl) (by kernel_rfl) (fun _ _ _ h => h) (Or.inl ⟨by rfl, fun w hc => ?_⟩) (unhide HS) ?_
      · have hq := hc.2.1; clear hc; go_simp
      go_simp
      refine wpAnyH_take (i := 25) (v := .bool N1) rfl (by kernel_rfl) (by kernel_rfl) (by kernel_rfl) (fun _ _ _ h => h) (Or.inl ⟨by rfl, fun w hc => ?_⟩) (unhide HS) ?_
      · clear hc; have hq := unhide QN; go_simp
      go_simp
      refine wpAnyH_take (i := 26) (v := .bool true) rfl (by kernel_rfl) (by kernel_rfl) (by kernel_rfl) (fun _ _ _ h => h) (Or.inl ⟨by rfl, fun w hc => ?_⟩) (unhide HS) ?_
      · clear hc; go_simp
      go_simp
      refine wpAnyH_take (i := 27) (v := .bool true) rfl (by kernel_rfl) (by kernel_rfl) (by kernel_rfl) (fun _ _ _ h => h) (Or.inl ⟨by rfl, fun w hc => ?_⟩) (unhide HS) ?_
      · clear hc; go_simp
      go_simp
      refine wpAnyH_take (i := 28) (v := .bool true) rfl (by kernel_rfl) (by kernel_rfl) (by kernel_rfl) (fun _ _ _ h => h) (Or.inl ⟨by rfl, fun w hc => ?_⟩) (unhide HS) ?_
      · clear hc; go_simp
      go_simp
      refine wpAnyH_take (i := 29) (v := .pointer (some ⟨w12.heap.size, 1, none⟩)) rfl (by kernel_rfl) (by kernel_rfl) (by kernel_rfl) (fun _ _ _ h => h) (Or.inl ⟨by rfl, fun w hc => ?_⟩) (unhide HS) ?_
      · clear hc; go_simp
      go_simp
      refine wpAnyH_take (i := 30) (v := .slice (some ⟨h2, 0, none⟩) 8 c2) rfl (by kernel_rfl) (by kernel_rfl) (by kernel_rfl) (fun _ _ _ h => h) (Or.inl ⟨by rfl, fun w hc => ?_⟩) (unhide HS) ?_
      · have hq := hc.2.2.2.2.1; clear hc; go_simp
      go_simp
      refine wpAnyH_take (i := 31) (v := .pointer (some ⟨h2, 2, none⟩)) rfl (by kernel_rfl) (by kernel_rfl) (by kernel_rfl) (fun _ _ _ h => h) (Or.inl ⟨by rfl, fun w hc => ?_⟩) (unhide HS) ?_
      · clear hc; go_simp
      go_simp
      refine wpAnyH_take (i := 32) (v := .int .i64 y) rfl (by kernel_rfl) (by kernel_rfl) (by kernel_rfl) (fun _ _ _ h => h) (Or.inl ⟨by rfl, fun w hc => ?_⟩) (unhide HS) ?_
      · have hq := hc.2.2.2.2.2.1; clear hc; go_simp
      go_simp
      refine wpAnyH_take (i := 33) (v := .int .i64 y) rfl (by kernel_rfl) (by kernel_rfl) (by kernel_rfl) (fun _ _ _ h => h) (Or.inl ⟨by rfl, fun w hc => ?_⟩) (unhide HS) ?_
      · clear hc; go_simp
      go_simp
      refine wpAnyH_take (i := 34) (v := .bool true) rfl (by kernel_rfl) (by kernel_rfl) (by kernel_rfl) (fun _ _ _ h => h) (Or.inl ⟨by rfl, fun w hc => ?_⟩) (unhide HS) ?_
      · clear hc; go_simp
      go_simp
      refine wpAnyH_take (i := 35) (v := .bool true) rfl (by kernel_rfl) (by kernel_rfl) (by kernel_rfl) (fun _ _ _ h => h) (Or.inl ⟨by rfl, fun w hc => ?_⟩) (unhide HS) ?_
      · clear hc; go_simp
      go_simp
      refine wpAnyH_take (i := 36) (v := .bool true) rfl (by kernel_rfl) (by kernel_rfl) (by kernel_rfl) (fun _ _ _ h => h) (Or.inl ⟨by rfl, fun w hc => ?_⟩) (unhide HS) ?_
      · clear hc; go_simp
      go_simp
      refine wpAnyH_take (i := 37) (v := .pointer (some ⟨w13.heap.size, 1, none⟩)) rfl (by kernel_rfl) (by kernel_rfl) (by kernel_rfl) (fun _ _ _ h => h) (Or.inl ⟨by rfl, fun w hc => ?_⟩) (unhide HS) ?_
      · clear hc; go_simp
      go_simp
      refine wpAnyH_take (i := 38) (v := .slice (some ⟨h3, 0, none⟩) 8 c3) rfl (by kernel_rfl) (by kernel_rfl) (by kernel_rfl) (fun _ _ _ h => h) (Or.inl ⟨by rfl, fun w hc => ?_⟩) (unhide HS) ?_
      · have hq := hc.2.2.2.2.2.2.1; clear hc; go_simp
      go_simp
      refine wpAnyH_take (i := 39) (v := .pointer (some ⟨h3, 2, none⟩)) rfl (by kernel_rfl) (by kernel_rfl) (by kernel_rfl) (fun _ _ _ h => h) (Or.inl ⟨by rfl, fun w hc => ?_⟩) (unhide HS) ?_
      · clear hc; go_simp
      go_simp
      refine wpAnyH_take (i := 40) (v := .int .i64 y) rfl (by kernel_rfl) (by kernel_rfl) (by kernel_rfl) (fun _ _ _ h => h) (Or.inl ⟨by rfl, fun w hc => ?_⟩) (unhide HS) ?_
      · have hq := hc.2.2.2.2.2.2.2.1; clear hc; go_simp
      go_simp
      refine wpAnyH_take (i := 41) (v := .int .i64 y) rfl (by kernel_rfl) (by kernel_rfl) (by kernel_rfl) (fun _ _ _ h => h) (Or.inl ⟨by rfl, fun w hc => ?_⟩) (unhide HS) ?_
      · clear hc; go_simp
      go_simp
      refine wpAnyH_take (i := 42) (v := .bool true) rfl (by kernel_rfl) (by kernel_rfl) (by kernel_rfl) (fun _ _ _ h => h) (Or.inl ⟨by rfl, fun w hc => ?_⟩) (unhide HS) ?_
      · clear hc; go_simp
      go_simp
      refine wpAnyH_take (i := 43) (v := .bool true) rfl (by kernel_rfl) (by kernel_rfl) (by kernel_rfl) (fun _ _ _ h => h) (Or.inl ⟨by rfl, fun w hc => ?_⟩) (unhide HS) ?_
      · clear hc; go_simp
      go_simp
      refine wpAnyH_take (i := 44) (v := .bool true) rfl (by kernel_rfl) (by kernel_rfl) (by kernel_rfl) (fun _ _ _ h => h) (Or.inl ⟨by rfl, fun w hc => ?_⟩) (unhide HS) ?_
      · clear hc; go_simp
      go_simp
      refine wpAnyH_take (i := 45) (v := .pointer (some ⟨w13.heap.size, 1, none⟩)) rfl (by kernel_rfl) (by kernel_rfl) (by kernel_rfl) (fun _ _ _ h => h) (Or.inl ⟨by rfl, fun w hc => ?_⟩) (unhide HS) ?_
      · clear hc; go_simp
      go_simp
      refine wpAnyH_take (i := 46) (v := .slice (some ⟨h3, 0, none⟩) 8 c3) rfl (by kernel_rfl) (by kernel_rfl) (by kernel_rfl) (fun _ _ _ h => h) (Or.inl ⟨by rfl, fun w hc => ?_⟩) (unhide HS) ?_
      · have hq := hc.2.2.2.2.2.2.1; clear hc; go_simp
      go_simp
      refine wpAnyH_take (i := 47) (v := .pointer (some ⟨h3, 1, none⟩)) rfl (by kernel_rfl) (by kernel_rfl) (by kernel_rfl) (fun _ _ _ h => h) (Or.inl ⟨by rfl, fun w hc => ?_⟩) (unhide HS) ?_
      · clear hc; go_simp
      go_simp
      refine wpAnyH_take (i := 48) (v := .int .i64 x) rfl (by kernel_rfl) (by kernel_rfl) (by kernel_rfl) (fun _ _ _ h => h) (Or.inl ⟨by rfl, fun w hc => ?_⟩) (unhide HS) ?_
      · have hq := hc.2.2.2.2.2.2.2.2.1; clear hc; go_simp
      go_simp
      refine wpAnyH_take (i := 49) (v := .int .i64 x) rfl (by kernel_rfl) (by kernel_rfl) (by kernel_rfl) (fun _ _ _ h => h) (Or.inl ⟨by rfl, fun w hc => ?_⟩) (unhide HS) ?_
      · clear hc; go_simp
      go_simp
      refine wpAnyH_take (i := 50) (v := .bool true) rfl (by kernel_rfl) (by kernel_rfl) (by kernel_rfl) (fun _ _ _ h => h) (Or.inl ⟨by rfl, fun w hc => ?_⟩) (unhide HS) ?_
      · clear hc; go_simp
      go_simp
      refine wpAnyH_take (i := 51) (v := .bool true) rfl (by kernel_rfl) (by kernel_rfl) (by kernel_rfl) (fun _ _ _ h => h) (Or.inl ⟨by rfl, fun w hc => ?_⟩) (unhide HS) ?_
      · clear hc; go_simp
      go_simp
      refine wpAnyH_take (i := 52) (v := .bool true) rfl (by kernel_rfl) (by kernel_rfl) (by kernel_rfl) (fun _ _ _ h => h) (Or.inl ⟨by rfl, fun w hc => ?_⟩) (unhide HS) ?_
      · clear hc; go_simp
      go_simp
      refine wpAnyH_take (i := 53) (v := .pointer (some ⟨w13.heap.size, 3, none⟩)) rfl (by kernel_rfl) (by kernel_rfl) (by kernel_rfl) (fun _ _ _ h => h) (Or.inl ⟨by rfl, fun w hc => ?_⟩) (unhide HS) ?_
      · clear hc; go_simp
      go_simp
      refine wpAnyH_take (i := 54) (v := .bool Z3) rfl (by kernel_rfl) (by kernel_rfl) (by kernel_rfl) (fun _ _ _ h => h) (Or.inl ⟨by rfl, fun w hc => ?_⟩) (unhide HS) ?_
      · have hq := hc.2.2.2.2.2.2.2.2.2.1; clear hc; go_simp
      go_simp
      refine wpAnyH_take (i := 55) (v := .int .i64 x) rfl (by kernel_rfl) (by kernel_rfl) (by kernel_rfl) (fun _ _ _ h => h) (Or.inl ⟨by rfl, fun w hc => ?_⟩) (unhide HS) ?_
      · clear hc; go_simp
      go_simp
      refine wpAnyH_take (i := 56) (v := .int .i64 y) rfl (by kernel_rfl) (by kernel_rfl) (by kernel_rfl) (fun _ _ _ h => h) (Or.inl ⟨by rfl, fun w hc => ?_⟩) (unhide HS) ?_
      · clear hc; go_simp
      go_simp
      refine wpAnyH_take (i := 57) (v := .bool Z3) rfl (by kernel_rfl) (by kernel_rfl) (by kernel_rfl) (fun _ _ _ h => h) (Or.inl ⟨by rfl, fun w hc => ?_⟩) (unhide HS) ?_
      · clear hc; have hq := unhide QE; go_simp
      go_simp
      refine wpAnyH_take (i := 58) (v := .bool true) rfl (by kernel_rfl) (by kernel_rfl) (by kernel_rfl) (fun _ _ _ h => h) (Or.inl ⟨by rfl, fun w hc => ?_⟩) (unhide HS) ?_
      · clear hc; go_simp
      go_simp
      refine wpAnyH_take (i := 59) (v := .bool true) rfl (by kernel_rfl) (by kernel_rfl) (by kernel_rfl) (fun _ _ _ h => h) (Or.inl ⟨by rfl, fun w hc => ?_⟩) (unhide HS) ?_
      · clear hc; go_simp
      go_simp
      refine wpAnyH_take (i := 60) (v := .bool true) rfl (by kernel_rfl) (by kernel_rfl) (by kernel_rfl) (fun _ _ _ h => h) (Or.inl ⟨by rfl, fun w hc => ?_⟩) (unhide HS) ?_
      · clear hc; go_simp
      go_simp
      refine wpAnyH_take (i := 61) (v := .pointer (some ⟨w13.heap.size, 5, none⟩)) rfl (by kernel_rfl) (by kernel_rfl) (by kernel_rfl) (fun _ _ _ h => h) (Or.inl ⟨by rfl, fun w hc => ?_⟩) (unhide HS) ?_
      · clear hc; go_simp
      go_simp
      refine wpAnyH_take (i := 62) (v := .bool C3) rfl (by kernel_rfl) (by kernel_rfl) (by kernel_rfl) (fun _ _ _ h => h) (Or.inl ⟨by rfl, fun w hc => ?_⟩) (unhide HS) ?_
      · have hq := hc.2.2.2.2.2.2.2.2.2.2.1; clear hc; go_simp
      go_simp
      refine wpAnyH_take (i := 63) (v := .int .i64 x) rfl (by kernel_rfl) (by kernel_rfl) (by kernel_rfl) (fun _ _ _ h => h) (Or.inl ⟨by rfl, fun w hc => ?_⟩) (unhide HS) ?_
      · clear hc; go_simp
      go_simp
      refine wpAnyH_take (i := 64) (v := .int .i64 y) rfl (by kernel_rfl) (by kernel_rfl) (by kernel_rfl) (fun _ _ _ h => h) (Or.inl ⟨by rfl, fun w hc => ?_⟩) (unhide HS) ?_
      · clear hc; go_simp
      go_simp
      refine wpAnyH_take (i := 65) (v := .bool C3) rfl (by kernel_rfl) (by kernel_rfl) (by kernel_rfl) (fun _ _ _ h => h) (Or.inl ⟨by rfl, fun w hc => ?_⟩) (unhide HS) ?_
      · clear hc; have hq := unhide QD; go_simp
      go_simp
      refine wpAnyH_take (i := 66) (v := .bool true) rfl (by kernel_rfl) (by kernel_rfl) (by kernel_rfl) (fun _ _ _ h => h) (Or.inl ⟨by rfl, fun w hc => ?_⟩) (unhide HS) ?_
      · clear hc; go_simp
      go_simp
      refine wpAnyH_take (i := 67) (v := .bool true) rfl (by kernel_rfl) (by kernel_rfl) (by kernel_rfl) (fun _ _ _ h => h) (Or.inl ⟨by rfl, fun w hc => ?_⟩) (unhide HS) ?_
      · clear hc; go_simp
      go_simp
      refine wpAnyH_take (i := 68) (v := .bool true) rfl (by kernel_rfl) (by kernel_rfl) (by kernel_rfl) (fun _ _ _ h => h) (Or.inl ⟨by rfl, fun w hc => ?_⟩) (unhide HS) ?_
      · clear hc; go_simp
      go_simp
      refine wpAnyH_take (i := 69) (v := .pointer (some ⟨w13.heap.size, 2, none⟩)) rfl (by kernel_rfl) (by kernel_rfl) (by kernel_rfl) (fun _ _ _ h => h) (Or.inl ⟨by rfl, fun w hc => ?_⟩) (unhide HS) ?_
      · clear hc; go_simp
      go_simp
      refine wpAnyH_take (i := 70) (v := .bool N3) rfl (by kernel_rfl) (by kernel_rfl) (by kernel_rfl) (fun _ _ _ h => h) (Or.inl ⟨by rfl, fun w hc => ?_⟩) (unhide HS) ?_
      · have hq := hc.2.2.2.2.2.2.2.2.2.2.2.1; clear hc; go_simp
      go_simp
      refine wpAnyH_take (i := 71) (v := .pointer (some ⟨w13.heap.size, 4, none⟩)) rfl (by kernel_rfl) (by kernel_rfl) (by kernel_rfl) (fun _ _ _ h => h) (Or.inl ⟨by rfl, fun w hc => ?_⟩) (unhide HS) ?_
      · clear hc; go_simp
      go_simp
      refine wpAnyH_take (i := 72) (v := .bool V3) rfl (by kernel_rfl) (by kernel_rfl) (by kernel_rfl) (fun _ _ _ h => h) (Or.inl ⟨by rfl, fun w hc => ?_⟩) (unhide HS) ?_
      · have hq := hc.2.2.2.2.2.2.2.2.2.2.2.2; clear hc; go_simp
      go_simp
      refine wpAnyH_take (i := 73) (v := .bool QQ) rfl (by kernel_rfl) (by kernel_rfl) (by kernel_rfl) (fun _ _ _ h => h) (Or.inl ⟨by rfl, fun w hc => ?_⟩) (unhide HS) ?_
      · clear hc; have hq := unhide QW; go_simp
      go_simp
      refine wpAnyH_take (i := 74) (v := .bool QQ) rfl (by kernel_rfl) (by kernel_rfl) (by kernel_rfl) (fun _ _ _ h => h) (Or.inl ⟨by rfl, fun w hc => ?_⟩) (unhide HS) ?_
      · clear hc; go_simp
      go_simp
      refine wpAnyH_take (i := 75) (v := .bool true) rfl (by kernel_rfl) (by kernel_rfl) (by kernel_rfl) (fun _ _ _ h => h) (Or.inl ⟨by rfl, fun w hc => ?_⟩) (unhide HS) ?_
      · clear hc; go_simp
      go_simp
      refine wpAnyH_take (i := 76) (v := .bool true) rfl (by kernel_rfl) (by kernel_rfl) (by kernel_rfl) (fun _ _ _ h => h) (Or.inl ⟨by rfl, fun w hc => ?_⟩) (unhide HS) ?_
      · clear hc; go_simp
      go_simp
      refine wpAnyH_take (i := 77) (v := .bool true) rfl (by kernel_rfl) (by kernel_rfl) (by kernel_rfl) (fun _ _ _ h => h) (Or.inl ⟨by rfl, fun w hc => ?_⟩) (unhide HS) ?_
      · clear hc; go_simp
      go_simp
      refine wpAnyH_done (by kernel_rfl) ?_ _
      clear HS SS
      go_wp2_with fail
      go_ret
      exact ⟨rfl, (unhide BL)⟩

set_option maxRecDepth 100000 in
theorem lifted (os : Os) (started : os.Started) (H : Type) (enc : TypeId × Value → H) :
    ReturnsInHanded {} Tryd.checked os 3 .any (fun w args => (Rows.fnArithSpec.pre enc Tryd.prog Tryd.f3 [] false w args ∧ laidMetH Tryd.prog Rows.fnArithRow.laid w) ∧ sizedMet enc Tryd.prog Tryd.f3 (OpenSpec.ofChange Rows.fnArithSpec) false w args)
      (Rows.fnArithSpec.post enc Tryd.prog Tryd.f3 false true false false) := by
  refine returnsInHanded_of_change_and (C := Tryd.checked) (X := fun w _ => laidMetH Tryd.prog Rows.fnArithRow.laid w) (fun _ _ _ hh h => h.of_heap hh) own started (by kernel_rfl) Tryd.func3
    (ChangeSpec.witness_shaped (enc := enc) (C := Tryd.checked) (os := os) (X := fun w _ => laidMetH Tryd.prog Rows.fnArithRow.laid w) false (World.laidAll Tryd.prog os Rows.fnArithRow.laid) #[.slice none 0 0] 8 (World.laidAll_os _ _ _)
      (World.shaped_of_ZipB (by kernel_rfl) (by kernel_rfl)) (by kernel_rfl) (by kernel_rfl) (by kernel_rfl)
      (by rw [MakeChecks.laidMetH_plain _ _ _ (by kernel_rfl)]; exact laidMet_laidAll _ (by kernel_rfl) (by kernel_rfl))) ?_
  intro W base args ds gs before hval0 hW _ _ hL _
  have hval : ∀ (j : Nat) t v, Tryd.f3.params[j]? = some t → args[j]? = some v → Value.okWide Tryd.prog W .any base t v := hval0
  have hW' := hW
  obtain ⟨p, q, hA0, hV, rfl, hfz, hnd⟩ := hW
  have hA : DataW.TrodAll enc Tryd.prog W 0 (fun _ => true) true Tryd.f3.params.toList args.toList ds p := hA0
  rw [Tryd.params3] at hA hval
  obtain ⟨v0, vs0, d0, ds0, p0, q0, hargs, rfl, rfl, h0, r0⟩ := trodAll_cons hA
  obtain ⟨rfl, rfl, rfl⟩ := trodAll_nil r0
  obtain rfl : args = #[v0] := by cases args; simp_all
  have kV := hV
  obtain ⟨gv, tv, cv, fv, dv, pv, rfl, _⟩ := trodVars_one hV
  have k0 := h0
  have lt0 : ∀ x ∈ p0, x.block < W.heap.size := by obtain ⟨m, hm⟩ := k0; exact DataW.trod_lt m _ _ _ hm
  obtain ⟨a0, len0, cap0, rfl⟩ := okWide_slice Tryd.underlying22 (hval 0 22 v0 rfl rfl)
  obtain ⟨z0, w0⟩ : ∃ zs, IsRow .u8 W a0 len0 cap0 zs := by
    obtain ⟨fuel, hf⟩ := h0
    rcases open_ints Tryd.underlying22 Tryd.underlying5 (by kernel_rfl) hf with ⟨hcs, _⟩ | ⟨x, l, c, zs, hcs, _, hl, hm, hz, _, hcell, hwz⟩
    · simp [Value.cells] at hcs
      obtain ⟨rfl, rfl, rfl⟩ := hcs
      exact ⟨[], .inl ⟨rfl, rfl, rfl, rfl⟩⟩
    · simp [Value.cells] at hcs
      obtain ⟨rfl, rfl, rfl⟩ := hcs
      exact ⟨zs, .inr ⟨_, rfl, hl, hm, by simpa using hz, hcell, hwz⟩⟩
  clear hA0 hval0
  refine (walk a0 len0 cap0 z0 W w0 (tab_of_laid hL)).mono fun e W' ⟨he, bel⟩ => ?_
  subst he
  exact ⟨_, rfl, _, _, _, [], _, _, hW', trodAll_mk1 (shut_bool Tryd.underlying4 _), (trodAll_cons_mk (Below.trod laidOut (by kernel_rfl) (of_decide_eq_true (by kernel_rfl)) k0 bel lt0) trodAll_mk0), bel.trodVars laidOut (by kernel_rfl) kV, bel.frame _, fun h => by cases h⟩

theorem proved : Rows.FnArithSaid :=
  OpenClaim.holds_of_wide 3 Tryd.f3 rfl rfl rfl rfl rfl rfl rfl ⟨rfl, rfl, rfl, rfl, rfl⟩ rfl rfl rfl rfl rfl (by kernel_rfl) Tryd.func3 (by kernel_rfl)
    (of_decide_eq_true (by kernel_rfl)) (by unfold Func.isWrapper; first | (rw [if_pos (by decide +kernel)]; kernel_rfl) | (rw [if_neg (by decide +kernel)]; exact ⟨rfl, rfl⟩))
    (fun os started H enc _ => lifted os started H enc)
end Go.Proofs.YtjpbjbnialehbaaDoor.fnArith

namespace Go.Proofs.YtjpbjbnialehbaaDoor
theorem fnArith_holds : Rows.FnArithCardSaid :=
  Claim7.holds_tied_plain_at .later [] [.data] true (true, "9d8124f20e70b74feb63c57c31fb992070c0d19dee69159c3cdf759e6661beb9") false
    fnArith.proved (fun _ h => by cases h) (by kernel_rfl) (fun _ h => by cases h) fnArith_row_tie rfl ⟨rfl, rfl⟩ (by kernel_rfl) rfl
    (fun f fn hf hfn => by
      obtain rfl : f = 3 := Option.some.inj ((show Tryd.prog.funcNamed "loop.example/g00329/laws.FnArith" = some 3 by kernel_rfl).symm.trans hf) |>.symm
      obtain rfl : fn = Tryd.f3 := (Option.some.inj (Tryd.func3.symm.trans hfn)).symm
      exact ⟨by kernel_rfl, fun j t ht => by
        rw [Tryd.params3] at ht
        have hm : t ∈ [22] := by simpa using Array.mem_of_getElem? ht
        have hall : ([22].all fun u => !Tryd.prog.wantsStandIn u) = true := by kernel_rfl
        exact (show Tryd.prog.wantsStandIn t = false by simpa using List.all_eq_true.1 hall t hm)⟩)
    (by kernel_rfl)
#print axioms fnArith_holds
end Go.Proofs.YtjpbjbnialehbaaDoor
