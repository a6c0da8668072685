/- For every machine and every operand the law on PlaceOf answers true: the program answers just the machine, the place and the flag that the model answers; it writes into nothing that came in, and what it answers owns its memory. No condition. -/
import Derived.Test.YtfkmibgamkignaaRows
import Derived.Test.YtfkmibgamkignaaBndJ
import Derived.WalkKit
import Derived.ProofKit
import Derived.OpenShut
import Derived.ShutString
import Derived.ChangeOld
import Derived.Below
namespace Go.Proofs.Ytfkmibgamkignaa.fnExactPlaceOf
open Go.ChangeShapes Go.WideShapes Go.ChangeAt Go.RowKit
open Go.ChangeMaps (open_string shut_string)
set_option linter.unusedVariables false
set_option maxRecDepth 8000

theorem own : ownKnob Try.prog.godebug = none := by kernel_rfl
theorem laidOut : laidOutB Try.prog = true := by kernel_rfl

set_option maxHeartbeats 16000000 in
theorem walk (x : Mv) (d : Md) (hl : x.lens) (o : Od) (hob : Bd64 o.m ∧ Bd64 o.r ∧ Bd64 o.x) (W : World) (hr : RdM W x d) : Calls Try.prog 9 #[.agg x.cs, o.v] W fun e W' => e = .returned (.bool true) ∧ Below W.heap.size W W' := by
  clear hob
  have OP := hide (fun w => toOpd_any o w)
  have PSS := hide (fun y w h1 h2 h3 => placeS_any y d o w h1 h2 h3)
  have PII := hide (fun y w h1 h2 h3 => placeI_any y d o w h1 h2 h3)
  have DP := hide (fun h => small_pc (d := d) h x.st o)
  have HP := hide (fun (y : Mv) (h : y.fl = x.fl) => (show d.pcR y.st o = d.pcR x.st o ∧ d.pcA y.st o = d.pcA x.st o ∧ d.pcO y.st o = d.pcO x.st o ∧ d.pcD y.st o = d.pcD x.st o by rw [fl_st h]; exact ⟨rfl, rfl, rfl, rfl⟩))
  obtain ⟨pr, hpr⟩ : ∃ b, d.pcR x.st o = b := ⟨_, rfl⟩
  obtain ⟨pa, hpa⟩ : ∃ b, d.pcA x.st o = b := ⟨_, rfl⟩
  obtain ⟨ok, hok⟩ : ∃ b, d.pcO x.st o = b := ⟨_, rfl⟩
  obtain ⟨D, hD⟩ : ∃ b, d.pcD x.st o = b := ⟨_, rfl⟩
  rw [hpr, hpa, hok, hD] at HP
  rw [hD] at DP
  clear hpr hpa hok hD
  have PS2 := hide (show ∀ (y : Mv) (w : World), y.fl = x.fl → y.small → y.nz → RdM w y d → Calls Try.prog 24 #[.agg y.cs, o.v] w fun e w' => ∃ s : Mv, e = .returned (.tuple #[.agg s.cs, .agg #[.int .i64 pr, .int .i64 pa], .bool ok]) ∧ s.fl = x.fl ∧ OwnM w' (w.heap.size + 4) s D ∧ Below w.heap.size w w' from fun y w h h1 h2 h3 => by
    obtain ⟨e1, e2, e3, e4⟩ := unhide HP y h
    have k := unhide PSS y w h1 h2 h3
    rw [e1, e2, e3, e4, h] at k
    exact k)
  have PI2 := hide (show ∀ (y : Mv) (w : World), y.fl = x.fl → y.small → y.nz → RdM w y d → Calls Try.prog 23 #[.agg y.cs, o.v] w fun e w' => ∃ s : Mv, e = .returned (.tuple #[.agg s.cs, .agg #[.int .i64 pr, .int .i64 pa], .bool ok]) ∧ s.fl = x.fl ∧ OwnM w' (w.heap.size + 4) s D ∧ Below w.heap.size w w' from fun y w h h1 h2 h3 => by
    obtain ⟨e1, e2, e3, e4⟩ := unhide HP y h
    have k := unhide PII y w h1 h2 h3
    rw [e1, e2, e3, e4, h] at k
    exact k)
  clear PSS PII HP
  obtain ⟨om, orr, ox⟩ := o
  unfold Od.v at OP PS2 PI2 ⊢
  simp only at OP PS2 PI2 ⊢
  have L := hide ((lw_new hr).later (below_new _ (.cells #[.int .i64 om, .int .i64 orr, .int .i64 ox] 63)))
  have LO := hide (show ((W.alloc (.cells x.cs 58)).alloc (.cells #[.int .i64 om, .int .i64 orr, .int .i64 ox] 63)).heap[W.heap.size + 1]? = some (.cells #[.int .i64 om, .int .i64 orr, .int .i64 ox] 63 (0, 0)) by have := heap_alloc_last (W.alloc (.cells x.cs 58)) (.cells #[.int .i64 om, .int .i64 orr, .int .i64 ox] 63); simpa using this)
  have HR := hide hr
  have Z := hide (szM_any x ((W.alloc (.cells x.cs 58)).alloc (.cells #[.int .i64 om, .int .i64 orr, .int .i64 ox] 63)) hl)
  clear hr hl
  go_enter Try.func9, Try.ntmps9
  go_wp2_with (first | (refine wpList_load_row rfl 58 _ rfl W.heap.size rfl 58 x.cs (0, 0) _ (unhide L).bx Try.underlying58 rfl (by kernel_rfl) ?_))
  refine (unhide Z).mono ?_
  rintro e w1 ⟨l, rfl, hs, hb⟩
  have T_ := hide ((unhide L).later hb)
  clear L
  have L := hide (unhide T_)
  clear T_
  have T_ := hide (row_lat (unhide LO) hb)
  clear LO
  have LO := hide (unhide T_)
  clear T_
  clear hb Z
  by_cases hlt : l < 0
  · clear hs
    go_wp2
    go_ret
    exact ⟨rfl, (unhide L).bel⟩
  have HS := hide (hs (by omega))
  have DS := hide (small_md (unhide L).rd (unhide HS))
  have ES := hide (unhide DP (unhide DS))
  clear hs DP
  go_wp2_with fail
  have L0 := hide ((unhide L).later (below_drew (w := w1)))
  have LO0 := hide (row_lat (unhide LO) (below_drew (w := w1)))
  refine wp_region_shut (fun f a2 w2 => ∃ v0 v1 v2 v3 v4 v5 v6 v7 v8 v9 v10 v13 : Value, a2 = ⟨#[_, _, _, _, _, _, v9, v10, v13, _, _, _, _, _, _, _, _, _, _, _, _, _, _, _, v5, v0, v1, v2, v3, v4, v6, v7, v8, _, _, _, _, _, _, _, _, _, _, _, _, _, _, _, _, _, _, _, _, _, _, _, _, _, _, _, _, _, _, _, _, _, _, _, _, _, _, _, _, _, _, _, _, _, _, _, _, _, _, _, _, _, _, _, _, _, _, _, _, _, _, _, _, _, _, _, _, _, _, _, _, _, _, _, _, _, _, _, _, _, _, _, _, _, _, _, _, _, _, _, _, _, _, _], []⟩ ∧ Ra x d D om orr ox pr pa ok w1.drew w2 f v0 v1 v2 v3 v4 v5 v6 v7 v8 v9 v10 v13) (by kernel_rfl) ⟨undef, undef, undef, undef, undef, undef, undef, undef, undef, undef, undef, undef, rfl, Ra.mk0 (Below.refl _ _)⟩ (by kernel_rfl) ?_ ?_
  · intro i o ho f a2 w2 hI hsh hf hd K2 hK2
    obtain ⟨v0, v1, v2, v3, v4, v5, v6, v7, v8, v9, v10, v13, rfl, J⟩ := hI
    have hin : i < 14 := by have := (Array.getElem?_eq_some_iff.1 ho).1; simpa using this
    obtain rfl | rfl | rfl | rfl | rfl | rfl | rfl | rfl | rfl | rfl | rfl | rfl | rfl | rfl : i = 0 ∨ i = 1 ∨ i = 2 ∨ i = 3 ∨ i = 4 ∨ i = 5 ∨ i = 6 ∨ i = 7 ∨ i = 8 ∨ i = 9 ∨ i = 10 ∨ i = 11 ∨ i = 12 ∨ i = 13 := by omega
    · obtain rfl := Option.some.inj ho
      rw [if_pos (by rfl)]
      refine wp_load_row 58 _ rfl W.heap.size rfl 58 x.cs (0, 0) _ (row_lat (unhide L0).bx J.bel) Try.underlying58 rfl (by kernel_rfl) ?_
      exact hK2 _ _ ⟨_, _, _, _, _, _, _, _, _, _, _, _, rfl, J.p0 rfl⟩
    · obtain rfl := Option.some.inj ho
      rw [if_pos (by rfl)]
      obtain rfl := J.h0 (hd ⟨0, .data⟩ (by simp) rfl)
      refine wp_callF 40 _ _ rfl [.agg x.cs] rfl cf40 (fun u w3 => (∃ y : Mv, u = .agg y.cs ∧ y.fl = x.fl ∧ OwnM w3 w1.drew.heap.size y d) ∧ Below w2.heap.size w2 w3) ((toM_any x d w2 (unhide HS) ((unhide L0).later J.bel).rd).mono ?_) ?_
      · rintro e w3 ⟨y, rfl, fy, oy, hb⟩
        exact ⟨_, rfl, ⟨y, rfl, fy, oy.base (by have := J.bel.size; omega)⟩, hb⟩
      · rintro u w3 ⟨hu, hb⟩
        exact hK2 _ _ ⟨_, _, _, _, _, _, _, _, _, _, _, _, rfl, (J.lat hb).p1 hu⟩
    · obtain rfl := Option.some.inj ho
      rw [if_pos (by rfl)]
      refine wp_load_row 63 _ rfl (W.heap.size + 1) rfl 63 #[.int .i64 om, .int .i64 orr, .int .i64 ox] (0, 0) _ (row_lat (unhide LO0) J.bel) Try.underlying63 rfl (by kernel_rfl) ?_
      exact hK2 _ _ ⟨_, _, _, _, _, _, _, _, _, _, _, _, rfl, J.p2 rfl⟩
    · obtain rfl := Option.some.inj ho
      rw [if_pos (by rfl)]
      obtain rfl := J.h2 (hd ⟨2, .data⟩ (by simp) rfl)
      refine wp_callF 42 _ _ rfl [.agg #[.int .i64 om, .int .i64 orr, .int .i64 ox]] rfl cf42 (fun u w3 => (u = .agg #[.int .i64 om, .int .i64 orr, .int .i64 ox]) ∧ Below w2.heap.size w2 w3) ((unhide OP w2).mono ?_) ?_
      · rintro e w3 ⟨rfl, hb⟩
        exact ⟨_, rfl, rfl, hb⟩
      · rintro u w3 ⟨hu, hb⟩
        exact hK2 _ _ ⟨_, _, _, _, _, _, _, _, _, _, _, _, rfl, (J.lat hb).p3 hu⟩
    · obtain rfl := Option.some.inj ho
      rw [if_pos (by rfl)]
      obtain ⟨y, rfl, fy, oy⟩ := J.h1 (hd ⟨1, .data⟩ (by simp) rfl)
      obtain rfl := J.h3 (hd ⟨3, .data⟩ (by simp) rfl)
      refine wp_callF 24 _ _ rfl [.agg y.cs, .agg #[.int .i64 om, .int .i64 orr, .int .i64 ox]] rfl cf24 (fun u w3 => (∃ s : Mv, u = .tuple #[.agg s.cs, .agg #[.int .i64 pr, .int .i64 pa], .bool ok] ∧ s.fl = x.fl ∧ OwnM w3 w1.drew.heap.size s D) ∧ Below w2.heap.size w2 w3) ((unhide PS2 y w2 fy (small_mv oy.rd (unhide DS)) oy.nz oy.rd).mono ?_) ?_
      · rintro e w3 ⟨s, rfl, fs, os, hb⟩
        exact ⟨_, rfl, ⟨s, rfl, fs, os.base (by have := J.bel.size; omega)⟩, hb⟩
      · rintro u w3 ⟨hu, hb⟩
        exact hK2 _ _ ⟨_, _, _, _, _, _, _, _, _, _, _, _, rfl, (J.lat hb).p4 (f_no (fun h => hsh 5 _ rfl h ⟨4, .data⟩ (by simp) rfl) hf) (f_no (fun h => hsh 5 _ rfl (hsh 6 _ rfl h ⟨5, .data⟩ (by simp) rfl) ⟨4, .data⟩ (by simp) rfl) hf) (f_no (fun h => hsh 11 _ rfl h ⟨4, .chain⟩ (by simp) rfl) hf) hu⟩
    · obtain rfl := Option.some.inj ho
      rw [if_pos (by rfl)]
      refine wp_move _ rfl ?_
      exact hK2 _ _ ⟨_, _, _, _, _, _, _, _, _, _, _, _, rfl, J.p5 rfl⟩
    · obtain rfl := Option.some.inj ho
      rw [if_pos (by rfl)]
      obtain ⟨s, e4, -, -⟩ := J.h4 (hsh 5 _ rfl (hd ⟨5, .data⟩ (by simp) rfl) ⟨4, .data⟩ (by simp) rfl)
      have e5 := (J.h5 (hd ⟨5, .data⟩ (by simp) rfl)).trans e4
      subst e5 e4
      refine wp_extract _ 0 rfl #[.agg s.cs, .agg #[.int .i64 pr, .int .i64 pa], .bool ok] rfl (.agg s.cs) rfl ?_
      exact hK2 _ _ ⟨_, _, _, _, _, _, _, _, _, _, _, _, rfl, J.p6 ⟨s, rfl, rfl⟩⟩
    · obtain rfl := Option.some.inj ho
      rw [if_pos (by rfl)]
      obtain ⟨s, e4, -, -⟩ := J.h4 (hsh 5 _ rfl (hd ⟨5, .data⟩ (by simp) rfl) ⟨4, .data⟩ (by simp) rfl)
      have e5 := (J.h5 (hd ⟨5, .data⟩ (by simp) rfl)).trans e4
      subst e5 e4
      refine wp_extract _ 1 rfl #[.agg s.cs, .agg #[.int .i64 pr, .int .i64 pa], .bool ok] rfl (.agg #[.int .i64 pr, .int .i64 pa]) rfl ?_
      exact hK2 _ _ ⟨_, _, _, _, _, _, _, _, _, _, _, _, rfl, J.p7 rfl⟩
    · obtain rfl := Option.some.inj ho
      rw [if_pos (by rfl)]
      obtain ⟨s, e4, -, -⟩ := J.h4 (hsh 5 _ rfl (hd ⟨5, .data⟩ (by simp) rfl) ⟨4, .data⟩ (by simp) rfl)
      have e5 := (J.h5 (hd ⟨5, .data⟩ (by simp) rfl)).trans e4
      subst e5 e4
      refine wp_extract _ 2 rfl #[.agg s.cs, .agg #[.int .i64 pr, .int .i64 pa], .bool ok] rfl (.bool ok) rfl ?_
      exact hK2 _ _ ⟨_, _, _, _, _, _, _, _, _, _, _, _, rfl, J.p8 rfl⟩
    · obtain rfl := Option.some.inj ho
      rw [if_pos (by rfl)]
      refine wp_allocT 28 zMv.cs 9 zero28 rfl ?_
      exact hK2 _ _ ⟨_, _, _, _, _, _, _, _, _, _, _, _, rfl, J.a9 (f_no (fun h => hsh 11 _ rfl h ⟨9, .data⟩ (by simp) rfl) hf) (f_no (fun h => hsh 11 _ rfl h ⟨9, .data⟩ (by simp) rfl) hf)⟩
    · obtain rfl := Option.some.inj ho
      rw [if_pos (by rfl)]
      refine wp_allocT 44 #[.int .i64 0, .int .i64 0] 2 zero44 rfl ?_
      exact hK2 _ _ ⟨_, _, _, _, _, _, _, _, _, _, _, _, rfl, J.a10 (f_no (fun h => hsh 12 _ rfl h ⟨10, .data⟩ (by simp) rfl) hf) (f_no (fun h => hsh 12 _ rfl h ⟨10, .data⟩ (by simp) rfl) hf)⟩
    · obtain rfl := Option.some.inj ho
      rw [if_pos (by rfl)]
      obtain ⟨g, rfl, lo, rz⟩ := J.h9 (hd ⟨9, .data⟩ (by simp) rfl)
      obtain ⟨s, rfl, rfl⟩ := J.h6 (hd ⟨6, .data⟩ (by simp) rfl)
      refine wp_store_row 28 _ _ rfl g s.cs rfl rfl 28 zMv.cs (rz hf) (by kernel_rfl) rfl (Mv.cs_one _) ?_
      exact hK2 _ _ ⟨_, _, _, _, _, _, _, _, _, _, _, _, rfl, J.s11 rfl lo (rz hf) rfl⟩
    · obtain rfl := Option.some.inj ho
      rw [if_pos (by rfl)]
      obtain ⟨g, rfl, lo, rz⟩ := J.h10 (hd ⟨10, .data⟩ (by simp) rfl)
      obtain rfl := J.h7 (hd ⟨7, .data⟩ (by simp) rfl)
      refine wp_store_row 44 _ _ rfl g #[.int .i64 pr, .int .i64 pa] rfl rfl 44 #[.int .i64 0, .int .i64 0] (rz hf) (by kernel_rfl) rfl (by simp [Value.oneCell']) ?_
      exact hK2 _ _ ⟨_, _, _, _, _, _, _, _, _, _, _, _, rfl, J.s12 rfl lo (rz hf)⟩
    · obtain rfl := Option.some.inj ho
      rw [if_pos (by rfl)]
      obtain rfl := J.h8 (hd ⟨8, .data⟩ (by simp) rfl)
      refine wp_assign _ rfl ?_
      exact hK2 _ _ ⟨_, _, _, _, _, _, _, _, _, _, _, _, rfl, J.p13 rfl⟩
  intro f_ a_ w3 hI hall
  obtain ⟨v0, v1, v2, v3, v4, v5, v6, v7, v8, v9, v10, v13, rfl, J⟩ := hI
  obtain ⟨s, e4, fs, os⟩ := J.h4 (hall 4 (by simp))
  obtain ⟨g6, e9, l6, s2, e42, r6⟩ := J.h11 (hall 11 (by simp))
  obtain ⟨g7, e10, l7, r7⟩ := J.h12 (hall 12 (by simp))
  have e13 := J.h13 (hall 13 (by simp))
  have ec : s2.cs = s.cs := by have h := e42.symm.trans e4; simp at h; exact h
  rw [ec] at r6
  have hb := J.bel
  subst e9 e10 e13
  clear J hall e4 e42 ec
  dsimp only
  have HW1 := hide (show W.heap.size + 1 < w1.drew.heap.size from row_lt (unhide LO0))
  have HW3 := hide (show w1.drew.heap.size ≤ w3.heap.size from hb.size)
  have PG6 := hide (show W.heap.size + 1 < g6 ∧ g6 < w3.heap.size by have h1 := unhide HW1; have h2 := row_lt r6; omega)
  have PG7 := hide (show W.heap.size + 1 < g7 ∧ g7 < w3.heap.size by have h1 := unhide HW1; have h2 := row_lt r7; omega)
  have PS := hide (fun b (e : s.at b) => (show W.heap.size + 1 < b ∧ b < w3.heap.size by have h1 := os.lo e; have h2 := unhide HW1; omega))
  clear L LO
  have L := hide ((unhide L0).later hb)
  have LO := hide (row_lat (unhide LO0) hb)
  have FS := hide fs
  have OS := hide os
  have RS := hide r6
  have RP := hide r7
  clear fs os r6 r7 l6 l7 hb L0 LO0 s2
  have K := hide (toM_any x d w3 (unhide HS) (unhide L).rd)
  go_wp2_with (first | (refine wpList_load_row rfl 58 _ rfl W.heap.size rfl 58 x.cs (0, 0) _ (unhide L).bx Try.underlying58 rfl (by kernel_rfl) ?_))
  refine (unhide K).mono ?_
  rintro e w4 ⟨z, rfl, fz, oz, hb⟩
  have FZ := hide fz
  have HW4 := hide (show w3.heap.size ≤ w4.heap.size from hb.size)
  have PZ := hide (fun b (e : z.at b) => (show w3.heap.size ≤ b ∧ b < w4.heap.size by have h1 := oz.lo e; omega))
  have T_ := hide ((unhide L).later hb)
  clear L
  have L := hide (unhide T_)
  clear T_
  have T_ := hide (row_lat (unhide LO) hb)
  clear LO
  have LO := hide (unhide T_)
  clear T_
  have T_ := hide ((unhide OS).later hb)
  clear OS
  have OS := hide (unhide T_)
  clear T_
  have T_ := hide (row_lat (unhide RS) hb)
  clear RS
  have RS := hide (unhide T_)
  clear T_
  have T_ := hide (row_lat (unhide RP) hb)
  clear RP
  have RP := hide (unhide T_)
  clear T_
  have OZ := hide oz
  have RZ := hide (heap_alloc_last w4 (.cells z.cs 28))
  have T_ := hide ((unhide L).later (below_new w4 (.cells z.cs 28)))
  clear L
  have L := hide (unhide T_)
  clear T_
  have T_ := hide (row_lat (unhide LO) (below_new w4 (.cells z.cs 28)))
  clear LO
  have LO := hide (unhide T_)
  clear T_
  have T_ := hide ((unhide OS).later (below_new w4 (.cells z.cs 28)))
  clear OS
  have OS := hide (unhide T_)
  clear T_
  have T_ := hide (row_lat (unhide RS) (below_new w4 (.cells z.cs 28)))
  clear RS
  have RS := hide (unhide T_)
  clear T_
  have T_ := hide (row_lat (unhide RP) (below_new w4 (.cells z.cs 28)))
  clear RP
  have RP := hide (unhide T_)
  clear T_
  have T_ := hide ((unhide OZ).later (below_new w4 (.cells z.cs 28)))
  clear OZ
  have OZ := hide (unhide T_)
  clear T_
  clear hb oz fz K
  go_wp2_with (first | (refine wpList_store_new rfl 28 _ _ rfl z.cs rfl rfl _ (by kernel_rfl) rfl (Mv.cs_one _) ?_))
  go_simp
  generalize hwA : w4.alloc (Obj.cells z.cs 28) = wA at L LO OS RS RP OZ RZ ⊢
  have HWA := hide (show wA.heap.size = w4.heap.size + 1 by rw [← hwA]; simp)
  clear hwA
  have L0 := hide ((unhide L).later (below_drew (w := wA)))
  have LO0 := hide (row_lat (unhide LO) (below_drew (w := wA)))
  have OS0 := hide ((unhide OS).later (below_drew (w := wA)))
  have RS0 := hide (row_lat (unhide RS) (below_drew (w := wA)))
  have RP0 := hide (row_lat (unhide RP) (below_drew (w := wA)))
  have OZ0 := hide ((unhide OZ).later (below_drew (w := wA)))
  have RZ0 := hide (row_lat (unhide RZ) (below_drew (w := wA)))
  refine wp_region_shut (fun f a2 w2 => ∃ v0 v1 v2 v3 v4 v5 v6 v7 v8 v9 v12 : Value, a2 = ⟨#[_, _, _, _, _, _, _, _, _, _, v8, v9, v12, _, _, _, _, _, _, _, _, _, _, _, _, _, _, _, _, _, _, _, _, _, _, v4, v0, v1, v2, v3, v5, v6, v7, _, _, _, _, _, _, _, _, _, _, _, _, _, _, _, _, _, _, _, _, _, _, _, _, _, _, _, _, _, _, _, _, _, _, _, _, _, _, _, _, _, _, _, _, _, _, _, _, _, _, _, _, _, _, _, _, _, _, _, _, _, _, _, _, _, _, _, _, _, _, _, _, _, _, _, _, _, _, _, _, _, _, _, _, _], []⟩ ∧ Rb z d D om orr ox pr pa ok wA.drew w2 f v0 v1 v2 v3 v4 v5 v6 v7 v8 v9 v12) (by kernel_rfl) ⟨undef, undef, undef, undef, undef, undef, undef, undef, undef, undef, undef, rfl, Rb.mk0 (Below.refl _ _)⟩ (by kernel_rfl) ?_ ?_
  · intro i o ho f a2 w2 hI hsh hf hd K2 hK2
    obtain ⟨v0, v1, v2, v3, v4, v5, v6, v7, v8, v9, v12, rfl, J⟩ := hI
    have hin : i < 13 := by have := (Array.getElem?_eq_some_iff.1 ho).1; simpa using this
    obtain rfl | rfl | rfl | rfl | rfl | rfl | rfl | rfl | rfl | rfl | rfl | rfl | rfl : i = 0 ∨ i = 1 ∨ i = 2 ∨ i = 3 ∨ i = 4 ∨ i = 5 ∨ i = 6 ∨ i = 7 ∨ i = 8 ∨ i = 9 ∨ i = 10 ∨ i = 11 ∨ i = 12 := by omega
    · obtain rfl := Option.some.inj ho
      rw [if_pos (by rfl)]
      refine wp_load_row 28 _ rfl w4.heap.size rfl 28 z.cs (0, 0) _ (row_lat (unhide RZ0) J.bel) Try.underlying28 rfl (by kernel_rfl) ?_
      exact hK2 _ _ ⟨_, _, _, _, _, _, _, _, _, _, _, rfl, J.p0 rfl⟩
    · obtain rfl := Option.some.inj ho
      rw [if_pos (by rfl)]
      refine wp_load_row 63 _ rfl (W.heap.size + 1) rfl 63 #[.int .i64 om, .int .i64 orr, .int .i64 ox] (0, 0) _ (row_lat (unhide LO0) J.bel) Try.underlying63 rfl (by kernel_rfl) ?_
      exact hK2 _ _ ⟨_, _, _, _, _, _, _, _, _, _, _, rfl, J.p1 rfl⟩
    · obtain rfl := Option.some.inj ho
      rw [if_pos (by rfl)]
      obtain rfl := J.h1 (hd ⟨1, .data⟩ (by simp) rfl)
      refine wp_callF 42 _ _ rfl [.agg #[.int .i64 om, .int .i64 orr, .int .i64 ox]] rfl cf42 (fun u w3 => (u = .agg #[.int .i64 om, .int .i64 orr, .int .i64 ox]) ∧ Below w2.heap.size w2 w3) ((unhide OP w2).mono ?_) ?_
      · rintro e w3 ⟨rfl, hb⟩
        exact ⟨_, rfl, rfl, hb⟩
      · rintro u w3 ⟨hu, hb⟩
        exact hK2 _ _ ⟨_, _, _, _, _, _, _, _, _, _, _, rfl, (J.lat hb).p2 hu⟩
    · obtain rfl := Option.some.inj ho
      rw [if_pos (by rfl)]
      obtain rfl := J.h0 (hd ⟨0, .data⟩ (by simp) rfl)
      obtain rfl := J.h2 (hd ⟨2, .data⟩ (by simp) rfl)
      refine wp_callF 23 _ _ rfl [.agg z.cs, .agg #[.int .i64 om, .int .i64 orr, .int .i64 ox]] rfl cf23 (fun u w3 => (∃ s : Mv, u = .tuple #[.agg s.cs, .agg #[.int .i64 pr, .int .i64 pa], .bool ok] ∧ s.fl = z.fl ∧ OwnM w3 wA.drew.heap.size s D) ∧ Below w2.heap.size w2 w3) ((unhide PI2 z w2 (unhide FZ) (small_mv (unhide OZ0).rd (unhide DS)) (unhide OZ0).nz ((unhide OZ0).later J.bel).rd).mono ?_) ?_
      · rintro e w3 ⟨s, rfl, fs, os, hb⟩
        exact ⟨_, rfl, ⟨s, rfl, fs.trans (unhide FZ).symm, os.base (by have := J.bel.size; omega)⟩, hb⟩
      · rintro u w3 ⟨hu, hb⟩
        exact hK2 _ _ ⟨_, _, _, _, _, _, _, _, _, _, _, rfl, (J.lat hb).p3 (f_no (fun h => hsh 4 _ rfl h ⟨3, .data⟩ (by simp) rfl) hf) (f_no (fun h => hsh 4 _ rfl (hsh 5 _ rfl h ⟨4, .data⟩ (by simp) rfl) ⟨3, .data⟩ (by simp) rfl) hf) (f_no (fun h => hsh 10 _ rfl h ⟨3, .chain⟩ (by simp) rfl) hf) hu⟩
    · obtain rfl := Option.some.inj ho
      rw [if_pos (by rfl)]
      refine wp_move _ rfl ?_
      exact hK2 _ _ ⟨_, _, _, _, _, _, _, _, _, _, _, rfl, J.p4 rfl⟩
    · obtain rfl := Option.some.inj ho
      rw [if_pos (by rfl)]
      obtain ⟨s, e4, -, -⟩ := J.h3 (hsh 4 _ rfl (hd ⟨4, .data⟩ (by simp) rfl) ⟨3, .data⟩ (by simp) rfl)
      have e5 := (J.h4 (hd ⟨4, .data⟩ (by simp) rfl)).trans e4
      subst e5 e4
      refine wp_extract _ 0 rfl #[.agg s.cs, .agg #[.int .i64 pr, .int .i64 pa], .bool ok] rfl (.agg s.cs) rfl ?_
      exact hK2 _ _ ⟨_, _, _, _, _, _, _, _, _, _, _, rfl, J.p5 ⟨s, rfl, rfl⟩⟩
    · obtain rfl := Option.some.inj ho
      rw [if_pos (by rfl)]
      obtain ⟨s, e4, -, -⟩ := J.h3 (hsh 4 _ rfl (hd ⟨4, .data⟩ (by simp) rfl) ⟨3, .data⟩ (by simp) rfl)
      have e5 := (J.h4 (hd ⟨4, .data⟩ (by simp) rfl)).trans e4
      subst e5 e4
      refine wp_extract _ 1 rfl #[.agg s.cs, .agg #[.int .i64 pr, .int .i64 pa], .bool ok] rfl (.agg #[.int .i64 pr, .int .i64 pa]) rfl ?_
      exact hK2 _ _ ⟨_, _, _, _, _, _, _, _, _, _, _, rfl, J.p6 rfl⟩
    · obtain rfl := Option.some.inj ho
      rw [if_pos (by rfl)]
      obtain ⟨s, e4, -, -⟩ := J.h3 (hsh 4 _ rfl (hd ⟨4, .data⟩ (by simp) rfl) ⟨3, .data⟩ (by simp) rfl)
      have e5 := (J.h4 (hd ⟨4, .data⟩ (by simp) rfl)).trans e4
      subst e5 e4
      refine wp_extract _ 2 rfl #[.agg s.cs, .agg #[.int .i64 pr, .int .i64 pa], .bool ok] rfl (.bool ok) rfl ?_
      exact hK2 _ _ ⟨_, _, _, _, _, _, _, _, _, _, _, rfl, J.p7 rfl⟩
    · obtain rfl := Option.some.inj ho
      rw [if_pos (by rfl)]
      refine wp_allocT 28 zMv.cs 9 zero28 rfl ?_
      exact hK2 _ _ ⟨_, _, _, _, _, _, _, _, _, _, _, rfl, J.a8 (f_no (fun h => hsh 10 _ rfl h ⟨8, .data⟩ (by simp) rfl) hf) (f_no (fun h => hsh 10 _ rfl h ⟨8, .data⟩ (by simp) rfl) hf)⟩
    · obtain rfl := Option.some.inj ho
      rw [if_pos (by rfl)]
      refine wp_allocT 44 #[.int .i64 0, .int .i64 0] 2 zero44 rfl ?_
      exact hK2 _ _ ⟨_, _, _, _, _, _, _, _, _, _, _, rfl, J.a9 (f_no (fun h => hsh 11 _ rfl h ⟨9, .data⟩ (by simp) rfl) hf) (f_no (fun h => hsh 11 _ rfl h ⟨9, .data⟩ (by simp) rfl) hf)⟩
    · obtain rfl := Option.some.inj ho
      rw [if_pos (by rfl)]
      obtain ⟨g, rfl, lo, rz⟩ := J.h8 (hd ⟨8, .data⟩ (by simp) rfl)
      obtain ⟨s, rfl, rfl⟩ := J.h5 (hd ⟨5, .data⟩ (by simp) rfl)
      refine wp_store_row 28 _ _ rfl g s.cs rfl rfl 28 zMv.cs (rz hf) (by kernel_rfl) rfl (Mv.cs_one _) ?_
      exact hK2 _ _ ⟨_, _, _, _, _, _, _, _, _, _, _, rfl, J.s10 rfl lo (rz hf) rfl⟩
    · obtain rfl := Option.some.inj ho
      rw [if_pos (by rfl)]
      obtain ⟨g, rfl, lo, rz⟩ := J.h9 (hd ⟨9, .data⟩ (by simp) rfl)
      obtain rfl := J.h6 (hd ⟨6, .data⟩ (by simp) rfl)
      refine wp_store_row 44 _ _ rfl g #[.int .i64 pr, .int .i64 pa] rfl rfl 44 #[.int .i64 0, .int .i64 0] (rz hf) (by kernel_rfl) rfl (by simp [Value.oneCell']) ?_
      exact hK2 _ _ ⟨_, _, _, _, _, _, _, _, _, _, _, rfl, J.s11 rfl lo (rz hf)⟩
    · obtain rfl := Option.some.inj ho
      rw [if_pos (by rfl)]
      obtain rfl := J.h7 (hd ⟨7, .data⟩ (by simp) rfl)
      refine wp_assign _ rfl ?_
      exact hK2 _ _ ⟨_, _, _, _, _, _, _, _, _, _, _, rfl, J.p12 rfl⟩
  intro f_ a_ w5 hI hall
  obtain ⟨v0, v1, v2, v3, v4, v5, v6, v7, v8, v9, v12, rfl, J⟩ := hI
  obtain ⟨g, e4, fg, og⟩ := J.h3 (hall 3 (by simp))
  obtain ⟨g10, e9, l6, s2, e42, r6⟩ := J.h10 (hall 10 (by simp))
  obtain ⟨g11, e10, l7, r7⟩ := J.h11 (hall 11 (by simp))
  have e13 := J.h12 (hall 12 (by simp))
  have ec : s2.cs = g.cs := by have h := e42.symm.trans e4; simp at h; exact h
  rw [ec] at r6
  have hb := J.bel
  subst e9 e10 e13
  clear J hall e4 e42 ec
  dsimp only
  have HW5 := hide (show wA.heap.size ≤ w5.heap.size from hb.size)
  have PG10 := hide (show w4.heap.size < g10 ∧ g10 < w5.heap.size by have h1 : wA.heap.size ≤ g10 := l6; have h2 := row_lt r6; have h3 := unhide HWA; omega)
  have PG11 := hide (show w4.heap.size < g11 ∧ g11 < w5.heap.size by have h1 : wA.heap.size ≤ g11 := l7; have h2 := row_lt r7; have h3 := unhide HWA; omega)
  have PG := hide (fun b (e : g.at b) => (show w4.heap.size < b ∧ b < w5.heap.size by have h1 : wA.heap.size ≤ b ∧ b < w5.heap.size := og.lo e; have h3 := unhide HWA; omega))
  clear L
  have L := hide ((unhide L0).later hb)
  clear L0
  clear LO
  have LO := hide (row_lat (unhide LO0) hb)
  clear LO0
  clear OS
  have OS := hide ((unhide OS0).later hb)
  clear OS0
  clear RS
  have RS := hide (row_lat (unhide RS0) hb)
  clear RS0
  clear RP
  have RP := hide (row_lat (unhide RP0) hb)
  clear RP0
  clear OZ
  have OZ := hide ((unhide OZ0).later hb)
  clear OZ0
  clear RZ
  have RZ := hide (row_lat (unhide RZ0) hb)
  clear RZ0
  have NG := hide (fun b (e : g.at b) => And.intro (og.off r6 (by decide) b e) (og.off r7 (by decide) b e))
  have FG := hide (fg.trans (unhide FZ))
  have OG := hide og
  have RG := hide r6
  have RQ := hide r7
  clear fg og r6 r7 l6 l7 hb s2
  have K := hide (eqM_any g s D w5 ((unhide FS).trans (unhide FG).symm) (small_mv (unhide OG).rd (unhide ES)) (unhide OG).rd (unhide OS).rd)
  go_wp2_with (first | (refine wpList_load_row rfl 28 _ rfl g10 rfl 28 g.cs (0, 0) _ (unhide RG) Try.underlying28 rfl (by kernel_rfl) ?_) | (refine wpList_load_row rfl 28 _ rfl g6 rfl 28 s.cs (0, 0) _ (unhide RS) Try.underlying28 rfl (by kernel_rfl) ?_))
  refine (unhide K).mono ?_
  rintro e w6 ⟨rfl, hb⟩
  have T_ := hide ((unhide L).later hb)
  clear L
  have L := hide (unhide T_)
  clear T_
  have T_ := hide (row_lat (unhide LO) hb)
  clear LO
  have LO := hide (unhide T_)
  clear T_
  have T_ := hide ((unhide OS).later hb)
  clear OS
  have OS := hide (unhide T_)
  clear T_
  have T_ := hide (row_lat (unhide RS) hb)
  clear RS
  have RS := hide (unhide T_)
  clear T_
  have T_ := hide (row_lat (unhide RP) hb)
  clear RP
  have RP := hide (unhide T_)
  clear T_
  have T_ := hide ((unhide OZ).later hb)
  clear OZ
  have OZ := hide (unhide T_)
  clear T_
  have T_ := hide (row_lat (unhide RZ) hb)
  clear RZ
  have RZ := hide (unhide T_)
  clear T_
  have T_ := hide ((unhide OG).later hb)
  clear OG
  have OG := hide (unhide T_)
  clear T_
  have T_ := hide (row_lat (unhide RG) hb)
  clear RG
  have RG := hide (unhide T_)
  clear T_
  have T_ := hide (row_lat (unhide RQ) hb)
  clear RQ
  have RQ := hide (unhide T_)
  clear T_
  clear hb K
  have u0 := (cell_of_row _ g11 0 _ 44 _ (unhide RQ)).trans (rfl : _ = some (Value.int .i64 pr))
  have u1 := (cell_of_row _ g11 1 _ 44 _ (unhide RQ)).trans (rfl : _ = some (Value.int .i64 pa))
  have t0 := (cell_of_row _ g7 0 _ 44 _ (unhide RP)).trans (rfl : _ = some (Value.int .i64 pr))
  have t1 := (cell_of_row _ g7 1 _ 44 _ (unhide RP)).trans (rfl : _ = some (Value.int .i64 pa))
  go_wp2_with fail
  clear u0 u1 t0 t1
  refine (eqPlace_any pr pa w6).mono ?_
  rintro e w7 ⟨rfl, hb⟩
  have T_ := hide ((unhide L).later hb)
  clear L
  have L := hide (unhide T_)
  clear T_
  have T_ := hide (row_lat (unhide LO) hb)
  clear LO
  have LO := hide (unhide T_)
  clear T_
  have T_ := hide ((unhide OS).later hb)
  clear OS
  have OS := hide (unhide T_)
  clear T_
  have T_ := hide (row_lat (unhide RS) hb)
  clear RS
  have RS := hide (unhide T_)
  clear T_
  have T_ := hide (row_lat (unhide RP) hb)
  clear RP
  have RP := hide (unhide T_)
  clear T_
  have T_ := hide ((unhide OZ).later hb)
  clear OZ
  have OZ := hide (unhide T_)
  clear T_
  have T_ := hide (row_lat (unhide RZ) hb)
  clear RZ
  have RZ := hide (unhide T_)
  clear T_
  have T_ := hide ((unhide OG).later hb)
  clear OG
  have OG := hide (unhide T_)
  clear T_
  have T_ := hide (row_lat (unhide RG) hb)
  clear RG
  have RG := hide (unhide T_)
  clear T_
  have T_ := hide (row_lat (unhide RQ) hb)
  clear RQ
  have RQ := hide (unhide T_)
  clear T_
  clear hb
  go_wp2_with fail
  have K := hide (toM_any x d w7.drew (unhide HS) ((unhide L).later below_drew).rd)
  refine wp_region_held_drew (S := fun w' => w'.heap[w4.heap.size]? = some (.cells z.cs 28 (0, 0)) ∧ w'.heap[W.heap.size]? = some (.cells x.cs 58 (0, 0))) (by kernel_rfl) ⟨unhide RZ, (unhide L).bx⟩ (fun hS => ?_)
  have HSS := hide hS
  clear hS
  refine wpAnyH_take (i := 0) (v := .agg z.cs) rfl (by kernel_rfl) (by kernel_rfl) (by kernel_rfl) (fun _ _ _ h => h) (yields_load rfl 28 _ rfl w4.heap.size rfl 28 z.cs _ (fun w h => h.1) Try.underlying28 rfl (by kernel_rfl)) (unhide HSS) ?_
  go_simp
  refine wpAnyH_take (i := 1) (v := .agg x.cs) rfl (by kernel_rfl) (by kernel_rfl) (by kernel_rfl) (fun _ _ _ h => h) (yields_load rfl 58 _ rfl W.heap.size rfl 58 x.cs _ (fun w h => h.2) Try.underlying58 rfl (by kernel_rfl)) (unhide HSS) ?_
  go_simp
  refine wpAnyH_ready (rs := [2]) (by kernel_rfl) (by simp) ?_
  refine AllReadyH.cons rfl (fun K2 hK => ?_) AllReadyH.nil
  go_simp
  refine (unhide K).mono ?_
  rintro e w8 ⟨u, rfl, fu, ou, hb⟩
  have T_ := hide ((unhide L).later below_drew)
  clear L
  have L := hide (unhide T_)
  clear T_
  have T_ := hide (row_lat (unhide LO) below_drew)
  clear LO
  have LO := hide (unhide T_)
  clear T_
  have T_ := hide ((unhide OS).later below_drew)
  clear OS
  have OS := hide (unhide T_)
  clear T_
  have T_ := hide (row_lat (unhide RS) below_drew)
  clear RS
  have RS := hide (unhide T_)
  clear T_
  have T_ := hide (row_lat (unhide RP) below_drew)
  clear RP
  have RP := hide (unhide T_)
  clear T_
  have T_ := hide ((unhide OZ).later below_drew)
  clear OZ
  have OZ := hide (unhide T_)
  clear T_
  have T_ := hide (row_lat (unhide RZ) below_drew)
  clear RZ
  have RZ := hide (unhide T_)
  clear T_
  have T_ := hide ((unhide OG).later below_drew)
  clear OG
  have OG := hide (unhide T_)
  clear T_
  have T_ := hide (row_lat (unhide RG) below_drew)
  clear RG
  have RG := hide (unhide T_)
  clear T_
  have T_ := hide (row_lat (unhide RQ) below_drew)
  clear RQ
  have RQ := hide (unhide T_)
  clear T_
  have T_ := hide ((unhide L).later hb)
  clear L
  have L := hide (unhide T_)
  clear T_
  have T_ := hide (row_lat (unhide LO) hb)
  clear LO
  have LO := hide (unhide T_)
  clear T_
  have T_ := hide ((unhide OS).later hb)
  clear OS
  have OS := hide (unhide T_)
  clear T_
  have T_ := hide (row_lat (unhide RS) hb)
  clear RS
  have RS := hide (unhide T_)
  clear T_
  have T_ := hide (row_lat (unhide RP) hb)
  clear RP
  have RP := hide (unhide T_)
  clear T_
  have T_ := hide ((unhide OZ).later hb)
  clear OZ
  have OZ := hide (unhide T_)
  clear T_
  have T_ := hide (row_lat (unhide RZ) hb)
  clear RZ
  have RZ := hide (unhide T_)
  clear T_
  have T_ := hide ((unhide OG).later hb)
  clear OG
  have OG := hide (unhide T_)
  clear T_
  have T_ := hide (row_lat (unhide RG) hb)
  clear RG
  have RG := hide (unhide T_)
  clear T_
  have T_ := hide (row_lat (unhide RQ) hb)
  clear RQ
  have RQ := hide (unhide T_)
  clear T_
  have E6 := hide (eqM_any z u d w8 (fu.trans (unhide FZ).symm) (small_mv (unhide OZ).rd (unhide DS)) (unhide OZ).rd ou.rd)
  refine hK.out _ _ ⟨row_lat (unhide HSS).1 hb, row_lat (unhide HSS).2 hb⟩ (fun hS => ?_)
  have HSN := hide hS
  clear hS hb ou fu hK K2 K HSS
  refine wpAnyH_ready (rs := [3]) (by kernel_rfl) (by simp) ?_
  refine AllReadyH.cons rfl (fun K2 hK => ?_) AllReadyH.nil
  go_simp
  refine (unhide E6).mono ?_
  rintro e w9 ⟨rfl, hb⟩
  have T_ := hide ((unhide L).later hb)
  clear L
  have L := hide (unhide T_)
  clear T_
  have T_ := hide (row_lat (unhide LO) hb)
  clear LO
  have LO := hide (unhide T_)
  clear T_
  have T_ := hide ((unhide OS).later hb)
  clear OS
  have OS := hide (unhide T_)
  clear T_
  have T_ := hide (row_lat (unhide RS) hb)
  clear RS
  have RS := hide (unhide T_)
  clear T_
  have T_ := hide (row_lat (unhide RP) hb)
  clear RP
  have RP := hide (unhide T_)
  clear T_
  have T_ := hide ((unhide OZ).later hb)
  clear OZ
  have OZ := hide (unhide T_)
  clear T_
  have T_ := hide (row_lat (unhide RZ) hb)
  clear RZ
  have RZ := hide (unhide T_)
  clear T_
  have T_ := hide ((unhide OG).later hb)
  clear OG
  have OG := hide (unhide T_)
  clear T_
  have T_ := hide (row_lat (unhide RG) hb)
  clear RG
  have RG := hide (unhide T_)
  clear T_
  have T_ := hide (row_lat (unhide RQ) hb)
  clear RQ
  have RQ := hide (unhide T_)
  clear T_
  refine hK.out _ _ ⟨row_lat (unhide HSN).1 hb, row_lat (unhide HSN).2 hb⟩ (fun hS => ?_)
  have HSS := hide hS
  clear hS hb hK K2 E6 HSN
  refine wpAnyH_take (i := 4) (v := .bool false) rfl (by kernel_rfl) (by kernel_rfl) (by kernel_rfl) (fun _ _ _ h => h) (Or.inl ⟨by rfl, fun w _ => ?_⟩) (unhide HSS) ?_
  · go_simp
  go_simp
  refine wpAnyH_done (by kernel_rfl) ?_ _
  clear HSS
  have K := hide (markM_any z d _ w9 (unhide DS) (unhide OZ))
  go_wp2_with (first | (refine wpList_load_row rfl 28 _ rfl w4.heap.size rfl 28 z.cs (0, 0) _ (unhide RZ) Try.underlying28 rfl (by kernel_rfl) ?_))
  refine (unhide K).mono ?_
  rintro e w10 ⟨rfl, om_, t⟩
  clear OZ
  have T_ := hide ((unhide L).tch (unhide HR) t (fun b e => by have := unhide PZ b e; have h1 := unhide HW1; have h3 := unhide HW3; have h4 := unhide HW4; have h5 := unhide HW5; have hA := unhide HWA; have q6 := unhide PG6; have q7 := unhide PG7; have q10 := unhide PG10; have q11 := unhide PG11; omega))
  clear L
  have L := hide (unhide T_)
  clear T_
  have T_ := hide (row_tch (unhide LO) t (fun e => by have := unhide PZ _ e; have h1 := unhide HW1; have h3 := unhide HW3; have h4 := unhide HW4; have h5 := unhide HW5; have hA := unhide HWA; have q6 := unhide PG6; have q7 := unhide PG7; have q10 := unhide PG10; have q11 := unhide PG11; omega))
  clear LO
  have LO := hide (unhide T_)
  clear T_
  have T_ := hide ((unhide OS).tch t (fun b e1 e2 => by have := unhide PS b e1; have := unhide PZ b e2; have h1 := unhide HW1; have h3 := unhide HW3; have h4 := unhide HW4; have h5 := unhide HW5; have hA := unhide HWA; have q6 := unhide PG6; have q7 := unhide PG7; have q10 := unhide PG10; have q11 := unhide PG11; omega))
  clear OS
  have OS := hide (unhide T_)
  clear T_
  have T_ := hide (row_tch (unhide RS) t (fun e => by have := unhide PZ _ e; have h1 := unhide HW1; have h3 := unhide HW3; have h4 := unhide HW4; have h5 := unhide HW5; have hA := unhide HWA; have q6 := unhide PG6; have q7 := unhide PG7; have q10 := unhide PG10; have q11 := unhide PG11; omega))
  clear RS
  have RS := hide (unhide T_)
  clear T_
  have T_ := hide (row_tch (unhide RP) t (fun e => by have := unhide PZ _ e; have h1 := unhide HW1; have h3 := unhide HW3; have h4 := unhide HW4; have h5 := unhide HW5; have hA := unhide HWA; have q6 := unhide PG6; have q7 := unhide PG7; have q10 := unhide PG10; have q11 := unhide PG11; omega))
  clear RP
  have RP := hide (unhide T_)
  clear T_
  have T_ := hide (row_tch (unhide RZ) t (fun e => by have := unhide PZ _ e; have h1 := unhide HW1; have h3 := unhide HW3; have h4 := unhide HW4; have h5 := unhide HW5; have hA := unhide HWA; have q6 := unhide PG6; have q7 := unhide PG7; have q10 := unhide PG10; have q11 := unhide PG11; omega))
  clear RZ
  have RZ := hide (unhide T_)
  clear T_
  have T_ := hide ((unhide OG).tch t (fun b e1 e2 => by have := unhide PG b e1; have := unhide PZ b e2; have h1 := unhide HW1; have h3 := unhide HW3; have h4 := unhide HW4; have h5 := unhide HW5; have hA := unhide HWA; have q6 := unhide PG6; have q7 := unhide PG7; have q10 := unhide PG10; have q11 := unhide PG11; omega))
  clear OG
  have OG := hide (unhide T_)
  clear T_
  have T_ := hide (row_tch (unhide RG) t (fun e => by have := unhide PZ _ e; have h1 := unhide HW1; have h3 := unhide HW3; have h4 := unhide HW4; have h5 := unhide HW5; have hA := unhide HWA; have q6 := unhide PG6; have q7 := unhide PG7; have q10 := unhide PG10; have q11 := unhide PG11; omega))
  clear RG
  have RG := hide (unhide T_)
  clear T_
  have T_ := hide (row_tch (unhide RQ) t (fun e => by have := unhide PZ _ e; have h1 := unhide HW1; have h3 := unhide HW3; have h4 := unhide HW4; have h5 := unhide HW5; have hA := unhide HWA; have q6 := unhide PG6; have q7 := unhide PG7; have q10 := unhide PG10; have q11 := unhide PG11; omega))
  clear RQ
  have RQ := hide (unhide T_)
  clear T_
  have OZ := hide om_
  clear om_ t K
  have TP := hide (Md.tot_pos d)
  generalize d.tot = tt at TP ⊢
  have tp := unhide TP
  clear TP
  have K := hide (eqM_any g s D w10 ((unhide FS).trans (unhide FG).symm) (small_mv (unhide OG).rd (unhide ES)) (unhide OG).rd (unhide OS).rd)
  have gm := row_m (unhide RG)
  have sm := row_m (unhide RS)
  have gr := row_r (unhide RG)
  have sr := row_r (unhide RS)
  have gn := row_n (unhide RG)
  have sn := row_n (unhide RS)
  have gz := row_z (unhide RG)
  have sz := row_z (unhide RS)
  have gv := row_v (unhide RG)
  have sv := row_v (unhide RS)
  have gc := row_c (unhide RG)
  have sc := row_c (unhide RS)
  have gi := row_i (unhide RG)
  have si := row_i (unhide RS)
  have go := row_o (unhide RG)
  have so := row_o (unhide RS)
  have gst := row_st (unhide RG)
  have sst := row_st (unhide RS)
  go_wp2_with fail
  refine (unhide K).mono ?_
  rintro e w11 ⟨rfl, hb⟩
  have T_ := hide ((unhide L).later hb)
  clear L
  have L := hide (unhide T_)
  clear T_
  have T_ := hide (row_lat (unhide LO) hb)
  clear LO
  have LO := hide (unhide T_)
  clear T_
  have T_ := hide ((unhide OS).later hb)
  clear OS
  have OS := hide (unhide T_)
  clear T_
  have T_ := hide (row_lat (unhide RS) hb)
  clear RS
  have RS := hide (unhide T_)
  clear T_
  have T_ := hide (row_lat (unhide RP) hb)
  clear RP
  have RP := hide (unhide T_)
  clear T_
  have T_ := hide (row_lat (unhide RZ) hb)
  clear RZ
  have RZ := hide (unhide T_)
  clear T_
  have T_ := hide ((unhide OG).later hb)
  clear OG
  have OG := hide (unhide T_)
  clear T_
  have T_ := hide (row_lat (unhide RG) hb)
  clear RG
  have RG := hide (unhide T_)
  clear T_
  have T_ := hide (row_lat (unhide RQ) hb)
  clear RQ
  have RQ := hide (unhide T_)
  clear T_
  have T_ := hide ((unhide OZ).later hb)
  clear OZ
  have OZ := hide (unhide T_)
  clear T_
  clear hb K
  clear gm sm gr sr gn sn gz sz gv sv gc sc gi si go so gst sst
  have u0 := (cell_of_row _ g11 0 _ 44 _ (unhide RQ)).trans (rfl : _ = some (Value.int .i64 pr))
  have u1 := (cell_of_row _ g11 1 _ 44 _ (unhide RQ)).trans (rfl : _ = some (Value.int .i64 pa))
  have t0 := (cell_of_row _ g7 0 _ 44 _ (unhide RP)).trans (rfl : _ = some (Value.int .i64 pr))
  have t1 := (cell_of_row _ g7 1 _ 44 _ (unhide RP)).trans (rfl : _ = some (Value.int .i64 pa))
  go_wp2_with fail
  clear u0 u1 t0 t1
  refine (eqPlace_any pr pa w11).mono ?_
  rintro e w12 ⟨rfl, hb⟩
  have T_ := hide ((unhide L).later hb)
  clear L
  have L := hide (unhide T_)
  clear T_
  have T_ := hide (row_lat (unhide LO) hb)
  clear LO
  have LO := hide (unhide T_)
  clear T_
  have T_ := hide ((unhide OS).later hb)
  clear OS
  have OS := hide (unhide T_)
  clear T_
  have T_ := hide (row_lat (unhide RS) hb)
  clear RS
  have RS := hide (unhide T_)
  clear T_
  have T_ := hide (row_lat (unhide RP) hb)
  clear RP
  have RP := hide (unhide T_)
  clear T_
  have T_ := hide (row_lat (unhide RZ) hb)
  clear RZ
  have RZ := hide (unhide T_)
  clear T_
  have T_ := hide ((unhide OG).later hb)
  clear OG
  have OG := hide (unhide T_)
  clear T_
  have T_ := hide (row_lat (unhide RG) hb)
  clear RG
  have RG := hide (unhide T_)
  clear T_
  have T_ := hide (row_lat (unhide RQ) hb)
  clear RQ
  have RQ := hide (unhide T_)
  clear T_
  have T_ := hide ((unhide OZ).later hb)
  clear OZ
  have OZ := hide (unhide T_)
  clear T_
  clear hb
  have K := hide (markM_any g D _ w12 (unhide ES) (unhide OG))
  go_wp2_with (first | (refine wpList_load_row rfl 28 _ rfl g10 rfl 28 g.cs (0, 0) _ (unhide RG) Try.underlying28 rfl (by kernel_rfl) ?_))
  refine (unhide K).mono ?_
  rintro e w13 ⟨rfl, om_, t⟩
  clear OG
  have T_ := hide ((unhide L).tch (unhide HR) t (fun b e => by have := unhide PG b e; have h1 := unhide HW1; have h3 := unhide HW3; have h4 := unhide HW4; have h5 := unhide HW5; have hA := unhide HWA; have q6 := unhide PG6; have q7 := unhide PG7; have q10 := unhide PG10; have q11 := unhide PG11; omega))
  clear L
  have L := hide (unhide T_)
  clear T_
  have T_ := hide (row_tch (unhide LO) t (fun e => by have := unhide PG _ e; have h1 := unhide HW1; have h3 := unhide HW3; have h4 := unhide HW4; have h5 := unhide HW5; have hA := unhide HWA; have q6 := unhide PG6; have q7 := unhide PG7; have q10 := unhide PG10; have q11 := unhide PG11; omega))
  clear LO
  have LO := hide (unhide T_)
  clear T_
  have T_ := hide ((unhide OS).tch t (fun b e1 e2 => by have := unhide PS b e1; have := unhide PG b e2; have h1 := unhide HW1; have h3 := unhide HW3; have h4 := unhide HW4; have h5 := unhide HW5; have hA := unhide HWA; have q6 := unhide PG6; have q7 := unhide PG7; have q10 := unhide PG10; have q11 := unhide PG11; omega))
  clear OS
  have OS := hide (unhide T_)
  clear T_
  have T_ := hide (row_tch (unhide RS) t (fun e => by have := unhide PG _ e; have h1 := unhide HW1; have h3 := unhide HW3; have h4 := unhide HW4; have h5 := unhide HW5; have hA := unhide HWA; have q6 := unhide PG6; have q7 := unhide PG7; have q10 := unhide PG10; have q11 := unhide PG11; omega))
  clear RS
  have RS := hide (unhide T_)
  clear T_
  have T_ := hide (row_tch (unhide RP) t (fun e => by have := unhide PG _ e; have h1 := unhide HW1; have h3 := unhide HW3; have h4 := unhide HW4; have h5 := unhide HW5; have hA := unhide HWA; have q6 := unhide PG6; have q7 := unhide PG7; have q10 := unhide PG10; have q11 := unhide PG11; omega))
  clear RP
  have RP := hide (unhide T_)
  clear T_
  have T_ := hide (row_tch (unhide RZ) t (fun e => by have := unhide PG _ e; have h1 := unhide HW1; have h3 := unhide HW3; have h4 := unhide HW4; have h5 := unhide HW5; have hA := unhide HWA; have q6 := unhide PG6; have q7 := unhide PG7; have q10 := unhide PG10; have q11 := unhide PG11; omega))
  clear RZ
  have RZ := hide (unhide T_)
  clear T_
  have T_ := hide (row_tch (unhide RG) t (fun e => (unhide NG _ e).1 rfl))
  clear RG
  have RG := hide (unhide T_)
  clear T_
  have T_ := hide (row_tch (unhide RQ) t (fun e => (unhide NG _ e).2 rfl))
  clear RQ
  have RQ := hide (unhide T_)
  clear T_
  have T_ := hide ((unhide OZ).tch t (fun b e1 e2 => by have := unhide PZ b e1; have := unhide PG b e2; have h1 := unhide HW1; have h3 := unhide HW3; have h4 := unhide HW4; have h5 := unhide HW5; have hA := unhide HWA; have q6 := unhide PG6; have q7 := unhide PG7; have q10 := unhide PG10; have q11 := unhide PG11; omega))
  clear OZ
  have OZ := hide (unhide T_)
  clear T_
  have OG := hide om_
  clear om_ t K
  have TP := hide (Md.tot_pos D)
  generalize htt : D.tot = t2 at TP ⊢
  have TT := hide htt
  have tp2 := unhide TP
  clear TP htt
  have K := hide (heldM_any g D w13 (unhide ES) (unhide OG).rd)
  rw [unhide TT] at K
  go_wp2_with (first | (refine wpList_load_row rfl 28 _ rfl g10 rfl 28 g.cs (0, 0) _ (unhide RG) Try.underlying28 rfl (by kernel_rfl) ?_))
  refine (unhide K).mono ?_
  rintro e w14 ⟨rfl, hb⟩
  have T_ := hide ((unhide L).later hb)
  clear L
  have L := hide (unhide T_)
  clear T_
  have T_ := hide (row_lat (unhide LO) hb)
  clear LO
  have LO := hide (unhide T_)
  clear T_
  have T_ := hide ((unhide OS).later hb)
  clear OS
  have OS := hide (unhide T_)
  clear T_
  have T_ := hide (row_lat (unhide RS) hb)
  clear RS
  have RS := hide (unhide T_)
  clear T_
  have T_ := hide (row_lat (unhide RP) hb)
  clear RP
  have RP := hide (unhide T_)
  clear T_
  have T_ := hide (row_lat (unhide RZ) hb)
  clear RZ
  have RZ := hide (unhide T_)
  clear T_
  have T_ := hide (row_lat (unhide RG) hb)
  clear RG
  have RG := hide (unhide T_)
  clear T_
  have T_ := hide (row_lat (unhide RQ) hb)
  clear RQ
  have RQ := hide (unhide T_)
  clear T_
  have T_ := hide ((unhide OZ).later hb)
  clear OZ
  have OZ := hide (unhide T_)
  clear T_
  have T_ := hide ((unhide OG).later hb)
  clear OG
  have OG := hide (unhide T_)
  clear T_
  clear hb K
  go_wp2_with fail
  have L0 := hide ((unhide L).later (below_drew (w := w14)))
  have LO0 := hide (row_lat (unhide LO) (below_drew (w := w14)))
  have OS0 := hide ((unhide OS).later (below_drew (w := w14)))
  have RS0 := hide (row_lat (unhide RS) (below_drew (w := w14)))
  have RP0 := hide (row_lat (unhide RP) (below_drew (w := w14)))
  have RZ0 := hide (row_lat (unhide RZ) (below_drew (w := w14)))
  have RG0 := hide (row_lat (unhide RG) (below_drew (w := w14)))
  have RQ0 := hide (row_lat (unhide RQ) (below_drew (w := w14)))
  have OZ0 := hide ((unhide OZ).later (below_drew (w := w14)))
  have OG0 := hide ((unhide OG).later (below_drew (w := w14)))
  refine wp_region_shut (fun f a2 w2 => ∃ v0 v1 v2 v3 v4 v5 v6 v7 v8 v9 v10 v13 : Value, a2 = ⟨#[_, _, _, _, _, _, _, _, _, _, _, _, _, _, _, _, v9, v10, v13, _, _, _, _, _, _, _, _, _, _, _, _, _, _, _, _, _, _, _, _, _, _, _, _, _, _, _, _, _, _, _, _, _, _, _, _, _, _, _, _, _, _, _, _, _, _, _, _, _, _, _, _, _, _, _, _, _, _, _, _, _, _, _, _, _, _, _, _, _, _, _, _, _, _, _, _, _, v5, v0, v1, v2, v3, v4, v6, v7, v8, _, _, _, _, _, _, _, _, _, _, _, _, _, _, _, _, _, _, _, _, _, _, _], []⟩ ∧ Ra x d D om orr ox pr pa ok w14.drew w2 f v0 v1 v2 v3 v4 v5 v6 v7 v8 v9 v10 v13) (by kernel_rfl) ⟨undef, undef, undef, undef, undef, undef, undef, undef, undef, undef, undef, undef, rfl, Ra.mk0 (Below.refl _ _)⟩ (by kernel_rfl) ?_ ?_
  · intro i o ho f a2 w2 hI hsh hf hd K2 hK2
    obtain ⟨v0, v1, v2, v3, v4, v5, v6, v7, v8, v9, v10, v13, rfl, J⟩ := hI
    have hin : i < 14 := by have := (Array.getElem?_eq_some_iff.1 ho).1; simpa using this
    obtain rfl | rfl | rfl | rfl | rfl | rfl | rfl | rfl | rfl | rfl | rfl | rfl | rfl | rfl : i = 0 ∨ i = 1 ∨ i = 2 ∨ i = 3 ∨ i = 4 ∨ i = 5 ∨ i = 6 ∨ i = 7 ∨ i = 8 ∨ i = 9 ∨ i = 10 ∨ i = 11 ∨ i = 12 ∨ i = 13 := by omega
    · obtain rfl := Option.some.inj ho
      rw [if_pos (by rfl)]
      refine wp_load_row 58 _ rfl W.heap.size rfl 58 x.cs (0, 0) _ (row_lat (unhide L0).bx J.bel) Try.underlying58 rfl (by kernel_rfl) ?_
      exact hK2 _ _ ⟨_, _, _, _, _, _, _, _, _, _, _, _, rfl, J.p0 rfl⟩
    · obtain rfl := Option.some.inj ho
      rw [if_pos (by rfl)]
      obtain rfl := J.h0 (hd ⟨0, .data⟩ (by simp) rfl)
      refine wp_callF 40 _ _ rfl [.agg x.cs] rfl cf40 (fun u w3 => (∃ y : Mv, u = .agg y.cs ∧ y.fl = x.fl ∧ OwnM w3 w14.drew.heap.size y d) ∧ Below w2.heap.size w2 w3) ((toM_any x d w2 (unhide HS) ((unhide L0).later J.bel).rd).mono ?_) ?_
      · rintro e w3 ⟨y, rfl, fy, oy, hb⟩
        exact ⟨_, rfl, ⟨y, rfl, fy, oy.base (by have := J.bel.size; omega)⟩, hb⟩
      · rintro u w3 ⟨hu, hb⟩
        exact hK2 _ _ ⟨_, _, _, _, _, _, _, _, _, _, _, _, rfl, (J.lat hb).p1 hu⟩
    · obtain rfl := Option.some.inj ho
      rw [if_pos (by rfl)]
      refine wp_load_row 63 _ rfl (W.heap.size + 1) rfl 63 #[.int .i64 om, .int .i64 orr, .int .i64 ox] (0, 0) _ (row_lat (unhide LO0) J.bel) Try.underlying63 rfl (by kernel_rfl) ?_
      exact hK2 _ _ ⟨_, _, _, _, _, _, _, _, _, _, _, _, rfl, J.p2 rfl⟩
    · obtain rfl := Option.some.inj ho
      rw [if_pos (by rfl)]
      obtain rfl := J.h2 (hd ⟨2, .data⟩ (by simp) rfl)
      refine wp_callF 42 _ _ rfl [.agg #[.int .i64 om, .int .i64 orr, .int .i64 ox]] rfl cf42 (fun u w3 => (u = .agg #[.int .i64 om, .int .i64 orr, .int .i64 ox]) ∧ Below w2.heap.size w2 w3) ((unhide OP w2).mono ?_) ?_
      · rintro e w3 ⟨rfl, hb⟩
        exact ⟨_, rfl, rfl, hb⟩
      · rintro u w3 ⟨hu, hb⟩
        exact hK2 _ _ ⟨_, _, _, _, _, _, _, _, _, _, _, _, rfl, (J.lat hb).p3 hu⟩
    · obtain rfl := Option.some.inj ho
      rw [if_pos (by rfl)]
      obtain ⟨y, rfl, fy, oy⟩ := J.h1 (hd ⟨1, .data⟩ (by simp) rfl)
      obtain rfl := J.h3 (hd ⟨3, .data⟩ (by simp) rfl)
      refine wp_callF 23 _ _ rfl [.agg y.cs, .agg #[.int .i64 om, .int .i64 orr, .int .i64 ox]] rfl cf23 (fun u w3 => (∃ s : Mv, u = .tuple #[.agg s.cs, .agg #[.int .i64 pr, .int .i64 pa], .bool ok] ∧ s.fl = x.fl ∧ OwnM w3 w14.drew.heap.size s D) ∧ Below w2.heap.size w2 w3) ((unhide PI2 y w2 fy (small_mv oy.rd (unhide DS)) oy.nz oy.rd).mono ?_) ?_
      · rintro e w3 ⟨s, rfl, fs, os, hb⟩
        exact ⟨_, rfl, ⟨s, rfl, fs, os.base (by have := J.bel.size; omega)⟩, hb⟩
      · rintro u w3 ⟨hu, hb⟩
        exact hK2 _ _ ⟨_, _, _, _, _, _, _, _, _, _, _, _, rfl, (J.lat hb).p4 (f_no (fun h => hsh 5 _ rfl h ⟨4, .data⟩ (by simp) rfl) hf) (f_no (fun h => hsh 5 _ rfl (hsh 6 _ rfl h ⟨5, .data⟩ (by simp) rfl) ⟨4, .data⟩ (by simp) rfl) hf) (f_no (fun h => hsh 11 _ rfl h ⟨4, .chain⟩ (by simp) rfl) hf) hu⟩
    · obtain rfl := Option.some.inj ho
      rw [if_pos (by rfl)]
      refine wp_move _ rfl ?_
      exact hK2 _ _ ⟨_, _, _, _, _, _, _, _, _, _, _, _, rfl, J.p5 rfl⟩
    · obtain rfl := Option.some.inj ho
      rw [if_pos (by rfl)]
      obtain ⟨s, e4, -, -⟩ := J.h4 (hsh 5 _ rfl (hd ⟨5, .data⟩ (by simp) rfl) ⟨4, .data⟩ (by simp) rfl)
      have e5 := (J.h5 (hd ⟨5, .data⟩ (by simp) rfl)).trans e4
      subst e5 e4
      refine wp_extract _ 0 rfl #[.agg s.cs, .agg #[.int .i64 pr, .int .i64 pa], .bool ok] rfl (.agg s.cs) rfl ?_
      exact hK2 _ _ ⟨_, _, _, _, _, _, _, _, _, _, _, _, rfl, J.p6 ⟨s, rfl, rfl⟩⟩
    · obtain rfl := Option.some.inj ho
      rw [if_pos (by rfl)]
      obtain ⟨s, e4, -, -⟩ := J.h4 (hsh 5 _ rfl (hd ⟨5, .data⟩ (by simp) rfl) ⟨4, .data⟩ (by simp) rfl)
      have e5 := (J.h5 (hd ⟨5, .data⟩ (by simp) rfl)).trans e4
      subst e5 e4
      refine wp_extract _ 1 rfl #[.agg s.cs, .agg #[.int .i64 pr, .int .i64 pa], .bool ok] rfl (.agg #[.int .i64 pr, .int .i64 pa]) rfl ?_
      exact hK2 _ _ ⟨_, _, _, _, _, _, _, _, _, _, _, _, rfl, J.p7 rfl⟩
    · obtain rfl := Option.some.inj ho
      rw [if_pos (by rfl)]
      obtain ⟨s, e4, -, -⟩ := J.h4 (hsh 5 _ rfl (hd ⟨5, .data⟩ (by simp) rfl) ⟨4, .data⟩ (by simp) rfl)
      have e5 := (J.h5 (hd ⟨5, .data⟩ (by simp) rfl)).trans e4
      subst e5 e4
      refine wp_extract _ 2 rfl #[.agg s.cs, .agg #[.int .i64 pr, .int .i64 pa], .bool ok] rfl (.bool ok) rfl ?_
      exact hK2 _ _ ⟨_, _, _, _, _, _, _, _, _, _, _, _, rfl, J.p8 rfl⟩
    · obtain rfl := Option.some.inj ho
      rw [if_pos (by rfl)]
      refine wp_allocT 28 zMv.cs 9 zero28 rfl ?_
      exact hK2 _ _ ⟨_, _, _, _, _, _, _, _, _, _, _, _, rfl, J.a9 (f_no (fun h => hsh 11 _ rfl h ⟨9, .data⟩ (by simp) rfl) hf) (f_no (fun h => hsh 11 _ rfl h ⟨9, .data⟩ (by simp) rfl) hf)⟩
    · obtain rfl := Option.some.inj ho
      rw [if_pos (by rfl)]
      refine wp_allocT 44 #[.int .i64 0, .int .i64 0] 2 zero44 rfl ?_
      exact hK2 _ _ ⟨_, _, _, _, _, _, _, _, _, _, _, _, rfl, J.a10 (f_no (fun h => hsh 12 _ rfl h ⟨10, .data⟩ (by simp) rfl) hf) (f_no (fun h => hsh 12 _ rfl h ⟨10, .data⟩ (by simp) rfl) hf)⟩
    · obtain rfl := Option.some.inj ho
      rw [if_pos (by rfl)]
      obtain ⟨g, rfl, lo, rz⟩ := J.h9 (hd ⟨9, .data⟩ (by simp) rfl)
      obtain ⟨s, rfl, rfl⟩ := J.h6 (hd ⟨6, .data⟩ (by simp) rfl)
      refine wp_store_row 28 _ _ rfl g s.cs rfl rfl 28 zMv.cs (rz hf) (by kernel_rfl) rfl (Mv.cs_one _) ?_
      exact hK2 _ _ ⟨_, _, _, _, _, _, _, _, _, _, _, _, rfl, J.s11 rfl lo (rz hf) rfl⟩
    · obtain rfl := Option.some.inj ho
      rw [if_pos (by rfl)]
      obtain ⟨g, rfl, lo, rz⟩ := J.h10 (hd ⟨10, .data⟩ (by simp) rfl)
      obtain rfl := J.h7 (hd ⟨7, .data⟩ (by simp) rfl)
      refine wp_store_row 44 _ _ rfl g #[.int .i64 pr, .int .i64 pa] rfl rfl 44 #[.int .i64 0, .int .i64 0] (rz hf) (by kernel_rfl) rfl (by simp [Value.oneCell']) ?_
      exact hK2 _ _ ⟨_, _, _, _, _, _, _, _, _, _, _, _, rfl, J.s12 rfl lo (rz hf)⟩
    · obtain rfl := Option.some.inj ho
      rw [if_pos (by rfl)]
      obtain rfl := J.h8 (hd ⟨8, .data⟩ (by simp) rfl)
      refine wp_assign _ rfl ?_
      exact hK2 _ _ ⟨_, _, _, _, _, _, _, _, _, _, _, _, rfl, J.p13 rfl⟩
  intro f_ a_ w15 hI hall
  obtain ⟨v0, v1, v2, v3, v4, v5, v6, v7, v8, v9, v10, v13, rfl, J⟩ := hI
  obtain ⟨h, e4, fh, oh⟩ := J.h4 (hall 4 (by simp))
  obtain ⟨g16, e9, l6, s2, e42, r6⟩ := J.h11 (hall 11 (by simp))
  obtain ⟨g17, e10, l7, r7⟩ := J.h12 (hall 12 (by simp))
  have e13 := J.h13 (hall 13 (by simp))
  have ec : s2.cs = h.cs := by have h := e42.symm.trans e4; simp at h; exact h
  rw [ec] at r6
  have hb := J.bel
  subst e9 e10 e13
  clear J hall e4 e42 ec
  dsimp only
  clear L
  have L := hide ((unhide L0).later hb)
  clear L0
  clear LO
  have LO := hide (row_lat (unhide LO0) hb)
  clear LO0
  clear OS
  have OS := hide ((unhide OS0).later hb)
  clear OS0
  clear RS
  have RS := hide (row_lat (unhide RS0) hb)
  clear RS0
  clear RP
  have RP := hide (row_lat (unhide RP0) hb)
  clear RP0
  clear RZ
  have RZ := hide (row_lat (unhide RZ0) hb)
  clear RZ0
  clear RG
  have RG := hide (row_lat (unhide RG0) hb)
  clear RG0
  clear RQ
  have RQ := hide (row_lat (unhide RQ0) hb)
  clear RQ0
  clear OZ
  have OZ := hide ((unhide OZ0).later hb)
  clear OZ0
  clear OG
  have OG := hide ((unhide OG0).later hb)
  clear OG0
  have FH := hide fh
  have OH := hide oh
  have RH := hide r6
  have RI := hide r7
  clear fh oh r6 r7 l6 l7 hb s2
  have K := hide (eqM_any h s D w15 ((unhide FS).trans (unhide FH).symm) (small_mv (unhide OH).rd (unhide ES)) (unhide OH).rd (unhide OS).rd)
  go_wp2_with (first | (refine wpList_load_row rfl 28 _ rfl g16 rfl 28 h.cs (0, 0) _ (unhide RH) Try.underlying28 rfl (by kernel_rfl) ?_) | (refine wpList_load_row rfl 28 _ rfl g6 rfl 28 s.cs (0, 0) _ (unhide RS) Try.underlying28 rfl (by kernel_rfl) ?_))
  refine (unhide K).mono ?_
  rintro e w16 ⟨rfl, hb⟩
  have T_ := hide ((unhide L).later hb)
  clear L
  have L := hide (unhide T_)
  clear T_
  have T_ := hide (row_lat (unhide LO) hb)
  clear LO
  have LO := hide (unhide T_)
  clear T_
  have T_ := hide ((unhide OS).later hb)
  clear OS
  have OS := hide (unhide T_)
  clear T_
  have T_ := hide (row_lat (unhide RS) hb)
  clear RS
  have RS := hide (unhide T_)
  clear T_
  have T_ := hide (row_lat (unhide RP) hb)
  clear RP
  have RP := hide (unhide T_)
  clear T_
  have T_ := hide (row_lat (unhide RZ) hb)
  clear RZ
  have RZ := hide (unhide T_)
  clear T_
  have T_ := hide (row_lat (unhide RG) hb)
  clear RG
  have RG := hide (unhide T_)
  clear T_
  have T_ := hide (row_lat (unhide RQ) hb)
  clear RQ
  have RQ := hide (unhide T_)
  clear T_
  have T_ := hide ((unhide OZ).later hb)
  clear OZ
  have OZ := hide (unhide T_)
  clear T_
  have T_ := hide ((unhide OG).later hb)
  clear OG
  have OG := hide (unhide T_)
  clear T_
  have T_ := hide ((unhide OH).later hb)
  clear OH
  have OH := hide (unhide T_)
  clear T_
  have T_ := hide (row_lat (unhide RH) hb)
  clear RH
  have RH := hide (unhide T_)
  clear T_
  have T_ := hide (row_lat (unhide RI) hb)
  clear RI
  have RI := hide (unhide T_)
  clear T_
  clear hb K
  have u0 := (cell_of_row _ g17 0 _ 44 _ (unhide RI)).trans (rfl : _ = some (Value.int .i64 pr))
  have u1 := (cell_of_row _ g17 1 _ 44 _ (unhide RI)).trans (rfl : _ = some (Value.int .i64 pa))
  have t0 := (cell_of_row _ g7 0 _ 44 _ (unhide RP)).trans (rfl : _ = some (Value.int .i64 pr))
  have t1 := (cell_of_row _ g7 1 _ 44 _ (unhide RP)).trans (rfl : _ = some (Value.int .i64 pa))
  go_wp2_with fail
  clear u0 u1 t0 t1
  refine (eqPlace_any pr pa w16).mono ?_
  rintro e w17 ⟨rfl, hb⟩
  have T_ := hide ((unhide L).later hb)
  clear L
  have L := hide (unhide T_)
  clear T_
  have T_ := hide (row_lat (unhide LO) hb)
  clear LO
  have LO := hide (unhide T_)
  clear T_
  have T_ := hide ((unhide OS).later hb)
  clear OS
  have OS := hide (unhide T_)
  clear T_
  have T_ := hide (row_lat (unhide RS) hb)
  clear RS
  have RS := hide (unhide T_)
  clear T_
  have T_ := hide (row_lat (unhide RP) hb)
  clear RP
  have RP := hide (unhide T_)
  clear T_
  have T_ := hide (row_lat (unhide RZ) hb)
  clear RZ
  have RZ := hide (unhide T_)
  clear T_
  have T_ := hide (row_lat (unhide RG) hb)
  clear RG
  have RG := hide (unhide T_)
  clear T_
  have T_ := hide (row_lat (unhide RQ) hb)
  clear RQ
  have RQ := hide (unhide T_)
  clear T_
  have T_ := hide ((unhide OZ).later hb)
  clear OZ
  have OZ := hide (unhide T_)
  clear T_
  have T_ := hide ((unhide OG).later hb)
  clear OG
  have OG := hide (unhide T_)
  clear T_
  have T_ := hide ((unhide OH).later hb)
  clear OH
  have OH := hide (unhide T_)
  clear T_
  have T_ := hide (row_lat (unhide RH) hb)
  clear RH
  have RH := hide (unhide T_)
  clear T_
  have T_ := hide (row_lat (unhide RI) hb)
  clear RI
  have RI := hide (unhide T_)
  clear T_
  clear hb
  have K := hide (heldM_any g D w17 (unhide ES) (unhide OG).rd)
  rw [unhide TT] at K
  go_wp2_with (first | (refine wpList_load_row rfl 28 _ rfl g10 rfl 28 g.cs (0, 0) _ (unhide RG) Try.underlying28 rfl (by kernel_rfl) ?_))
  refine (unhide K).mono ?_
  rintro e w18 ⟨rfl, hb⟩
  have T_ := hide ((unhide L).later hb)
  clear L
  have L := hide (unhide T_)
  clear T_
  have T_ := hide (row_lat (unhide LO) hb)
  clear LO
  have LO := hide (unhide T_)
  clear T_
  have T_ := hide ((unhide OS).later hb)
  clear OS
  have OS := hide (unhide T_)
  clear T_
  have T_ := hide (row_lat (unhide RS) hb)
  clear RS
  have RS := hide (unhide T_)
  clear T_
  have T_ := hide (row_lat (unhide RP) hb)
  clear RP
  have RP := hide (unhide T_)
  clear T_
  have T_ := hide (row_lat (unhide RZ) hb)
  clear RZ
  have RZ := hide (unhide T_)
  clear T_
  have T_ := hide (row_lat (unhide RG) hb)
  clear RG
  have RG := hide (unhide T_)
  clear T_
  have T_ := hide (row_lat (unhide RQ) hb)
  clear RQ
  have RQ := hide (unhide T_)
  clear T_
  have T_ := hide ((unhide OZ).later hb)
  clear OZ
  have OZ := hide (unhide T_)
  clear T_
  have T_ := hide ((unhide OG).later hb)
  clear OG
  have OG := hide (unhide T_)
  clear T_
  have T_ := hide ((unhide OH).later hb)
  clear OH
  have OH := hide (unhide T_)
  clear T_
  have T_ := hide (row_lat (unhide RH) hb)
  clear RH
  have RH := hide (unhide T_)
  clear T_
  have T_ := hide (row_lat (unhide RI) hb)
  clear RI
  have RI := hide (unhide T_)
  clear T_
  clear hb K
  go_wp2
  go_ret
  exact ⟨rfl, (unhide L).bel⟩

set_option maxRecDepth 100000 in
theorem lifted (os : Os) (started : os.Started) (H : Type) (enc : TypeId × Value → H) :
    ReturnsInHanded {} Try.checked os 9 .any (Rows.fnExactPlaceOfSpec.pre6 enc Try.prog Try.f9 Rows.fnExactPlaceOfRow.domain false) (Rows.fnExactPlaceOfSpec.post enc Try.prog Try.f9 false true false false) := by
  refine returnsInHanded_of_change (C := Try.checked) own started (by kernel_rfl) Try.func9
    (ChangeSpec.witness6 (enc := enc) (C := Try.checked) false ⟨#[], #[.agg #[.slice none 0 0, .slice none 0 0, .bool false, .bool false, .bool false, .bool false, .slice none 0 0, .slice none 0 0, .int .i64 0], .agg #[.int .i64 0, .int .i64 0, .int .i64 0]], []⟩ 8 (by kernel_rfl) (by kernel_rfl) (by kernel_rfl) (by kernel_rfl)) ?_
  intro W base args ds gs before hval0 hW hcnd _
  have hval : ∀ (j : Nat) t v, Try.f9.params[j]? = some t → args[j]? = some v → Value.okWide Try.prog W .any base t v := hval0
  have hW' := hW
  obtain ⟨p, q, hA0, hV, rfl, hfz, hnd⟩ := hW
  have hA : DataW.TrodAll enc Try.prog W 0 (fun _ => true) true Try.f9.params.toList args.toList ds p := hA0
  rw [Try.params9] at hA hval
  obtain ⟨v0, vs0, d0, ds0, p0, q0, hargs, rfl, rfl, h0, r0⟩ := trodAll_cons hA
  obtain ⟨v1, vs1, d1, ds1, p1, q1, rfl, rfl, rfl, h1, r1⟩ := trodAll_cons r0
  obtain ⟨rfl, rfl, rfl⟩ := trodAll_nil r1
  obtain rfl : args = #[v0, v1] := by cases args; simp_all
  obtain ⟨rfl, rfl⟩ := trodVars_none hV
  have k0 := h0
  have lt0 : ∀ x ∈ p0, x.block < W.heap.size := by obtain ⟨m, hm⟩ := k0; exact DataW.trod_lt m _ _ _ hm
  obtain ⟨x0, e0, rfl, g0, y0⟩ := open_mv (hval 0 58 v0 rfl rfl) h0
  have k1 := h1
  have lt1 : ∀ x ∈ p1, x.block < W.heap.size := by obtain ⟨m, hm⟩ := k1; exact DataW.trod_lt m _ _ _ hm
  obtain ⟨o1, rfl, b1⟩ := open_od (hval 1 63 v1 rfl rfl) h1
  clear hA0 hval0
  refine (walk x0 e0 y0 o1 b1 W g0).mono fun e W' ⟨he, bel⟩ => ?_
  subst he
  exact ⟨_, rfl, _, _, _, [], _, [], hW', trodAll_mk1 (shut_bool Try.underlying4 _), (trodAll_cons_mk (Below.trod laidOut (by kernel_rfl) (of_decide_eq_true (by kernel_rfl)) k0 bel lt0) (trodAll_cons_mk (Below.trod laidOut (by kernel_rfl) (of_decide_eq_true (by kernel_rfl)) k1 bel lt1) trodAll_mk0)), rfl, bel.frame _, fun h => by cases h⟩

theorem over : Rows.fnExactPlaceOfRow.holds Try.pinned (OpenSpec.ofChange Rows.fnExactPlaceOfSpec) :=
  OpenClaim.holds_of_wide 9 Try.f9 rfl rfl rfl rfl rfl rfl rfl ⟨rfl, rfl, rfl, rfl, rfl⟩ rfl rfl rfl rfl rfl (by kernel_rfl) Try.func9 (by kernel_rfl)
    (of_decide_eq_true (by kernel_rfl)) (by unfold Func.isWrapper; first | (rw [if_pos (by decide +kernel)]; kernel_rfl) | (rw [if_neg (by decide +kernel)]; exact ⟨rfl, rfl⟩))
    (fun os started H enc _ => lifted os started H enc)

theorem proved : Rows.FnExactPlaceOfSaid := over
end Go.Proofs.Ytfkmibgamkignaa.fnExactPlaceOf

namespace Go.Proofs.Ytfkmibgamkignaa
theorem fnExactPlaceOf_holds : Rows.FnExactPlaceOfSaid := fnExactPlaceOf.proved
#print axioms fnExactPlaceOf_holds
end Go.Proofs.Ytfkmibgamkignaa
