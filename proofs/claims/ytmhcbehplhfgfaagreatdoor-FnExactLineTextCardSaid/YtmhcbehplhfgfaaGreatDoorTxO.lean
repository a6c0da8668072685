/- Contracts over this seat's translation, laid together; conditions stand as hypotheses of each. -/
import Derived.Test.YtmhcbehplhfgfaaGreatDoorTxA
import Derived.Test.YtmhcbehplhfgfaaGreatDoorTxB
import Derived.Test.YtmhcbehplhfgfaaGreatDoorTxD
import Derived.Test.YtmhcbehplhfgfaaGreatDoorTxE
import Derived.Test.YtmhcbehplhfgfaaGreatDoorTxH
import Derived.Test.YtmhcbehplhfgfaaGreatDoorTxM
import Derived.Test.YtmhcbehplhfgfaaGreatDoorTxN
import Derived.Laws.Rows
import Derived.Lib.Builder
import Derived.Deep.Slices
import Derived.Laws.AppendOwn
import Derived.Deep.RegionWith

namespace Go.Proofs.YtmhcbehplhfgfaaGreatDoor
open Go.ChangeShapes Go.WideShapes Go.ChangeAt Go.RowKit
set_option linter.unusedVariables false
set_option maxRecDepth 8000
set_option linter.unusedSimpArgs false
/-- An operand of a line. -/
def agAt (x : Ln) (j : Nat) : Ag := (lnA x).getD j ⟨0, 0, ⟨0, 0, E0, []⟩⟩
theorem agAt_mem {x : Ln} {j : Nat} (h : j < (lnA x).length) : agAt x j ∈ lnA x := by simp [agAt, List.getD_eq_getElem?_getD, h]
theorem opP_at {x : Ln} {j : Nat} (h : j < (lnA x).length) : ((lnA x).map opP).getD j ⟨undef, 0, 0⟩ = opP (agAt x j) := by simp [agAt, List.getD_eq_getElem?_getD, h]
theorem tv_at {l : List Ex} {j : Nat} (h : j < l.length) : (l.map tv).getD j undef = tv (xAt l j) := by simp [xAt, List.getD_eq_getElem?_getD, h]
theorem agT_take {x : Ln} {j : Nat} (h : j < (lnA x).length) : ((lnA x).take (j + 1)).map agT = ((lnA x).take j).map agT ++ [agT (agAt x j)] := by
  rw [List.take_succ_eq_append_getElem h, List.map_append]
  simp [agAt, List.getD_eq_getElem?_getD, h]
theorem tok_take {l : List Ex} {j : Nat} (h : j < l.length) : (l.take (j + 1)).map (toksF 6) = (l.take j).map (toksF 6) ++ [toksF 6 (xAt l j)] := by
  rw [List.take_succ_eq_append_getElem h, List.map_append]
  simp [xAt, List.getD_eq_getElem?_getD, h]
theorem opU_if (a : Ag) : IfV (opU a) := by
  unfold opU
  split
  · obtain ⟨t, x, e⟩ := tv_if a.e; exact .inr ⟨t, x, e⟩
  · exact .inl rfl
theorem ptm_new (e : Ex) (ok : okF 6 true e = true) (w : World) (hg : TabG w) : Calls Tryz.prog 45 #[.slice none 0 0, tv e] w fun r w' => ∃ v, r = .returned v ∧ OwnT w' w.heap.size v (toksF 6 e) ∧ Below w.heap.size w w' :=
  (put_all 6 (by omega) e [] (.slice none 0 0) w.heap.size w ok (ownT_none _ _) (Nat.le_refl _) (by have := mxT_le 6 (by omega); simp; omega) hg hg.lt).mono fun r w' ⟨v, h1, h2, h3, _⟩ => ⟨v, h1, by rw [List.nil_append] at h2; exact h2, h3⟩
set_option maxHeartbeats 8000000 in
theorem bhI_any (x : Ln) (ok : lnX x = true) (e1 : Option Addr) (i1 j1 : Nat) (e2 : Option Addr) (i2 j2 : Nat) (B : Nat) (w : World) (ha : OwnA w B (.slice e1 i1 j1) (lnO x)) (hv : OwnV w B (.slice e2 i2 j2) (x.l.map tv)) (ht : TabA w) (hg : TabG w) : Calls Tryz.prog 18 #[.agg #[.int .i64 x.k, .string x.s, .int .i64 x.op, .int .i64 x.n, .slice e1 i1 j1, .slice e2 i2 j2]] w fun r w' => ∃ v, r = .returned v ∧ OwnL w' w.heap.size v (bhT x) ∧ Below w.heap.size w w' := by
  obtain ⟨hi1, HA⟩ := ha.at_
  obtain ⟨hi2, HV⟩ := hv.at_
  rw [lnO_is, List.length_map] at hi1
  rw [List.length_map] at hi2
  rw [lnO_is] at HA
  have lo1 : i1 ≤ 2 := by rw [hi1]; exact lnA_len x
  have lo2 : i2 ≤ 6 := by rw [hi2]; exact (lnL_ok ok).2
  have AOK := hide (fun j (h : j < i1) => lnA_ok ok _ (agAt_mem (x := x) (j := j) (by omega)))
  have LOK := hide (fun j (h : j < i2) => List.all_eq_true.1 (lnL_ok ok).1 _ (xAt_mem (l := x.l) (i := j) (by omega)))
  have AC := hide (fun j (h : j < i1) => (show ∃ g, e1 = some ⟨g, 0, none⟩ ∧ g < w.heap.size ∧ w.cell? ⟨g, j * 3, none⟩ = some (opU (agAt x j)) ∧ w.cell? ⟨g, j * 3 + 1, none⟩ = some (.int .i64 (agAt x j).f) ∧ w.cell? ⟨g, j * 3 + 2, none⟩ = some (.int .i64 (agAt x j).r) by
    have h2 := HA j (by rw [List.length_map]; omega)
    rw [opP_at (x := x) (j := j) (by omega)] at h2
    exact h2))
  have VC := hide (fun j (h : j < i2) => (show ∃ g, e2 = some ⟨g, 0, none⟩ ∧ g < w.heap.size ∧ w.cell? ⟨g, j, none⟩ = some (tv (xAt x.l j)) by
    have h2 := HV j (by rw [List.length_map]; omega)
    rw [tv_at (l := x.l) (j := j) (by omega)] at h2
    exact h2))
  have TA := hide (fun j (h : j < i1) => agT_take (x := x) (j := j) (by omega))
  have TE := hide (fun j (h : j < i2) => tok_take (l := x.l) (j := j) (by omega))
  have EA := hide (show (lnA x).take i1 = lnA x by rw [hi1, List.take_length])
  have EV := hide (show x.l.take i2 = x.l by rw [hi2, List.take_length])
  have NMo := hide (ln_nm ok)
  have RGo := hide (ln_rg ok)
  have RK := hide (show x.k = 6 → regB x.op = false from fun h => by have := ln_f ok; rw [show x.op = 0 by omega]; rfl)
  obtain ⟨T, hT⟩ : ∃ T, bhT x = T := ⟨_, rfl⟩
  have HT := hide hT
  rw [hT]
  unfold bhT at HT
  clear hT HA HV hi1 hi2 ha hv ok
  have hbW := below_new w (.cells #[.int .i64 x.k, .string x.s, .int .i64 x.op, .int .i64 x.n, .slice e1 i1 j1, .slice e2 i2 j2] 52)
  obtain ⟨W, hW⟩ : ∃ W, w.alloc (.cells #[.int .i64 x.k, .string x.s, .int .i64 x.op, .int .i64 x.n, .slice e1 i1 j1, .slice e2 i2 j2] 52) = W := ⟨_, rfl⟩
  have rM : W.heap[w.heap.size]? = some (.cells #[.int .i64 x.k, .string x.s, .int .i64 x.op, .int .i64 x.n, .slice e1 i1 j1, .slice e2 i2 j2] 52 (0, 0)) := by rw [← hW]; exact Array.getElem?_push_size
  rw [hW] at hbW
  have lM := (Array.getElem?_eq_some_iff.1 rM).1
  have ne := Sub.ne W.heap.size W
  have HZ := hide (Nat.le_refl W.heap.size)
  have HB := hide (fun y : Sub W.heap.size W => hbW.trans (y.h.mono hbW.size))
  have HO := hide (fun (y : Sub W.heap.size W) v ps (h : OwnL y.w W.heap.size v ps) => h.base hbW.size)
  have C0 : ∀ y : Sub W.heap.size W, y.w.cell? ⟨w.heap.size, 0, none⟩ = some (.int .i64 x.k) := fun y => (y.h.cell (p := ⟨w.heap.size, 0, none⟩) lM).trans (Lib.cell_of_heap rM 0)
  have C1 : ∀ y : Sub W.heap.size W, y.w.cell? ⟨w.heap.size, 1, none⟩ = some (.string x.s) := fun y => (y.h.cell (p := ⟨w.heap.size, 1, none⟩) lM).trans (Lib.cell_of_heap rM 1)
  have C2 : ∀ y : Sub W.heap.size W, y.w.cell? ⟨w.heap.size, 2, none⟩ = some (.int .i64 x.op) := fun y => (y.h.cell (p := ⟨w.heap.size, 2, none⟩) lM).trans (Lib.cell_of_heap rM 2)
  have C3 : ∀ y : Sub W.heap.size W, y.w.cell? ⟨w.heap.size, 3, none⟩ = some (.int .i64 x.n) := fun y => (y.h.cell (p := ⟨w.heap.size, 3, none⟩) lM).trans (Lib.cell_of_heap rM 3)
  have C4 : ∀ y : Sub W.heap.size W, y.w.cell? ⟨w.heap.size, 4, none⟩ = some (.slice e1 i1 j1) := fun y => (y.h.cell (p := ⟨w.heap.size, 4, none⟩) lM).trans (Lib.cell_of_heap rM 4)
  have C5 : ∀ y : Sub W.heap.size W, y.w.cell? ⟨w.heap.size, 5, none⟩ = some (.slice e2 i2 j2) := fun y => (y.h.cell (p := ⟨w.heap.size, 5, none⟩) lM).trans (Lib.cell_of_heap rM 5)
  have RB := hide (fun w1 => regB_any x.op w1)
  have WD := hide (fun s (y : Sub W.heap.size W) => wordI_any s y.w (ht.k.next (unhide HB y)))
  have RG := hide (fun r (hr : r < 8) (y : Sub W.heap.size W) => regI r hr y.w (ht.k.next (unhide HB y)))
  have TKN := hide (fun j (h : j < i1) (y : Sub W.heap.size W) => opt_any (agAt x j) (unhide AOK j h) y.w (ht.next (unhide HB y)) (hg.later (unhide HB y) hg.lt))
  have PTN := hide (fun j (h : j < i2) (y : Sub W.heap.size W) => ptm_new (xAt x.l j) (unhide LOK j h) y.w (hg.later (unhide HB y) hg.lt))
  have OUj := hide (fun j => opU_if (agAt x j))
  have AC := hide (fun j (h : j < i1) => (show ∃ g, e1 = some ⟨g, 0, none⟩ ∧ ∀ y : Sub W.heap.size W, y.w.cell? ⟨g, j * 3, none⟩ = some (opU (agAt x j)) ∧ y.w.cell? ⟨g, j * 3 + 1, none⟩ = some (.int .i64 (agAt x j).f) ∧ y.w.cell? ⟨g, j * 3 + 2, none⟩ = some (.int .i64 (agAt x j).r) by
    obtain ⟨g, h0, h1, h2, h3, h4⟩ := unhide AC j h
    exact ⟨g, h0, fun y => ⟨((unhide HB y).cell (p := ⟨g, j * 3, none⟩) h1).trans h2, ((unhide HB y).cell (p := ⟨g, j * 3 + 1, none⟩) h1).trans h3, ((unhide HB y).cell (p := ⟨g, j * 3 + 2, none⟩) h1).trans h4⟩⟩))
  have VC := hide (fun j (h : j < i2) => (show ∃ g, e2 = some ⟨g, 0, none⟩ ∧ ∀ y : Sub W.heap.size W, y.w.cell? ⟨g, j, none⟩ = some (tv (xAt x.l j)) by
    obtain ⟨g, h0, h1, h2⟩ := unhide VC j h
    exact ⟨g, h0, fun y => ((unhide HB y).cell (p := ⟨g, j, none⟩) h1).trans h2⟩))
  obtain ⟨y0, hy0⟩ : ∃ z : Sub W.heap.size W, W = z.w := ⟨⟨W, Below.refl _ _⟩, rfl⟩
  rw [hy0] at hW
  clear lM rM hbW ht hg hy0 AOK LOK
  generalize x.k = k at *
  generalize x.n = n at *
  generalize x.op = op at *
  generalize x.s = s at *
  have L0 := hide (ownL_none y0.w W.heap.size)
  by_cases hk6 : k = 6
  · subst hk6
    have hq := unhide RK rfl
    rw [hq] at RB
    have W1 := hide (fun y : Sub W.heap.size W => unhide WD s y)
    rw [name_word (unhide NMo (by simp))] at W1
    have W2 := hide (fun y : Sub W.heap.size W => unhide WD ovrS y)
    rw [ovr_word] at W2
    unfold ovrS at W2
    unfold Tk.v Tk.cs at W1 W2
    simp only at W1 W2
    clear WD RG RGo NMo RK
    by_cases hn1 : n = 1
    · subst hn1
      go_enter Tryz.func18, Tryz.ntmps18
      go_wp2_with fail
      refine (unhide W1 y0).mono ?_
      rintro r w1 ⟨rfl, hb⟩
      have L1 := hide ((unhide L0).later hb)
      obtain ⟨y1, rfl⟩ := Sub.step (unhide HZ) hb
      clear hb L0
      have hb := below_new y1.w (.cells #[.int .i64 1, .int .i64 0, .string s] 59)
      obtain ⟨y2, hy2⟩ := Sub.step (unhide HZ) hb
      have L2 := hide (show OwnL y2.w W.heap.size (.slice none 0 0) ([]) by rw [← hy2]; exact (unhide L1).later hb)
      have P2 := hide (show OwnT y2.w W.heap.size (.slice (some ⟨y1.w.heap.size, 0, none⟩) 1 1) [(Tk.mk 1 0 s)] by rw [← hy2]; exact ownT_new y1.w (Tk.mk 1 0 s) W.heap.size (Nat.le_trans (unhide HZ) y1.h.size))
      clear hb L1
      have hb := below_new y2.w (.cells #[.slice (some ⟨y1.w.heap.size, 0, none⟩) 1 1] 45)
      obtain ⟨y3, hy3⟩ := Sub.step (unhide HZ) hb
      have L3 := hide (show OwnL y3.w W.heap.size (.slice none 0 0) ([]) by rw [← hy3]; exact (unhide L2).later hb)
      have P3 := hide (show OwnT y3.w W.heap.size (.slice (some ⟨y1.w.heap.size, 0, none⟩) 1 1) [(Tk.mk 1 0 s)] by rw [← hy3]; exact (unhide P2).later hb)
      have G3 := hide (show y3.w.heap[y2.w.heap.size]? = some (.cells #[.slice (some ⟨y1.w.heap.size, 0, none⟩) 1 1] 45 (0, 0)) by rw [← hy3]; exact Array.getElem?_push_size)
      clear hb L2 P2
      go_wp2_with (at_builtin; go_must (refine appL rfl _ _ rfl (unhide HZ) y3.h rfl (unhide L3) y2.w.heap.size (.slice (some ⟨y1.w.heap.size, 0, none⟩) 1 1) [(Tk.mk 1 0 s)] rfl (unhide G3) (unhide P3) (by simp) ?_; intro v4 y4 hO; have L4 := hide hO; clear hO))
      refine (unhide W2 y4).mono ?_
      rintro r w5 ⟨rfl, hb⟩
      have L5 := hide ((unhide L4).later hb)
      obtain ⟨y5, rfl⟩ := Sub.step (unhide HZ) hb
      clear hb L4
      have hb := below_new y5.w (.cells #[.int .i64 1, .int .i64 0, .string ⟨#[111, 118, 101, 114]⟩] 59)
      obtain ⟨y6, hy6⟩ := Sub.step (unhide HZ) hb
      have L6 := hide (show OwnL y6.w W.heap.size v4 ([] ++ [[(Tk.mk 1 0 s)]]) by rw [← hy6]; exact (unhide L5).later hb)
      have P6 := hide (show OwnT y6.w W.heap.size (.slice (some ⟨y5.w.heap.size, 0, none⟩) 1 1) [(Tk.mk 1 0 ⟨#[111, 118, 101, 114]⟩)] by rw [← hy6]; exact ownT_new y5.w (Tk.mk 1 0 ⟨#[111, 118, 101, 114]⟩) W.heap.size (Nat.le_trans (unhide HZ) y5.h.size))
      clear hb L5
      have hb := below_new y6.w (.cells #[.slice (some ⟨y5.w.heap.size, 0, none⟩) 1 1] 45)
      obtain ⟨y7, hy7⟩ := Sub.step (unhide HZ) hb
      have L7 := hide (show OwnL y7.w W.heap.size v4 ([] ++ [[(Tk.mk 1 0 s)]]) by rw [← hy7]; exact (unhide L6).later hb)
      have P7 := hide (show OwnT y7.w W.heap.size (.slice (some ⟨y5.w.heap.size, 0, none⟩) 1 1) [(Tk.mk 1 0 ⟨#[111, 118, 101, 114]⟩)] by rw [← hy7]; exact (unhide P6).later hb)
      have G7 := hide (show y7.w.heap[y6.w.heap.size]? = some (.cells #[.slice (some ⟨y5.w.heap.size, 0, none⟩) 1 1] 45 (0, 0)) by rw [← hy7]; exact Array.getElem?_push_size)
      clear hb L6 P6
      go_wp2_with (first | (go_at_call 42; refine (unhide RB _).mono ?_; rintro r w' ⟨rfl, hw'⟩; rw [hw']; clear hw' w') | (at_builtin; go_must (refine appL rfl _ _ rfl (unhide HZ) y7.h rfl (unhide L7) y6.w.heap.size (.slice (some ⟨y5.w.heap.size, 0, none⟩) 1 1) [(Tk.mk 1 0 ⟨#[111, 118, 101, 114]⟩)] rfl (unhide G7) (unhide P7) (by simp) ?_; intro v8 y8 hO; have L8 := hide hO; clear hO)))
      obtain ⟨P, hP⟩ : ∃ P, ([] ++ [[(Tk.mk 1 0 s)]] ++ [[(Tk.mk 1 0 ⟨#[111, 118, 101, 114]⟩)]] : List (List Tk)) = P := ⟨_, rfl⟩
      have lP : P.length ≤ 3 := by rw [← hP]; simp
      have HP := hide hP
      have HE := hide (show P ++ ((lnA x).map agT ++ x.l.map (toksF 6)) = T by rw [← unhide HT, ← hP]; simp [hq, ovrS])
      clear hP
      go_loopw [3, 39] (fun v i wr => ∃ (j : Nat) (z : Sub W.heap.size W), j ≤ i1 ∧ i = .int .i64 j ∧ OwnL z.w W.heap.size v (P ++ ((lnA x).take j).map agT) ∧ wr = z.w) (fun _ i _ => i1 - (intOf i).toNat)
      case atStart => exact ⟨0, y8, Nat.zero_le _, rfl, by rw [← unhide HP]; exact unhide L8, rfl⟩
      case round =>
        obtain ⟨j, z, hj, rfl, hown, rfl⟩ := hrel
        by_cases hlt : j < i1
        · obtain ⟨g, rfl, hc⟩ := unhide AC j hlt
          obtain ⟨c0, c1, c2⟩ := hc z
          have T2 := hide (unhide TA j hlt)
          have TK := hide (unhide TKN j hlt)
          have OW := hide hown
          have hjn : ¬ ((i1 : Int) ≤ (j : Int)) := by omega
          have OU := unhide OUj j
          clear hc hown
          generalize (agAt x j).f = af at *
          generalize (agAt x j).r = ar at *
          generalize agT (agAt x j) = at_ at *
          generalize opU (agAt x j) = ou at *
          rcases OU with rfl | ⟨tt, xx, rfl⟩
          · have hb1 := below_new z.w (.cells #[.nilIface, .int .i64 af, .int .i64 ar] 87)
            obtain ⟨z1, hz1⟩ := Sub.step (unhide HZ) hb1
            have G1 := hide (show z1.w.heap[z.w.heap.size]? = some (.cells #[.nilIface, .int .i64 af, .int .i64 ar] 87 (0, 0)) by rw [← hz1]; exact Array.getElem?_push_size)
            have L1 := hide (show OwnL z1.w W.heap.size u3 (P ++ ((lnA x).take j).map agT) by rw [← hz1]; exact (unhide OW).later hb1)
            have C1 := hide (unhide TK z1)
            clear hb1 OW TK
            go_wp2_with (refine wpList_load_row rfl 87 _ rfl z.w.heap.size rfl 87 #[.nilIface, .int .i64 af, .int .i64 ar] (0, 0) _ (unhide G1) Tryz.underlying87 rfl (by kernel_rfl) ?_)
            refine (unhide C1).mono ?_
            rintro r w2 ⟨pv, rfl, hO, hb⟩
            have L2 := hide ((unhide L1).later hb)
            have PO := hide (hO.base (show W.heap.size ≤ z1.w.heap.size from z1.h.size))
            obtain ⟨z2, rfl⟩ := Sub.step (unhide HZ) hb
            clear hO hb L1 C1 G1 c0 c1 c2 hz1
            obtain ⟨ca, cc, hpv, _⟩ := (unhide PO).rd
            subst hpv
            generalize at_.length = tl at *
            have hb3 := below_new z2.w (.cells #[.slice ca tl cc] 45)
            obtain ⟨z3, hz3⟩ := Sub.step (unhide HZ) hb3
            have L3 := hide (show OwnL z3.w W.heap.size u3 (P ++ ((lnA x).take j).map agT) by rw [← hz3]; exact (unhide L2).later hb3)
            have P3 := hide (show OwnT z3.w W.heap.size (.slice ca tl cc) at_ by rw [← hz3]; exact (unhide PO).later hb3)
            have G3 := hide (show z3.w.heap[z2.w.heap.size]? = some (.cells #[.slice ca tl cc] 45 (0, 0)) by rw [← hz3]; exact Array.getElem?_push_size)
            have LN := hide (show (P ++ ((lnA x).take j).map agT).length ≤ 1000 by simp; omega)
            clear hb3 L2 PO
            go_wp2_with (at_builtin; go_must (refine appL rfl _ _ rfl (unhide HZ) z3.h rfl (unhide L3) z2.w.heap.size (.slice ca tl cc) at_ rfl (unhide G3) (unhide P3) (unhide LN) ?_; intro v4 z4 hO; have L4 := hide hO; clear hO))
            go_roundw
            case rel => exact ⟨j + 1, z4, by omega, by go_num, by rw [unhide T2, ← List.append_assoc]; exact unhide L4, rfl⟩
            case measure => simp [intOf]; omega
          · have hb1 := below_new z.w (.cells #[.iface tt xx, .int .i64 af, .int .i64 ar] 87)
            obtain ⟨z1, hz1⟩ := Sub.step (unhide HZ) hb1
            have G1 := hide (show z1.w.heap[z.w.heap.size]? = some (.cells #[.iface tt xx, .int .i64 af, .int .i64 ar] 87 (0, 0)) by rw [← hz1]; exact Array.getElem?_push_size)
            have L1 := hide (show OwnL z1.w W.heap.size u3 (P ++ ((lnA x).take j).map agT) by rw [← hz1]; exact (unhide OW).later hb1)
            have C1 := hide (unhide TK z1)
            clear hb1 OW TK
            go_wp2_with (refine wpList_load_row rfl 87 _ rfl z.w.heap.size rfl 87 #[.iface tt xx, .int .i64 af, .int .i64 ar] (0, 0) _ (unhide G1) Tryz.underlying87 rfl (by kernel_rfl) ?_)
            refine (unhide C1).mono ?_
            rintro r w2 ⟨pv, rfl, hO, hb⟩
            have L2 := hide ((unhide L1).later hb)
            have PO := hide (hO.base (show W.heap.size ≤ z1.w.heap.size from z1.h.size))
            obtain ⟨z2, rfl⟩ := Sub.step (unhide HZ) hb
            clear hO hb L1 C1 G1 c0 c1 c2 hz1
            obtain ⟨ca, cc, hpv, _⟩ := (unhide PO).rd
            subst hpv
            generalize at_.length = tl at *
            have hb3 := below_new z2.w (.cells #[.slice ca tl cc] 45)
            obtain ⟨z3, hz3⟩ := Sub.step (unhide HZ) hb3
            have L3 := hide (show OwnL z3.w W.heap.size u3 (P ++ ((lnA x).take j).map agT) by rw [← hz3]; exact (unhide L2).later hb3)
            have P3 := hide (show OwnT z3.w W.heap.size (.slice ca tl cc) at_ by rw [← hz3]; exact (unhide PO).later hb3)
            have G3 := hide (show z3.w.heap[z2.w.heap.size]? = some (.cells #[.slice ca tl cc] 45 (0, 0)) by rw [← hz3]; exact Array.getElem?_push_size)
            have LN := hide (show (P ++ ((lnA x).take j).map agT).length ≤ 1000 by simp; omega)
            clear hb3 L2 PO
            go_wp2_with (at_builtin; go_must (refine appL rfl _ _ rfl (unhide HZ) z3.h rfl (unhide L3) z2.w.heap.size (.slice ca tl cc) at_ rfl (unhide G3) (unhide P3) (unhide LN) ?_; intro v4 z4 hO; have L4 := hide hO; clear hO))
            go_roundw
            case rel => exact ⟨j + 1, z4, by omega, by go_num, by rw [unhide T2, ← List.append_assoc]; exact unhide L4, rfl⟩
            case measure => simp [intOf]; omega
        · obtain rfl : j = i1 := by omega
          rw [unhide EA] at hown
          have OW := hide hown
          clear hown
          go_wp2
          obtain ⟨P2, hP2⟩ : ∃ P2, P ++ (lnA x).map agT = P2 := ⟨_, rfl⟩
          have lP2 : P2.length ≤ 5 := by rw [← hP2]; have := congrArg List.length (unhide EA); simp at this; simp; omega
          have HE2 := hide (show P2 ++ x.l.map (toksF 6) = T by rw [← hP2, List.append_assoc]; exact unhide HE)
          rw [hP2] at OW
          clear hP2 HE AC TKN OUj TA EA HP
          go_loopw [3, 52] (fun v i wr => ∃ (j : Nat) (z : Sub W.heap.size W), j ≤ i2 ∧ i = .int .i64 j ∧ OwnL z.w W.heap.size v (P2 ++ (x.l.take j).map (toksF 6)) ∧ wr = z.w) (fun _ i _ => i2 - (intOf i).toNat)
          case atStart => exact ⟨0, z, Nat.zero_le _, rfl, by simpa using unhide OW, rfl⟩
          case round =>
            clear OW
            obtain ⟨j2_, z, hj2, rfl, hown, rfl⟩ := hrel
            by_cases hlt : j2_ < i2
            · obtain ⟨g, rfl, hc⟩ := unhide VC j2_ hlt
              have T2 := hide (unhide TE j2_ hlt)
              have TK := hide (unhide PTN j2_ hlt)
              have OW := hide hown
              have hjn : ¬ ((i2 : Int) ≤ (j2_ : Int)) := by omega
              have c0 := hc z
              clear hc hown
              obtain ⟨tt, xx, ett⟩ := tv_if (xAt x.l j2_)
              rw [ett] at TK c0
              clear ett
              generalize toksF 6 (xAt x.l j2_) = at_ at *
              go_wp2_with fail
              refine (unhide TK z).mono ?_
              rintro r w2 ⟨pv, rfl, hO, hb⟩
              have L2 := hide ((unhide OW).later hb)
              have PO := hide (hO.base (show W.heap.size ≤ z.w.heap.size from z.h.size))
              obtain ⟨z2, rfl⟩ := Sub.step (unhide HZ) hb
              clear hO hb OW c0 TK
              obtain ⟨ca, cc, hpv, _⟩ := (unhide PO).rd
              subst hpv
              generalize at_.length = tl at *
              have hb3 := below_new z2.w (.cells #[.slice ca tl cc] 45)
              obtain ⟨z3, hz3⟩ := Sub.step (unhide HZ) hb3
              have L3 := hide (show OwnL z3.w W.heap.size _ (P2 ++ (x.l.take j2_).map (toksF 6)) by rw [← hz3]; exact (unhide L2).later hb3)
              have P3 := hide (show OwnT z3.w W.heap.size (.slice ca tl cc) at_ by rw [← hz3]; exact (unhide PO).later hb3)
              have G3 := hide (show z3.w.heap[z2.w.heap.size]? = some (.cells #[.slice ca tl cc] 45 (0, 0)) by rw [← hz3]; exact Array.getElem?_push_size)
              have LN := hide (show (P2 ++ (x.l.take j2_).map (toksF 6)).length ≤ 1000 by simp; omega)
              clear hb3 L2 PO
              go_wp2_with (at_builtin; go_must (refine appL rfl _ _ rfl (unhide HZ) z3.h rfl (unhide L3) z2.w.heap.size (.slice ca tl cc) at_ rfl (unhide G3) (unhide P3) (unhide LN) ?_; intro v4 z4 hO; have L4 := hide hO; clear hO))
              go_roundw
              case rel => exact ⟨j2_ + 1, z4, by omega, by go_num, by rw [unhide T2, ← List.append_assoc]; exact unhide L4, rfl⟩
              case measure => simp [intOf]; omega
            · obtain rfl : j2_ = i2 := by omega
              rw [unhide EV, unhide HE2] at hown
              have OW := hide hown
              clear hown
              go_wp2
              go_ret
              exact ⟨_, rfl, unhide HO _ _ _ (unhide OW), unhide HB z⟩
    · have gn1 : (n == 1) = false := beq_eq_false_iff_ne.2 hn1
      go_enter Tryz.func18, Tryz.ntmps18
      go_wp2_with fail
      refine (unhide W1 y0).mono ?_
      rintro r w1 ⟨rfl, hb⟩
      have L1 := hide ((unhide L0).later hb)
      obtain ⟨y1, rfl⟩ := Sub.step (unhide HZ) hb
      clear hb L0
      have hb := below_new y1.w (.cells #[.int .i64 1, .int .i64 0, .string s] 59)
      obtain ⟨y2, hy2⟩ := Sub.step (unhide HZ) hb
      have L2 := hide (show OwnL y2.w W.heap.size (.slice none 0 0) ([]) by rw [← hy2]; exact (unhide L1).later hb)
      have P2 := hide (show OwnT y2.w W.heap.size (.slice (some ⟨y1.w.heap.size, 0, none⟩) 1 1) [(Tk.mk 1 0 s)] by rw [← hy2]; exact ownT_new y1.w (Tk.mk 1 0 s) W.heap.size (Nat.le_trans (unhide HZ) y1.h.size))
      clear hb L1
      have hb := below_new y2.w (.cells #[.slice (some ⟨y1.w.heap.size, 0, none⟩) 1 1] 45)
      obtain ⟨y3, hy3⟩ := Sub.step (unhide HZ) hb
      have L3 := hide (show OwnL y3.w W.heap.size (.slice none 0 0) ([]) by rw [← hy3]; exact (unhide L2).later hb)
      have P3 := hide (show OwnT y3.w W.heap.size (.slice (some ⟨y1.w.heap.size, 0, none⟩) 1 1) [(Tk.mk 1 0 s)] by rw [← hy3]; exact (unhide P2).later hb)
      have G3 := hide (show y3.w.heap[y2.w.heap.size]? = some (.cells #[.slice (some ⟨y1.w.heap.size, 0, none⟩) 1 1] 45 (0, 0)) by rw [← hy3]; exact Array.getElem?_push_size)
      clear hb L2 P2
      go_wp2_with (first | (go_at_call 42; refine (unhide RB _).mono ?_; rintro r w' ⟨rfl, hw'⟩; rw [hw']; clear hw' w') | (at_builtin; go_must (refine appL rfl _ _ rfl (unhide HZ) y3.h rfl (unhide L3) y2.w.heap.size (.slice (some ⟨y1.w.heap.size, 0, none⟩) 1 1) [(Tk.mk 1 0 s)] rfl (unhide G3) (unhide P3) (by simp) ?_; intro v4 y4 hO; have L4 := hide hO; clear hO)))
      obtain ⟨P, hP⟩ : ∃ P, ([] ++ [[(Tk.mk 1 0 s)]] : List (List Tk)) = P := ⟨_, rfl⟩
      have lP : P.length ≤ 3 := by rw [← hP]; simp
      have HP := hide hP
      have HE := hide (show P ++ ((lnA x).map agT ++ x.l.map (toksF 6)) = T by rw [← unhide HT, ← hP]; simp [hq, hn1])
      clear hP
      go_loopw [3, 39] (fun v i wr => ∃ (j : Nat) (z : Sub W.heap.size W), j ≤ i1 ∧ i = .int .i64 j ∧ OwnL z.w W.heap.size v (P ++ ((lnA x).take j).map agT) ∧ wr = z.w) (fun _ i _ => i1 - (intOf i).toNat)
      case atStart => exact ⟨0, y4, Nat.zero_le _, rfl, by rw [← unhide HP]; exact unhide L4, rfl⟩
      case round =>
        obtain ⟨j, z, hj, rfl, hown, rfl⟩ := hrel
        by_cases hlt : j < i1
        · obtain ⟨g, rfl, hc⟩ := unhide AC j hlt
          obtain ⟨c0, c1, c2⟩ := hc z
          have T2 := hide (unhide TA j hlt)
          have TK := hide (unhide TKN j hlt)
          have OW := hide hown
          have hjn : ¬ ((i1 : Int) ≤ (j : Int)) := by omega
          have OU := unhide OUj j
          clear hc hown
          generalize (agAt x j).f = af at *
          generalize (agAt x j).r = ar at *
          generalize agT (agAt x j) = at_ at *
          generalize opU (agAt x j) = ou at *
          rcases OU with rfl | ⟨tt, xx, rfl⟩
          · have hb1 := below_new z.w (.cells #[.nilIface, .int .i64 af, .int .i64 ar] 87)
            obtain ⟨z1, hz1⟩ := Sub.step (unhide HZ) hb1
            have G1 := hide (show z1.w.heap[z.w.heap.size]? = some (.cells #[.nilIface, .int .i64 af, .int .i64 ar] 87 (0, 0)) by rw [← hz1]; exact Array.getElem?_push_size)
            have L1 := hide (show OwnL z1.w W.heap.size u3 (P ++ ((lnA x).take j).map agT) by rw [← hz1]; exact (unhide OW).later hb1)
            have C1 := hide (unhide TK z1)
            clear hb1 OW TK
            go_wp2_with (refine wpList_load_row rfl 87 _ rfl z.w.heap.size rfl 87 #[.nilIface, .int .i64 af, .int .i64 ar] (0, 0) _ (unhide G1) Tryz.underlying87 rfl (by kernel_rfl) ?_)
            refine (unhide C1).mono ?_
            rintro r w2 ⟨pv, rfl, hO, hb⟩
            have L2 := hide ((unhide L1).later hb)
            have PO := hide (hO.base (show W.heap.size ≤ z1.w.heap.size from z1.h.size))
            obtain ⟨z2, rfl⟩ := Sub.step (unhide HZ) hb
            clear hO hb L1 C1 G1 c0 c1 c2 hz1
            obtain ⟨ca, cc, hpv, _⟩ := (unhide PO).rd
            subst hpv
            generalize at_.length = tl at *
            have hb3 := below_new z2.w (.cells #[.slice ca tl cc] 45)
            obtain ⟨z3, hz3⟩ := Sub.step (unhide HZ) hb3
            have L3 := hide (show OwnL z3.w W.heap.size u3 (P ++ ((lnA x).take j).map agT) by rw [← hz3]; exact (unhide L2).later hb3)
            have P3 := hide (show OwnT z3.w W.heap.size (.slice ca tl cc) at_ by rw [← hz3]; exact (unhide PO).later hb3)
            have G3 := hide (show z3.w.heap[z2.w.heap.size]? = some (.cells #[.slice ca tl cc] 45 (0, 0)) by rw [← hz3]; exact Array.getElem?_push_size)
            have LN := hide (show (P ++ ((lnA x).take j).map agT).length ≤ 1000 by simp; omega)
            clear hb3 L2 PO
            go_wp2_with (at_builtin; go_must (refine appL rfl _ _ rfl (unhide HZ) z3.h rfl (unhide L3) z2.w.heap.size (.slice ca tl cc) at_ rfl (unhide G3) (unhide P3) (unhide LN) ?_; intro v4 z4 hO; have L4 := hide hO; clear hO))
            go_roundw
            case rel => exact ⟨j + 1, z4, by omega, by go_num, by rw [unhide T2, ← List.append_assoc]; exact unhide L4, rfl⟩
            case measure => simp [intOf]; omega
          · have hb1 := below_new z.w (.cells #[.iface tt xx, .int .i64 af, .int .i64 ar] 87)
            obtain ⟨z1, hz1⟩ := Sub.step (unhide HZ) hb1
            have G1 := hide (show z1.w.heap[z.w.heap.size]? = some (.cells #[.iface tt xx, .int .i64 af, .int .i64 ar] 87 (0, 0)) by rw [← hz1]; exact Array.getElem?_push_size)
            have L1 := hide (show OwnL z1.w W.heap.size u3 (P ++ ((lnA x).take j).map agT) by rw [← hz1]; exact (unhide OW).later hb1)
            have C1 := hide (unhide TK z1)
            clear hb1 OW TK
            go_wp2_with (refine wpList_load_row rfl 87 _ rfl z.w.heap.size rfl 87 #[.iface tt xx, .int .i64 af, .int .i64 ar] (0, 0) _ (unhide G1) Tryz.underlying87 rfl (by kernel_rfl) ?_)
            refine (unhide C1).mono ?_
            rintro r w2 ⟨pv, rfl, hO, hb⟩
            have L2 := hide ((unhide L1).later hb)
            have PO := hide (hO.base (show W.heap.size ≤ z1.w.heap.size from z1.h.size))
            obtain ⟨z2, rfl⟩ := Sub.step (unhide HZ) hb
            clear hO hb L1 C1 G1 c0 c1 c2 hz1
            obtain ⟨ca, cc, hpv, _⟩ := (unhide PO).rd
            subst hpv
            generalize at_.length = tl at *
            have hb3 := below_new z2.w (.cells #[.slice ca tl cc] 45)
            obtain ⟨z3, hz3⟩ := Sub.step (unhide HZ) hb3
            have L3 := hide (show OwnL z3.w W.heap.size u3 (P ++ ((lnA x).take j).map agT) by rw [← hz3]; exact (unhide L2).later hb3)
            have P3 := hide (show OwnT z3.w W.heap.size (.slice ca tl cc) at_ by rw [← hz3]; exact (unhide PO).later hb3)
            have G3 := hide (show z3.w.heap[z2.w.heap.size]? = some (.cells #[.slice ca tl cc] 45 (0, 0)) by rw [← hz3]; exact Array.getElem?_push_size)
            have LN := hide (show (P ++ ((lnA x).take j).map agT).length ≤ 1000 by simp; omega)
            clear hb3 L2 PO
            go_wp2_with (at_builtin; go_must (refine appL rfl _ _ rfl (unhide HZ) z3.h rfl (unhide L3) z2.w.heap.size (.slice ca tl cc) at_ rfl (unhide G3) (unhide P3) (unhide LN) ?_; intro v4 z4 hO; have L4 := hide hO; clear hO))
            go_roundw
            case rel => exact ⟨j + 1, z4, by omega, by go_num, by rw [unhide T2, ← List.append_assoc]; exact unhide L4, rfl⟩
            case measure => simp [intOf]; omega
        · obtain rfl : j = i1 := by omega
          rw [unhide EA] at hown
          have OW := hide hown
          clear hown
          go_wp2
          obtain ⟨P2, hP2⟩ : ∃ P2, P ++ (lnA x).map agT = P2 := ⟨_, rfl⟩
          have lP2 : P2.length ≤ 5 := by rw [← hP2]; have := congrArg List.length (unhide EA); simp at this; simp; omega
          have HE2 := hide (show P2 ++ x.l.map (toksF 6) = T by rw [← hP2, List.append_assoc]; exact unhide HE)
          rw [hP2] at OW
          clear hP2 HE AC TKN OUj TA EA HP
          go_loopw [3, 52] (fun v i wr => ∃ (j : Nat) (z : Sub W.heap.size W), j ≤ i2 ∧ i = .int .i64 j ∧ OwnL z.w W.heap.size v (P2 ++ (x.l.take j).map (toksF 6)) ∧ wr = z.w) (fun _ i _ => i2 - (intOf i).toNat)
          case atStart => exact ⟨0, z, Nat.zero_le _, rfl, by simpa using unhide OW, rfl⟩
          case round =>
            clear OW
            obtain ⟨j2_, z, hj2, rfl, hown, rfl⟩ := hrel
            by_cases hlt : j2_ < i2
            · obtain ⟨g, rfl, hc⟩ := unhide VC j2_ hlt
              have T2 := hide (unhide TE j2_ hlt)
              have TK := hide (unhide PTN j2_ hlt)
              have OW := hide hown
              have hjn : ¬ ((i2 : Int) ≤ (j2_ : Int)) := by omega
              have c0 := hc z
              clear hc hown
              obtain ⟨tt, xx, ett⟩ := tv_if (xAt x.l j2_)
              rw [ett] at TK c0
              clear ett
              generalize toksF 6 (xAt x.l j2_) = at_ at *
              go_wp2_with fail
              refine (unhide TK z).mono ?_
              rintro r w2 ⟨pv, rfl, hO, hb⟩
              have L2 := hide ((unhide OW).later hb)
              have PO := hide (hO.base (show W.heap.size ≤ z.w.heap.size from z.h.size))
              obtain ⟨z2, rfl⟩ := Sub.step (unhide HZ) hb
              clear hO hb OW c0 TK
              obtain ⟨ca, cc, hpv, _⟩ := (unhide PO).rd
              subst hpv
              generalize at_.length = tl at *
              have hb3 := below_new z2.w (.cells #[.slice ca tl cc] 45)
              obtain ⟨z3, hz3⟩ := Sub.step (unhide HZ) hb3
              have L3 := hide (show OwnL z3.w W.heap.size _ (P2 ++ (x.l.take j2_).map (toksF 6)) by rw [← hz3]; exact (unhide L2).later hb3)
              have P3 := hide (show OwnT z3.w W.heap.size (.slice ca tl cc) at_ by rw [← hz3]; exact (unhide PO).later hb3)
              have G3 := hide (show z3.w.heap[z2.w.heap.size]? = some (.cells #[.slice ca tl cc] 45 (0, 0)) by rw [← hz3]; exact Array.getElem?_push_size)
              have LN := hide (show (P2 ++ (x.l.take j2_).map (toksF 6)).length ≤ 1000 by simp; omega)
              clear hb3 L2 PO
              go_wp2_with (at_builtin; go_must (refine appL rfl _ _ rfl (unhide HZ) z3.h rfl (unhide L3) z2.w.heap.size (.slice ca tl cc) at_ rfl (unhide G3) (unhide P3) (unhide LN) ?_; intro v4 z4 hO; have L4 := hide hO; clear hO))
              go_roundw
              case rel => exact ⟨j2_ + 1, z4, by omega, by go_num, by rw [unhide T2, ← List.append_assoc]; exact unhide L4, rfl⟩
              case measure => simp [intOf]; omega
            · obtain rfl : j2_ = i2 := by omega
              rw [unhide EV, unhide HE2] at hown
              have OW := hide hown
              clear hown
              go_wp2
              go_ret
              exact ⟨_, rfl, unhide HO _ _ _ (unhide OW), unhide HB z⟩
  have gk6 : (k == 6) = false := beq_eq_false_iff_ne.2 hk6
  cases hq : regB op with
  | true =>
    obtain ⟨hn0, hn7⟩ := unhide RGo hq
    obtain ⟨rn, rfl⟩ : ∃ rn : Nat, n = (rn : Int) := ⟨n.toNat, by omega⟩
    have R1 := hide (fun y : Sub W.heap.size W => unhide RG rn (by omega) y)
    rw [show ((rn : Int)).toNat = rn by omega] at HT
    rw [hq] at RB
    unfold Tk.v Tk.cs at R1
    clear WD RG RGo NMo RK hn0 hn7
    generalize rgT rn = rt at *
    go_enter Tryz.func18, Tryz.ntmps18
    go_wp2_with (go_at_call 42; refine (unhide RB _).mono ?_; rintro r w' ⟨rfl, hw'⟩; rw [hw']; clear hw' w')
    refine (unhide R1 y0).mono ?_
    rintro r w1 ⟨rfl, hb⟩
    have L1 := hide ((unhide L0).later hb)
    obtain ⟨y1, rfl⟩ := Sub.step (unhide HZ) hb
    clear hb L0
    have hb := below_new y1.w (.cells #[.int .i64 rt.k, .int .i64 rt.n, .string rt.s] 59)
    obtain ⟨y2, hy2⟩ := Sub.step (unhide HZ) hb
    have L2 := hide (show OwnL y2.w W.heap.size (.slice none 0 0) ([]) by rw [← hy2]; exact (unhide L1).later hb)
    have P2 := hide (show OwnT y2.w W.heap.size (.slice (some ⟨y1.w.heap.size, 0, none⟩) 1 1) [rt] by rw [← hy2]; exact ownT_new y1.w rt W.heap.size (Nat.le_trans (unhide HZ) y1.h.size))
    clear hb L1
    have hb := below_new y2.w (.cells #[.slice (some ⟨y1.w.heap.size, 0, none⟩) 1 1] 45)
    obtain ⟨y3, hy3⟩ := Sub.step (unhide HZ) hb
    have L3 := hide (show OwnL y3.w W.heap.size (.slice none 0 0) ([]) by rw [← hy3]; exact (unhide L2).later hb)
    have P3 := hide (show OwnT y3.w W.heap.size (.slice (some ⟨y1.w.heap.size, 0, none⟩) 1 1) [rt] by rw [← hy3]; exact (unhide P2).later hb)
    have G3 := hide (show y3.w.heap[y2.w.heap.size]? = some (.cells #[.slice (some ⟨y1.w.heap.size, 0, none⟩) 1 1] 45 (0, 0)) by rw [← hy3]; exact Array.getElem?_push_size)
    clear hb L2 P2
    go_wp2_with (first | (go_at_call 42; refine (unhide RB _).mono ?_; rintro r w' ⟨rfl, hw'⟩; rw [hw']; clear hw' w') | (at_builtin; go_must (refine appL rfl _ _ rfl (unhide HZ) y3.h rfl (unhide L3) y2.w.heap.size (.slice (some ⟨y1.w.heap.size, 0, none⟩) 1 1) [rt] rfl (unhide G3) (unhide P3) (by simp) ?_; intro v4 y4 hO; have L4 := hide hO; clear hO)))
    obtain ⟨P, hP⟩ : ∃ P, ([] ++ [[rt]] : List (List Tk)) = P := ⟨_, rfl⟩
    have lP : P.length ≤ 3 := by rw [← hP]; simp
    have HP := hide hP
    have HE := hide (show P ++ ((lnA x).map agT ++ x.l.map (toksF 6)) = T by rw [← unhide HT, ← hP]; simp [hq, hk6])
    clear hP
    go_loopw [3, 39] (fun v i wr => ∃ (j : Nat) (z : Sub W.heap.size W), j ≤ i1 ∧ i = .int .i64 j ∧ OwnL z.w W.heap.size v (P ++ ((lnA x).take j).map agT) ∧ wr = z.w) (fun _ i _ => i1 - (intOf i).toNat)
    case atStart => exact ⟨0, y4, Nat.zero_le _, rfl, by rw [← unhide HP]; exact unhide L4, rfl⟩
    case round =>
      obtain ⟨j, z, hj, rfl, hown, rfl⟩ := hrel
      by_cases hlt : j < i1
      · obtain ⟨g, rfl, hc⟩ := unhide AC j hlt
        obtain ⟨c0, c1, c2⟩ := hc z
        have T2 := hide (unhide TA j hlt)
        have TK := hide (unhide TKN j hlt)
        have OW := hide hown
        have hjn : ¬ ((i1 : Int) ≤ (j : Int)) := by omega
        have OU := unhide OUj j
        clear hc hown
        generalize (agAt x j).f = af at *
        generalize (agAt x j).r = ar at *
        generalize agT (agAt x j) = at_ at *
        generalize opU (agAt x j) = ou at *
        rcases OU with rfl | ⟨tt, xx, rfl⟩
        · have hb1 := below_new z.w (.cells #[.nilIface, .int .i64 af, .int .i64 ar] 87)
          obtain ⟨z1, hz1⟩ := Sub.step (unhide HZ) hb1
          have G1 := hide (show z1.w.heap[z.w.heap.size]? = some (.cells #[.nilIface, .int .i64 af, .int .i64 ar] 87 (0, 0)) by rw [← hz1]; exact Array.getElem?_push_size)
          have L1 := hide (show OwnL z1.w W.heap.size u3 (P ++ ((lnA x).take j).map agT) by rw [← hz1]; exact (unhide OW).later hb1)
          have C1 := hide (unhide TK z1)
          clear hb1 OW TK
          go_wp2_with (refine wpList_load_row rfl 87 _ rfl z.w.heap.size rfl 87 #[.nilIface, .int .i64 af, .int .i64 ar] (0, 0) _ (unhide G1) Tryz.underlying87 rfl (by kernel_rfl) ?_)
          refine (unhide C1).mono ?_
          rintro r w2 ⟨pv, rfl, hO, hb⟩
          have L2 := hide ((unhide L1).later hb)
          have PO := hide (hO.base (show W.heap.size ≤ z1.w.heap.size from z1.h.size))
          obtain ⟨z2, rfl⟩ := Sub.step (unhide HZ) hb
          clear hO hb L1 C1 G1 c0 c1 c2 hz1
          obtain ⟨ca, cc, hpv, _⟩ := (unhide PO).rd
          subst hpv
          generalize at_.length = tl at *
          have hb3 := below_new z2.w (.cells #[.slice ca tl cc] 45)
          obtain ⟨z3, hz3⟩ := Sub.step (unhide HZ) hb3
          have L3 := hide (show OwnL z3.w W.heap.size u3 (P ++ ((lnA x).take j).map agT) by rw [← hz3]; exact (unhide L2).later hb3)
          have P3 := hide (show OwnT z3.w W.heap.size (.slice ca tl cc) at_ by rw [← hz3]; exact (unhide PO).later hb3)
          have G3 := hide (show z3.w.heap[z2.w.heap.size]? = some (.cells #[.slice ca tl cc] 45 (0, 0)) by rw [← hz3]; exact Array.getElem?_push_size)
          have LN := hide (show (P ++ ((lnA x).take j).map agT).length ≤ 1000 by simp; omega)
          clear hb3 L2 PO
          go_wp2_with (at_builtin; go_must (refine appL rfl _ _ rfl (unhide HZ) z3.h rfl (unhide L3) z2.w.heap.size (.slice ca tl cc) at_ rfl (unhide G3) (unhide P3) (unhide LN) ?_; intro v4 z4 hO; have L4 := hide hO; clear hO))
          go_roundw
          case rel => exact ⟨j + 1, z4, by omega, by go_num, by rw [unhide T2, ← List.append_assoc]; exact unhide L4, rfl⟩
          case measure => simp [intOf]; omega
        · have hb1 := below_new z.w (.cells #[.iface tt xx, .int .i64 af, .int .i64 ar] 87)
          obtain ⟨z1, hz1⟩ := Sub.step (unhide HZ) hb1
          have G1 := hide (show z1.w.heap[z.w.heap.size]? = some (.cells #[.iface tt xx, .int .i64 af, .int .i64 ar] 87 (0, 0)) by rw [← hz1]; exact Array.getElem?_push_size)
          have L1 := hide (show OwnL z1.w W.heap.size u3 (P ++ ((lnA x).take j).map agT) by rw [← hz1]; exact (unhide OW).later hb1)
          have C1 := hide (unhide TK z1)
          clear hb1 OW TK
          go_wp2_with (refine wpList_load_row rfl 87 _ rfl z.w.heap.size rfl 87 #[.iface tt xx, .int .i64 af, .int .i64 ar] (0, 0) _ (unhide G1) Tryz.underlying87 rfl (by kernel_rfl) ?_)
          refine (unhide C1).mono ?_
          rintro r w2 ⟨pv, rfl, hO, hb⟩
          have L2 := hide ((unhide L1).later hb)
          have PO := hide (hO.base (show W.heap.size ≤ z1.w.heap.size from z1.h.size))
          obtain ⟨z2, rfl⟩ := Sub.step (unhide HZ) hb
          clear hO hb L1 C1 G1 c0 c1 c2 hz1
          obtain ⟨ca, cc, hpv, _⟩ := (unhide PO).rd
          subst hpv
          generalize at_.length = tl at *
          have hb3 := below_new z2.w (.cells #[.slice ca tl cc] 45)
          obtain ⟨z3, hz3⟩ := Sub.step (unhide HZ) hb3
          have L3 := hide (show OwnL z3.w W.heap.size u3 (P ++ ((lnA x).take j).map agT) by rw [← hz3]; exact (unhide L2).later hb3)
          have P3 := hide (show OwnT z3.w W.heap.size (.slice ca tl cc) at_ by rw [← hz3]; exact (unhide PO).later hb3)
          have G3 := hide (show z3.w.heap[z2.w.heap.size]? = some (.cells #[.slice ca tl cc] 45 (0, 0)) by rw [← hz3]; exact Array.getElem?_push_size)
          have LN := hide (show (P ++ ((lnA x).take j).map agT).length ≤ 1000 by simp; omega)
          clear hb3 L2 PO
          go_wp2_with (at_builtin; go_must (refine appL rfl _ _ rfl (unhide HZ) z3.h rfl (unhide L3) z2.w.heap.size (.slice ca tl cc) at_ rfl (unhide G3) (unhide P3) (unhide LN) ?_; intro v4 z4 hO; have L4 := hide hO; clear hO))
          go_roundw
          case rel => exact ⟨j + 1, z4, by omega, by go_num, by rw [unhide T2, ← List.append_assoc]; exact unhide L4, rfl⟩
          case measure => simp [intOf]; omega
      · obtain rfl : j = i1 := by omega
        rw [unhide EA] at hown
        have OW := hide hown
        clear hown
        go_wp2
        obtain ⟨P2, hP2⟩ : ∃ P2, P ++ (lnA x).map agT = P2 := ⟨_, rfl⟩
        have lP2 : P2.length ≤ 5 := by rw [← hP2]; have := congrArg List.length (unhide EA); simp at this; simp; omega
        have HE2 := hide (show P2 ++ x.l.map (toksF 6) = T by rw [← hP2, List.append_assoc]; exact unhide HE)
        rw [hP2] at OW
        clear hP2 HE AC TKN OUj TA EA HP
        go_loopw [3, 52] (fun v i wr => ∃ (j : Nat) (z : Sub W.heap.size W), j ≤ i2 ∧ i = .int .i64 j ∧ OwnL z.w W.heap.size v (P2 ++ (x.l.take j).map (toksF 6)) ∧ wr = z.w) (fun _ i _ => i2 - (intOf i).toNat)
        case atStart => exact ⟨0, z, Nat.zero_le _, rfl, by simpa using unhide OW, rfl⟩
        case round =>
          clear OW
          obtain ⟨j2_, z, hj2, rfl, hown, rfl⟩ := hrel
          by_cases hlt : j2_ < i2
          · obtain ⟨g, rfl, hc⟩ := unhide VC j2_ hlt
            have T2 := hide (unhide TE j2_ hlt)
            have TK := hide (unhide PTN j2_ hlt)
            have OW := hide hown
            have hjn : ¬ ((i2 : Int) ≤ (j2_ : Int)) := by omega
            have c0 := hc z
            clear hc hown
            obtain ⟨tt, xx, ett⟩ := tv_if (xAt x.l j2_)
            rw [ett] at TK c0
            clear ett
            generalize toksF 6 (xAt x.l j2_) = at_ at *
            go_wp2_with fail
            refine (unhide TK z).mono ?_
            rintro r w2 ⟨pv, rfl, hO, hb⟩
            have L2 := hide ((unhide OW).later hb)
            have PO := hide (hO.base (show W.heap.size ≤ z.w.heap.size from z.h.size))
            obtain ⟨z2, rfl⟩ := Sub.step (unhide HZ) hb
            clear hO hb OW c0 TK
            obtain ⟨ca, cc, hpv, _⟩ := (unhide PO).rd
            subst hpv
            generalize at_.length = tl at *
            have hb3 := below_new z2.w (.cells #[.slice ca tl cc] 45)
            obtain ⟨z3, hz3⟩ := Sub.step (unhide HZ) hb3
            have L3 := hide (show OwnL z3.w W.heap.size _ (P2 ++ (x.l.take j2_).map (toksF 6)) by rw [← hz3]; exact (unhide L2).later hb3)
            have P3 := hide (show OwnT z3.w W.heap.size (.slice ca tl cc) at_ by rw [← hz3]; exact (unhide PO).later hb3)
            have G3 := hide (show z3.w.heap[z2.w.heap.size]? = some (.cells #[.slice ca tl cc] 45 (0, 0)) by rw [← hz3]; exact Array.getElem?_push_size)
            have LN := hide (show (P2 ++ (x.l.take j2_).map (toksF 6)).length ≤ 1000 by simp; omega)
            clear hb3 L2 PO
            go_wp2_with (at_builtin; go_must (refine appL rfl _ _ rfl (unhide HZ) z3.h rfl (unhide L3) z2.w.heap.size (.slice ca tl cc) at_ rfl (unhide G3) (unhide P3) (unhide LN) ?_; intro v4 z4 hO; have L4 := hide hO; clear hO))
            go_roundw
            case rel => exact ⟨j2_ + 1, z4, by omega, by go_num, by rw [unhide T2, ← List.append_assoc]; exact unhide L4, rfl⟩
            case measure => simp [intOf]; omega
          · obtain rfl : j2_ = i2 := by omega
            rw [unhide EV, unhide HE2] at hown
            have OW := hide hown
            clear hown
            go_wp2
            go_ret
            exact ⟨_, rfl, unhide HO _ _ _ (unhide OW), unhide HB z⟩
  | false =>
    rw [hq] at RB
    clear WD RG RGo NMo RK
    go_enter Tryz.func18, Tryz.ntmps18
    go_wp2_with (go_at_call 42; refine (unhide RB _).mono ?_; rintro r w' ⟨rfl, hw'⟩; rw [hw']; clear hw' w')
    obtain ⟨P, hP⟩ : ∃ P, ([] : List (List Tk)) = P := ⟨_, rfl⟩
    have lP : P.length ≤ 3 := by rw [← hP]; simp
    have HP := hide hP
    have HE := hide (show P ++ ((lnA x).map agT ++ x.l.map (toksF 6)) = T by rw [← unhide HT, ← hP]; simp [hq, hk6])
    clear hP
    go_loopw [3, 39] (fun v i wr => ∃ (j : Nat) (z : Sub W.heap.size W), j ≤ i1 ∧ i = .int .i64 j ∧ OwnL z.w W.heap.size v (P ++ ((lnA x).take j).map agT) ∧ wr = z.w) (fun _ i _ => i1 - (intOf i).toNat)
    case atStart => exact ⟨0, y0, Nat.zero_le _, rfl, by rw [← unhide HP]; exact unhide L0, rfl⟩
    case round =>
      obtain ⟨j, z, hj, rfl, hown, rfl⟩ := hrel
      by_cases hlt : j < i1
      · obtain ⟨g, rfl, hc⟩ := unhide AC j hlt
        obtain ⟨c0, c1, c2⟩ := hc z
        have T2 := hide (unhide TA j hlt)
        have TK := hide (unhide TKN j hlt)
        have OW := hide hown
        have hjn : ¬ ((i1 : Int) ≤ (j : Int)) := by omega
        have OU := unhide OUj j
        clear hc hown
        generalize (agAt x j).f = af at *
        generalize (agAt x j).r = ar at *
        generalize agT (agAt x j) = at_ at *
        generalize opU (agAt x j) = ou at *
        rcases OU with rfl | ⟨tt, xx, rfl⟩
        · have hb1 := below_new z.w (.cells #[.nilIface, .int .i64 af, .int .i64 ar] 87)
          obtain ⟨z1, hz1⟩ := Sub.step (unhide HZ) hb1
          have G1 := hide (show z1.w.heap[z.w.heap.size]? = some (.cells #[.nilIface, .int .i64 af, .int .i64 ar] 87 (0, 0)) by rw [← hz1]; exact Array.getElem?_push_size)
          have L1 := hide (show OwnL z1.w W.heap.size u3 (P ++ ((lnA x).take j).map agT) by rw [← hz1]; exact (unhide OW).later hb1)
          have C1 := hide (unhide TK z1)
          clear hb1 OW TK
          go_wp2_with (refine wpList_load_row rfl 87 _ rfl z.w.heap.size rfl 87 #[.nilIface, .int .i64 af, .int .i64 ar] (0, 0) _ (unhide G1) Tryz.underlying87 rfl (by kernel_rfl) ?_)
          refine (unhide C1).mono ?_
          rintro r w2 ⟨pv, rfl, hO, hb⟩
          have L2 := hide ((unhide L1).later hb)
          have PO := hide (hO.base (show W.heap.size ≤ z1.w.heap.size from z1.h.size))
          obtain ⟨z2, rfl⟩ := Sub.step (unhide HZ) hb
          clear hO hb L1 C1 G1 c0 c1 c2 hz1
          obtain ⟨ca, cc, hpv, _⟩ := (unhide PO).rd
          subst hpv
          generalize at_.length = tl at *
          have hb3 := below_new z2.w (.cells #[.slice ca tl cc] 45)
          obtain ⟨z3, hz3⟩ := Sub.step (unhide HZ) hb3
          have L3 := hide (show OwnL z3.w W.heap.size u3 (P ++ ((lnA x).take j).map agT) by rw [← hz3]; exact (unhide L2).later hb3)
          have P3 := hide (show OwnT z3.w W.heap.size (.slice ca tl cc) at_ by rw [← hz3]; exact (unhide PO).later hb3)
          have G3 := hide (show z3.w.heap[z2.w.heap.size]? = some (.cells #[.slice ca tl cc] 45 (0, 0)) by rw [← hz3]; exact Array.getElem?_push_size)
          have LN := hide (show (P ++ ((lnA x).take j).map agT).length ≤ 1000 by simp; omega)
          clear hb3 L2 PO
          go_wp2_with (at_builtin; go_must (refine appL rfl _ _ rfl (unhide HZ) z3.h rfl (unhide L3) z2.w.heap.size (.slice ca tl cc) at_ rfl (unhide G3) (unhide P3) (unhide LN) ?_; intro v4 z4 hO; have L4 := hide hO; clear hO))
          go_roundw
          case rel => exact ⟨j + 1, z4, by omega, by go_num, by rw [unhide T2, ← List.append_assoc]; exact unhide L4, rfl⟩
          case measure => simp [intOf]; omega
        · have hb1 := below_new z.w (.cells #[.iface tt xx, .int .i64 af, .int .i64 ar] 87)
          obtain ⟨z1, hz1⟩ := Sub.step (unhide HZ) hb1
          have G1 := hide (show z1.w.heap[z.w.heap.size]? = some (.cells #[.iface tt xx, .int .i64 af, .int .i64 ar] 87 (0, 0)) by rw [← hz1]; exact Array.getElem?_push_size)
          have L1 := hide (show OwnL z1.w W.heap.size u3 (P ++ ((lnA x).take j).map agT) by rw [← hz1]; exact (unhide OW).later hb1)
          have C1 := hide (unhide TK z1)
          clear hb1 OW TK
          go_wp2_with (refine wpList_load_row rfl 87 _ rfl z.w.heap.size rfl 87 #[.iface tt xx, .int .i64 af, .int .i64 ar] (0, 0) _ (unhide G1) Tryz.underlying87 rfl (by kernel_rfl) ?_)
          refine (unhide C1).mono ?_
          rintro r w2 ⟨pv, rfl, hO, hb⟩
          have L2 := hide ((unhide L1).later hb)
          have PO := hide (hO.base (show W.heap.size ≤ z1.w.heap.size from z1.h.size))
          obtain ⟨z2, rfl⟩ := Sub.step (unhide HZ) hb
          clear hO hb L1 C1 G1 c0 c1 c2 hz1
          obtain ⟨ca, cc, hpv, _⟩ := (unhide PO).rd
          subst hpv
          generalize at_.length = tl at *
          have hb3 := below_new z2.w (.cells #[.slice ca tl cc] 45)
          obtain ⟨z3, hz3⟩ := Sub.step (unhide HZ) hb3
          have L3 := hide (show OwnL z3.w W.heap.size u3 (P ++ ((lnA x).take j).map agT) by rw [← hz3]; exact (unhide L2).later hb3)
          have P3 := hide (show OwnT z3.w W.heap.size (.slice ca tl cc) at_ by rw [← hz3]; exact (unhide PO).later hb3)
          have G3 := hide (show z3.w.heap[z2.w.heap.size]? = some (.cells #[.slice ca tl cc] 45 (0, 0)) by rw [← hz3]; exact Array.getElem?_push_size)
          have LN := hide (show (P ++ ((lnA x).take j).map agT).length ≤ 1000 by simp; omega)
          clear hb3 L2 PO
          go_wp2_with (at_builtin; go_must (refine appL rfl _ _ rfl (unhide HZ) z3.h rfl (unhide L3) z2.w.heap.size (.slice ca tl cc) at_ rfl (unhide G3) (unhide P3) (unhide LN) ?_; intro v4 z4 hO; have L4 := hide hO; clear hO))
          go_roundw
          case rel => exact ⟨j + 1, z4, by omega, by go_num, by rw [unhide T2, ← List.append_assoc]; exact unhide L4, rfl⟩
          case measure => simp [intOf]; omega
      · obtain rfl : j = i1 := by omega
        rw [unhide EA] at hown
        have OW := hide hown
        clear hown
        go_wp2
        obtain ⟨P2, hP2⟩ : ∃ P2, P ++ (lnA x).map agT = P2 := ⟨_, rfl⟩
        have lP2 : P2.length ≤ 5 := by rw [← hP2]; have := congrArg List.length (unhide EA); simp at this; simp; omega
        have HE2 := hide (show P2 ++ x.l.map (toksF 6) = T by rw [← hP2, List.append_assoc]; exact unhide HE)
        rw [hP2] at OW
        clear hP2 HE AC TKN OUj TA EA HP
        go_loopw [3, 52] (fun v i wr => ∃ (j : Nat) (z : Sub W.heap.size W), j ≤ i2 ∧ i = .int .i64 j ∧ OwnL z.w W.heap.size v (P2 ++ (x.l.take j).map (toksF 6)) ∧ wr = z.w) (fun _ i _ => i2 - (intOf i).toNat)
        case atStart => exact ⟨0, z, Nat.zero_le _, rfl, by simpa using unhide OW, rfl⟩
        case round =>
          clear OW
          obtain ⟨j2_, z, hj2, rfl, hown, rfl⟩ := hrel
          by_cases hlt : j2_ < i2
          · obtain ⟨g, rfl, hc⟩ := unhide VC j2_ hlt
            have T2 := hide (unhide TE j2_ hlt)
            have TK := hide (unhide PTN j2_ hlt)
            have OW := hide hown
            have hjn : ¬ ((i2 : Int) ≤ (j2_ : Int)) := by omega
            have c0 := hc z
            clear hc hown
            obtain ⟨tt, xx, ett⟩ := tv_if (xAt x.l j2_)
            rw [ett] at TK c0
            clear ett
            generalize toksF 6 (xAt x.l j2_) = at_ at *
            go_wp2_with fail
            refine (unhide TK z).mono ?_
            rintro r w2 ⟨pv, rfl, hO, hb⟩
            have L2 := hide ((unhide OW).later hb)
            have PO := hide (hO.base (show W.heap.size ≤ z.w.heap.size from z.h.size))
            obtain ⟨z2, rfl⟩ := Sub.step (unhide HZ) hb
            clear hO hb OW c0 TK
            obtain ⟨ca, cc, hpv, _⟩ := (unhide PO).rd
            subst hpv
            generalize at_.length = tl at *
            have hb3 := below_new z2.w (.cells #[.slice ca tl cc] 45)
            obtain ⟨z3, hz3⟩ := Sub.step (unhide HZ) hb3
            have L3 := hide (show OwnL z3.w W.heap.size _ (P2 ++ (x.l.take j2_).map (toksF 6)) by rw [← hz3]; exact (unhide L2).later hb3)
            have P3 := hide (show OwnT z3.w W.heap.size (.slice ca tl cc) at_ by rw [← hz3]; exact (unhide PO).later hb3)
            have G3 := hide (show z3.w.heap[z2.w.heap.size]? = some (.cells #[.slice ca tl cc] 45 (0, 0)) by rw [← hz3]; exact Array.getElem?_push_size)
            have LN := hide (show (P2 ++ (x.l.take j2_).map (toksF 6)).length ≤ 1000 by simp; omega)
            clear hb3 L2 PO
            go_wp2_with (at_builtin; go_must (refine appL rfl _ _ rfl (unhide HZ) z3.h rfl (unhide L3) z2.w.heap.size (.slice ca tl cc) at_ rfl (unhide G3) (unhide P3) (unhide LN) ?_; intro v4 z4 hO; have L4 := hide hO; clear hO))
            go_roundw
            case rel => exact ⟨j2_ + 1, z4, by omega, by go_num, by rw [unhide T2, ← List.append_assoc]; exact unhide L4, rfl⟩
            case measure => simp [intOf]; omega
          · obtain rfl : j2_ = i2 := by omega
            rw [unhide EV, unhide HE2] at hown
            have OW := hide hown
            clear hown
            go_wp2
            go_ret
            exact ⟨_, rfl, unhide HO _ _ _ (unhide OW), unhide HB z⟩
end Go.Proofs.YtmhcbehplhfgfaaGreatDoor

namespace Go.Proofs.YtmhcbehplhfgfaaGreatDoor
open Go.ChangeShapes Go.WideShapes Go.ChangeAt Go.RowKit
set_option linter.unusedVariables false
set_option maxRecDepth 8000
set_option linter.unusedSimpArgs false
/-- What the text's road reads: kept words, marks, digits' table. -/
structure TabX (w : World) : Prop where
  k : TabK w
  g : TabG w
  b : w.cell? ⟨8, 7, none⟩ = some (.int .u8 3)
theorem TabX.next {w w' : World} (h : TabX w) (hb : Below w.heap.size w w') : TabX w' :=
  ⟨h.k.next hb, h.g.later hb h.g.lt, (hb.cell (p := ⟨8, 7, none⟩) (World.block_lt_of_cell? w _ h.b)).trans h.b⟩
end Go.Proofs.YtmhcbehplhfgfaaGreatDoor

namespace Go.Proofs.YtmhcbehplhfgfaaGreatDoor
open Go.ChangeShapes Go.WideShapes Go.ChangeAt Go.RowKit
set_option linter.unusedVariables false
set_option maxRecDepth 8000
set_option linter.unusedSimpArgs false
section
variable {w wr w' : World} {cb : Nat} {a : Option Addr} {len cap : Nat} {xs : List UInt8}
theorem grownBy_row {W : World} {g : Nat} (cs : Array Value) : W.grownBy (W.setRow g cs) (some g) := ⟨rfl, rfl, rfl, by simp [World.setRow], fun k _ hk => setRow_other _ _ _ _ (fun e => hk (by rw [e]))⟩
end
end Go.Proofs.YtmhcbehplhfgfaaGreatDoor

namespace Go.Proofs.YtmhcbehplhfgfaaGreatDoor
open Go.ChangeShapes Go.WideShapes Go.ChangeAt Go.RowKit
set_option linter.unusedVariables false
set_option maxRecDepth 8000
set_option linter.unusedSimpArgs false
theorem NewX.drawn {wr w' : World} {cb B : Nat} {e : Ex} {c : Option Addr} (h : NewX wr B e c) (hg : wr.grownBy w' (some cb)) (hB : cb < B) : NewX w' B e c := by
  obtain ⟨F, h1, h2, h3⟩ := h
  exact ⟨F, OwX.keep e c F (fun b hF => hg.block b (OwX.lt e c F h1 b hF) (fun e => by have := h3 b hF; simp at e; omega)) h1, h2, h3⟩
theorem NewX.row {wr : World} {B g : Nat} {e : Ex} {c : Option Addr} (h : NewX wr B e c) (cs : Array Value) (hg : g < B) : NewX (wr.setRow g cs) B e c := by
  obtain ⟨F, h1, h2, h3⟩ := h
  exact ⟨F, OwX.keep e c F (fun b hF => setRow_other _ _ _ _ (by have := h3 b hF; omega)) h1, h2, h3⟩
end Go.Proofs.YtmhcbehplhfgfaaGreatDoor

namespace Go.Proofs.YtmhcbehplhfgfaaGreatDoor
open Go.ChangeShapes Go.WideShapes Go.ChangeAt Go.RowKit
set_option linter.unusedVariables false
set_option linter.unusedSimpArgs false
section
variable {P : Program} {w : World}
/-- What an append leaves lies where it lay, or behind all there was. -/
theorem append_to (base : Nat) (t ty e : TypeId) (i : TypeInfo) (z : Value) (size bytes : Nat) (ht : P.underlying t = some (.slice e)) (hi : P.info? e = some i) (hz : i.zero = some z)
    (hsize : i.size = size) (hby : i.bytes = bytes) (hzs : z.cells.size = size) (hsz : 0 < size)
    (v : Value) (n : Nat) (xs : List Value) (hown : w.ownsRow base e size v n xs)
    (a : Addr) (m c : Nat) (news : List Value) (hl : news.length = m * size) (hnews : ∀ j u, news[j]? = some u → w.cell? (a.add j) = some u) (h1 : ∀ u ∈ news, u.oneCell' = true)
    (h63 : n + m ≤ maxLen) (hbytes : (n + m) * bytes ≤ 140737488355328) (hbase : base ≤ w.heap.size) (hm : 0 < m) :
    ∃ v' w', (Builtin.append_ #[t, t] ty #[v, .slice (some a) m c]).run P w = .ok v' w' ∧ w'.ownsRow base e size v' (n + m) (xs ++ news) ∧ w.grownBy w' v.ownBlock ∧ (∃ g cap, v' = .slice (some ⟨g, 0, none⟩) (n + m) cap ∧ (v.ownBlock = some g ∨ g = w.heap.size)) := by
  obtain ⟨v', w', hr, h2, h3, _⟩ := run_append_own (P := P) w base t ty e i z size bytes ht hi hz hsize hby hzs hsz v n xs hown a m c news hl hnews h1 h63 hbytes hbase
  refine ⟨v', w', hr, h2, h3, ?_⟩
  subst hsize
  subst hby
  have hs : n + m ≤ 9223372036854775807 := by simp only [maxLen] at h63; omega
  rcases hown.2 with ⟨rfl, rfl⟩ | ⟨g, cap, cur, rfl, hbg, hg, hnc, hcm, hcs, htake⟩
  · have k := run_append_nil (P := P) w t ty e i z ht hi hz a m c news hl hnews hm (by omega) (by have hb := hbytes; simp only [Nat.zero_add] at hb; omega)
    rw [hr] at k
    injection k with k1 k2
    exact ⟨_, _, by rw [k1, Nat.zero_add], .inr rfl⟩
  · by_cases hroom : n + m ≤ cap
    · have hfit : n * i.size + news.length ≤ cur.size := by rw [hl, hcs, ← Nat.add_mul]; exact Nat.mul_le_mul_right _ hroom
      have k := run_append_room (P := P) w t ty e i ht hi g n cap cur hg a m c news hl hnews h1 hroom hfit
      rw [hr] at k
      injection k with k1 k2
      exact ⟨_, _, k1, .inl rfl⟩
    · have k := run_append_grow (P := P) w t ty e i z ht hi hz ⟨g, 0, none⟩ n cap xs hown.1 (hown.cells (g := g) rfl) a m c news hl hnews (by omega) (by omega) (growslice_fits (by omega) hbytes)
      rw [hr] at k
      injection k with k1 k2
      exact ⟨_, _, k1, .inr rfl⟩
theorem wp_append_to {o : Oper} {a : Act} {K : Act → World → Prop} {Q : Exit → Act → World → Prop} (s x : Operand) (t : TypeId)
    (ho : o.op = .call { callee := .builtin .append, args := #[s, x], argTypes := #[t, t] })
    (base : Nat) (e : TypeId) (i : TypeInfo) (z : Value) (size bytes : Nat) (ht : P.underlying t = some (.slice e)) (hi : P.info? e = some i) (hz : i.zero = some z)
    (hsize : i.size = size) (hby : i.bytes = bytes) (hzs : z.cells.size = size) (hsz : 0 < size)
    (v : Value) (n : Nat) (xs : List Value) (hs : a.eval s = v) (hown : w.ownsRow base e size v n xs)
    (ad : Addr) (m c : Nat) (news : List Value) (hx : a.eval x = .slice (some ad) m c) (hl : news.length = m * size) (hnews : ∀ j u, news[j]? = some u → w.cell? (ad.add j) = some u) (h1 : ∀ u ∈ news, u.oneCell' = true)
    (h63 : n + m ≤ maxLen) (hbytes : (n + m) * bytes ≤ 140737488355328) (hbase : base ≤ w.heap.size) (hm : 0 < m)
    (h : ∀ g cap w', w'.ownsRow base e size (.slice (some ⟨g, 0, none⟩) (n + m) cap) (n + m) (xs ++ news) → w.grownBy w' v.ownBlock → (v.ownBlock = some g ∨ g = w.heap.size) → K (a.put o.dst (.slice (some ⟨g, 0, none⟩) (n + m : Nat) cap)) w') : o.wp P a w K Q := by
  obtain ⟨v', w', hr, h2, h3, g, cap, rfl, h4⟩ := append_to (P := P) (w := w) base t o.type e i z size bytes ht hi hz hsize hby hzs hsz v n xs hown ad m c news hl hnews h1 h63 hbytes hbase hm
  unfold Oper.wp execOp
  simp only [ho, resolve, invoke, builtin, Sem.run_bind, Sem.run_pure, Result.andThen_ok, List.map_toArray, List.map_cons, List.map_nil, hs, hx, hr]
  exact h g cap w' h2 h3 h4
theorem wpList_append_to {ops : Array Oper} {rest : List Oper} {o : Oper} {a : Act} {Q : Exit → Act → World → Prop} (hgd : o.guard = none) (s x : Operand) (t : TypeId)
    (ho : o.op = .call { callee := .builtin .append, args := #[s, x], argTypes := #[t, t] })
    (base : Nat) (e : TypeId) (i : TypeInfo) (z : Value) (size bytes : Nat) (ht : P.underlying t = some (.slice e)) (hi : P.info? e = some i) (hz : i.zero = some z)
    (hsize : i.size = size) (hby : i.bytes = bytes) (hzs : z.cells.size = size) (hsz : 0 < size)
    (v : Value) (n : Nat) (xs : List Value) (hs : a.eval s = v) (hown : w.ownsRow base e size v n xs)
    (ad : Addr) (m c : Nat) (news : List Value) (hx : a.eval x = .slice (some ad) m c) (hl : news.length = m * size) (hnews : ∀ j u, news[j]? = some u → w.cell? (ad.add j) = some u) (h1 : ∀ u ∈ news, u.oneCell' = true)
    (h63 : n + m ≤ maxLen) (hbytes : (n + m) * bytes ≤ 140737488355328) (hbase : base ≤ w.heap.size) (hm : 0 < m)
    (h : ∀ g cap w', w'.ownsRow base e size (.slice (some ⟨g, 0, none⟩) (n + m) cap) (n + m) (xs ++ news) → w.grownBy w' v.ownBlock → (v.ownBlock = some g ∨ g = w.heap.size) → wpList P ops Q rest (a.put o.dst (.slice (some ⟨g, 0, none⟩) (n + m : Nat) cap)) w') : wpList P ops Q (o :: rest) a w :=
  wpList_plain hgd fun _ hK => wp_append_to s x t ho base e i z size bytes ht hi hz hsize hby hzs hsz v n xs hs hown ad m c news hx hl hnews h1 h63 hbytes hbase hm fun g cap w' h2 h3 h4 => hK _ _ (h g cap w' h2 h3 h4)
end
end Go.Proofs.YtmhcbehplhfgfaaGreatDoor

namespace Go.Proofs.YtmhcbehplhfgfaaGreatDoor
open Go.ChangeShapes Go.WideShapes Go.ChangeAt Go.RowKit
set_option linter.unusedVariables false
set_option maxRecDepth 8000
set_option linter.unusedSimpArgs false
/-- What the road of a line's text reads. -/
structure TabL (w : World) : Prop where
  x : TabX w
  f : TabF w
  d : TabD w
theorem TabL.next {w w' : World} (h : TabL w) (hb : Below w.heap.size w w') : TabL w' := ⟨h.x.next hb, h.f.next hb, h.d.next hb⟩
theorem TabL.a {w : World} (h : TabL w) : TabA w := ⟨h.x.k, h.f⟩
/-- Worlds that keep the parts of a line (the blocks from C to D), and what was there ahead. -/
structure Lz (w3 : World) (C D : Nat) (w0 : World) (z : World) : Prop where
  bel : Below w0.heap.size w0 z
  sz : D ≤ z.heap.size
  kp : ∀ g, C ≤ g → g < D → z.heap[g]? = w3.heap[g]?
theorem Lz.next {w3 w0 z z' : World} {C D : Nat} (h : Lz w3 C D w0 z) (hb : Below z.heap.size z z') : Lz w3 C D w0 z' := ⟨h.bel.trans (hb.mono h.bel.size), Nat.le_trans h.sz hb.size, fun g h1 h2 => (hb.block g (Nat.lt_of_lt_of_le h2 h.sz)).trans (h.kp g h1 h2)⟩
theorem Lz.cell {w3 w0 z : World} {C D : Nat} (h : Lz w3 C D w0 z) {p : Addr} (h1 : C ≤ p.block) (h2 : p.block < D) : z.cell? p = w3.cell? p := World.cell?_of_block (h.kp p.block h1 h2)
theorem Lz.own {w3 w0 z : World} {C D : Nat} (h : Lz w3 C D w0 z) {v : Value} {ts : List Tk} (ho : OwnT w3 C v ts) (hD : w3.heap.size ≤ D) : OwnT z C v ts := ho.keep fun g hg hl => h.kp g (ho.lt hg).1 (by omega)
section
variable {ops : Array Oper} {rest : List Oper} {o : Oper} {a : Act} {Q : Exit → Act → World → Prop} {w w0 w3 : World} {B2 C D : Nat}
/-- Tokens appended to tokens that lie in none of the parts. -/
theorem appTo (hgd : o.guard = none) (s x : Operand) (ho : o.op = .call { callee := .builtin .append, args := #[s, x], argTypes := #[45, 45] }) (hL : Lz w3 C D w0 w) {v v2 : Value} {ts us : List Tk} (hs : a.eval s = v) (hown : OwnT w w0.heap.size v ts) (hav : ∀ g, v.ownBlock = some g → g < C ∨ D ≤ g) (hx : a.eval x = v2) (ho2 : OwnT w B2 v2 us) (hne : us ≠ []) (hl : ts.length + us.length ≤ 1000000)
    (h : ∀ (v' : Value) (w' : World), OwnT w' w0.heap.size v' (ts ++ us) → Lz w3 C D w0 w' → (∀ g, v'.ownBlock = some g → g < C ∨ D ≤ g) → wpList Tryz.prog ops Q rest (a.put o.dst v') w') : wpList Tryz.prog ops Q (o :: rest) a w := by
  obtain ⟨i0, hi, hz0, hz1, hz2⟩ := info_parts infoT
  obtain ⟨g, c, e, sr⟩ := ho2.src hne
  have hsz := hL.bel.size
  have hp : 0 < us.length := List.length_pos_iff.2 hne
  refine wpList_append_to hgd s x 45 ho w0.heap.size 59 i0 (.agg #[.int .i64 0, .int .i64 0, .string ⟨#[]⟩]) 3 32 Tryz.underlying45 hi hz0 hz1 hz2 rfl (by decide) v ts.length (cellsT ts) hs hown ⟨g, 0, none⟩ us.length c (cellsT us) (hx.trans e) (cellsT_len us) sr (cellsT_one us) (by unfold maxLen; omega) (by omega) hsz hp ?_
  intro g' cap w' h1 h2 h3
  refine h _ w' ?_ ⟨hL.bel.grown h2 hsz (fun g hg => (hown.lt hg).1), Nat.le_trans hL.sz h2.size, fun k k1 k2 => (h2.block k (Nat.lt_of_lt_of_le k2 hL.sz) (fun e => by have := hav k e.symm; omega)).trans (hL.kp k k1 k2)⟩ (fun k hk => ?_)
  · unfold OwnT
    rw [List.length_append, cellsT_app]
    exact h1
  · cases hk
    rcases h3 with h3 | h3
    · exact hav _ h3
    · have := hL.sz
      exact .inr (show D ≤ g' by omega)
end
theorem OwnL.at_ {w : World} {B : Nat} {v : Value} {ps : List (List Tk)} (h : OwnL w B v ps) : ∃ e c, v = .slice e ps.length c ∧ ∀ j, j < ps.length → ∃ g pv, e = some ⟨g, 0, none⟩ ∧ B ≤ g ∧ g < w.heap.size ∧ w.cell? ⟨g, j, none⟩ = some pv ∧ OwnT w B pv (ps.getD j []) := by
  obtain ⟨vs, h1, h2, h3⟩ := h
  have hc := fun g hg j u hj => ownCells h2 g hg j u hj
  obtain ⟨h0, ⟨k1, k2⟩ | ⟨g, cap, cur, he, hg, hh, hn, hm, r⟩⟩ := h2
  · exact ⟨none, 0, by rw [k1, k2], fun j hj => by omega⟩
  · subst he
    exact ⟨_, _, rfl, fun j hj => ⟨g, vs.getD j undef, rfl, hg, (Array.getElem?_eq_some_iff.1 hh).1, hc g rfl j _ (by simp [List.getD_eq_getElem?_getD, show j < vs.length by omega]), h3 j hj⟩⟩
theorem bh_len {x : Ln} (ok : lnX x = true) : (bhT x).length ≤ 11 ∧ ∀ j, j < (bhT x).length → (bhT x).getD j [] ≠ [] ∧ ((bhT x).getD j []).length ≤ 205 := by
  have h1 := lnA_len x
  have h2 := lnL_ok ok
  have h3 := lnA_ok ok
  have hall : ∀ p ∈ bhT x, p ≠ [] ∧ p.length ≤ 205 := by
    intro p hp
    unfold bhT at hp
    rcases List.mem_append.1 hp with hp | hp
    · split at hp
      · rcases List.mem_cons.1 hp with rfl | hp
        · exact ⟨by simp, by simp⟩
        · split at hp
          · rw [List.mem_singleton.1 hp]; exact ⟨by simp, by simp⟩
          · cases hp
      · cases hp
    rcases List.mem_append.1 hp with hp | hp
    · split at hp
      · rw [List.mem_singleton.1 hp]; exact ⟨by simp, by simp⟩
      · cases hp
    rcases List.mem_append.1 hp with hp | hp
    · obtain ⟨a, ha, rfl⟩ := List.mem_map.1 hp
      exact agT_ok (h3 a ha)
    · obtain ⟨e, he, rfl⟩ := List.mem_map.1 hp
      have hk := List.all_eq_true.1 h2.1 e he
      exact ⟨toks_ne hk, Nat.le_trans (toks_le hk) (by omega)⟩
  refine ⟨?_, fun j hj => hall _ (by simp [List.getD_eq_getElem?_getD, hj])⟩
  unfold bhT
  simp only [List.length_append, List.length_map]
  have e1 : (if x.k = 6 then [Tk.mk 1 0 x.s] :: (if x.n = 1 then [[Tk.mk 1 0 ovrS]] else []) else []).length ≤ 2 := by
    split
    · split <;> simp
    · simp
  have e2 : (if regB x.op = true then [[rgT x.n.toNat]] else []).length ≤ 1 := by split <;> simp
  have := h2.2
  omega
theorem hd_len (x : Ln) : (hdT x).length ≤ 2 := by
  unfold hdT
  repeat' split
  all_goals simp
theorem jn_len (ps : List (List Tk)) (h : ∀ j, j < ps.length → (ps.getD j []).length ≤ 205) : ∀ j, j ≤ ps.length → (jnT (ps.take j)).length ≤ 206 * j := by
  intro j
  induction j with
  | zero => intro _; simp [jnT]
  | succ j ih =>
    intro hj
    have h1 := ih (by omega)
    have h2 := h j (by omega)
    by_cases h0 : j = 0
    · subst h0
      rw [jn_one ps (by omega)]
      omega
    · rw [jn_more ps j (by omega) (by omega)]
      simp only [List.length_append, List.length_singleton]
      omega
set_option maxHeartbeats 8000000 in
theorem ltxI_any (x : Ln) (p : La) (w : World) (hr : RdL w x p) (hz : SzL x) (ht : TabL w) : Calls Tryz.prog 7 #[.agg (x.cs p)] w fun r w' => r = .returned (.string (lnTx x)) ∧ Below w.heap.size w w' := by
  have B0 := below_new w (.cells (x.cs p) 37)
  have R0 := hide (show (w.alloc (.cells (x.cs p) 37)).heap[w.heap.size]? = some (.cells (x.cs p) 37 (0, 0)) from Array.getElem?_push_size)
  have HH := hide (stmI_any x p _ (hr.later B0) hz (ht.a.next B0))
  have HB := hide B0
  have TE := hide (show (lnX x = true → lnTx x = strOf (lineOf (lnT x))) ∧ (lnX x = false → lnTx x = ⟨#[]⟩) from ⟨fun h => by unfold lnTx; rw [if_pos h], fun h => by unfold lnTx; rw [if_neg (by rw [h]; decide)]⟩)
  have TN := hide (fun w1 (h : Below w.heap.size w w1) => ht.next h)
  clear hr hz B0 ht
  unfold StR at HH
  cases hq : lnX x with
  | false =>
    have E := (unhide TE).2 hq
    rw [E]
    rw [hq] at HH
    clear TE TN E
    go_enter Tryz.func7, Tryz.ntmps7
    generalize hW : w.alloc (.cells (x.cs p) 37) = W at *
    go_wp2_with (first | (refine wpList_load_row rfl 37 _ rfl w.heap.size rfl 37 (x.cs p) (0, 0) _ (unhide R0) Tryz.underlying37 rfl (by kernel_rfl) ?_))
    refine (unhide HH).mono ?_
    rintro r w1 ⟨m, rfl, hv, hb1⟩
    have BB := hide ((unhide HB).trans (hb1.mono (unhide HB).size))
    clear hb1 HH HB hv R0
    obtain ⟨mk, ms, mop, mn, e1, i1, j1, e2, i2, j2⟩ := m
    unfold Mt.cs
    simp only
    go_wp2
    go_ret
    exact ⟨rfl, (unhide BB).alloc (unhide BB).size _⟩
  | true =>
    have E := (unhide TE).1 hq
    rw [E, ln_join hq]
    have LI := hide (fun w1 (h : Below w.heap.size w w1) c cp (h2 : RdT w1 c (hdT x ++ jnT (bhT x))) => lineI_any c (hdT x ++ jnT (bhT x)).length cp (hdT x ++ jnT (bhT x)) w1 rfl (by rw [← ln_join hq]; exact lnT_sz hq) h2 (unhide TN w1 h).x.b)
    have HD := hide (fun a1 a2 a3 a4 a5 a6 w1 (h : Below w.heap.size w w1) => hdI_any x hq a1 a2 a3 a4 a5 a6 w1 (unhide TN w1 h).x.k (unhide TN w1 h).d)
    have BH := hide (fun a1 a2 a3 a4 a5 a6 B w1 (h : Below w.heap.size w w1) (h1 : OwnA w1 B (.slice a1 a2 a3) (lnO x)) (h2 : OwnV w1 B (.slice a4 a5 a6) (x.l.map tv)) => bhI_any x hq a1 a2 a3 a4 a5 a6 B w1 h1 h2 (unhide TN w1 h).a (unhide TN w1 h).x.g)
    have hl1 := hd_len x
    have hl2 := (bh_len hq).1
    have PL := hide (bh_len hq).2
    rw [hq] at HH
    clear TE TN E
    have J1 := hide (fun j h => jn_more (bhT x) j h)
    have J0 := hide (jn_one (bhT x))
    have JL := hide (fun j hj => jn_len (bhT x) (fun i hi => (unhide PL i hi).2) j hj)
    have JE := hide (show jnT ((bhT x).take (bhT x).length) = jnT (bhT x) by rw [List.take_length])
    generalize bhT x = ps at *
    generalize hdT x = hd at *
    generalize hlo : lnO x = LO at *
    generalize hlv : x.l.map tv = LV at *
    go_enter Tryz.func7, Tryz.ntmps7
    generalize hW : w.alloc (.cells (x.cs p) 37) = W at *
    go_wp2_with (first | (refine wpList_load_row rfl 37 _ rfl w.heap.size rfl 37 (x.cs p) (0, 0) _ (unhide R0) Tryz.underlying37 rfl (by kernel_rfl) ?_))
    refine (unhide HH).mono ?_
    rintro r w1 ⟨m, rfl, hv, hb1⟩
    have hv := hv (by trivial)
    obtain ⟨mk, ms, mop, mn, e1, i1, j1, e2, i2, j2⟩ := m
    obtain ⟨m1, m2, m3, m4, m5, m6⟩ := hv
    simp only at m1 m2 m3 m4 m5 m6
    rw [hlo] at m5
    rw [hlv] at m6
    rw [← m1, ← m2, ← m3, ← m4] at HD BH
    clear m1 m2 m3 m4 hlo hlv
    unfold Mt.cs
    simp only
    have B1 := hide ((unhide HB).trans (hb1.mono (unhide HB).size))
    have hb2 := below_new w1 (.cells #[.int .i64 mk, .string ms, .int .i64 mop, .int .i64 mn, .slice e1 i1 j1, .slice e2 i2 j2] 52)
    obtain ⟨U, hU⟩ : ∃ U, w1.alloc (.cells #[.int .i64 mk, .string ms, .int .i64 mop, .int .i64 mn, .slice e1 i1 j1, .slice e2 i2 j2] 52) = U := ⟨_, rfl⟩
    rw [hU] at hb2
    have RM := hide (show U.heap[w1.heap.size]? = some (.cells #[.int .i64 mk, .string ms, .int .i64 mop, .int .i64 mn, .slice e1 i1 j1, .slice e2 i2 j2] 52 (0, 0)) by rw [← hU]; exact Array.getElem?_push_size)
    have B2 := hide ((unhide B1).trans (hb2.mono (unhide B1).size))
    have A2 := hide (m5.later hb2)
    have V2 := hide (m6.later hb2)
    have H2 := hide (unhide HD e1 i1 j1 e2 i2 j2 U (unhide B2))
    clear hb1 hb2 HH HB R0 m5 m6 B1 HD
    go_wp2_with (first | (refine wpList_load_row rfl 52 _ rfl w1.heap.size rfl 52 #[.int .i64 mk, .string ms, .int .i64 mop, .int .i64 mn, .slice e1 i1 j1, .slice e2 i2 j2] (0, 0) _ (unhide RM) Tryz.underlying52 rfl (by kernel_rfl) ?_))
    refine (unhide H2).mono ?_
    rintro r w2 ⟨v, rfl, hO, hb⟩
    have O2 := hide (hO.base (unhide B2).size)
    have LT2 := hide (fun g (hg : v.ownBlock = some g) => (hO.lt hg).2)
    have R2 := hide (row_keep (unhide RM) hb)
    have A3 := hide ((unhide A2).later hb)
    have V3 := hide ((unhide V2).later hb)
    have B3 := hide ((unhide B2).trans (hb.mono (unhide B2).size))
    have H3 := hide (unhide BH e1 i1 j1 e2 i2 j2 _ w2 (unhide B3) (unhide A3) (unhide V3))
    clear hO hb RM A2 V2 A3 V3 BH H2 B2 hU
    go_wp2_with (first | (refine wpList_load_row rfl 52 _ rfl w1.heap.size rfl 52 #[.int .i64 mk, .string ms, .int .i64 mop, .int .i64 mn, .slice e1 i1 j1, .slice e2 i2 j2] (0, 0) _ (unhide R2) Tryz.underlying52 rfl (by kernel_rfl) ?_))
    refine (unhide H3).mono ?_
    rintro r w3 ⟨vb, rfl, hO, hb⟩
    have O3 := hide ((unhide O2).later hb)
    have L3 := hide (show Lz w3 w2.heap.size w3.heap.size w w3 from ⟨(unhide B3).trans (hb.mono (unhide B3).size), Nat.le_refl _, fun _ _ _ => rfl⟩)
    obtain ⟨eb, cb, hvb, hpt⟩ := hO.at_
    subst hvb
    have PT := hide hpt
    have AV := hide (fun g (hg : v.ownBlock = some g) => (Or.inl (unhide LT2 g hg) : g < w2.heap.size ∨ w3.heap.size ≤ g))
    clear hb H3 R2 B3 LT2 O2 hO hpt hv
    generalize hnp : ps.length = np at *
    clear hnp
    go_wp2
    go_loopw [5, 20] (fun v i z => ∃ j : Nat, j ≤ np ∧ i = .int .i64 j ∧ OwnT z w.heap.size v (hd ++ jnT (ps.take j)) ∧ Lz w3 w2.heap.size w3.heap.size w z ∧ (∀ g, v.ownBlock = some g → g < w2.heap.size ∨ w3.heap.size ≤ g)) (fun _ i _ => np - (intOf i).toNat)
    case atStart => exact ⟨0, Nat.zero_le _, rfl, by simpa [jnT] using unhide O3, unhide L3, unhide AV⟩
    case round =>
      clear O3 L3 AV
      obtain ⟨j, hj, rfl, hown, hlz, hav⟩ := hrel
      by_cases hlt : j < np
      · obtain ⟨g, pv, rfl, hg1, hg2, hcell, hpo⟩ := unhide PT j hlt
        have c0 := (hlz.cell (p := ⟨g, j, none⟩) hg1 hg2).trans hcell
        have P0 := hide (hlz.own hpo (Nat.le_refl _))
        obtain ⟨ca, cc, hpv, _⟩ := hpo.rd
        subst hpv
        obtain ⟨pn, pl⟩ := unhide PL j hlt
        have jl := unhide JL j hj
        have PO := hide hpo
        have OW := hide hown
        have LZ := hide hlz
        have AZ := hide hav
        have hjn : ¬ ((np : Int) ≤ (j : Int)) := by omega
        have LB := hide (show (hd ++ jnT (ps.take j)).length ≤ 3000 by rw [List.length_append]; omega)
        clear hcell hg1 hg2 hpo hown hlz hav jl
        by_cases h0 : j = 0
        · subst h0
          have JJ := hide (show hd ++ jnT (ps.take (0 + 1)) = (hd ++ jnT (ps.take 0)) ++ ps.getD 0 [] by rw [show 0 + 1 = 1 from rfl, unhide J0 (by omega)]; simp [jnT])
          generalize ps.getD 0 [] = pt at *
          have l2 := hide (show (hd ++ jnT (ps.take 0)).length + pt.length ≤ 1000000 by have := unhide LB; omega)
          have PL2 := hide pn
          clear pl pn LB
          go_wp2_with (at_builtin; go_must (refine appTo rfl _ _ rfl (unhide LZ) rfl (unhide OW) (unhide AZ) rfl (unhide P0) (unhide PL2) (unhide l2) ?_; intro v4 w4 hO hL hA; have O4 := hide hO; have L4 := hide hL; have A4 := hide hA; clear hO hL hA))
          go_roundw
          case rel => exact ⟨0 + 1, by omega, by go_num, by rw [unhide JJ]; exact unhide O4, unhide L4, unhide A4⟩
          case measure => simp [intOf]; omega
        · have g0 : 0 < j := by omega
          have gi : (0 : Int) < (j : Int) := by omega
          have JJ := hide (show hd ++ jnT (ps.take (j + 1)) = ((hd ++ jnT (ps.take j)) ++ [mkT 44]) ++ ps.getD j [] by rw [unhide J1 j g0 hlt]; simp [List.append_assoc])
          generalize ps.getD j [] = pt at *
          generalize hd ++ jnT (ps.take j) = ts at *
          have l1 := hide (show ts.length + [Tk.mk 4 0 ⟨#[44]⟩].length ≤ 1000000 by have := unhide LB; simp; omega)
          have l2 := hide (show (ts ++ [Tk.mk 4 0 ⟨#[44]⟩]).length + pt.length ≤ 1000000 by have := unhide LB; simp; omega)
          have PL2 := hide pn
          have M1 := hide (markI_any ⟨#[44]⟩ wr)
          unfold Tk.v Tk.cs at M1
          simp only at M1
          clear pl pn LB
          go_wp2_with fail
          refine (unhide M1).mono ?_
          rintro r z1 ⟨rfl, hb⟩
          have O1 := hide ((unhide OW).later hb)
          have L1 := hide ((unhide LZ).next hb)
          clear hb OW LZ M1 P0 c0
          have hb := below_new z1 (.cells #[.int .i64 4, .int .i64 0, .string ⟨#[44]⟩] 59)
          obtain ⟨z2, hz2⟩ : ∃ z, z1.alloc (.cells #[.int .i64 4, .int .i64 0, .string ⟨#[44]⟩] 59) = z := ⟨_, rfl⟩
          rw [hz2] at hb
          have O2 := hide ((unhide O1).later hb)
          have L2 := hide ((unhide L1).next hb)
          have S2 := hide (show OwnT z2 z1.heap.size (.slice (some ⟨z1.heap.size, 0, none⟩) 1 1) [Tk.mk 4 0 ⟨#[44]⟩] by rw [← hz2]; exact ownT_new z1 (Tk.mk 4 0 ⟨#[44]⟩) z1.heap.size (Nat.le_refl _))
          clear hb O1 L1
          have STAGE1 : True := trivial
          go_wp2_with (first | (at_builtin; clear STAGE1; go_must (refine appTo rfl _ _ rfl (unhide L2) rfl (unhide O2) (unhide AZ) rfl (unhide S2) (one_ne _) (unhide l1) ?_; intro v4 w4 hO hL hA; have O4 := hide hO; have P4 := hide (hL.own (unhide PO) (Nat.le_refl _)); have L4 := hide hL; have A4 := hide hA; have STAGE2 : True := trivial; clear hO hL hA O2 L2 AZ S2)) | (at_builtin; clear STAGE2; go_must (refine appTo rfl _ _ rfl (unhide L4) rfl (unhide O4) (unhide A4) rfl (unhide P4) (unhide PL2) (unhide l2) ?_; intro v5 w5 hO hL hA; have O5 := hide hO; have L5 := hide hL; have A5 := hide hA; clear hO hL hA)))
          go_roundw
          case rel => exact ⟨j + 1, by omega, by go_num, by rw [unhide JJ]; exact unhide O5, unhide L5, unhide A5⟩
          case measure => simp [intOf]; omega
      · obtain rfl : j = np := by omega
        rw [unhide JE] at hown
        obtain ⟨c, cp, hv, hrd⟩ := hown.rd
        subst hv
        have L2 := hide (unhide LI wr hlz.bel c cp hrd)
        have BB := hide hlz.bel
        clear hown hrd hlz hav LI
        generalize (hd ++ jnT ps).length = tl at *
        go_wp2_with fail
        refine (unhide L2).mono ?_
        rintro r z1 ⟨rfl, hb⟩
        have B2 := hide ((unhide BB).trans (hb.mono (unhide BB).size))
        clear hb L2 BB
        go_wp2
        go_ret
        exact ⟨rfl, unhide B2⟩
end Go.Proofs.YtmhcbehplhfgfaaGreatDoor

namespace Go.Proofs.YtmhcbehplhfgfaaGreatDoor
open Go.ChangeShapes Go.WideShapes Go.ChangeAt Go.RowKit
set_option linter.unusedVariables false
set_option maxRecDepth 8000
section
variable {H : Type} {enc : TypeId × Value → H} {W : World} {b0 base : Nat} {spare : TypeId → Bool} {held : Bool}
end
theorem gDb : Tryz.prog.globalNamed "math/bits.deBruijn64tab" = some 8 := by kernel_rfl
theorem tDb : (Tryz.prog.globals[8]?).map (·.type) = some 165 := by kernel_rfl
def dbT : List Int := [0, 1, 56, 2, 57, 49, 28, 3, 61, 58, 42, 50, 38, 29, 17, 4, 62, 47, 59, 36, 45, 43, 51, 22, 53, 39, 33, 30, 24, 18, 12, 5, 63, 55, 48, 27, 60, 41, 37, 16, 46, 35, 44, 21, 52, 32, 23, 11, 54, 26, 40, 15, 34, 20, 31, 10, 25, 14, 19, 9, 13, 8, 7, 6]
theorem dbT_eq : (Rows.laid_math_bits_deBruijn64tab : DataW Unit) = Lib.tabData .u8 dbT := by kernel_rfl
theorem db_of {W : World} {rest : List (String × DataW Unit)} (h : laidMet Tryz.prog (("math/bits.deBruijn64tab", Rows.laid_math_bits_deBruijn64tab) :: rest) W) : W.cell? ⟨8, 7, none⟩ = some (.int .u8 3) := by
  rw [dbT_eq] at h
  have h2 := Lib.tabIs_of_head gDb tDb Tryz.underlying165 Tryz.underlying5 (by kernel_rfl) (by kernel_rfl) h
  exact h2.cell gDb 7 (by decide)
end Go.Proofs.YtmhcbehplhfgfaaGreatDoor

namespace Go.Proofs.YtmhcbehplhfgfaaGreatDoor
open Go.ChangeShapes Go.WideShapes Go.ChangeAt Go.RowKit
set_option linter.unusedVariables false
set_option maxRecDepth 8000
set_option linter.unusedSimpArgs false
theorem gSnL : Tryz.prog.globalNamed "loop.example/g00329/impl.signs" = some 4 := by kernel_rfl
theorem tSnL : (Tryz.prog.globals[4]?).map (·.type) = some 125 := by kernel_rfl
theorem snL_eq : (Rows.laid_loop_example_g00329_impl_signs : DataW Unit) = strData sgnL := by kernel_rfl
theorem gDt : Tryz.prog.globalNamed "loop.example/g00329/impl.dotWords" = some 1 := by kernel_rfl
theorem tDt : (Tryz.prog.globals[1]?).map (·.type) = some 82 := by kernel_rfl
theorem dtD_eq : (Rows.laid_loop_example_g00329_impl_dotWords : DataW Unit) = strData dotL := by kernel_rfl
theorem tabl_of {W : World} (h : laidMetH Tryz.prog [("math/bits.deBruijn32tab", Rows.laid_math_bits_deBruijn32tab), ("math/bits.deBruijn64tab", Rows.laid_math_bits_deBruijn64tab), ("internal/strconv.uint64pow10", Rows.laid_internal_strconv_uint64pow10), ("loop.example/g00329/impl.opWords", Rows.laid_loop_example_g00329_impl_opWords), ("loop.example/g00329/impl.regWords", Rows.laid_loop_example_g00329_impl_regWords), ("loop.example/g00329/impl.signs", Rows.laid_loop_example_g00329_impl_signs), ("loop.example/g00329/impl.argForms", Rows.laid_loop_example_g00329_impl_argForms), ("loop.example/g00329/impl.dotWords", Rows.laid_loop_example_g00329_impl_dotWords)] W) : TabL W := by
  rw [MakeChecks.laidMetH_plain _ _ _ (by kernel_rfl)] at h
  have hd := db_of h.tail
  have h := h.tail.tail.tail
  rw [opD_eq, rgD_eq, snL_eq, fmD_eq, dtD_eq] at h
  exact ⟨⟨⟨strs_of_head gOp tOp Tryz.underlying81 Tryz.underlying9 (by kernel_rfl) (by kernel_rfl) h, strs_of_head gRg tRg Tryz.underlying112 Tryz.underlying9 (by kernel_rfl) (by kernel_rfl) h.tail⟩, strs_of_head gSnL tSnL Tryz.underlying125 Tryz.underlying9 (by kernel_rfl) (by kernel_rfl) h.tail.tail, hd⟩, strs_of_head gFm tFm Tryz.underlying113 Tryz.underlying9 (by kernel_rfl) (by kernel_rfl) h.tail.tail.tail, strs_of_head gDt tDt Tryz.underlying82 Tryz.underlying9 (by kernel_rfl) (by kernel_rfl) h.tail.tail.tail.tail⟩
end Go.Proofs.YtmhcbehplhfgfaaGreatDoor

namespace Go.Proofs.YtmhcbehplhfgfaaGreatDoor
open Go.ChangeShapes Go.WideShapes Go.ChangeAt Go.RowKit
set_option linter.unusedVariables false
set_option maxRecDepth 8000
set_option maxHeartbeats 1000000 in
theorem toXS_of (e : Ex) (ih : ∀ i, i < e.l.length → ToP (xAt e.l i)) (b : Option Addr) (cap : Nat) (w : World) (hr : RdX w 0 e b) (hz : e.sz ≤ 1048576) : Calls Tryz.prog 15 #[.slice b e.l.length cap] w fun r w' => r = .returned (.slice (some ⟨w.heap.size, 0, none⟩) e.l.length e.l.length) ∧ NewX w' w.heap.size e (some ⟨w.heap.size, 0, none⟩) ∧ Below w.heap.size w w' := by
  have hsz := sz_is e
  have RD := hide (fun (w' : World) (M : Nat) (h : DoneX w' w.heap.size e.l e.l.length e.l.length e.l.length M) => DoneX.new h)
  rw [RdX_eq] at hr
  have hp : ∀ i, i < e.l.length → (xAt e.l i).sz ≤ 1048576 := fun i hi => by have := sz_part hi; omega
  have hm : e.l.length ≤ 1048576 := by omega
  clear hsz hz
  generalize hR : (fun w' => NewX w' w.heap.size e (some ⟨w.heap.size, 0, none⟩)) = R
  have hR' : ∀ w', NewX w' w.heap.size e (some ⟨w.heap.size, 0, none⟩) = R w' := fun w' => congrFun hR w'
  simp only [hR'] at RD ⊢
  clear hR hR'
  generalize e.l = l at *
  obtain ⟨len, hl⟩ : ∃ len, l.length = len := ⟨_, rfl⟩
  rw [hl] at hm ih hr hp RD ⊢
  obtain ⟨i0, hi, hz0, hz1, hz2⟩ := info_parts infoX
  obtain ⟨w1, hmk, hown, hgr⟩ := run_make_full (P := Tryz.prog) w w.heap.size 31 33 i0 _ 4 Tryz.underlying31 hi hz0 hz1 .i64 .i64 len (by rw [hz2]; omega) (by unfold maxLen; omega) (Nat.le_refl _)
  have O0 := hide (show DoneX w1 w.heap.size l len len 0 w1.heap.size from ⟨_, [], hown, rfl, List.nodup_nil, (fun b hb => by simp at hb), (fun i hi => by omega)⟩)
  have B0 := hide ((Below.refl w.heap.size w).grown hgr (Nat.le_refl _) (fun k h => by cases h))
  have G0 := hide (World.ownsRow.lt hown w.heap.size rfl).2
  clear hown hgr
  go_enter Tryz.func15, Tryz.ntmps15
  go_wp2
  clear hmk
  go_loopw [4] (fun i wr => ∃ k : Nat, k ≤ len ∧ i = .int .i64 k ∧ DoneX wr w.heap.size l len len k wr.heap.size ∧ w.heap.size < wr.heap.size ∧ Below w.heap.size w wr) (fun i _ => len - (intOf i).toNat)
  case atStart => exact ⟨0, Nat.zero_le _, rfl, unhide O0, unhide G0, unhide B0⟩
  case round =>
    clear O0 B0 G0
    obtain ⟨k, hk, rfl, ho, hgl, hb⟩ := hrel
    by_cases hlt : k < len
    · rcases hr with h0 | ⟨b, off, rfl, _, hbl, hc⟩
      · rw [h0] at hl; simp at hl; omega
      obtain ⟨c0, c1, c2, c, cap', c3, c4⟩ := hc k (by omega)
      have d0 : wr.cell? ⟨b, off + k * 4, none⟩ = _ := (hb.cell (p := ⟨b, _, none⟩) hbl).trans c0
      have d1 : wr.cell? ⟨b, off + k * 4 + 1, none⟩ = _ := (hb.cell (p := ⟨b, _, none⟩) hbl).trans c1
      have d2 : wr.cell? ⟨b, off + k * 4 + 2, none⟩ = _ := (hb.cell (p := ⟨b, _, none⟩) hbl).trans c2
      have d3 : wr.cell? ⟨b, off + k * 4 + 3, none⟩ = _ := (hb.cell (p := ⟨b, _, none⟩) hbl).trans c3
      have HT := hide (ih k hlt c cap' wr (c4.later hb) (hp k hlt))
      have PT := hide (fun (w2 : World) (hz2 : wr.heap.size ≤ w2.heap.size) (h : DoneX w2 w.heap.size l len len k wr.heap.size) (q : Option Addr) (cp : Nat) (hq : NewX w2 wr.heap.size (xAt l k) q) => h.put hlt hgl hz2 q cp hq (Nat.le_refl _))
      have O1 := hide ho
      have B1 := hide hb
      have ZB := hide hb.size
      have GL := hide hgl
      clear c0 c1 c2 c3 c4 hc ho hb hgl
      unfold Ex.cs at HT
      generalize (xAt l k).s = ss at d2 HT PT
      generalize (xAt l k).k = kk at d0 HT PT
      generalize (xAt l k).n = nn at d1 HT PT
      generalize (xAt l k).l.length = ll at d3 HT PT
      go_wp2_with fail
      refine (unhide HT).mono ?_
      rintro e w2 ⟨q, cq, rfl, hq, hb2⟩
      have O2 := hide ((unhide O1).later hb2)
      have B2 := hide ((unhide B1).trans (hb2.mono (unhide ZB)))
      have G2 := hide (Nat.lt_of_lt_of_le (unhide GL) hb2.size)
      have PP := hide (unhide PT w2 hb2.size (unhide O2) q cq hq)
      obtain ⟨cs, _, own2, _⟩ := unhide O2
      have hcl : cs.length = len * 4 := own2.1
      obtain ⟨v0, e0⟩ : ∃ v, cs[k * 4]? = some v := ⟨_, List.getElem?_eq_getElem (by omega)⟩
      obtain ⟨v1, e1⟩ : ∃ v, cs[k * 4 + 1]? = some v := ⟨_, List.getElem?_eq_getElem (by omega)⟩
      obtain ⟨v2, e2⟩ : ∃ v, cs[k * 4 + 2]? = some v := ⟨_, List.getElem?_eq_getElem (by omega)⟩
      obtain ⟨v3, e3⟩ : ∃ v, cs[k * 4 + 3]? = some v := ⟨_, List.getElem?_eq_getElem (by omega)⟩
      have c0 := (World.ownsRow.cellAt own2 (k * 4) (by omega)).trans e0
      have c1 := (World.ownsRow.cellAt own2 (k * 4 + 1) (by omega)).trans e1
      have c2 := (World.ownsRow.cellAt own2 (k * 4 + 2) (by omega)).trans e2
      have c3 := (World.ownsRow.cellAt own2 (k * 4 + 3) (by omega)).trans e3
      have f0 := World.ownsRow.frozenAt own2 (k * 4)
      have f1 := World.ownsRow.frozenAt own2 (k * 4 + 1)
      have f2 := World.ownsRow.frozenAt own2 (k * 4 + 2)
      have f3 := World.ownsRow.frozenAt own2 (k * 4 + 3)
      clear own2 hb2 O1 B1 HT PT O2 d0 d1 d2 d3 e0 e1 e2 e3 hq hcl
      go_wp2
      go_roundw
      case rel => exact ⟨k + 1, by omega, by go_num, by simpa using unhide PP, by simpa using unhide G2, ((((unhide B2).setCell (p := ⟨w.heap.size, _, none⟩) (Nat.le_refl _) _).setCell (p := ⟨w.heap.size, _, none⟩) (Nat.le_refl _) _).setCell (p := ⟨w.heap.size, _, none⟩) (Nat.le_refl _) _).setCell (p := ⟨w.heap.size, _, none⟩) (Nat.le_refl _) _⟩
      case measure => simp [intOf]; omega
    · obtain rfl : k = len := by omega
      have R1 := hide (unhide RD wr _ ho)
      clear ho
      go_wp2
      go_ret
      exact ⟨rfl, unhide R1, hb⟩
end Go.Proofs.YtmhcbehplhfgfaaGreatDoor

namespace Go.Proofs.YtmhcbehplhfgfaaGreatDoor
open Go.ChangeShapes Go.WideShapes Go.ChangeAt Go.RowKit
set_option linter.unusedVariables false
set_option maxRecDepth 8000
theorem three_new (w : World) (o1 o2 o3 : Obj) : Below w.heap.size w (((w.alloc o1).alloc o2).alloc o3) ∧ (((w.alloc o1).alloc o2).alloc o3).heap[w.heap.size + 1]? = some o2 ∧ (((w.alloc o1).alloc o2).alloc o3).heap[w.heap.size + 1 + 1]? = some o3 := by
  have h1 : (w.alloc o1).heap.size = w.heap.size + 1 := by simp
  have h2 : ((w.alloc o1).alloc o2).heap.size = w.heap.size + 1 + 1 := by simp
  have p2 : ((w.alloc o1).alloc o2).heap[w.heap.size + 1]? = some o2 := by rw [← h1]; exact Array.getElem?_push_size
  refine ⟨(((Below.refl _ _).alloc (Nat.le_refl _) _).alloc (by simp) _).alloc (by simp; omega) _, ?_, ?_⟩
  · exact ((Below.refl ((w.alloc o1).alloc o2).heap.size _).alloc (Nat.le_refl _) o3).block _ (by simp) |>.trans p2
  · rw [← h2]; exact Array.getElem?_push_size
theorem row4_set {w : World} {g : Nat} {u0 u1 u2 u3 : Value} {t : TypeId} (h : w.heap[g]? = some (.cells #[u0, u1, u2, u3] t (0, 0))) (v0 v1 v2 v3 : Value) : ((((w.setCell ⟨g, 0, none⟩ v0).setCell ⟨g, 1, none⟩ v1).setCell ⟨g, 2, none⟩ v2).setCell ⟨g, 3, none⟩ v3).heap[g]? = some (.cells #[v0, v1, v2, v3] t (0, 0)) :=
  heap_setCell_same _ g 3 _ t v3 (heap_setCell_same _ g 2 _ t v2 (heap_setCell_same _ g 1 _ t v1 (heap_setCell_same _ g 0 _ t v0 h)))
set_option maxHeartbeats 1000000 in
theorem toX_any (e : Ex) : ToP e := by
  induction e using Ex.ind with
  | h k n s l ih =>
    intro b cap w hr hz
    have e2 : (Ex.mk k n s l).l = l := rfl
    obtain ⟨W, hW⟩ : ∃ W, ((w.alloc (.cells #[.int .i64 k, .int .i64 n, .string s, .slice b l.length cap] 24)).alloc (.cells #[.int .i64 0, .int .i64 0, .string ⟨#[]⟩, .slice none 0 0] 33)).alloc (.cells #[.int .i64 k, .int .i64 n, .string s, .slice none 0 0] 33) = W := ⟨_, rfl⟩
    obtain ⟨hb, hg1, hg2⟩ := three_new w (.cells #[.int .i64 k, .int .i64 n, .string s, .slice b l.length cap] 24) (.cells #[.int .i64 0, .int .i64 0, .string ⟨#[]⟩, .slice none 0 0] 33) (.cells #[.int .i64 k, .int .i64 n, .string s, .slice none 0 0] 33)
    have hsz : w.heap.size + 3 = W.heap.size := by rw [← hW]; simp
    rw [hW] at hb hg1 hg2
    have HC := toXS_of ⟨k, n, s, l⟩ (fun i hi => ih _ (xAt_mem hi)) b cap W (hr.later hb) hz
    rw [e2] at HC
    have HD := HC.mono (R' := fun r w' => ∃ g, r = .returned (.slice (some ⟨g, 0, none⟩) l.length l.length) ∧ NewX w' (w.heap.size + 3) ⟨k, n, s, l⟩ (some ⟨g, 0, none⟩) ∧ Below w.heap.size w w' ∧ w'.heap[w.heap.size + 1]? = some (.cells #[.int .i64 0, .int .i64 0, .string ⟨#[]⟩, .slice none 0 0] 33 (0, 0)) ∧ w'.heap[w.heap.size + 1 + 1]? = some (.cells #[.int .i64 k, .int .i64 n, .string s, .slice none 0 0] 33 (0, 0))) (by
      rintro r w' ⟨rfl, h1, h2⟩
      exact ⟨_, rfl, h1.lower (by omega), hb.trans (h2.mono (by omega)), (h2.block _ (by omega)).trans hg1, (h2.block _ (by omega)).trans hg2⟩)
    have HH := hide HD
    rw [← hW] at HH
    unfold Ex.cs
    simp only
    clear hr hz ih HC HD hb hg1 hg2 hW hsz e2 W
    generalize hll : l.length = ll at *
    go_enter Tryz.func35, Tryz.ntmps35
    go_wp2_with fail
    refine (unhide HH).mono ?_
    rintro r w2 ⟨g, rfl, hrd, hb2, hg1, hg2⟩
    have a0 := Lib.cell_of_heap hg1 0
    have a1 := Lib.cell_of_heap hg1 1
    have a2 := Lib.cell_of_heap hg1 2
    have a3 := Lib.cell_of_heap hg1 3
    have b0 := Lib.cell_of_heap hg2 0
    have b1 := Lib.cell_of_heap hg2 1
    have b2 := Lib.cell_of_heap hg2 2
    have b3 := Lib.cell_of_heap hg2 3
    have f0 := Lib.frozen_of_heap hg1 0
    have f1 := Lib.frozen_of_heap hg1 1
    have f2 := Lib.frozen_of_heap hg1 2
    have f3 := Lib.frozen_of_heap hg1 3
    have f4 := Lib.frozen_of_heap hg2 3
    clear HH
    have hg3 : (w2.setCell ⟨w.heap.size + 1 + 1, 3, none⟩ (.slice (some ⟨g, 0, none⟩) ll ll)).heap[w.heap.size + 1]? = _ := (heap_setCell_other w2 ⟨w.heap.size + 1 + 1, 3, none⟩ (w.heap.size + 1) (.slice (some ⟨g, 0, none⟩) ll ll) (by simp)).trans hg1
    have H1 := hide (fun v0 v1 v2 v3 => row4_set hg3 v0 v1 v2 v3)
    have R := hide (fun u v0 v1 v2 v3 => ((((hrd.far ⟨w.heap.size + 1 + 1, 3, none⟩ u (by simp)).far ⟨w.heap.size + 1, 0, none⟩ v0 (by simp)).far ⟨w.heap.size + 1, 1, none⟩ v1 (by simp)).far ⟨w.heap.size + 1, 2, none⟩ v2 (by simp)).far ⟨w.heap.size + 1, 3, none⟩ v3 (by simp))
    have B := hide (fun u v0 v1 v2 v3 => ((((hb2.setCell (p := ⟨w.heap.size + 1 + 1, 3, none⟩) (by simp; omega) u).setCell (p := ⟨w.heap.size + 1, 0, none⟩) (by simp) v0).setCell (p := ⟨w.heap.size + 1, 1, none⟩) (by simp) v1).setCell (p := ⟨w.heap.size + 1, 2, none⟩) (by simp) v2).setCell (p := ⟨w.heap.size + 1, 3, none⟩) (by simp) v3)
    clear hrd hb2 hg3
    go_wp2
    refine bodyPost_ret (results_cell_row (P := Tryz.prog) rfl _ _ (w.heap.size + 1) 33 #[.int .i64 k, .int .i64 n, .string s, .slice (some ⟨g, 0, none⟩) ll ll] (0, 0) _ rfl (unhide H1 _ _ _ _) Tryz.underlying33 rfl (by kernel_rfl)) rfl ?_
    exact ⟨_, _, rfl, (unhide R _ _ _ _ _).lower (by omega), unhide B _ _ _ _ _⟩
end Go.Proofs.YtmhcbehplhfgfaaGreatDoor

namespace Go.Proofs.YtmhcbehplhfgfaaGreatDoor
open Go.ChangeShapes Go.WideShapes Go.ChangeAt Go.RowKit
set_option linter.unusedVariables false
set_option maxRecDepth 8000
def EqP (e : Ex) : Prop := ∀ (a b : Option Addr) (c1 c2 : Nat) (w : World), RdX w 0 e a → RdX w 0 e b → e.sz ≤ 1048576 → Calls Tryz.prog 50 #[.agg (e.cs a c1), .agg (e.cs b c2)] w fun r w' => r = .returned (.bool true) ∧ Below w.heap.size w w'
set_option maxHeartbeats 1000000 in
theorem eqXS_of (e : Ex) (ih : ∀ i, i < e.l.length → EqP (xAt e.l i)) (a b : Option Addr) (c1 c2 : Nat) (w : World) (h1 : RdX w 0 e a) (h2 : RdX w 0 e b) (hz : e.sz ≤ 1048576) :
    Calls Tryz.prog 22 #[.slice a e.l.length c1, .slice b e.l.length c2] w fun r w' => r = .returned (.bool true) ∧ Below w.heap.size w w' := by
  have hsz := sz_is e
  rw [RdX_eq] at h1 h2
  have hp : ∀ i, i < e.l.length → (xAt e.l i).sz ≤ 1048576 := fun i hi => by have := sz_part hi; omega
  have hm : e.l.length ≤ 1048576 := by omega
  clear hsz hz
  generalize e.l = l at *
  obtain ⟨len, hl⟩ : ∃ len, l.length = len := ⟨_, rfl⟩
  rw [hl] at hm ih h1 h2 hp ⊢
  go_enter Tryz.func22, Tryz.ntmps22
  go_wp2
  go_loopw [5] (fun i wr => ∃ (k : Nat) (y : Sub w.heap.size w), k ≤ len ∧ i = .int .i64 k ∧ wr = y.w) (fun i _ => len - (intOf i).toNat)
  case atStart => exact ⟨0, ⟨w, Below.refl _ _⟩, Nat.zero_le _, rfl, rfl⟩
  case round =>
    obtain ⟨k, x, hk, rfl, rfl⟩ := hrel
    by_cases hlt : k < len
    · rcases h1 with h0 | ⟨p, po, rfl, _, hp1, hpc⟩
      · rw [h0] at hl; simp at hl; omega
      rcases h2 with h0 | ⟨q, qo, rfl, _, hq1, hqc⟩
      · rw [h0] at hl; simp at hl; omega
      obtain ⟨e0, e1, e2, pc, pp, e3, e4⟩ := hpc k (by omega)
      obtain ⟨g0, g1, g2, qc, qp, g3, g4⟩ := hqc k (by omega)
      have d0 : ∀ y : Sub w.heap.size w, y.w.cell? ⟨p, po + k * 4, none⟩ = _ := fun y => (y.h.cell (p := ⟨p, _, none⟩) hp1).trans e0
      have d1 : ∀ y : Sub w.heap.size w, y.w.cell? ⟨p, po + k * 4 + 1, none⟩ = _ := fun y => (y.h.cell (p := ⟨p, _, none⟩) hp1).trans e1
      have d2 : ∀ y : Sub w.heap.size w, y.w.cell? ⟨p, po + k * 4 + 2, none⟩ = _ := fun y => (y.h.cell (p := ⟨p, _, none⟩) hp1).trans e2
      have d3 : ∀ y : Sub w.heap.size w, y.w.cell? ⟨p, po + k * 4 + 3, none⟩ = _ := fun y => (y.h.cell (p := ⟨p, _, none⟩) hp1).trans e3
      have f0 : ∀ y : Sub w.heap.size w, y.w.cell? ⟨q, qo + k * 4, none⟩ = _ := fun y => (y.h.cell (p := ⟨q, _, none⟩) hq1).trans g0
      have f1 : ∀ y : Sub w.heap.size w, y.w.cell? ⟨q, qo + k * 4 + 1, none⟩ = _ := fun y => (y.h.cell (p := ⟨q, _, none⟩) hq1).trans g1
      have f2 : ∀ y : Sub w.heap.size w, y.w.cell? ⟨q, qo + k * 4 + 2, none⟩ = _ := fun y => (y.h.cell (p := ⟨q, _, none⟩) hq1).trans g2
      have f3 : ∀ y : Sub w.heap.size w, y.w.cell? ⟨q, qo + k * 4 + 3, none⟩ = _ := fun y => (y.h.cell (p := ⟨q, _, none⟩) hq1).trans g3
      have HE := hide (fun y : Sub w.heap.size w => ih k hlt pc qc pp qp y.w (e4.later y.h) (g4.later y.h) (hp k hlt))
      have ne := Sub.ne w.heap.size w
      have HZ := hide (Nat.le_refl w.heap.size)
      clear e0 e1 e2 e3 e4 g0 g1 g2 g3 g4 hpc hqc ih hp
      unfold Ex.cs at HE
      generalize (xAt l k).s = ss at *
      generalize (xAt l k).k = kk at *
      generalize (xAt l k).n = nn at *
      generalize (xAt l k).l.length = ll at *
      go_wp2_with fail
      refine wp_region_sub x (by kernel_rfl) (by kernel_rfl) ?_
      repeat (go_big_quiet_step (first | (go_at_call 50; exact Sub.call (unhide HZ) (unhide HE _))))
      refine wpQuiet_nil ?_
      intro y
      go_wp2
      go_roundw
      case rel => exact ⟨k + 1, y, by omega, by go_num, rfl⟩
      case measure => simp [intOf]; omega
    · go_wp2
      go_ret
      exact ⟨rfl, x.h⟩
set_option maxHeartbeats 1000000 in
theorem eqX_same (e : Ex) : EqP e := by
  induction e using Ex.ind with
  | h k n s l ih =>
    intro a b c1 c2 w h1 h2 hz
    have e2 : (Ex.mk k n s l).l = l := rfl
    have hbW : Below w.heap.size w ((w.alloc (.cells #[.int .i64 k, .int .i64 n, .string s, .slice a l.length c1] 33)).alloc (.cells #[.int .i64 k, .int .i64 n, .string s, .slice b l.length c2] 33)) := ((Below.refl _ _).alloc (Nat.le_refl _) _).alloc (by simp) _
    have HZ := eqXS_of ⟨k, n, s, l⟩ (fun i hi => ih _ (xAt_mem hi)) a b c1 c2 _ (h1.later hbW) (h2.later hbW) hz
    rw [e2] at HZ
    have HS := hide (HZ.mono (R' := fun r w' => r = .returned (.bool true) ∧ Below w.heap.size w w') (by rintro r w' ⟨rfl, h⟩; exact ⟨rfl, hbW.trans (h.mono hbW.size)⟩))
    unfold Ex.cs
    simp only
    clear h1 h2 hz ih HZ hbW e2
    generalize l.length = ll at *
    go_enter Tryz.func50, Tryz.ntmps50
    go_wp2_with (go_at_call 22; refine (unhide HS).mono ?_; rintro e w1 ⟨rfl, hb1⟩)
    go_ret
    exact ⟨rfl, hb1⟩
end Go.Proofs.YtmhcbehplhfgfaaGreatDoor

namespace Go.Proofs.YtmhcbehplhfgfaaGreatDoor
open Go.ChangeShapes Go.WideShapes Go.ChangeAt Go.RowKit
set_option linter.unusedVariables false
set_option maxRecDepth 8000
set_option linter.unusedSimpArgs false
theorem fit_l {e : Ex} (h : Fit e) : Fit ⟨0, 0, E0, e.l⟩ := (Fit_eq ⟨0, 0, E0, e.l⟩).2 ⟨show E0.size ≤ 9223372036854775807 by decide, ((Fit_eq e).1 h).2⟩
set_option maxHeartbeats 2000000 in
theorem szA_any (a : Ag) (b : Option Addr) (cap : Nat) (left : Int) (w : World) (hr : RdX w 0 a.e b) (hf : Fit a.e) (h0 : 0 ≤ left) (h1 : left ≤ 1048576) : Calls Tryz.prog 9 #[.agg (a.cs b cap), .int .i64 left] w fun r w' => r = .returned (.int .i64 (lessX left a.e.sz)) ∧ Below w.heap.size w w' := by
  have B0 := below_new w (.cells (a.cs b cap) 26)
  have S := hide (szX_any a.e b cap left _ (hr.later B0) hf h0 h1)
  have HB := hide B0
  unfold lessX at S ⊢
  unfold Ex.cs at S
  unfold Ag.cs at S HB ⊢
  generalize a.e.sz = z at *
  generalize a.e.l.length = ll at *
  generalize a.e.k = k at *
  generalize a.e.n = n at *
  generalize a.e.s = s at *
  generalize a.f = f at *
  generalize a.r = r at *
  clear hr hf B0
  by_cases hneg : left - (z : Int) < 0
  · rw [if_pos hneg] at S ⊢
    clear hneg
    go_enter Tryz.func9, Tryz.ntmps9
    go_wp2_with (go_at_call 23; refine (unhide S).mono ?_; rintro e w1 ⟨rfl, hb1⟩)
    go_ret
    exact ⟨rfl, (unhide HB).trans (hb1.mono (unhide HB).size)⟩
  · rw [if_neg hneg] at S ⊢
    generalize left - (z : Int) = d at *
    go_enter Tryz.func9, Tryz.ntmps9
    go_wp2_with (go_at_call 23; refine (unhide S).mono ?_; rintro e w1 ⟨rfl, hb1⟩)
    go_ret
    exact ⟨rfl, (unhide HB).trans (hb1.mono (unhide HB).size)⟩
set_option maxHeartbeats 2000000 in
theorem eqA_same (a : Ag) (b c : Option Addr) (cp dp : Nat) (w : World) (h1 : RdX w 0 a.e b) (h2 : RdX w 0 a.e c) (hz : a.e.sz ≤ 1048576) : Calls Tryz.prog 21 #[.agg (a.cs b cp), .agg (a.cs c dp)] w fun r w' => r = .returned (.bool true) ∧ Below w.heap.size w w' := by
  have B0 : Below w.heap.size w ((w.alloc (.cells (a.cs b cp) 35)).alloc (.cells (a.cs c dp) 35)) := ((Below.refl _ _).alloc (Nat.le_refl _) _).alloc (by simp) _
  have S := hide (eqX_same a.e b c cp dp _ (h1.later B0) (h2.later B0) hz)
  have HB := hide B0
  unfold Ex.cs at S
  unfold Ag.cs at S HB ⊢
  generalize a.e.l.length = ll at *
  generalize a.e.k = k at *
  generalize a.e.n = n at *
  generalize a.e.s = s at *
  generalize a.f = f at *
  generalize a.r = r at *
  clear h1 h2 hz B0
  go_enter Tryz.func21, Tryz.ntmps21
  go_wp2_with (go_at_call 50; refine (unhide S).mono ?_; rintro e w1 ⟨rfl, hb1⟩)
  go_ret
  exact ⟨rfl, (unhide HB).trans (hb1.mono (unhide HB).size)⟩
theorem three_new0 (w : World) (o1 o2 o3 : Obj) : (((w.alloc o1).alloc o2).alloc o3).heap[w.heap.size]? = some o1 := by
  have p1 : (w.alloc o1).heap[w.heap.size]? = some o1 := Array.getElem?_push_size
  exact (((Below.refl (w.alloc o1).heap.size (w.alloc o1)).alloc (Nat.le_refl _) o2).alloc (by simp) o3).block _ (by simp) |>.trans p1
theorem heap_setK {w : World} {g : Nat} {cs : Array Value} {t : TypeId} (o : Nat) (v : Value) (h : w.heap[g]? = some (.cells cs t (0, 0))) : (w.setCell ⟨g, o, none⟩ v).heap[g]? = some (.cells (cs.setIfInBounds o v) t (0, 0)) := heap_setCell_same _ g o _ t v h
set_option maxHeartbeats 4000000 in
theorem toA_any (a : Ag) (b : Option Addr) (cap : Nat) (w : World) (hr : RdX w 0 a.e b) (hz : a.e.sz ≤ 1048576) : Calls Tryz.prog 14 #[.agg (a.cs b cap)] w fun r w' => ∃ (c : Option Addr) (cp : Nat), r = .returned (.agg (a.cs c cp)) ∧ NewX w' w.heap.size a.e c ∧ Below w.heap.size w w' := by
  obtain ⟨hb, hg1, hg2⟩ := three_new w (.cells (a.cs b cap) 26) (.cells #[.int .i64 0, .int .i64 0, .int .i64 0, .int .i64 0, .string ⟨#[]⟩, .slice none 0 0] 35) (.cells #[.int .i64 a.f, .int .i64 a.r, .int .i64 0, .int .i64 0, .string ⟨#[]⟩, .slice none 0 0] 35)
  obtain ⟨W, hW⟩ : ∃ W, ((w.alloc (.cells (a.cs b cap) 26)).alloc (.cells #[.int .i64 0, .int .i64 0, .int .i64 0, .int .i64 0, .string ⟨#[]⟩, .slice none 0 0] 35)).alloc (.cells #[.int .i64 a.f, .int .i64 a.r, .int .i64 0, .int .i64 0, .string ⟨#[]⟩, .slice none 0 0] 35) = W := ⟨_, rfl⟩
  have hsz : w.heap.size + 3 = W.heap.size := by rw [← hW]; simp
  have hg0 := three_new0 w (.cells (a.cs b cap) 26) (.cells #[.int .i64 0, .int .i64 0, .int .i64 0, .int .i64 0, .string ⟨#[]⟩, .slice none 0 0] 35) (.cells #[.int .i64 a.f, .int .i64 a.r, .int .i64 0, .int .i64 0, .string ⟨#[]⟩, .slice none 0 0] 35)
  rw [hW] at hb hg1 hg2 hg0
  have c2 := Lib.cell_of_heap hg0 2
  have c3 := Lib.cell_of_heap hg0 3
  have c4 := Lib.cell_of_heap hg0 4
  have c5 := Lib.cell_of_heap hg0 5
  have S := hide (toX_any a.e b cap W (hr.later hb) hz)
  have HB := hide hb
  have G1 := hide hg1
  have G2 := hide hg2
  have HS := hide hsz
  clear hr hb hg0 hg1 hg2 hz hsz
  unfold Ex.cs at S
  unfold Ag.cs at hW c2 c3 c4 c5 ⊢
  simp at c2 c3 c4 c5
  generalize a.e.l.length = ll at *
  generalize a.e.k = k at *
  generalize a.e.n = n at *
  generalize a.e.s = s at *
  generalize a.f = f at *
  generalize a.r = r at *
  go_enter Tryz.func14, Tryz.ntmps14
  go_wp2_with fail
  refine (unhide S).mono ?_
  rintro e w1 ⟨c, cp, rfl, hn, hb1⟩
  have hl := unhide HS
  have q1 := row_keep (unhide G1) hb1
  have q2 := row_keep (unhide G2) hb1
  have B1 := (unhide HB).trans (hb1.mono (unhide HB).size)
  have hg : w1.grownBy ((((w1.setCell ⟨w.heap.size + 1 + 1, 2, none⟩ (.int .i64 k)).setCell ⟨w.heap.size + 1 + 1, 3, none⟩ (.int .i64 n)).setCell ⟨w.heap.size + 1 + 1, 4, none⟩ (.string s)).setCell ⟨w.heap.size + 1 + 1, 5, none⟩ (.slice c ll cp)) (some (w.heap.size + 1 + 1)) := (grownBy_trans (grownBy_trans (grownBy_trans (grownBy_set (.int .i64 k)) (grownBy_set (.int .i64 n))) (grownBy_set (.string s))) (grownBy_set (.slice c ll cp)))
  have N2 := hide ((hn.drawn hg (by omega)).lower (show w.heap.size + 2 ≤ W.heap.size by omega))
  have Q1 := hide ((hg.block _ (Array.getElem?_eq_some_iff.1 q1).1 (fun e => by simp at e)).trans q1)
  have Q2 := hide (show (((((w1.setCell ⟨w.heap.size + 1 + 1, 2, none⟩ (.int .i64 k)).setCell ⟨w.heap.size + 1 + 1, 3, none⟩ (.int .i64 n)).setCell ⟨w.heap.size + 1 + 1, 4, none⟩ (.string s)).setCell ⟨w.heap.size + 1 + 1, 5, none⟩ (.slice c ll cp))).heap[w.heap.size + 1 + 1]? = some (.cells #[.int .i64 f, .int .i64 r, .int .i64 k, .int .i64 n, .string s, .slice c ll cp] 35 (0, 0)) from heap_setK 5 _ (heap_setK 4 _ (heap_setK 3 _ (heap_setK 2 _ q2))))
  have BB := hide (B1.grown hg B1.size (fun g e => by cases e; omega))
  have k2 := Lib.cell_of_heap q2 2
  have f2 := Lib.frozen_of_heap q2 2
  have k3 := Lib.cell_of_heap q2 3
  have f3 := Lib.frozen_of_heap q2 3
  have k4 := Lib.cell_of_heap q2 4
  have f4 := Lib.frozen_of_heap q2 4
  have k5 := Lib.cell_of_heap q2 5
  have f5 := Lib.frozen_of_heap q2 5
  clear hn hb1 q1 q2 B1 hg S G1 G2 hl
  obtain ⟨w2, hw2⟩ : ∃ w2, ((((w1.setCell ⟨w.heap.size + 1 + 1, 2, none⟩ (.int .i64 k)).setCell ⟨w.heap.size + 1 + 1, 3, none⟩ (.int .i64 n)).setCell ⟨w.heap.size + 1 + 1, 4, none⟩ (.string s)).setCell ⟨w.heap.size + 1 + 1, 5, none⟩ (.slice c ll cp)) = w2 := ⟨_, rfl⟩
  rw [hw2] at N2 Q1 Q2 BB
  go_wp2_with (first | (refine wpList_load_row rfl 35 _ rfl (w.heap.size + 1 + 1) rfl 35 #[.int .i64 f, .int .i64 r, .int .i64 k, .int .i64 n, .string s, .slice c ll cp] (0, 0) _ (unhide Q2) Tryz.underlying35 rfl (by kernel_rfl) ?_) | (refine wpList_store_row rfl 35 _ _ rfl (w.heap.size + 1) #[.int .i64 f, .int .i64 r, .int .i64 k, .int .i64 n, .string s, .slice c ll cp] rfl rfl 35 _ (unhide Q1) (by kernel_rfl) rfl (by simp [Value.oneCell']) ?_))
  refine bodyPost_ret (results_cell_row (P := Tryz.prog) rfl _ _ (w.heap.size + 1) 35 #[.int .i64 f, .int .i64 r, .int .i64 k, .int .i64 n, .string s, .slice c ll cp] (0, 0) _ rfl (setRow_heap _ _ _ _ _ _ (unhide Q1)) Tryz.underlying35 rfl (by kernel_rfl)) rfl ?_
  exact ⟨c, cp, rfl, ((unhide N2).row _ (by omega)).lower (by omega), (unhide BB).grown (grownBy_row _) (unhide BB).size (fun g e => by cases e; omega)⟩
end Go.Proofs.YtmhcbehplhfgfaaGreatDoor
