/- Contracts over this seat's translation, laid together; conditions stand as hypotheses of each. -/
import Derived.Test.YthgbpofcfmnpdaaGreatDoorTyA
import Derived.Test.YthgbpofcfmnpdaaGreatDoorTyC
import Derived.Test.YthgbpofcfmnpdaaGreatDoorTyD
import Derived.Test.YthgbpofcfmnpdaaGreatDoorTyE
import Derived.Test.YthgbpofcfmnpdaaGreatDoorTyG
import Derived.Laws.AppendOwn
import Derived.LoopN
import Derived.OrdersHeld
import Derived.Deep.RegionHeld
import Derived.Test.YthgbpofcfmnpdaaGreatDoorRows
import Derived.Lib.SmallJoins
import Derived.Lib.LaidTab
import Derived.Stop.LaidErr
import Derived.MakeChecks
import Derived.Deep.Slices
import Derived.LaidMore
import Derived.Deep.RegionWith

namespace Go.Proofs.YthgbpofcfmnpdaaGreatDoor
open Go.ChangeShapes Go.WideShapes Go.ChangeAt Go.RowKit
set_option linter.unusedVariables false
set_option maxRecDepth 8000
set_option linter.unusedSimpArgs false

set_option maxHeartbeats 2000000 in
theorem pair_0 (u v : Value) (w : World) : Calls Tryz.prog 50 #[.int .i64 0, .agg #[u, v]] w fun r w' => r = .returned (.tuple #[.nilIface, .bool false]) ∧ Below w.heap.size w w' := by
  have B0 := hide (below_new w (.cells #[u, v] 88))
  go_enter Tryz.func50, Tryz.ntmps50
  go_wp2
  go_ret2
  exact ⟨rfl, unhide B0⟩
theorem sgnK_in {s : ByteArray} {k : Int} (h : sgnK s = some k) : 5 ≤ k ∧ k ≤ 10 := by
  unfold sgnK at h
  repeat' (split at h)
  all_goals first | (cases h; omega) | cases h
set_option maxHeartbeats 1000000 in
theorem neTok (k n j m : Int) (s r : ByteArray) (w : World) : (binOp .neq 62 (.agg #[.int .i64 k, .int .i64 n, .string s]) (.agg #[.int .i64 j, .int .i64 m, .string r])).run Tryz.prog w = .ok (.bool (!(k == j && (n == m && s.toList == r.toList)))) w := by
  go_simp
  by_cases h1 : k = j <;> by_cases h2 : n = m <;> by_cases h3 : s.toList = r.toList <;> simp [h1, h2, h3]
def NoR (w : World) (r : Ending) (w' : World) : Prop := Below w.heap.size w w' ∧ ∃ v x, Ifv v ∧ r = .returned (.tuple #[v, x, .bool false])
def YeR (e : Ex) (q : List Tk) (w : World) (r : Ending) (w' : World) : Prop := Below w.heap.size w w' ∧ ∃ a n cap, r = .returned (.tuple #[tv e, .slice a n cap, .bool true]) ∧ Sl w' a n cap q
theorem trR_none {o : Option (Ex × List Tk)} {w : World} (h : o = none) : TrR o w = NoR w := by subst h; rfl
theorem trR_some {o : Option (Ex × List Tk)} {w : World} {e : Ex} {q : List Tk} (h : o = some (e, q)) : TrR o w = YeR e q w := by subst h; rfl
theorem noR_nil {w w' : World} {x : Value} (h : Below w.heap.size w w') : NoR w (.returned (.tuple #[.nilIface, x, .bool false])) w' := ⟨h, _, _, .inl rfl, rfl⟩
set_option maxHeartbeats 2000000 in
theorem pairI_no (d : Nat) (ih : TrP d) (a : Option Addr) (n cap : Nat) (ts : List Tk) (w : World) (h : Sl w a n cap ts) (ht : TabG w) (hr : readF d ts = none) : Calls Tryz.prog 60 #[.slice a n cap, .int .i64 d] w (TrR (twoF d ts) w) := by
  have I1 := hide (ih a n cap ts w h ht)
  rw [trR_none hr] at I1
  unfold NoR at I1
  rw [trR_none (show twoF d ts = none by unfold twoF; rw [hr])]
  have FN := hide (fun w' x => @noR_nil w w' x)
  generalize NoR w = NR at *
  clear ih h ht hr
  go_enter Tryz.func60, Tryz.ntmps60
  go_wp2_with fail
  refine (unhide I1).mono ?_
  rintro r w1 ⟨hb1, v, xx, hv, rfl⟩
  have B1 := hide hb1
  clear hb1 hv I1
  go_wp2
  refine bodyPost_ret (results_tmp3 rfl _ _ _) rfl ?_
  exact unhide FN _ _ (unhide B1)
set_option maxHeartbeats 2000000 in
theorem pairI_end (d : Nat) (ih : TrP d) (a : Option Addr) (n cap : Nat) (ts : List Tk) (w : World) (h : Sl w a n cap ts) (ht : TabG w) (e : Ex) (hr : readF d ts = some (e, [])) : Calls Tryz.prog 60 #[.slice a n cap, .int .i64 d] w (TrR (twoF d ts) w) := by
  have I1 := hide (ih a n cap ts w h ht)
  rw [trR_some hr] at I1
  unfold YeR at I1
  rw [trR_none (show twoF d ts = none by unfold twoF; rw [hr])]
  have FN := hide (fun w' x => @noR_nil w w' x)
  generalize NoR w = NR at *
  clear ih h ht hr
  go_enter Tryz.func60, Tryz.ntmps60
  go_wp2_with fail
  refine (unhide I1).mono ?_
  rintro r w1 ⟨hb1, a1, n1, c1, rfl, hs1⟩
  have B1 := hide hb1
  obtain rfl : n1 = 0 := by have := hs1.ln; simpa using this.symm
  clear hb1 hs1 I1
  go_wp2
  refine bodyPost_ret (results_tmp3 rfl _ _ _) rfl ?_
  exact unhide FN _ _ (unhide B1)
set_option maxHeartbeats 8000000 in
theorem pairI_main (d : Nat) (hd : d ≤ 5) (ih : TrP d) (a : Option Addr) (n cap : Nat) (ts : List Tk) (w : World) (h : Sl w a n cap ts) (ht : TabG w) (e : Ex) (t1 : Tk) (q1 : List Tk) (hr : readF d ts = some (e, t1 :: q1)) : Calls Tryz.prog 60 #[.slice a n cap, .int .i64 d] w (TrR (twoF d ts) w) := by
  have I1 := hide (ih a n cap ts w h ht)
  rw [trR_some hr] at I1
  unfold YeR at I1
  have O := hide (show twoF d ts = _ by unfold twoF; rw [hr])
  generalize twoF d ts = RO at *
  generalize hTR : TrR RO w = TR at *
  have HT := hide hTR
  have TG := hide ht
  have IH := hide ih
  clear ih h ht hr hTR
  obtain ⟨ty1, v1, hv1⟩ := tv_if e
  rw [hv1] at I1
  go_enter Tryz.func60, Tryz.ntmps60
  go_wp2_with fail
  refine (unhide I1).mono ?_
  rintro r w1 ⟨hb1, a1, n1, c1, rfl, hs1⟩
  have B1 := hide hb1
  have TG1 := hide ((unhide TG).later hb1 (unhide TG).lt)
  have S1 := hide hs1
  obtain ⟨b1, o1, rfl, hbl1, x0, x1, x2⟩ := hs1.head
  have hn1 : 0 < n1 := by have := hs1.ln; simp at this; omega
  have hz1 : ((n1 : Int) == 0) = false := by rw [beq_eq_false_iff_ne]; omega
  have hok1 := hide hs1.ok.head.1
  have hcp1 := hs1.cp
  have hmx1 := hs1.mx
  have hsm1 := hs1.sm
  have hV := hide hv1
  clear hb1 hs1 I1 TG hv1
  go_wp2_with fail
  have KP := hide (kindP_any t1 (unhide hok1) w1 (unhide TG1))
  unfold Tk.v Tk.cs at KP
  refine (unhide KP).mono ?_
  rintro r w2 ⟨rfl, hb2⟩
  have B2 := hide ((unhide B1).trans (hb2.mono (unhide B1).size))
  have TG2 := hide ((unhide TG1).later hb2 (unhide TG1).lt)
  have S2 := hide ((unhide S1).later hb2)
  generalize hkk : (sgnK t1.s).getD 0 = kk at *
  have HK := hide hkk
  clear hb2 B1 TG1 S1 KP x0 x1 x2 hkk hok1 hbl1
  by_cases hc1 : c1 = 1
  · subst hc1
    obtain rfl : n1 = 1 := by omega
    obtain rfl : q1 = [] := by have := (unhide S2).ln; simpa using this
    have SL := hide (show Sl w2 (some ⟨b1, o1, none⟩) 0 0 ([] : List Tk) from ⟨rfl, Nat.le_refl _, by unfold maxLen; omega, .inl rfl, allOk_nil, by omega⟩)
    have IH2 := hide (unhide IH _ _ _ _ w2 (unhide SL) (unhide TG2))
    clear IH S2 SL TG2
    cases hr2 : readF d [] with
    | none =>
      have O2 := hide (show RO = none by rw [unhide O, hr2])
      rw [trR_none hr2] at IH2
      unfold NoR at IH2
      go_wp2_with fail
      refine (unhide IH2).mono ?_
      rintro r w3 ⟨hb3, v, xx, hv, rfl⟩
      have B3 := hide ((unhide B2).trans (hb3.mono (unhide B2).size))
      clear hb3 hv IH2 B2 O hr2
      go_wp2
      go_region
      go_wp2
      refine bodyPost_ret (results_tmp3 rfl _ _ _) rfl ?_
      rw [← unhide HT, trR_none (unhide O2)]
      exact noR_nil ((unhide B3).trans ((below_drew (w := w3)).mono (unhide B3).size))
    | some p =>
      obtain ⟨b, q3⟩ := p
      rw [trR_some hr2] at IH2
      unfold YeR at IH2
      obtain ⟨ty3, v3, hv3⟩ := tv_if b
      rw [hv3] at IH2
      have hV3 := hide hv3
      clear hv3
      cases q3 with
      | nil =>
        have O2 := hide (show RO = none by rw [unhide O, hr2])
        go_wp2_with fail
        refine (unhide IH2).mono ?_
        rintro r w3 ⟨hb3, a3, n3, c3, rfl, hs3⟩
        have B3 := hide ((unhide B2).trans (hb3.mono (unhide B2).size))
        obtain rfl : n3 = 0 := by have := hs3.ln; simpa using this.symm
        clear hb3 hs3 IH2 B2 O hr2
        go_wp2
        go_region
        go_wp2
        refine bodyPost_ret (results_tmp3 rfl _ _ _) rfl ?_
        rw [← unhide HT, trR_none (unhide O2)]
        exact noR_nil ((unhide B3).trans ((below_drew (w := w3)).mono (unhide B3).size))
      | cons t2 q2 =>
        have O2 := hide (show RO = if eqS t2.s (mkS 62) = true then (match sgnK t1.s with | none => none | some k => some (⟨k, 0, E0, [e, b]⟩, q2)) else none by rw [unhide O, hr2]; rfl)
        go_wp2_with fail
        refine (unhide IH2).mono ?_
        rintro r w3 ⟨hb3, a3, n3, c3, rfl, hs3⟩
        have B3 := hide ((unhide B2).trans (hb3.mono (unhide B2).size))
        have S3 := hide hs3
        obtain ⟨b3, o3, rfl, hbl3, x0, x1, x2⟩ := hs3.head
        have hn3 : 0 < n3 := by have := hs3.ln; simp at this; omega
        have hz3 : ((n3 : Int) == 0) = false := by rw [beq_eq_false_iff_ne]; omega
        have hcp3 := hs3.cp
        have hmx3 := hs3.mx
        have hsm3 := hs3.sm
        have M := hide (mark_same hs3.ok.head.1 (c := 62) (by decide))
        clear hb3 hs3 IH2 B2 O hr2
        go_wp2
        have D3 := hide (show (fun v => v.cell? ⟨b3, o3, none⟩ = some (.int .i64 t2.k) ∧ v.cell? ⟨b3, o3 + 1, none⟩ = some (.int .i64 t2.n) ∧ v.cell? ⟨b3, o3 + 2, none⟩ = some (.string t2.s)) w3.drew from ⟨x0, x1, x2⟩)
        refine wp_region_held_drew (S := fun v => v.cell? ⟨b3, o3, none⟩ = some (.int .i64 t2.k) ∧ v.cell? ⟨b3, o3 + 1, none⟩ = some (.int .i64 t2.n) ∧ v.cell? ⟨b3, o3 + 2, none⟩ = some (.string t2.s)) (by kernel_rfl) (unhide D3) (fun hS => ?_)
        have HS := hide hS
        clear hS x0 x1 x2
        refine wpAnyH_take (i := 0) (v := .bool true) rfl (by kernel_rfl) (by kernel_rfl) (by kernel_rfl) (fun _ _ _ h => h) (Or.inl ⟨by rfl, fun w hc => ?_⟩) (unhide HS) ?_
        · clear hc; go_simp
        go_simp
        refine wpAnyH_take (i := 1) (v := .bool false) rfl (by kernel_rfl) (by kernel_rfl) (by kernel_rfl) (fun _ _ _ h => h) (Or.inl ⟨by rfl, fun w hc => ?_⟩) (unhide HS) ?_
        · clear hc; go_simp
        go_simp
        refine wpAnyH_take (i := 2) (v := .bool false) rfl (by kernel_rfl) (by kernel_rfl) (by kernel_rfl) (fun _ _ _ h => h) (Or.inl ⟨by rfl, fun w hc => ?_⟩) (unhide HS) ?_
        · clear hc; go_simp
        go_simp
        refine wpAnyH_take (i := 3) (v := .slice (some ⟨b3, o3, none⟩) n3 c3) rfl (by kernel_rfl) (by kernel_rfl) (by kernel_rfl) (fun _ _ _ h => h) (Or.inl ⟨by rfl, fun w hc => ?_⟩) (unhide HS) ?_
        · clear hc; go_simp
        go_simp
        refine wpAnyH_take (i := 4) (v := .int .i64 n3) rfl (by kernel_rfl) (by kernel_rfl) (by kernel_rfl) (fun _ _ _ h => h) (Or.inl ⟨by rfl, fun w hc => ?_⟩) (unhide HS) ?_
        · clear hc; go_simp
        go_simp
        refine wpAnyH_take (i := 5) (v := .bool false) rfl (by kernel_rfl) (by kernel_rfl) (by kernel_rfl) (fun _ _ _ h => h) (Or.inl ⟨by rfl, fun w hc => ?_⟩) (unhide HS) ?_
        · clear hc; go_simp
        go_simp
        refine wpAnyH_take (i := 6) (v := .bool false) rfl (by kernel_rfl) (by kernel_rfl) (by kernel_rfl) (fun _ _ _ h => h) (Or.inl ⟨by rfl, fun w hc => ?_⟩) (unhide HS) ?_
        · clear hc; go_simp
        go_simp
        refine wpAnyH_take (i := 7) (v := .bool false) rfl (by kernel_rfl) (by kernel_rfl) (by kernel_rfl) (fun _ _ _ h => h) (Or.inl ⟨by rfl, fun w hc => ?_⟩) (unhide HS) ?_
        · clear hc; go_simp
        go_simp
        refine wpAnyH_take (i := 8) (v := .slice (some ⟨b3, o3, none⟩) n3 c3) rfl (by kernel_rfl) (by kernel_rfl) (by kernel_rfl) (fun _ _ _ h => h) (Or.inl ⟨by rfl, fun w hc => ?_⟩) (unhide HS) ?_
        · clear hc; go_simp
        go_simp
        refine wpAnyH_take (i := 9) (v := .pointer (some ⟨b3, o3, none⟩)) rfl (by kernel_rfl) (by kernel_rfl) (by kernel_rfl) (fun _ _ _ h => h) (Or.inl ⟨by rfl, fun w hc => ?_⟩) (unhide HS) ?_
        · clear hc; go_simp
        go_simp
        refine wpAnyH_take (i := 10) (v := .agg #[.int .i64 t2.k, .int .i64 t2.n, .string t2.s]) rfl (by kernel_rfl) (by kernel_rfl) (by kernel_rfl) (fun _ _ _ h => h) (Or.inl ⟨by rfl, fun w hc => ?_⟩) (unhide HS) ?_
        · obtain ⟨h0, h1, h2⟩ := hc; go_simp
        go_simp
        refine wpAnyH_ready (rs := [11]) (by kernel_rfl) (by simp) ?_
        refine AllReadyH.cons rfl (fun K2 hK => ?_) AllReadyH.nil
        go_simp
        refine (markI_any ⟨#[62]⟩ _).mono ?_
        rintro r w4 ⟨rfl, hb4⟩
        unfold Tk.v Tk.cs
        refine hK.out _ _ (⟨(hb4.cell (p := ⟨b3, o3, none⟩) hbl3).trans (unhide D3).1, (hb4.cell (p := ⟨b3, o3 + 1, none⟩) hbl3).trans (unhide D3).2.1, (hb4.cell (p := ⟨b3, o3 + 2, none⟩) hbl3).trans (unhide D3).2.2⟩) (fun hS => ?_)
        clear HS
        have HS := hide hS
        clear hS hK K2
        have B4 := hide ((unhide B3).trans (((below_drew (w := w3)).trans (hb4.mono (Nat.le_refl _))).mono (unhide B3).size))
        have S4 := hide ((unhide S3).later ((below_drew (w := w3)).trans (hb4.mono (Nat.le_refl _))))
        clear hb4 B3 S3 D3
        have n62 : eqS t2.s (mkS 62) = false → ¬ t2.s.toList = [62] := fun h e => by rw [(show eqS t2.s (mkS 62) = true from beq_iff_eq.2 (e.trans (show [62] = (mkS 62).toList by kernel_rfl)))] at h; cases h
        have NT := neTok t2.k t2.n 4 0 t2.s ⟨#[62]⟩
        rw [show (t2.k == 4 && (t2.n == 0 && t2.s.toList == (⟨#[62]⟩ : ByteArray).toList)) = eqS t2.s (mkS 62) from unhide M] at NT
        cases hq : eqS t2.s (mkS 62) with
        | false =>
          rw [hq] at NT
          have m62 := n62 hq
          have O3 := hide (show RO = none by rw [unhide O2, hq]; rfl)
          refine wpAnyH_take (i := 12) (v := .bool true) rfl (by kernel_rfl) (by kernel_rfl) (by kernel_rfl) (fun _ _ _ h => h) (Or.inl ⟨by rfl, fun w hc => ?_⟩) (unhide HS) ?_
          · clear hc; first | (have h := NT w; simp only [Bool.not_false, Bool.not_true] at h; simp only [execOp]; exact h) | (unfold execOp; exact NT w) | (go_simp; done)
          go_simp
          refine wpAnyH_take (i := 13) (v := .bool true) rfl (by kernel_rfl) (by kernel_rfl) (by kernel_rfl) (fun _ _ _ h => h) (Or.inl ⟨by rfl, fun w hc => ?_⟩) (unhide HS) ?_
          · clear hc; go_simp
          go_simp
          refine wpAnyH_done (by kernel_rfl) ?_ _
          clear HS NT M O2 hV3 S4
          go_wp2
          refine bodyPost_ret (results_tmp3 rfl _ _ _) rfl ?_
          rw [← unhide HT, trR_none (unhide O3)]
          exact noR_nil (unhide B4)
        | true =>
          rw [hq] at NT
          refine wpAnyH_take (i := 12) (v := .bool false) rfl (by kernel_rfl) (by kernel_rfl) (by kernel_rfl) (fun _ _ _ h => h) (Or.inl ⟨by rfl, fun w hc => ?_⟩) (unhide HS) ?_
          · clear hc; first | (have h := NT w; simp only [Bool.not_false, Bool.not_true] at h; simp only [execOp]; exact h) | (unfold execOp; exact NT w) | (go_simp; done)
          go_simp
          refine wpAnyH_take (i := 13) (v := .bool false) rfl (by kernel_rfl) (by kernel_rfl) (by kernel_rfl) (fun _ _ _ h => h) (Or.inl ⟨by rfl, fun w hc => ?_⟩) (unhide HS) ?_
          · clear hc; go_simp
          go_simp
          refine wpAnyH_done (by kernel_rfl) ?_ _
          clear HS NT M
          cases hs : sgnK t1.s with
          | none =>
            have O3 := hide (show RO = none by rw [unhide O2, hq, hs]; rfl)
            obtain rfl : kk = 0 := by have := unhide HK; rw [hs] at this; exact this.symm
            clear O2 HK hs hV3 hV hq
            go_wp2_with fail
            refine (pair_0 _ _ _).mono ?_
            rintro r w5 ⟨rfl, hb5⟩
            have B5 := hide ((unhide B4).trans (((hb5.trans ((below_drew (w := w5)).mono hb5.size))).mono (unhide B4).size))
            clear hb5 B4 S4
            by_cases hc3 : c3 = 1
            · subst hc3
              obtain rfl : n3 = 1 := by omega
              go_wp2
              go_region
              go_wp2
              refine bodyPost_ret (results_tmp3 rfl _ _ _) rfl ?_
              rw [← unhide HT, trR_none (unhide O3)]
              exact noR_nil (unhide B5)
            · have hc4 : ¬ c3 ≤ 1 := by omega
              go_wp2
              go_region
              go_wp2
              refine bodyPost_ret (results_tmp3 rfl _ _ _) rfl ?_
              rw [← unhide HT, trR_none (unhide O3)]
              exact noR_nil (unhide B5)
          | some k =>
            have O3 := hide (show RO = some (⟨k, 0, E0, [e, b]⟩, q2) by rw [unhide O2, hq, hs]; rfl)
            obtain rfl : k = kk := by have := unhide HK; rw [hs] at this; exact this
            have hkb := sgnK_in hs
            have TV := hide (tv_two hkb 0 E0 e b)
            rw [unhide hV, unhide hV3] at TV
            have PA := hide (pair_any k (.iface ty1 v1) (.iface ty3 v3) w4)
            rw [show inB k 5 10 = true from inB_t _ _ _ hkb.1 hkb.2] at PA
            clear O2 HK hs hV3 hV hq hkb
            go_wp2_with fail
            refine (unhide PA).mono ?_
            rintro r w5 ⟨x, rfl, hx, hb5⟩
            obtain rfl := hx (by simp)
            have hb6 := hb5.trans ((below_drew (w := w5)).mono hb5.size)
            have B5 := hide ((unhide B4).trans (hb6.mono (unhide B4).size))
            have S5 := hide ((unhide S4).later hb6)
            clear hx hb5 hb6 B4 S4 PA
            by_cases hc3 : c3 = 1
            · subst hc3
              obtain rfl : n3 = 1 := by omega
              have hq2 : q2 = [] := by have := (unhide S5).ln; simpa using this
              go_wp2
              go_region
              go_wp2
              refine bodyPost_ret (results_tmp3 rfl _ _ _) rfl ?_
              rw [← unhide HT, trR_some (unhide O3)]
              exact ⟨unhide B5, (some ⟨b3, o3, none⟩), 0, 0, by rw [unhide TV]; rfl, by rw [hq2]; exact ⟨rfl, Nat.le_refl _, by unfold maxLen; omega, .inl rfl, allOk_nil, by omega⟩⟩
            · have hc4 : ¬ c3 ≤ 1 := by omega
              have S6 := hide (unhide S5).tail
              go_wp2
              go_region
              go_wp2
              refine bodyPost_ret (results_tmp3 rfl _ _ _) rfl ?_
              rw [← unhide HT, trR_some (unhide O3)]
              exact ⟨unhide B5, _, _, _, by rw [unhide TV]; rfl, unhide S6⟩
  · have hc2 : ¬ c1 ≤ 1 := by omega
    have SL := hide (unhide S2).tail
    have IH2 := hide (unhide IH _ _ _ _ w2 (unhide SL) (unhide TG2))
    clear IH S2 SL TG2
    cases hr2 : readF d q1 with
    | none =>
      have O2 := hide (show RO = none by rw [unhide O, hr2])
      rw [trR_none hr2] at IH2
      unfold NoR at IH2
      go_wp2_with fail
      refine (unhide IH2).mono ?_
      rintro r w3 ⟨hb3, v, xx, hv, rfl⟩
      have B3 := hide ((unhide B2).trans (hb3.mono (unhide B2).size))
      clear hb3 hv IH2 B2 O hr2
      go_wp2
      go_region
      go_wp2
      refine bodyPost_ret (results_tmp3 rfl _ _ _) rfl ?_
      rw [← unhide HT, trR_none (unhide O2)]
      exact noR_nil ((unhide B3).trans ((below_drew (w := w3)).mono (unhide B3).size))
    | some p =>
      obtain ⟨b, q3⟩ := p
      rw [trR_some hr2] at IH2
      unfold YeR at IH2
      obtain ⟨ty3, v3, hv3⟩ := tv_if b
      rw [hv3] at IH2
      have hV3 := hide hv3
      clear hv3
      cases q3 with
      | nil =>
        have O2 := hide (show RO = none by rw [unhide O, hr2])
        go_wp2_with fail
        refine (unhide IH2).mono ?_
        rintro r w3 ⟨hb3, a3, n3, c3, rfl, hs3⟩
        have B3 := hide ((unhide B2).trans (hb3.mono (unhide B2).size))
        obtain rfl : n3 = 0 := by have := hs3.ln; simpa using this.symm
        clear hb3 hs3 IH2 B2 O hr2
        go_wp2
        go_region
        go_wp2
        refine bodyPost_ret (results_tmp3 rfl _ _ _) rfl ?_
        rw [← unhide HT, trR_none (unhide O2)]
        exact noR_nil ((unhide B3).trans ((below_drew (w := w3)).mono (unhide B3).size))
      | cons t2 q2 =>
        have O2 := hide (show RO = if eqS t2.s (mkS 62) = true then (match sgnK t1.s with | none => none | some k => some (⟨k, 0, E0, [e, b]⟩, q2)) else none by rw [unhide O, hr2]; rfl)
        go_wp2_with fail
        refine (unhide IH2).mono ?_
        rintro r w3 ⟨hb3, a3, n3, c3, rfl, hs3⟩
        have B3 := hide ((unhide B2).trans (hb3.mono (unhide B2).size))
        have S3 := hide hs3
        obtain ⟨b3, o3, rfl, hbl3, x0, x1, x2⟩ := hs3.head
        have hn3 : 0 < n3 := by have := hs3.ln; simp at this; omega
        have hz3 : ((n3 : Int) == 0) = false := by rw [beq_eq_false_iff_ne]; omega
        have hcp3 := hs3.cp
        have hmx3 := hs3.mx
        have hsm3 := hs3.sm
        have M := hide (mark_same hs3.ok.head.1 (c := 62) (by decide))
        clear hb3 hs3 IH2 B2 O hr2
        go_wp2
        have D3 := hide (show (fun v => v.cell? ⟨b3, o3, none⟩ = some (.int .i64 t2.k) ∧ v.cell? ⟨b3, o3 + 1, none⟩ = some (.int .i64 t2.n) ∧ v.cell? ⟨b3, o3 + 2, none⟩ = some (.string t2.s)) w3.drew from ⟨x0, x1, x2⟩)
        refine wp_region_held_drew (S := fun v => v.cell? ⟨b3, o3, none⟩ = some (.int .i64 t2.k) ∧ v.cell? ⟨b3, o3 + 1, none⟩ = some (.int .i64 t2.n) ∧ v.cell? ⟨b3, o3 + 2, none⟩ = some (.string t2.s)) (by kernel_rfl) (unhide D3) (fun hS => ?_)
        have HS := hide hS
        clear hS x0 x1 x2
        refine wpAnyH_take (i := 0) (v := .bool true) rfl (by kernel_rfl) (by kernel_rfl) (by kernel_rfl) (fun _ _ _ h => h) (Or.inl ⟨by rfl, fun w hc => ?_⟩) (unhide HS) ?_
        · clear hc; go_simp
        go_simp
        refine wpAnyH_take (i := 1) (v := .bool false) rfl (by kernel_rfl) (by kernel_rfl) (by kernel_rfl) (fun _ _ _ h => h) (Or.inl ⟨by rfl, fun w hc => ?_⟩) (unhide HS) ?_
        · clear hc; go_simp
        go_simp
        refine wpAnyH_take (i := 2) (v := .bool false) rfl (by kernel_rfl) (by kernel_rfl) (by kernel_rfl) (fun _ _ _ h => h) (Or.inl ⟨by rfl, fun w hc => ?_⟩) (unhide HS) ?_
        · clear hc; go_simp
        go_simp
        refine wpAnyH_take (i := 3) (v := .slice (some ⟨b3, o3, none⟩) n3 c3) rfl (by kernel_rfl) (by kernel_rfl) (by kernel_rfl) (fun _ _ _ h => h) (Or.inl ⟨by rfl, fun w hc => ?_⟩) (unhide HS) ?_
        · clear hc; go_simp
        go_simp
        refine wpAnyH_take (i := 4) (v := .int .i64 n3) rfl (by kernel_rfl) (by kernel_rfl) (by kernel_rfl) (fun _ _ _ h => h) (Or.inl ⟨by rfl, fun w hc => ?_⟩) (unhide HS) ?_
        · clear hc; go_simp
        go_simp
        refine wpAnyH_take (i := 5) (v := .bool false) rfl (by kernel_rfl) (by kernel_rfl) (by kernel_rfl) (fun _ _ _ h => h) (Or.inl ⟨by rfl, fun w hc => ?_⟩) (unhide HS) ?_
        · clear hc; go_simp
        go_simp
        refine wpAnyH_take (i := 6) (v := .bool false) rfl (by kernel_rfl) (by kernel_rfl) (by kernel_rfl) (fun _ _ _ h => h) (Or.inl ⟨by rfl, fun w hc => ?_⟩) (unhide HS) ?_
        · clear hc; go_simp
        go_simp
        refine wpAnyH_take (i := 7) (v := .bool false) rfl (by kernel_rfl) (by kernel_rfl) (by kernel_rfl) (fun _ _ _ h => h) (Or.inl ⟨by rfl, fun w hc => ?_⟩) (unhide HS) ?_
        · clear hc; go_simp
        go_simp
        refine wpAnyH_take (i := 8) (v := .slice (some ⟨b3, o3, none⟩) n3 c3) rfl (by kernel_rfl) (by kernel_rfl) (by kernel_rfl) (fun _ _ _ h => h) (Or.inl ⟨by rfl, fun w hc => ?_⟩) (unhide HS) ?_
        · clear hc; go_simp
        go_simp
        refine wpAnyH_take (i := 9) (v := .pointer (some ⟨b3, o3, none⟩)) rfl (by kernel_rfl) (by kernel_rfl) (by kernel_rfl) (fun _ _ _ h => h) (Or.inl ⟨by rfl, fun w hc => ?_⟩) (unhide HS) ?_
        · clear hc; go_simp
        go_simp
        refine wpAnyH_take (i := 10) (v := .agg #[.int .i64 t2.k, .int .i64 t2.n, .string t2.s]) rfl (by kernel_rfl) (by kernel_rfl) (by kernel_rfl) (fun _ _ _ h => h) (Or.inl ⟨by rfl, fun w hc => ?_⟩) (unhide HS) ?_
        · obtain ⟨h0, h1, h2⟩ := hc; go_simp
        go_simp
        refine wpAnyH_ready (rs := [11]) (by kernel_rfl) (by simp) ?_
        refine AllReadyH.cons rfl (fun K2 hK => ?_) AllReadyH.nil
        go_simp
        refine (markI_any ⟨#[62]⟩ _).mono ?_
        rintro r w4 ⟨rfl, hb4⟩
        unfold Tk.v Tk.cs
        refine hK.out _ _ (⟨(hb4.cell (p := ⟨b3, o3, none⟩) hbl3).trans (unhide D3).1, (hb4.cell (p := ⟨b3, o3 + 1, none⟩) hbl3).trans (unhide D3).2.1, (hb4.cell (p := ⟨b3, o3 + 2, none⟩) hbl3).trans (unhide D3).2.2⟩) (fun hS => ?_)
        clear HS
        have HS := hide hS
        clear hS hK K2
        have B4 := hide ((unhide B3).trans (((below_drew (w := w3)).trans (hb4.mono (Nat.le_refl _))).mono (unhide B3).size))
        have S4 := hide ((unhide S3).later ((below_drew (w := w3)).trans (hb4.mono (Nat.le_refl _))))
        clear hb4 B3 S3 D3
        have n62 : eqS t2.s (mkS 62) = false → ¬ t2.s.toList = [62] := fun h e => by rw [(show eqS t2.s (mkS 62) = true from beq_iff_eq.2 (e.trans (show [62] = (mkS 62).toList by kernel_rfl)))] at h; cases h
        have NT := neTok t2.k t2.n 4 0 t2.s ⟨#[62]⟩
        rw [show (t2.k == 4 && (t2.n == 0 && t2.s.toList == (⟨#[62]⟩ : ByteArray).toList)) = eqS t2.s (mkS 62) from unhide M] at NT
        cases hq : eqS t2.s (mkS 62) with
        | false =>
          rw [hq] at NT
          have m62 := n62 hq
          have O3 := hide (show RO = none by rw [unhide O2, hq]; rfl)
          refine wpAnyH_take (i := 12) (v := .bool true) rfl (by kernel_rfl) (by kernel_rfl) (by kernel_rfl) (fun _ _ _ h => h) (Or.inl ⟨by rfl, fun w hc => ?_⟩) (unhide HS) ?_
          · clear hc; first | (have h := NT w; simp only [Bool.not_false, Bool.not_true] at h; simp only [execOp]; exact h) | (unfold execOp; exact NT w) | (go_simp; done)
          go_simp
          refine wpAnyH_take (i := 13) (v := .bool true) rfl (by kernel_rfl) (by kernel_rfl) (by kernel_rfl) (fun _ _ _ h => h) (Or.inl ⟨by rfl, fun w hc => ?_⟩) (unhide HS) ?_
          · clear hc; go_simp
          go_simp
          refine wpAnyH_done (by kernel_rfl) ?_ _
          clear HS NT M O2 hV3 S4
          go_wp2
          refine bodyPost_ret (results_tmp3 rfl _ _ _) rfl ?_
          rw [← unhide HT, trR_none (unhide O3)]
          exact noR_nil (unhide B4)
        | true =>
          rw [hq] at NT
          refine wpAnyH_take (i := 12) (v := .bool false) rfl (by kernel_rfl) (by kernel_rfl) (by kernel_rfl) (fun _ _ _ h => h) (Or.inl ⟨by rfl, fun w hc => ?_⟩) (unhide HS) ?_
          · clear hc; first | (have h := NT w; simp only [Bool.not_false, Bool.not_true] at h; simp only [execOp]; exact h) | (unfold execOp; exact NT w) | (go_simp; done)
          go_simp
          refine wpAnyH_take (i := 13) (v := .bool false) rfl (by kernel_rfl) (by kernel_rfl) (by kernel_rfl) (fun _ _ _ h => h) (Or.inl ⟨by rfl, fun w hc => ?_⟩) (unhide HS) ?_
          · clear hc; go_simp
          go_simp
          refine wpAnyH_done (by kernel_rfl) ?_ _
          clear HS NT M
          cases hs : sgnK t1.s with
          | none =>
            have O3 := hide (show RO = none by rw [unhide O2, hq, hs]; rfl)
            obtain rfl : kk = 0 := by have := unhide HK; rw [hs] at this; exact this.symm
            clear O2 HK hs hV3 hV hq
            go_wp2_with fail
            refine (pair_0 _ _ _).mono ?_
            rintro r w5 ⟨rfl, hb5⟩
            have B5 := hide ((unhide B4).trans (((hb5.trans ((below_drew (w := w5)).mono hb5.size))).mono (unhide B4).size))
            clear hb5 B4 S4
            by_cases hc3 : c3 = 1
            · subst hc3
              obtain rfl : n3 = 1 := by omega
              go_wp2
              go_region
              go_wp2
              refine bodyPost_ret (results_tmp3 rfl _ _ _) rfl ?_
              rw [← unhide HT, trR_none (unhide O3)]
              exact noR_nil (unhide B5)
            · have hc4 : ¬ c3 ≤ 1 := by omega
              go_wp2
              go_region
              go_wp2
              refine bodyPost_ret (results_tmp3 rfl _ _ _) rfl ?_
              rw [← unhide HT, trR_none (unhide O3)]
              exact noR_nil (unhide B5)
          | some k =>
            have O3 := hide (show RO = some (⟨k, 0, E0, [e, b]⟩, q2) by rw [unhide O2, hq, hs]; rfl)
            obtain rfl : k = kk := by have := unhide HK; rw [hs] at this; exact this
            have hkb := sgnK_in hs
            have TV := hide (tv_two hkb 0 E0 e b)
            rw [unhide hV, unhide hV3] at TV
            have PA := hide (pair_any k (.iface ty1 v1) (.iface ty3 v3) w4)
            rw [show inB k 5 10 = true from inB_t _ _ _ hkb.1 hkb.2] at PA
            clear O2 HK hs hV3 hV hq hkb
            go_wp2_with fail
            refine (unhide PA).mono ?_
            rintro r w5 ⟨x, rfl, hx, hb5⟩
            obtain rfl := hx (by simp)
            have hb6 := hb5.trans ((below_drew (w := w5)).mono hb5.size)
            have B5 := hide ((unhide B4).trans (hb6.mono (unhide B4).size))
            have S5 := hide ((unhide S4).later hb6)
            clear hx hb5 hb6 B4 S4 PA
            by_cases hc3 : c3 = 1
            · subst hc3
              obtain rfl : n3 = 1 := by omega
              have hq2 : q2 = [] := by have := (unhide S5).ln; simpa using this
              go_wp2
              go_region
              go_wp2
              refine bodyPost_ret (results_tmp3 rfl _ _ _) rfl ?_
              rw [← unhide HT, trR_some (unhide O3)]
              exact ⟨unhide B5, (some ⟨b3, o3, none⟩), 0, 0, by rw [unhide TV]; rfl, by rw [hq2]; exact ⟨rfl, Nat.le_refl _, by unfold maxLen; omega, .inl rfl, allOk_nil, by omega⟩⟩
            · have hc4 : ¬ c3 ≤ 1 := by omega
              have S6 := hide (unhide S5).tail
              go_wp2
              go_region
              go_wp2
              refine bodyPost_ret (results_tmp3 rfl _ _ _) rfl ?_
              rw [← unhide HT, trR_some (unhide O3)]
              exact ⟨unhide B5, _, _, _, by rw [unhide TV]; rfl, unhide S6⟩
theorem pairI_of (d : Nat) (hd : d ≤ 5) (ih : TrP d) : TwP d := by
  intro a n cap ts w h ht
  cases hr : readF d ts with
  | none => exact pairI_no d ih a n cap ts w h ht hr
  | some p =>
    obtain ⟨e, q⟩ := p
    cases q with
    | nil => exact pairI_end d ih a n cap ts w h ht e hr
    | cons t1 q1 => exact pairI_main d hd ih a n cap ts w h ht e t1 q1 hr
theorem readI_all : ∀ d : Nat, d ≤ 6 → TrP d := by
  intro d
  induction d with
  | zero => intro _; exact readI_0
  | succ d ih => intro hd; exact readI_s d (by omega) (ih (by omega)) (pairI_of d (by omega) (ih (by omega)))
end Go.Proofs.YthgbpofcfmnpdaaGreatDoor

namespace Go.Proofs.YthgbpofcfmnpdaaGreatDoor
open Go.ChangeShapes Go.WideShapes Go.ChangeAt Go.RowKit
set_option linter.unusedVariables false
set_option linter.unusedSimpArgs false

section
variable {P : Program} {w : World}
/-- What an append leaves lies where it lay, or behind all there was. -/
theorem append_to (base : Nat) (t ty e : TypeId) (i : TypeInfo) (z : Value) (size bytes : Nat) (ht : P.underlying t = some (.slice e)) (hi : P.info? e = some i) (hz : i.zero = some z)
    (hsize : i.size = size) (hby : i.bytes = bytes) (hzs : z.cells.size = size) (hsz : 0 < size)
    (v : Value) (n : Nat) (xs : List Value) (hown : w.ownsRow base e size v n xs)
    (a : Addr) (m c : Nat) (news : List Value) (hl : news.length = m * size) (hnews : ∀ j u, news[j]? = some u → w.cell? (a.add j) = some u) (h1 : ∀ u ∈ news, u.oneCell' = true)
    (h63 : n + m ≤ maxLen) (hbytes : (n + m) * bytes ≤ 140737488355328) (hbase : base ≤ w.heap.size) (hm : 0 < m) :
    ∃ v' w', (Builtin.append_ #[t, t] ty #[v, .slice (some a) m c]).run P w = .ok v' w' ∧ w'.ownsRow base e size v' (n + m) (xs ++ news) ∧ w.grownBy w' v.ownBlock ∧ (∃ g cap, v' = .slice (some ⟨g, 0, none⟩) (n + m) cap ∧ (v.ownBlock = some g ∨ g = w.heap.size)) := by
  obtain ⟨v', w', hr, h2, h3, _⟩ := run_append_own (P := P) w base t ty e i z size bytes ht hi hz hsize hby hzs hsz v n xs hown a m c news hl hnews h1 h63 hbytes hbase
  refine ⟨v', w', hr, h2, h3, ?_⟩
  subst hsize
  subst hby
  have hs : n + m ≤ 9223372036854775807 := by simp only [maxLen] at h63; omega
  rcases hown.2 with ⟨rfl, rfl⟩ | ⟨g, cap, cur, rfl, hbg, hg, hnc, hcm, hcs, htake⟩
  · have k := run_append_nil (P := P) w t ty e i z ht hi hz a m c news hl hnews hm (by omega) (by have hb := hbytes; simp only [Nat.zero_add] at hb; omega)
    rw [hr] at k
    injection k with k1 k2
    exact ⟨_, _, by rw [k1, Nat.zero_add], .inr rfl⟩
  · by_cases hroom : n + m ≤ cap
    · have hfit : n * i.size + news.length ≤ cur.size := by rw [hl, hcs, ← Nat.add_mul]; exact Nat.mul_le_mul_right _ hroom
      have k := run_append_room (P := P) w t ty e i ht hi g n cap cur hg a m c news hl hnews h1 hroom hfit
      rw [hr] at k
      injection k with k1 k2
      exact ⟨_, _, k1, .inl rfl⟩
    · have k := run_append_grow (P := P) w t ty e i z ht hi hz ⟨g, 0, none⟩ n cap xs hown.1 (hown.cells (g := g) rfl) a m c news hl hnews (by omega) (by omega) (growslice_fits (by omega) hbytes)
      rw [hr] at k
      injection k with k1 k2
      exact ⟨_, _, k1, .inr rfl⟩
theorem wp_append_to {o : Oper} {a : Act} {K : Act → World → Prop} {Q : Exit → Act → World → Prop} (s x : Operand) (t : TypeId)
    (ho : o.op = .call { callee := .builtin .append, args := #[s, x], argTypes := #[t, t] })
    (base : Nat) (e : TypeId) (i : TypeInfo) (z : Value) (size bytes : Nat) (ht : P.underlying t = some (.slice e)) (hi : P.info? e = some i) (hz : i.zero = some z)
    (hsize : i.size = size) (hby : i.bytes = bytes) (hzs : z.cells.size = size) (hsz : 0 < size)
    (v : Value) (n : Nat) (xs : List Value) (hs : a.eval s = v) (hown : w.ownsRow base e size v n xs)
    (ad : Addr) (m c : Nat) (news : List Value) (hx : a.eval x = .slice (some ad) m c) (hl : news.length = m * size) (hnews : ∀ j u, news[j]? = some u → w.cell? (ad.add j) = some u) (h1 : ∀ u ∈ news, u.oneCell' = true)
    (h63 : n + m ≤ maxLen) (hbytes : (n + m) * bytes ≤ 140737488355328) (hbase : base ≤ w.heap.size) (hm : 0 < m)
    (h : ∀ g cap w', w'.ownsRow base e size (.slice (some ⟨g, 0, none⟩) (n + m) cap) (n + m) (xs ++ news) → w.grownBy w' v.ownBlock → (v.ownBlock = some g ∨ g = w.heap.size) → K (a.put o.dst (.slice (some ⟨g, 0, none⟩) (n + m : Nat) cap)) w') : o.wp P a w K Q := by
  obtain ⟨v', w', hr, h2, h3, g, cap, rfl, h4⟩ := append_to (P := P) (w := w) base t o.type e i z size bytes ht hi hz hsize hby hzs hsz v n xs hown ad m c news hl hnews h1 h63 hbytes hbase hm
  unfold Oper.wp execOp
  simp only [ho, resolve, invoke, builtin, Sem.run_bind, Sem.run_pure, Result.andThen_ok, List.map_toArray, List.map_cons, List.map_nil, hs, hx, hr]
  exact h g cap w' h2 h3 h4
theorem wpList_append_to {ops : Array Oper} {rest : List Oper} {o : Oper} {a : Act} {Q : Exit → Act → World → Prop} (hgd : o.guard = none) (s x : Operand) (t : TypeId)
    (ho : o.op = .call { callee := .builtin .append, args := #[s, x], argTypes := #[t, t] })
    (base : Nat) (e : TypeId) (i : TypeInfo) (z : Value) (size bytes : Nat) (ht : P.underlying t = some (.slice e)) (hi : P.info? e = some i) (hz : i.zero = some z)
    (hsize : i.size = size) (hby : i.bytes = bytes) (hzs : z.cells.size = size) (hsz : 0 < size)
    (v : Value) (n : Nat) (xs : List Value) (hs : a.eval s = v) (hown : w.ownsRow base e size v n xs)
    (ad : Addr) (m c : Nat) (news : List Value) (hx : a.eval x = .slice (some ad) m c) (hl : news.length = m * size) (hnews : ∀ j u, news[j]? = some u → w.cell? (ad.add j) = some u) (h1 : ∀ u ∈ news, u.oneCell' = true)
    (h63 : n + m ≤ maxLen) (hbytes : (n + m) * bytes ≤ 140737488355328) (hbase : base ≤ w.heap.size) (hm : 0 < m)
    (h : ∀ g cap w', w'.ownsRow base e size (.slice (some ⟨g, 0, none⟩) (n + m) cap) (n + m) (xs ++ news) → w.grownBy w' v.ownBlock → (v.ownBlock = some g ∨ g = w.heap.size) → wpList P ops Q rest (a.put o.dst (.slice (some ⟨g, 0, none⟩) (n + m : Nat) cap)) w') : wpList P ops Q (o :: rest) a w :=
  wpList_plain hgd fun _ hK => wp_append_to s x t ho base e i z size bytes ht hi hz hsize hby hzs hsz v n xs hs hown ad m c news hx hl hnews h1 h63 hbytes hbase hm fun g cap w' h2 h3 h4 => hK _ _ (h g cap w' h2 h3 h4)
end
/-- The cells of a term's own row. -/
def exL (x : Ex) (c : Option Addr) (cp : Nat) : List Value := [.int .i64 x.k, .int .i64 x.n, .string x.s, .slice c x.l.length cp]
theorem HalfX.beyond {w w' : World} {B C cb : Nat} {e : Ex} {a : Option Addr} (h : HalfX w B C e a) (hg : w.grownBy w' (some cb)) (hB : C ≤ cb) : HalfX w' B C e a := by
  obtain ⟨F, h1, h2, h3⟩ := h
  exact ⟨F, OwX.keep e a F (fun b hF => hg.block b (OwX.lt e a F h1 b hF) (fun e => by have := (h3 b hF).2; simp at e; omega)) h1, h2, h3⟩
theorem row_take {w : World} {B g n cap : Nat} {t : TypeId} {cs : List Value} (h : w.ownsRow B t 4 (.slice (some ⟨g, 0, none⟩) n cap) n cs) : ∃ cur : Array Value, w.heap[g]? = some (.cells cur t (0, 0)) ∧ n * 4 ≤ cur.size ∧ B ≤ g ∧ ∀ j, j < n * 4 → cur[j]? = cs[j]? := by
  obtain ⟨hl, h | ⟨g', cap', cur, he, hB, hh, hc, hm, hz, ht⟩⟩ := h
  · cases h.1
  · cases he
    refine ⟨cur, hh, by rw [hz]; exact Nat.mul_le_mul_right _ hc, hB, fun j hj => ?_⟩
    rw [← ht, List.getElem?_take_of_lt hj]
    simp
theorem HalfX.row1 {w : World} {B M : Nat} {x : Ex} {c : Option Addr} {cp g cap : Nat} {t : TypeId} (h : HalfX w B M x c) (ho : w.ownsRow M t 4 (.slice (some ⟨g, 0, none⟩) 1 cap) 1 (exL x c cp)) (hB : B ≤ M) (k n : Int) (s : ByteArray) : NewX w B ⟨k, n, s, [x]⟩ (some ⟨g, 0, none⟩) := by
  obtain ⟨F, h1, h2, h3⟩ := h
  obtain ⟨cur, hh, hz, hg, hc⟩ := row_take ho
  refine ⟨g :: F, (OwX_eq _ _ _ _).2 (.inr ⟨g, cur, t, [F], rfl, hh, hz, rfl, by simp, fun i hi => ?_⟩), List.nodup_cons.2 ⟨fun h => by have := (h3 _ h).2; omega, h2⟩, fun b hb => ?_⟩
  · have hi : i < 1 := hi
    obtain rfl : i = 0 := by omega
    exact ⟨(hc 0 (by omega)).trans rfl, (hc 1 (by omega)).trans rfl, (hc 2 (by omega)).trans rfl, c, cp, (hc 3 (by omega)).trans rfl, h1⟩
  · rcases List.mem_cons.1 hb with rfl | hb
    · omega
    · exact (h3 b hb).1
theorem HalfX.row2 {w : World} {B M C D : Nat} {x y : Ex} {c d : Option Addr} {cp dp g cap : Nat} {t : TypeId} (h : HalfX w B M x c) (k : HalfX w C D y d) (ho : w.ownsRow M t 4 (.slice (some ⟨g, 0, none⟩) 2 cap) 2 (exL x c cp ++ exL y d dp)) (hB : B ≤ M) (hM : M ≤ C) (hg : g < C ∨ D ≤ g) (k' n : Int) (s : ByteArray) : NewX w B ⟨k', n, s, [x, y]⟩ (some ⟨g, 0, none⟩) := by
  obtain ⟨F, h1, h2, h3⟩ := h
  obtain ⟨G, k1, k2, k3⟩ := k
  obtain ⟨cur, hh, hz, hgM, hc⟩ := row_take ho
  refine ⟨g :: (F ++ G), (OwX_eq _ _ _ _).2 (.inr ⟨g, cur, t, [F, G], rfl, hh, hz, rfl, by simp, fun i hi => ?_⟩), List.nodup_cons.2 ⟨fun h => ?_, List.nodup_append.2 ⟨h2, k2, fun a ha b hb e => ?_⟩⟩, fun b hb => ?_⟩
  · have hi : i < 2 := hi
    have hi2 : i = 0 ∨ i = 1 := by omega
    rcases hi2 with rfl | rfl
    · exact ⟨(hc 0 (by omega)).trans rfl, (hc 1 (by omega)).trans rfl, (hc 2 (by omega)).trans rfl, c, cp, (hc 3 (by omega)).trans rfl, h1⟩
    · exact ⟨(hc 4 (by omega)).trans rfl, (hc 5 (by omega)).trans rfl, (hc 6 (by omega)).trans rfl, d, dp, (hc 7 (by omega)).trans rfl, k1⟩
  · rcases List.mem_append.1 h with h | h
    · have := (h3 _ h).2; omega
    · have := k3 _ h; omega
  · subst e
    have := (h3 _ ha).2
    have := (k3 _ hb).1
    omega
  · rcases List.mem_cons.1 hb with rfl | hb
    · omega
    · rcases List.mem_append.1 hb with hb | hb
      · exact (h3 b hb).1
      · have := (k3 b hb).1; omega
end Go.Proofs.YthgbpofcfmnpdaaGreatDoor

namespace Go.Proofs.YthgbpofcfmnpdaaGreatDoor
open Go.ChangeShapes Go.WideShapes Go.ChangeAt Go.RowKit
set_option linter.unusedVariables false
set_option maxRecDepth 8000
set_option linter.unusedSimpArgs false

def XoR (e : Ex) (w : World) (r : Ending) (w' : World) : Prop := ∃ (c : Option Addr) (cp : Nat), r = .returned (.agg (e.cs c cp)) ∧ NewX w' w.heap.size e c ∧ Below w.heap.size w w'
/-- The two rows of exprOf: what it answers, and the term that it fills. -/
structure Xb (w wr : World) (k n : Int) (s : ByteArray) (v : Value) : Prop where
  bel : Below w.heap.size w wr
  lt : w.heap.size + 2 ≤ wr.heap.size
  res : wr.heap[w.heap.size]? = some (.cells #[.int .i64 0, .int .i64 0, .string ⟨#[]⟩, .slice none 0 0] 26 (0, 0))
  box : wr.heap[w.heap.size + 1]? = some (.cells #[.int .i64 k, .int .i64 n, .string s, v] 26 (0, 0))
section
variable {w wr w' : World} {k n : Int} {s : ByteArray} {v : Value}
theorem Xb.later (h : Xb w wr k n s v) (hb : Below wr.heap.size wr w') : Xb w w' k n s v :=
  ⟨h.bel.trans (hb.mono h.bel.size), Nat.le_trans h.lt hb.size, row_keep h.res hb, row_keep h.box hb⟩
theorem Xb.grown {g : Nat} (h : Xb w wr k n s v) (hg : wr.grownBy w' (some g)) (hl : w.heap.size + 2 ≤ g) : Xb w w' k n s v :=
  ⟨h.bel.grown hg h.bel.size (fun q e => by cases e; omega), Nat.le_trans h.lt hg.size, (hg.block _ (Array.getElem?_eq_some_iff.1 h.res).1 (fun e => by simp at e; omega)).trans h.res, (hg.block _ (Array.getElem?_eq_some_iff.1 h.box).1 (fun e => by simp at e; omega)).trans h.box⟩
theorem Xb.set2 (h : Xb w wr k n s v) (x : ByteArray) : Xb w (wr.setCell ⟨w.heap.size + 1, 2, none⟩ (.string x)) k n x v := by
  refine ⟨h.bel.setCell (p := ⟨w.heap.size + 1, 2, none⟩) (Nat.le_succ _) _, by simp; exact h.lt, (heap_setCell_other wr ⟨w.heap.size + 1, 2, none⟩ w.heap.size _ (fun e => by have e' : w.heap.size = w.heap.size + 1 := e; omega)).trans h.res, ?_⟩
  rw [heap_setCell_same wr (w.heap.size + 1) 2 _ 26 (.string x) h.box]
  rfl
theorem Xb.set3 (h : Xb w wr k n s v) (x : Value) : Xb w (wr.setCell ⟨w.heap.size + 1, 3, none⟩ x) k n s x := by
  refine ⟨h.bel.setCell (p := ⟨w.heap.size + 1, 3, none⟩) (Nat.le_succ _) _, by simp; exact h.lt, (heap_setCell_other wr ⟨w.heap.size + 1, 3, none⟩ w.heap.size _ (fun e => by have e' : w.heap.size = w.heap.size + 1 := e; omega)).trans h.res, ?_⟩
  rw [heap_setCell_same wr (w.heap.size + 1) 3 _ 26 x h.box]
  rfl
theorem Xb.new2 (w : World) (k : Int) : Xb w ((w.alloc (.cells #[.int .i64 0, .int .i64 0, .string ⟨#[]⟩, .slice none 0 0] 26)).alloc (.cells #[.int .i64 k, .int .i64 n, .string s, v] 26)) k n s v := by
  have h1 := two_new w (.cells #[.int .i64 0, .int .i64 0, .string ⟨#[]⟩, .slice none 0 0] 26) (.cells #[.int .i64 k, .int .i64 n, .string s, v] 26)
  refine ⟨h1.2, by simp, ?_, h1.1⟩
  exact row_keep (heap_alloc_new w _) (below_new _ _)
theorem Xb.new3 (w : World) (k : Int) (o : Obj) : Xb w (((w.alloc (.cells #[.int .i64 0, .int .i64 0, .string ⟨#[]⟩, .slice none 0 0] 26)).alloc (.cells #[.int .i64 k, .int .i64 n, .string s, v] 26)).alloc o) k n s v := (Xb.new2 w k).later (below_new _ o)
theorem Xb.end {l : List Ex} {c : Option Addr} {cp : Nat} (h : Xb w wr k n s (.slice c l.length cp)) (hn : NewX wr (w.heap.size + 1) ⟨k, n, s, l⟩ c) (row : Array Value) : XoR ⟨k, n, s, l⟩ w (.returned (.agg #[.int .i64 k, .int .i64 n, .string s, .slice c l.length cp])) (wr.setRow w.heap.size row) :=
  ⟨c, cp, rfl, (hn.row _ (Nat.lt_succ_self _)).lower (Nat.le_succ _), h.bel.grown (grownBy_row _) h.bel.size (fun k e => by cases e; exact Nat.le_refl _)⟩
end
set_option maxHeartbeats 4000000 in
theorem xo_num (n : Int) (w : World) : Calls Tryz.prog 31 #[.iface 106 (.agg #[.int .i64 n])] w (XoR ⟨1, n, E0, []⟩ w) := by
  have KD := hide (fun w => kind_num n E0 0 0 .nilIface .nilIface w)
  have tt := taY_num (.agg #[.int .i64 n])
  have m := me_num (.int .i64 n)
  have X0 := hide (Xb.new3 (n := n) (s := ⟨#[]⟩) (v := .slice none 0 0) w 1 (.cells #[.int .i64 n] 106))
  generalize hX : XoR ⟨1, n, E0, []⟩ w = X
  have HX := hide hX
  clear hX
  go_enter Tryz.func31, Tryz.ntmps31
  go_wp2_with (first | (go_at_call 55; refine (unhide KD _).mono ?_; rintro r w' ⟨rfl, hw'⟩; rw [hw']; clear hw' w'))
  generalize ((w.alloc (.cells #[.int .i64 0, .int .i64 0, .string ⟨#[]⟩, .slice none 0 0] 26)).alloc (.cells #[.int .i64 1, .int .i64 n, .string ⟨#[]⟩, .slice none 0 0] 26)).alloc (.cells #[.int .i64 n] 106) = W at *
  refine (parts0 W).mono ?_
  rintro r w1 ⟨rfl, hb1⟩
  have X1 := hide ((unhide X0).later hb1)
  clear hb1 X0
  go_wp2
  refine wp_loop_rounds 1 ?_
  rw [rounds_succ]
  go_wp2_with (first | (refine wpList_load_row rfl 26 _ rfl (w.heap.size + 1) rfl 26 #[.int .i64 1, .int .i64 n, .string ⟨#[]⟩, .slice none 0 0] (0, 0) _ (unhide X1).box Tryz.underlying26 rfl (by kernel_rfl) ?_) | (refine wpList_store_row rfl 26 _ _ rfl w.heap.size #[.int .i64 1, .int .i64 n, .string ⟨#[]⟩, .slice none 0 0] rfl rfl 26 _ (unhide X1).res szE rfl (ex_one _ _ _ _ _ _) ?_))
  refine bodyPost_ret (results_cell_row (P := Tryz.prog) rfl _ _ w.heap.size 26 #[.int .i64 1, .int .i64 n, .string ⟨#[]⟩, .slice none 0 0] (0, 0) _ rfl (setRow_heap _ _ _ _ _ _ (unhide X1).res) Tryz.underlying26 rfl szE) rfl ?_
  rw [← unhide HX]
  exact Xb.end (l := []) (unhide X1) (NewX.nil _ _ _ _ _ _) _
set_option maxHeartbeats 4000000 in
theorem xo_here (w : World) : Calls Tryz.prog 31 #[.iface 109 (.agg #[])] w (XoR ⟨3, 0, E0, []⟩ w) := by
  have KD := hide (fun w => kind_here 0 E0 0 0 .nilIface .nilIface w)
  have t0 := taN_num 109 (.agg #[]) (by decide)
  have t1 := taN_sect 109 (.agg #[]) (by decide)
  have t2 := taN_sym 109 (.agg #[]) (by decide)
  have t3 := taN_glob 109 (.agg #[]) (by decide)
  have m := me_here
  have X0 := hide (Xb.new2 (n := 0) (s := ⟨#[]⟩) (v := .slice none 0 0) w 3)
  generalize hX : XoR ⟨3, 0, E0, []⟩ w = X
  have HX := hide hX
  clear hX
  go_enter Tryz.func31, Tryz.ntmps31
  go_wp2_with (first | (go_at_call 55; refine (unhide KD _).mono ?_; rintro r w' ⟨rfl, hw'⟩; rw [hw']; clear hw' w'))
  generalize (w.alloc (.cells #[.int .i64 0, .int .i64 0, .string ⟨#[]⟩, .slice none 0 0] 26)).alloc (.cells #[.int .i64 3, .int .i64 0, .string ⟨#[]⟩, .slice none 0 0] 26) = W at *
  refine (parts0 W).mono ?_
  rintro r w1 ⟨rfl, hb1⟩
  have X1 := hide ((unhide X0).later hb1)
  clear hb1 X0
  go_wp2
  refine wp_loop_rounds 1 ?_
  rw [rounds_succ]
  go_wp2_with (first | (refine wpList_load_row rfl 26 _ rfl (w.heap.size + 1) rfl 26 #[.int .i64 3, .int .i64 0, .string ⟨#[]⟩, .slice none 0 0] (0, 0) _ (unhide X1).box Tryz.underlying26 rfl (by kernel_rfl) ?_) | (refine wpList_store_row rfl 26 _ _ rfl w.heap.size #[.int .i64 3, .int .i64 0, .string ⟨#[]⟩, .slice none 0 0] rfl rfl 26 _ (unhide X1).res szE rfl (ex_one _ _ _ _ _ _) ?_))
  refine bodyPost_ret (results_cell_row (P := Tryz.prog) rfl _ _ w.heap.size 26 #[.int .i64 3, .int .i64 0, .string ⟨#[]⟩, .slice none 0 0] (0, 0) _ rfl (setRow_heap _ _ _ _ _ _ (unhide X1).res) Tryz.underlying26 rfl szE) rfl ?_
  rw [← unhide HX]
  exact Xb.end (l := []) (unhide X1) (NewX.nil _ _ _ _ _ _) _
set_option maxHeartbeats 4000000 in
theorem xo_sym (s : ByteArray) (hs : s.size ≤ 1048576) (w : World) : Calls Tryz.prog 31 #[.iface 107 (.agg #[.string s])] w (XoR ⟨2, 0, s, []⟩ w) := by
  have KD := hide (fun w => kind_sym 0 s 0 0 .nilIface .nilIface w)
  have t0 := taN_num 107 (.agg #[.string s]) (by decide)
  have t1 := taN_sect 107 (.agg #[.string s]) (by decide)
  have tt := taY_sym (.agg #[.string s])
  have m := me_sym (.string s)
  have X0 := hide (Xb.new3 (n := 0) (s := ⟨#[]⟩) (v := .slice none 0 0) w 2 (.cells #[.string s] 107))
  generalize hX : XoR ⟨2, 0, s, []⟩ w = X
  have HX := hide hX
  clear hX
  go_enter Tryz.func31, Tryz.ntmps31
  go_wp2_with (first | (go_at_call 55; refine (unhide KD _).mono ?_; rintro r w' ⟨rfl, hw'⟩; rw [hw']; clear hw' w'))
  generalize ((w.alloc (.cells #[.int .i64 0, .int .i64 0, .string ⟨#[]⟩, .slice none 0 0] 26)).alloc (.cells #[.int .i64 2, .int .i64 0, .string ⟨#[]⟩, .slice none 0 0] 26)).alloc (.cells #[.string s] 107) = W at *
  refine (cloneI_any s W (by omega)).mono ?_
  rintro r w1 ⟨rfl, hb1⟩
  have X1 := (unhide X0).later hb1
  have f2 : w1.frozen? ⟨w.heap.size + 1, 2, none⟩ = false := by simp [World.frozen?, X1.box]
  have c2 := Lib.cell_of_heap X1.box 2
  have X2 := hide (X1.set2 s)
  clear hb1 X0 X1
  go_wp2_with fail
  generalize w1.setCell ⟨w.heap.size + 1, 2, none⟩ (.string s) = w2 at *
  clear f2 c2
  refine (parts0 w2).mono ?_
  rintro r w3 ⟨rfl, hb3⟩
  have X3 := hide ((unhide X2).later hb3)
  clear hb3 X2
  go_wp2
  refine wp_loop_rounds 1 ?_
  rw [rounds_succ]
  go_wp2_with (first | (refine wpList_load_row rfl 26 _ rfl (w.heap.size + 1) rfl 26 #[.int .i64 2, .int .i64 0, .string s, .slice none 0 0] (0, 0) _ (unhide X3).box Tryz.underlying26 rfl (by kernel_rfl) ?_) | (refine wpList_store_row rfl 26 _ _ rfl w.heap.size #[.int .i64 2, .int .i64 0, .string s, .slice none 0 0] rfl rfl 26 _ (unhide X3).res szE rfl (ex_one _ _ _ _ _ _) ?_))
  refine bodyPost_ret (results_cell_row (P := Tryz.prog) rfl _ _ w.heap.size 26 #[.int .i64 2, .int .i64 0, .string s, .slice none 0 0] (0, 0) _ rfl (setRow_heap _ _ _ _ _ _ (unhide X3).res) Tryz.underlying26 rfl szE) rfl ?_
  rw [← unhide HX]
  exact Xb.end (l := []) (unhide X3) (NewX.nil _ _ _ _ _ _) _
end Go.Proofs.YthgbpofcfmnpdaaGreatDoor

namespace Go.Proofs.YthgbpofcfmnpdaaGreatDoor

section
variable {P : Program} {ops : Array Oper} {Q : Exit → Act → World → Prop} {md : Region.Mode} {S : World → Prop} {last : Nat}
/-- Whatever order is picked from here on; S holds behind each operation, as long as 'last' has not come up. -/
def wpAnyL (P : Program) (md : Region.Mode) (ops : Array Oper) (Q : Exit → Act → World → Prop) (S : World → Prop) (last : Nat) : Nat → Array Bool → Act → World → Prop
  | 0, listed, a, w => Region.ready md ops listed = [] ∧ Q .normal a w
  | fuel + 1, listed, a, w =>
    (Region.ready md ops listed = [] → Q .normal a w) ∧
    ∀ i ∈ Region.ready md ops listed, wpOp P ops Q i (fun a' w' => ((listed.setIfInBounds i true).getD last true = false → S w') ∧ wpAnyL P md ops Q S last fuel (listed.setIfInBounds i true) a' w') a w
theorem wpAny_of_last : ∀ (fuel : Nat) (listed : Array Bool) (a : Act) (w : World), wpAnyL P md ops Q S last fuel listed a w → wpAny P md ops Q fuel listed a w
  | 0, _, _, _, h => h
  | fuel + 1, _, _, _, h => ⟨h.1, fun i hi => wpOp_mono (fun a' w' h' => wpAny_of_last fuel _ a' w' h'.2) (h.2 i hi)⟩
/-- Whether 'last' waits for i. -/
def lastB (md : Region.Mode) (ops : Array Oper) (last i : Nat) : Bool := ((ops[last]?).map fun o => o.after.any fun e => Region.binds md e && e.on == i).getD false
theorem lastB_spec {i : Nat} (h : lastB md ops last i = true) : ∀ ol, ops[last]? = some ol → ∃ e ∈ ol.after, Region.binds md e = true ∧ e.on = i := by
  intro ol ho
  unfold lastB at h
  rw [ho] at h
  simp only [Option.map_some, Option.getD_some] at h
  obtain ⟨e, he, hb⟩ := Array.any_eq_true'.1 h
  simp only [Bool.and_eq_true, beq_iff_eq] at hb
  exact ⟨e, he, hb.1, hb.2⟩
theorem wpAnyL_firstS {i : Nat} {oi : Oper} {v : Value} (hi : ops[i]? = some oi) (hsel : ∀ (j : Nat) (o : Oper) cs b, ops[j]? = some o → o.op ≠ .select cs b)
    (hQ : ∀ c a w, Q (.panic c) (a.put oi.dst v) w → Q (.panic c) a w) (hil : i ≠ last) (hl : ∀ ol, ops[last]? = some ol → ∃ e ∈ ol.after, Region.binds md e = true ∧ e.on = i) :
    ∀ (fuel : Nat) (listed : Array Bool) (a : Act) (w : World),
      (∀ j oj, ops[j]? = some oj → j ≠ i → listed.getD j true = false → (∀ e ∈ oj.after, Region.binds md e = true → e.on ≠ i) → oi.apart ops oj = true) →
      i ∈ Region.ready md ops listed → YieldsIf P ops S oi v a → S w → listed.getD last true = false →
      wpAnyL P md ops Q S last fuel (listed.setIfInBounds i true) (a.put oi.dst v) w → wpAnyL P md ops Q S last (fuel + 1) listed a w := by
  intro fuel
  induction fuel with
  | zero =>
    intro listed a w _ hr hy hS hp H
    refine ⟨fun h => (by rw [h] at hr; cases hr), fun j hj => ?_⟩
    by_cases hji : j = i
    · subst hji; exact hy.wpOp hi hS ⟨fun _ => hS, H⟩
    · have := ready_mono hj hji
      rw [H.1] at this
      cases this
  | succ fuel ih =>
    intro listed a w hfree hr hy hS hp H
    refine ⟨fun h => (by rw [h] at hr; cases hr), fun j hj => ?_⟩
    by_cases hji : j = i
    · subst hji; exact hy.wpOp hi hS ⟨fun _ => hS, H⟩
    · have h1 := H.2 j (ready_mono hj hji)
      obtain ⟨hjun, oj, hoj, hall⟩ := mem_ready.1 hj
      have hnot : ∀ e ∈ oj.after, Region.binds md e = true → e.on ≠ i := fun e he hb heq => by
        have h1 := hall e he hb
        have h0 := (mem_ready.1 hr).1
        rw [heq] at h1
        rcases Nat.lt_or_ge i listed.size with h' | h'
        · simp [h'] at h0 h1; rw [h0] at h1; cases h1
        · simp [Array.getElem?_eq_none h'] at h1
      have hjl : j ≠ last := fun e => by
        subst e
        obtain ⟨e, he, hb, ho⟩ := hl oj hoj
        exact hnot e he hb ho
      have h2 := wpOp_putIf hoj (hfree j oj hoj hji hjun hnot) (fun cs b => hsel i oi cs b hi) (fun cs b => hsel j oj cs b hoj) hQ hy h1
      have hfree' : ∀ k ok, ops[k]? = some ok → k ≠ i → (listed.setIfInBounds j true).getD k true = false →
          (∀ e ∈ ok.after, Region.binds md e = true → e.on ≠ i) → oi.apart ops ok = true := fun k ok hk hki hun hno => by
        refine hfree k ok hk hki ?_ hno
        by_cases hjk : j = k
        · subst hjk; exact hjun
        · rw [getD_set_ne true hjk] at hun; exact hun
      have hp' : (listed.setIfInBounds j true).getD last true = false := by rw [getD_set_ne true hjl]; exact hp
      have hp2 : ((listed.setIfInBounds i true).setIfInBounds j true).getD last true = false := by rw [getD_set_ne true hjl, getD_set_ne true hil]; exact hp
      refine wpOp_mono (fun a' w' h3 => ⟨fun _ => h3.2.1 hp2, ih (listed.setIfInBounds j true) a' w' hfree' (ready_mono hr (Ne.symm hji)) h3.1 (h3.2.1 hp2) hp' ?_⟩) h2
      rw [Array.setIfInBounds_comm _ _ hji]
      exact h3.2.2
theorem wpAnyL_firstW {i : Nat} {oi : Oper} {v : Value} (hi : ops[i]? = some oi) (hsel : ∀ (j : Nat) (o : Oper) cs b, ops[j]? = some o → o.op ≠ .select cs b)
    (hQ : ∀ c a w, Q (.panic c) (a.put oi.dst v) w → Q (.panic c) a w) (hil : i ≠ last) :
    ∀ (fuel : Nat) (listed : Array Bool) (a : Act) (w : World),
      (∀ j oj, ops[j]? = some oj → j ≠ i → listed.getD j true = false → (∀ e ∈ oj.after, Region.binds md e = true → e.on ≠ i) → oi.apart ops oj = true) →
      i ∈ Region.ready md ops listed → YieldsIf P ops (fun _ => True) oi v a → (listed.getD last true = false → S w) →
      wpAnyL P md ops Q S last fuel (listed.setIfInBounds i true) (a.put oi.dst v) w → wpAnyL P md ops Q S last (fuel + 1) listed a w := by
  intro fuel
  induction fuel with
  | zero =>
    intro listed a w _ hr hy hS H
    refine ⟨fun h => (by rw [h] at hr; cases hr), fun j hj => ?_⟩
    by_cases hji : j = i
    · subst hji; exact hy.wpOp hi trivial ⟨fun h => hS (by rw [getD_set_ne true hil] at h; exact h), H⟩
    · have := ready_mono hj hji
      rw [H.1] at this
      cases this
  | succ fuel ih =>
    intro listed a w hfree hr hy hS H
    refine ⟨fun h => (by rw [h] at hr; cases hr), fun j hj => ?_⟩
    by_cases hji : j = i
    · subst hji; exact hy.wpOp hi trivial ⟨fun h => hS (by rw [getD_set_ne true hil] at h; exact h), H⟩
    · have h1 := H.2 j (ready_mono hj hji)
      obtain ⟨hjun, oj, hoj, hall⟩ := mem_ready.1 hj
      have hnot : ∀ e ∈ oj.after, Region.binds md e = true → e.on ≠ i := fun e he hb heq => by
        have h1 := hall e he hb
        have h0 := (mem_ready.1 hr).1
        rw [heq] at h1
        rcases Nat.lt_or_ge i listed.size with h' | h'
        · simp [h'] at h0 h1; rw [h0] at h1; cases h1
        · simp [Array.getElem?_eq_none h'] at h1
      have h2 := wpOp_putIf hoj (hfree j oj hoj hji hjun hnot) (fun cs b => hsel i oi cs b hi) (fun cs b => hsel j oj cs b hoj) hQ hy h1
      have hfree' : ∀ k ok, ops[k]? = some ok → k ≠ i → (listed.setIfInBounds j true).getD k true = false →
          (∀ e ∈ ok.after, Region.binds md e = true → e.on ≠ i) → oi.apart ops ok = true := fun k ok hk hki hun hno => by
        refine hfree k ok hk hki ?_ hno
        by_cases hjk : j = k
        · subst hjk; exact hjun
        · rw [getD_set_ne true hjk] at hun; exact hun
      have hs2 : ∀ w', ((((listed.setIfInBounds i true).setIfInBounds j true).getD last true = false) → S w') → ((listed.setIfInBounds j true).getD last true = false → S w') := fun w' h hp => h (by
        rw [Array.setIfInBounds_comm _ _ (Ne.symm hji), getD_set_ne true hil]; exact hp)
      refine wpOp_mono (fun a' w' h3 => ⟨hs2 w' h3.2.1, ih (listed.setIfInBounds j true) a' w' hfree' (ready_mono hr (Ne.symm hji)) h3.1 (hs2 w' h3.2.1) ?_⟩) h2
      rw [Array.setIfInBounds_comm _ _ hji]
      exact h3.2.2
/-- Take number i first: it reads what S says, and 'last' waits for it. -/
theorem wpAnyL_takeS {i : Nat} {oi : Oper} {v : Value} {fuel : Nat} {listed : Array Bool} {a : Act} {w : World} (hi : ops[i]? = some oi)
    (hs : Region.noSelect ops = true) (hf : Region.free md ops listed i = true) (hr : (Region.ready md ops listed).contains i = true) (hb : lastB md ops last i = true) (hl : (decide (i ≠ last) && !listed.getD last true) = true)
    (hQ : ∀ c a w, Q (.panic c) (a.put oi.dst v) w → Q (.panic c) a w) (hy : YieldsIf P ops S oi v a) (hS : S w)
    (h : wpAnyL P md ops Q S last fuel (listed.setIfInBounds i true) (a.put oi.dst v) w) : wpAnyL P md ops Q S last (fuel + 1) listed a w := by
  simp only [Bool.and_eq_true, decide_eq_true_eq, Bool.not_eq_true'] at hl
  exact wpAnyL_firstS hi (Region.noSelect_spec hs) hQ hl.1 (lastB_spec hb) fuel listed a w (Region.free_spec hi hf) (by simpa using hr) hy hS hl.2 h
/-- Take number i first: it yields its value in whatever world. -/
theorem wpAnyL_takeW {i : Nat} {oi : Oper} {v : Value} {fuel : Nat} {listed : Array Bool} {a : Act} {w : World} (hi : ops[i]? = some oi)
    (hs : Region.noSelect ops = true) (hf : Region.free md ops listed i = true) (hr : (Region.ready md ops listed).contains i = true) (hl : decide (i ≠ last) = true)
    (hQ : ∀ c a w, Q (.panic c) (a.put oi.dst v) w → Q (.panic c) a w) (hy : YieldsIf P ops (fun _ => True) oi v a) (hS : S w ∨ listed.getD last true = true)
    (h : wpAnyL P md ops Q S last fuel (listed.setIfInBounds i true) (a.put oi.dst v) w) : wpAnyL P md ops Q S last (fuel + 1) listed a w :=
  wpAnyL_firstW hi (Region.noSelect_spec hs) hQ (by simpa using hl) fuel listed a w (Region.free_spec hi hf) (by simpa using hr) hy (fun hp => hS.elim id (fun e => by rw [e] at hp; cases hp)) h
/-- Whether a waits for i, by whatever way. -/
def waitB (md : Region.Mode) (ops : Array Oper) (i : Nat) : Nat → Nat → Bool
  | 0, _ => false
  | n + 1, a => ((ops[a]?).map fun o => o.after.any fun e => Region.binds md e && (e.on == i || waitB md ops i n e.on)).getD false
/-- What has come up has all that it waits for. -/
def closedB (md : Region.Mode) (ops : Array Oper) (listed : Array Bool) : Bool := (List.range ops.size).all fun j => !listed.getD j false || ((ops[j]?).map fun o => o.after.all fun e => !Region.binds md e || listed.getD e.on false).getD true
def Closed (md : Region.Mode) (ops : Array Oper) (listed : Array Bool) : Prop := ∀ j o, ops[j]? = some o → listed.getD j false = true → ∀ e ∈ o.after, Region.binds md e = true → listed.getD e.on false = true
theorem closed_of {listed : Array Bool} (h : closedB md ops listed = true) : Closed md ops listed := by
  intro j o ho hj e he hb
  unfold closedB at h
  rw [List.all_eq_true] at h
  have q := h j (List.mem_range.2 (Array.getElem?_eq_some_iff.1 ho).1)
  rw [hj, ho] at q
  simp only [Bool.not_true, Bool.false_or, Option.map_some, Option.getD_some] at q
  have r := Array.all_eq_true_iff_forall_mem.1 q e he
  rw [hb] at r
  simpa using r
theorem wait_listed {listed : Array Bool} (hc : Closed md ops listed) {i : Nat} : ∀ (n a : Nat) (o : Oper), waitB md ops i n a = true → ops[a]? = some o → (∀ e ∈ o.after, Region.binds md e = true → listed.getD e.on false = true) → listed.getD i false = true
  | 0, _, _, h, _, _ => by simp [waitB] at h
  | n + 1, a, o, h, ho, hd => by
    unfold waitB at h
    rw [ho] at h
    simp only [Option.map_some, Option.getD_some] at h
    obtain ⟨e, he, hb⟩ := Array.any_eq_true'.1 h
    simp only [Bool.and_eq_true, Bool.or_eq_true, beq_iff_eq] at hb
    have l := hd e he hb.1
    rcases hb.2 with h1 | h1
    · rw [← h1]; exact l
    · cases ho2 : ops[e.on]? with
      | none => cases n <;> simp [waitB, ho2] at h1
      | some o2 => exact wait_listed hc n e.on o2 h1 ho2 (hc e.on o2 ho2 l)
theorem Closed.step {listed : Array Bool} (h : Closed md ops listed) {j : Nat} (hj : j ∈ Region.ready md ops listed) : Closed md ops (listed.setIfInBounds j true) := by
  intro k o ho hk e he hb
  obtain ⟨hjun, oj, hoj, hall⟩ := mem_ready.1 hj
  have key : listed.getD e.on false = true := by
    by_cases hkj : k = j
    · subst hkj
      rw [hoj] at ho
      cases ho
      exact hall e he hb
    · refine h k o ho ?_ e he hb
      simp only [Array.getD_eq_getD_getElem?] at hk ⊢
      rw [Array.getElem?_setIfInBounds_ne (fun c => hkj c.symm)] at hk
      exact hk
  by_cases hej : e.on = j
  · rw [hej]
    have hlt : j < listed.size := by
      rcases Nat.lt_or_ge j listed.size with h' | h'
      · exact h'
      · rw [← hej] at h'
        simp [Array.getElem?_eq_none h'] at key
    simp [hlt]
  · simp only [Array.getD_eq_getD_getElem?] at key ⊢
    rw [Array.getElem?_setIfInBounds_ne (fun c => hej c.symm)]
    exact key
theorem wpAnyL_firstT {i : Nat} {oi : Oper} {v : Value} (hi : ops[i]? = some oi) (hsel : ∀ (j : Nat) (o : Oper) cs b, ops[j]? = some o → o.op ≠ .select cs b)
    (hQ : ∀ c a w, Q (.panic c) (a.put oi.dst v) w → Q (.panic c) a w) (hil : i ≠ last) (n : Nat) (hl : waitB md ops i n last = true) :
    ∀ (fuel : Nat) (listed : Array Bool) (a : Act) (w : World),
      (∀ j oj, ops[j]? = some oj → j ≠ i → listed.getD j true = false → (∀ e ∈ oj.after, Region.binds md e = true → e.on ≠ i) → oi.apart ops oj = true) →
      i ∈ Region.ready md ops listed → YieldsIf P ops S oi v a → S w → listed.getD last true = false → Closed md ops listed →
      wpAnyL P md ops Q S last fuel (listed.setIfInBounds i true) (a.put oi.dst v) w → wpAnyL P md ops Q S last (fuel + 1) listed a w := by
  intro fuel
  induction fuel with
  | zero =>
    intro listed a w _ hr hy hS hp hcl H
    refine ⟨fun h => (by rw [h] at hr; cases hr), fun j hj => ?_⟩
    by_cases hji : j = i
    · subst hji; exact hy.wpOp hi hS ⟨fun _ => hS, H⟩
    · have := ready_mono hj hji
      rw [H.1] at this
      cases this
  | succ fuel ih =>
    intro listed a w hfree hr hy hS hp hcl H
    refine ⟨fun h => (by rw [h] at hr; cases hr), fun j hj => ?_⟩
    by_cases hji : j = i
    · subst hji; exact hy.wpOp hi hS ⟨fun _ => hS, H⟩
    · have h1 := H.2 j (ready_mono hj hji)
      obtain ⟨hjun, oj, hoj, hall⟩ := mem_ready.1 hj
      have hiu : listed.getD i false ≠ true := fun c => by
        have h0 := (mem_ready.1 hr).1
        rcases Nat.lt_or_ge i listed.size with h' | h'
        · simp [h'] at h0 c; rw [h0] at c; cases c
        · simp [Array.getElem?_eq_none h'] at c
      have hnot : ∀ e ∈ oj.after, Region.binds md e = true → e.on ≠ i := fun e he hb heq => hiu (by rw [← heq]; exact hall e he hb)
      have hjl : j ≠ last := fun e => by
        subst e
        exact hiu (wait_listed hcl n j oj hl hoj hall)
      have h2 := wpOp_putIf hoj (hfree j oj hoj hji hjun hnot) (fun cs b => hsel i oi cs b hi) (fun cs b => hsel j oj cs b hoj) hQ hy h1
      have hfree' : ∀ k ok, ops[k]? = some ok → k ≠ i → (listed.setIfInBounds j true).getD k true = false →
          (∀ e ∈ ok.after, Region.binds md e = true → e.on ≠ i) → oi.apart ops ok = true := fun k ok hk hki hun hno => by
        refine hfree k ok hk hki ?_ hno
        by_cases hjk : j = k
        · subst hjk; exact hjun
        · rw [getD_set_ne true hjk] at hun; exact hun
      have hp' : (listed.setIfInBounds j true).getD last true = false := by rw [getD_set_ne true hjl]; exact hp
      have hp2 : ((listed.setIfInBounds i true).setIfInBounds j true).getD last true = false := by rw [getD_set_ne true hjl, getD_set_ne true hil]; exact hp
      refine wpOp_mono (fun a' w' h3 => ⟨fun _ => h3.2.1 hp2, ih (listed.setIfInBounds j true) a' w' hfree' (ready_mono hr (Ne.symm hji)) h3.1 (h3.2.1 hp2) hp' (hcl.step hj) ?_⟩) h2
      rw [Array.setIfInBounds_comm _ _ hji]
      exact h3.2.2
/-- Take number i first: it reads what S says, and 'last' waits for it by whatever way. (One closed fact for all that is to be reckoned.) -/
def chkT (md : Region.Mode) (ops : Array Oper) (last i : Nat) (listed : Array Bool) : Bool := Region.noSelect ops && (Region.free md ops listed i && ((Region.ready md ops listed).contains i && (waitB md ops i ops.size last && (decide (i ≠ last) && (!listed.getD last true && closedB md ops listed)))))
theorem tkT {i : Nat} {oi : Oper} {v : Value} {fuel : Nat} {listed : Array Bool} {a : Act} {w : World} (hi : ops[i]? = some oi) (hc : chkT md ops last i listed = true)
    (hQ : ∀ c a w, Q (.panic c) (a.put oi.dst v) w → Q (.panic c) a w) (hy : YieldsIf P ops S oi v a) (hS : S w)
    (h : wpAnyL P md ops Q S last fuel (listed.setIfInBounds i true) (a.put oi.dst v) w) : wpAnyL P md ops Q S last (fuel + 1) listed a w := by
  unfold chkT at hc
  simp only [Bool.and_eq_true, decide_eq_true_eq, Bool.not_eq_true'] at hc
  obtain ⟨hs, hf, hr, hb, hl, hp, hcl⟩ := hc
  exact wpAnyL_firstT hi (Region.noSelect_spec hs) hQ hl ops.size hb fuel listed a w (Region.free_spec hi hf) (by simpa using hr) hy hS hp (closed_of hcl) h
def chkW (md : Region.Mode) (ops : Array Oper) (last i : Nat) (listed : Array Bool) : Bool := Region.noSelect ops && (Region.free md ops listed i && ((Region.ready md ops listed).contains i && decide (i ≠ last)))
theorem tkW {i : Nat} {oi : Oper} {v : Value} {fuel : Nat} {listed : Array Bool} {a : Act} {w : World} (hi : ops[i]? = some oi) (hc : chkW md ops last i listed = true)
    (hQ : ∀ c a w, Q (.panic c) (a.put oi.dst v) w → Q (.panic c) a w) (hy : YieldsIf P ops (fun _ => True) oi v a) (hS : S w ∨ listed.getD last true = true)
    (h : wpAnyL P md ops Q S last fuel (listed.setIfInBounds i true) (a.put oi.dst v) w) : wpAnyL P md ops Q S last (fuel + 1) listed a w := by
  unfold chkW at hc
  simp only [Bool.and_eq_true, decide_eq_true_eq] at hc
  exact wpAnyL_takeW hi hc.1 hc.2.1 hc.2.2.1 (by simpa using hc.2.2.2) hQ hy hS h
/-- One operation alone may come up. -/
theorem wpAnyL_one {i : Nat} {o : Oper} {fuel : Nat} {listed : Array Bool} {a : Act} {w : World} (hr : Region.ready md ops listed = [i]) (ho : ops[i]? = some o)
    (h : ∀ K' : Act → World → Prop, Shut (∀ a w, ((listed.setIfInBounds i true).getD last true = false → S w) → wpAnyL P md ops Q S last fuel (listed.setIfInBounds i true) a w → K' a w) → if Region.wanted o (yielded ops a.tmps) = true then Oper.wp P o a w K' Q else K' (a.put o.dst undef) w) :
    wpAnyL P md ops Q S last (fuel + 1) listed a w := by
  refine ⟨fun h0 => (by rw [hr] at h0; cases h0), fun j hj => ?_⟩
  rw [hr] at hj
  obtain rfl : j = i := by simpa using hj
  exact wpOp_step ho (fun K' hK => h K' (fun a w hS hW => hK a w ⟨hS, hW⟩))
theorem wpAnyL_done {listed : Array Bool} {a : Act} {w : World} (hr : Region.ready md ops listed = []) (h : Q .normal a w) : ∀ fuel, wpAnyL P md ops Q S last fuel listed a w
  | 0 => ⟨hr, h⟩
  | _ + 1 => ⟨fun _ => h, by rw [hr]; simp⟩
theorem wp_region_last {id : Nat} {a : Act} {w : World} (S : World → Prop) (last : Nat) (hm : P.follows .mixedOrders = true) (h : wpAnyL P .any ops Q S last ops.size (Array.replicate ops.size false) a w.drew) : (Code.region id ops true).wp P Q a w :=
  wp_region_any hm (wpAny_of_last _ _ _ _ h)
end
end Go.Proofs.YthgbpofcfmnpdaaGreatDoor

namespace Go.Proofs.YthgbpofcfmnpdaaGreatDoor
open Go.ChangeShapes Go.WideShapes Go.ChangeAt Go.RowKit
set_option linter.unusedVariables false
set_option maxRecDepth 8000

def d10 (x : Nat) : UInt8 := UInt8.ofNat (48 + x)
/-- The digits to the base 10, ahead of t, by so many steps. -/
def decG : Nat → Nat → List UInt8 → List UInt8
  | 0, _, t => t
  | n + 1, m, t => if m = 0 then t else decG n (m / 10) (d10 (m % 10) :: t)
theorem decG_more : ∀ (n k m : Nat) (t : List UInt8), m ≤ n → m ≤ k → decG n m t = decG k m t := by
  intro n
  induction n with
  | zero =>
    intro k m t hn hk
    obtain rfl : m = 0 := by omega
    cases k with
    | zero => rfl
    | succ k => rfl
  | succ n ih =>
    intro k m t hn hk
    by_cases h0 : m = 0
    · subst h0
      cases k with
      | zero => rfl
      | succ k => rfl
    · cases k with
      | zero => omega
      | succ k =>
        simp only [decG]
        rw [ih k (m / 10) _ (by omega) (by omega)]
/-- The digits to the base 10, ahead of t. -/
def decA (m : Nat) (t : List UInt8) : List UInt8 := decG m m t
theorem decA_0 (t : List UInt8) : decA 0 t = t := rfl
theorem decA_s {m : Nat} (h : m ≠ 0) (t : List UInt8) : decA m t = decA (m / 10) (d10 (m % 10) :: t) := by
  obtain ⟨n, rfl⟩ : ∃ n, m = n + 1 := ⟨m - 1, by omega⟩
  unfold decA
  rw [decG, if_neg h]
  exact decG_more _ _ _ _ (by omega) (Nat.le_refl _)
/-- The marks' text. -/
def mkTx (k : Nat) : ByteArray := ⟨#[109]⟩ ++ strOf (decA k [])
theorem one_conv10 (W : World) (d : Nat) (hd : d < 10) (x : Int) (hx : x = 48 + (d : Int)) (b : Nat) (hb : b = W.heap.size) : (convert 22 9 (.slice (some ⟨b, 0, none⟩) 1 1)).run Tryz.prog (W.alloc (.cells #[.int .u8 x] 5)) = .ok (.string (strOf [d10 d])) (W.alloc (.cells #[.int .u8 x] 5)) := by
  subst hb
  exact run_convert_bytes_back (P := Tryz.prog) (W.alloc (.cells #[.int .u8 x] 5)) 22 9 5 ⟨W.heap.size, 0, none⟩ 1 [d10 d] Tryz.underlying22 Tryz.underlying5 Tryz.underlying9 (fun j hj => by
    obtain rfl : j = 0 := by simp at hj; omega
    have e : ((d10 d).toNat : Int) = x := by unfold d10; simp; omega
    simp only [List.getElem_cons_zero, e]
    simp [Addr.add])
set_option maxHeartbeats 1000000 in
theorem markTx_any (k : Nat) (hk0 : 0 < k) (hk : k ≤ 1048576) (w : World) : Calls Tryz.prog 74 #[.int .i64 k] w fun e w' => e = .returned (.string (mkTx k)) ∧ Below w.heap.size w w' := by
  unfold mkTx
  obtain ⟨T, hT⟩ : ∃ T, decA k [] = T := ⟨_, rfl⟩
  have HT := hide hT
  rw [hT]
  clear hT
  go_enter Tryz.func74, Tryz.ntmps74
  go_wp2
  go_loopw [0, 3] (fun i s wr => ∃ (m : Nat) (t : List UInt8), m + t.length ≤ 1048576 ∧ i = .int .i64 m ∧ s = .string (strOf t) ∧ Hid (decA m t = T) ∧ Below w.heap.size w wr) (fun i _ _ => (intOf i).toNat)
  case atStart => exact ⟨k, [], by simp; omega, rfl, rfl, unhide HT, Below.refl _ _⟩
  case round =>
    clear HT
    obtain ⟨m, t, hm, rfl, rfl, hd, hb⟩ := hrel
    by_cases h0 : m = 0
    · subst h0
      have E := hide ((decA_0 t).symm.trans hd.out)
      have hsz : (strOf t).size ≤ 1048576 := by rw [strOf_size]; omega
      clear hd
      rw [unhide E] at hsz ⊢
      go_wp2
      go_ret
      exact ⟨rfl, hb⟩
    · have E := hide ((decA_s h0 t).symm.trans hd.out)
      have hc := one_conv10 wr (m % 10) (by omega) (48 + (m : Int) % 10) (by omega)
      have hsz : (strOf t).size ≤ 1048576 := by rw [strOf_size]; omega
      have hsz1 := strOf_size [d10 (m % 10)]
      have hp : (0 : Int) < (m : Int) := by omega
      have AP := hide (strOf_append [d10 (m % 10)] t)
      clear hd
      go_wp2
      go_roundw
      case rel => exact ⟨m / 10, d10 (m % 10) :: t, by rw [List.length_cons]; omega, by go_num, by rw [unhide AP]; rfl, unhide E, hb.alloc hb.size _⟩
      case measure => simp [intOf]; omega

def mT (i : Nat) : Tk := ⟨((1 + 3 * i : Nat) : Int), ((2 + 3 * i : Nat) : Int), mkTx (3 + 3 * i)⟩
/-- What the marks leave. -/
def marksT (n : Nat) : List Tk := (List.range n).map mT
theorem marksT_len (n : Nat) : (marksT n).length = n := by simp [marksT]
theorem marksT_at (n i : Nat) (h : i < n) : tAt (marksT n) i = mT i := by
  unfold tAt marksT
  rw [List.getD_eq_getElem?_getD, List.getElem?_map, List.getElem?_range h]
  rfl
theorem mark_stepT (ts : List Tk) (k : Nat) (h : k < ts.length) : (marksT k ++ ts.drop k).set k (mT k) = marksT (k + 1) ++ ts.drop (k + 1) := by
  have e1 : marksT (k + 1) = marksT k ++ [mT k] := by simp [marksT, List.range_succ]
  rw [List.set_append_right _ _ (by rw [marksT_len]; omega), marksT_len, Nat.sub_self, List.drop_eq_getElem_cons h, List.set_cons_zero, e1, List.append_assoc]
  rfl
end Go.Proofs.YthgbpofcfmnpdaaGreatDoor

namespace Go.Proofs.YthgbpofcfmnpdaaGreatDoor
open Go.ChangeShapes Go.WideShapes Go.ChangeAt Go.RowKit
set_option linter.unusedVariables false
set_option maxRecDepth 8000

theorem own : ownKnob Tryz.prog.godebug = none := by kernel_rfl
theorem laidOut : laidOutB Tryz.prog = true := by kernel_rfl
section
variable {H : Type} {enc : TypeId × Value → H} {W : World} {b0 base : Nat} {spare : TypeId → Bool} {held : Bool}
end

/-- A table of texts as a row lists it. -/
def strData {H : Type} (L : List ByteArray) : DataW H := .agg (L.map fun s => .lit (.string s.data.toList))
theorem cells_of_strs {H : Type} {enc : TypeId × Value → H} {P : Program} {w : World} {base : Nat} {sp : Nat → Bool} {held : Bool} {fuel : Nat} {t e : TypeId} {n : Nat} {cs : List Value} {L : List ByteArray} {p : List MemPlace}
    (ht : P.underlying t = some (.array n e)) (he : P.underlying e = some .string) (hce : P.cellsOf e = 1) (hct : P.cellsOf t = n)
    (h : DataW.trod enc P w base sp held fuel t cs = some (strData L, p)) : cs = L.map Value.string := by
  cases fuel with
  | zero => simp [DataW.trod] at h
  | succ fuel =>
    simp only [DataW.trod, ht, hce, hct, Nat.mul_one] at h
    split at h
    · rename_i hl
      obtain ⟨xs, hm, hx⟩ := Option.map_eq_some_iff.1 h
      have hxs : xs.map (·.1) = L.map fun s => (DataW.lit (.string s.data.toList) : DataW H) := by
        have := congrArg Prod.fst hx
        simpa [strData] using this
      have hxl : xs.length = n := by simpa using Lib.mapM_length hm
      have hzl : L.length = n := by
        have := congrArg List.length hxs
        simp at this
        omega
      apply List.ext_getElem?
      intro i
      by_cases hi : i < n
      · obtain ⟨b, hb, hf⟩ := Lib.mapM_at hm i i (by simp [hi])
        obtain ⟨z, hc, rfl, _⟩ := DataW.trod_string he hf
        have h1 : cs[i]? = some (.string z) := by
          have := congrArg (·[0]?) hc
          simpa [List.getElem?_take, List.getElem?_drop] using this
        have h2 : (xs.map (·.1))[i]? = some (DataW.lit (.string z.data.toList) : DataW H) := by simp [hb]
        rw [hxs] at h2
        simp only [List.getElem?_map, Option.map_eq_some_iff, DataW.lit.injEq, Lit.string.injEq] at h2
        obtain ⟨z', hz', e⟩ := h2
        obtain rfl := bytes_inj e
        simp [h1, hz']
      · rw [List.getElem?_eq_none (by omega), List.getElem?_eq_none (by simp; omega)]
    · cases h
theorem strs_of_head {P : Program} {W : World} {name : String} {L : List ByteArray} {rest : List (String × DataW Unit)} {g : Nat} {t e : TypeId} {n : Nat}
    (hg : P.globalNamed name = some g) (hty : (P.globals[g]?).map (·.type) = some t) (ht : P.underlying t = some (.array n e)) (he : P.underlying e = some .string) (hce : P.cellsOf e = 1) (hct : P.cellsOf t = n)
    (h : laidMet P ((name, strData L) :: rest) W) : ∃ u fr, W.heap[g]? = some (.cells (L.map Value.string).toArray u fr) := by
  obtain ⟨ps, ⟨g', t', cs, fuel, p, q, hg', ht', hvar, hd, _, _⟩, _⟩ := h
  obtain rfl := Option.some.inj (hg.symm.trans hg')
  obtain rfl := Option.some.inj (hty.symm.trans ht')
  have hcs := cells_of_strs ht he hce hct hd
  unfold World.var? at hvar
  rw [hg] at hvar
  simp only [Option.bind_some] at hvar
  split at hvar
  · rename_i c u fr hh
    cases hvar
    exact ⟨u, fr, by rw [hh, ← hcs]⟩
  · cases hvar
theorem gOp : Tryz.prog.globalNamed "loop.example/g00329/impl.opWords" = some 1 := by kernel_rfl
theorem tOp : (Tryz.prog.globals[1]?).map (·.type) = some 141 := by kernel_rfl
theorem gRg : Tryz.prog.globalNamed "loop.example/g00329/impl.regWords" = some 2 := by kernel_rfl
theorem tRg : (Tryz.prog.globals[2]?).map (·.type) = some 142 := by kernel_rfl
theorem opD_eq : (Rows.laid_loop_example_g00329_impl_opWords : DataW Unit) = strData opL := by kernel_rfl
theorem rgD_eq : (Rows.laid_loop_example_g00329_impl_regWords : DataW Unit) = strData wRg := by kernel_rfl
theorem tabK_of {W : World} (h : laidMet Tryz.prog [("loop.example/g00329/impl.opWords", Rows.laid_loop_example_g00329_impl_opWords), ("loop.example/g00329/impl.regWords", Rows.laid_loop_example_g00329_impl_regWords)] W) : TabK W := by
  rw [opD_eq, rgD_eq] at h
  exact ⟨strs_of_head gOp tOp Tryz.underlying141 Tryz.underlying9 (by kernel_rfl) (by kernel_rfl) h, strs_of_head gRg tRg Tryz.underlying142 Tryz.underlying9 (by kernel_rfl) (by kernel_rfl) h.tail⟩
theorem tab_of_laid {W : World} (h : laidMetH Tryz.prog [("loop.example/g00329/impl.opWords", Rows.laid_loop_example_g00329_impl_opWords), ("loop.example/g00329/impl.regWords", Rows.laid_loop_example_g00329_impl_regWords)] W) : TabK W := by
  rw [MakeChecks.laidMetH_plain _ _ _ (by kernel_rfl)] at h
  exact tabK_of h
end Go.Proofs.YthgbpofcfmnpdaaGreatDoor

namespace Go.Proofs.YthgbpofcfmnpdaaGreatDoor
open Go.ChangeShapes Go.WideShapes Go.ChangeAt Go.RowKit
set_option linter.unusedVariables false
set_option maxRecDepth 8000

/-- What is known of a list that came in. -/
structure IsT (W : World) (a : Option Addr) (len : Nat) (ts : List Tk) : Prop where
  hlen : ts.length = len
  max : len ≤ 9223372036854775807
  each : ∀ i, i < len → (tAt ts i).s.size ≤ 9223372036854775807
  rd : RdT W a ts
section
variable {H : Type} {enc : TypeId × Value → H} {W : World} {b0 base : Nat} {spare : TypeId → Bool} {held : Bool}
end
theorem gDb : Tryz.prog.globalNamed "math/bits.deBruijn64tab" = some 8 := by kernel_rfl
theorem tDb : (Tryz.prog.globals[8]?).map (·.type) = some 178 := by kernel_rfl
def dbT : List Int := [0, 1, 56, 2, 57, 49, 28, 3, 61, 58, 42, 50, 38, 29, 17, 4, 62, 47, 59, 36, 45, 43, 51, 22, 53, 39, 33, 30, 24, 18, 12, 5, 63, 55, 48, 27, 60, 41, 37, 16, 46, 35, 44, 21, 52, 32, 23, 11, 54, 26, 40, 15, 34, 20, 31, 10, 25, 14, 19, 9, 13, 8, 7, 6]
theorem dbT_eq : (Rows.laid_math_bits_deBruijn64tab : DataW Unit) = Lib.tabData .u8 dbT := by kernel_rfl
theorem db_of {W : World} {rest : List (String × DataW Unit)} (h : laidMet Tryz.prog (("math/bits.deBruijn64tab", Rows.laid_math_bits_deBruijn64tab) :: rest) W) : W.cell? ⟨8, 7, none⟩ = some (.int .u8 3) := by
  rw [dbT_eq] at h
  have h2 := Lib.tabIs_of_head gDb tDb Tryz.underlying178 Tryz.underlying5 (by kernel_rfl) (by kernel_rfl) h
  exact h2.cell gDb 7 (by decide)
theorem db_of_three {W : World} (h : laidMetH Tryz.prog [("math/bits.deBruijn32tab", Rows.laid_math_bits_deBruijn32tab), ("math/bits.deBruijn64tab", Rows.laid_math_bits_deBruijn64tab), ("internal/strconv.uint64pow10", Rows.laid_internal_strconv_uint64pow10)] W) : W.cell? ⟨8, 7, none⟩ = some (.int .u8 3) := by
  rw [MakeChecks.laidMetH_plain _ _ _ (by kernel_rfl)] at h
  exact db_of h.tail
end Go.Proofs.YthgbpofcfmnpdaaGreatDoor

namespace Go.Proofs.YthgbpofcfmnpdaaGreatDoor
open Go.ChangeShapes Go.WideShapes Go.ChangeAt Go.RowKit
set_option linter.unusedVariables false
set_option maxRecDepth 8000

theorem lexR_len (s : ByteArray) : ∀ (n k : Nat) (acc : List Tk), s.size - k ≤ n → acc.length ≤ 800 → (lexR s k acc).1.length ≤ 800 := by
  intro n
  induction n with
  | zero =>
    intro k acc hn h8
    rw [lexR_end (by omega)]
    exact h8
  | succ n ih =>
    intro k acc hn h8
    by_cases hlt : k < s.size
    · by_cases h59 : bAt s.data.toList k = 59
      · rw [lexR_semi hlt h59]; exact h8
      · cases hbl : blB (bAt s.data.toList k)
        · cases hok : (oneT badS s k).ok
          · rw [lexR_bad hlt h59 hbl (.inl hok)]; simp
          · by_cases h800 : acc.length = 800
            · rw [lexR_bad hlt h59 hbl (.inr h800)]; simp
            · rw [lexR_next hlt h59 hbl hok h800]
              have := oneE_bd s k hlt
              exact ih _ _ (by omega) (by rw [List.length_append]; simp; omega)
        · rw [lexR_blank hlt h59 hbl]
          exact ih _ _ (by omega) h8
    · rw [lexR_end hlt]; exact h8
theorem lex_len (s : ByteArray) : (lexR s 0 []).1.length ≤ 800 := lexR_len s s.size 0 [] (by omega) (by simp)
/-- A list stays while another, of later memory, is written. -/
theorem OwnT.apart {w w' : World} {B C : Nat} {v u : Value} {ts ms : List Tk} (h : OwnT w B v ts) (k : OwnT w C u ms) (hg : w.grownBy w' u.ownBlock) (hlt : ∀ g, v.ownBlock = some g → g < C) : OwnT w' B v ts :=
  h.keep fun g hv hl => hg.block g hl (fun e => by have := (k.lt e.symm).1; have := hlt g hv; omega)
theorem gES : Tryz.prog.globalNamed "strconv.ErrSyntax" = some 4 := by kernel_rfl
theorem gER : Tryz.prog.globalNamed "strconv.ErrRange" = some 5 := by kernel_rfl
theorem tES : (Tryz.prog.globals[4]?).map (·.type) = some 100 := by kernel_rfl
theorem tER : (Tryz.prog.globals[5]?).map (·.type) = some 100 := by kernel_rfl
theorem cellsES : Tryz.prog.cellsOf 174 = 1 := by kernel_rfl
theorem cellsSt : Tryz.prog.cellsOf 9 = 1 := by kernel_rfl
theorem star : "*" ++ "errors.errorString" = "*errors.errorString" := by decide
theorem rowES (u : TypeId) (h : Tryz.prog.typeName? 3 u = some "*errors.errorString") : u = 172 :=
  typeName_ptr_named (nm := "errors.errorString") (by rw [star]; kernel_rfl) (by kernel_rfl) (by decide) u (by rw [star]; exact h)
/-- The listed variables give what the program's reading leans on. -/
theorem env_of {W : World} (h : laidMetH Tryz.prog [("math/bits.deBruijn32tab", Rows.laid_math_bits_deBruijn32tab), ("math/bits.deBruijn64tab", Rows.laid_math_bits_deBruijn64tab), ("internal/strconv.uint64pow10", Rows.laid_internal_strconv_uint64pow10), ("strconv.ErrRange", Rows.laid_strconv_ErrRange), ("strconv.ErrSyntax", Rows.laid_strconv_ErrSyntax), ("loop.example/g00329/impl.opWords", Rows.laid_loop_example_g00329_impl_opWords), ("loop.example/g00329/impl.regWords", Rows.laid_loop_example_g00329_impl_regWords)] W) : Env W := by
  rw [MakeChecks.laidMetH_plain _ _ _ (by kernel_rfl)] at h
  have h3 := h.tail.tail.tail
  obtain ⟨a2, s2, hv2, -, -, -⟩ := laid_sentinel h3 gER tER Tryz.underlying100 rowES Tryz.underlying172 Tryz.underlying174 rfl rfl Tryz.underlying9 cellsES cellsSt
  obtain ⟨a1, s1, hv1, -, -, -⟩ := laid_sentinel h3.tail gES tES Tryz.underlying100 rowES Tryz.underlying172 Tryz.underlying174 rfl rfl Tryz.underlying9 cellsES cellsSt
  exact ⟨tabK_of h3.tail.tail, db_of h.tail, ⟨_, _, by have h0 := World.var?_cell gES hv1 0; simpa using h0⟩, ⟨_, _, by have h0 := World.var?_cell gER hv2 0; simpa using h0⟩⟩
end Go.Proofs.YthgbpofcfmnpdaaGreatDoor

namespace Go.Proofs.YthgbpofcfmnpdaaGreatDoor
open Go.ChangeShapes Go.WideShapes Go.ChangeAt Go.RowKit
set_option linter.unusedVariables false
set_option maxRecDepth 8000
set_option linter.unusedSimpArgs false

def zP : Nat → Nat
  | 0 => 0
  | d + 1 => 8 + 2 * zP d
theorem name_sz {s : ByteArray} (h : nameB s = true) : s.size ≤ 6 := by
  unfold nameB at h
  rw [Bool.and_eq_true] at h
  obtain ⟨c, r, _, _, _, hl⟩ := form_open h.1
  rw [← size_len]
  exact hl
theorem plain_sz : ∀ (d : Nat) (e : Ex), okF d true e = true → e.sz ≤ zP d := by
  intro d
  induction d with
  | zero => intro e h; rw [okF] at h; cases h
  | succ d ih =>
    intro e h
    have hE : E0.size = 0 := rfl
    rw [zP]
    rcases plain_cases h with ⟨n, _, rfl⟩ | ⟨s, hs, rfl⟩ | rfl | ⟨a, ha, rfl⟩ | ⟨k, a, b, _, ha, hb, rfl⟩
    · rw [sz_leaf, hE]; omega
    · rw [sz_leaf]; have := name_sz hs; omega
    · rw [sz_leaf, hE]; omega
    · rw [show E0 = (⟨#[]⟩ : ByteArray) from rfl, sz_one]; have := ih a ha; omega
    · rw [show E0 = (⟨#[]⟩ : ByteArray) from rfl, sz_two]; have := ih a ha; have := ih b hb; omega
theorem plain_small {e : Ex} (h : okF 6 true e = true) : e.sz ≤ 504 := plain_sz 6 e h
/-- What reading all of a text's tokens came to. -/
theorem parse_out {s : ByteArray} {x : Ex} {k : Nat} {b : Bool} (h : OutO (readF 6 ((lexR s 0 []).1.drop 0)) (lexR s 0 []).1 (!(lexR s 0 []).2) x k b) (hk : k ≤ (lexR s 0 []).1.length) :
    (b = true → parseE s = none) ∧ (b = false → k ≠ (lexR s 0 []).1.length → parseE s = none) ∧ (b = false → k = (lexR s 0 []).1.length → parseE s = some x ∧ okF 6 true x = true) := by
  have hL := lex_ok s
  unfold parseE parseL
  generalize (lexR s 0 []).1 = ts at *
  cases hb : (lexR s 0 []).2 with
  | false =>
    rw [hb] at h
    have := h.1 rfl
    subst this
    refine ⟨fun _ => rfl, fun h => (by cases h), fun h => (by cases h)⟩
  | true =>
    rw [hb] at h
    have h2 := h.2 rfl
    rw [List.drop_zero] at h2
    cases hr : readF 6 ts with
    | none =>
      rw [hr] at h2
      simp only at h2
      subst h2
      exact ⟨fun _ => rfl, fun h => (by cases h), fun h => (by cases h)⟩
    | some p =>
      obtain ⟨e, q⟩ := p
      rw [hr] at h2
      obtain ⟨rfl, rfl, rfl⟩ := h2
      refine ⟨fun h => (by cases h), fun _ hne => ?_, fun _ he => ⟨?_, (toks_read 6 ts _ _ hL hr).1⟩⟩
      · cases hd : ts.drop k with
        | nil => exact absurd (Nat.le_antisymm hk (List.drop_eq_nil_iff.1 hd)) hne
        | cons t r => simp [hd]
      · have hd : ts.drop k = [] := List.drop_eq_nil_of_le (by omega)
        simp [hd]
        exact (toks_read 6 ts _ _ hL hr).1
def PaR (s : ByteArray) (w : World) (r : Ending) (w' : World) : Prop :=
  (∃ (e : Ex) (c : Option Addr) (cp : Nat), parseE s = some e ∧ okF 6 true e = true ∧ r = .returned (.tuple #[.agg (e.cs c cp), .bool true]) ∧ NewX w' w.heap.size e c ∧ Below w.heap.size w w') ∨ (parseE s = none ∧ r = .returned (.tuple #[.agg #[.int .i64 0, .int .i64 0, .string ⟨#[]⟩, .slice none 0 0], .bool false]) ∧ Below w.heap.size w w')
set_option maxHeartbeats 8000000 in
theorem parseS_any (s : ByteArray) (w : World) (hz : s.size ≤ 1048576) (hlen : (lexR s 0 []).1.length ≤ 1048576) : Calls Tryz.prog 10 #[.string s] w (PaR s w) := by
  have B0 := hide (below_new w (.cells E0x 26))
  have R0 := hide (heap_alloc_new w (.cells E0x 26))
  have hZ0 : w.heap.size < (w.alloc (.cells E0x 26)).heap.size := by simp
  have L0 := hide (lexS_any s (w.alloc (.cells E0x 26)) hz)
  have PO := hide (fun x k b h hk => parse_out (s := s) (x := x) (k := k) (b := b) h hk)
  unfold PaR
  unfold E0x at B0 R0 hZ0 L0
  generalize parseE s = PE at *
  generalize (lexR s 0 []).1 = ts at *
  generalize (lexR s 0 []).2 = ok at *
  go_enter Tryz.func10, Tryz.ntmps10
  go_wp2_with fail
  generalize w.alloc (Obj.cells #[.int .i64 0, .int .i64 0, .string ⟨#[]⟩, .slice none 0 0] 26) = W at *
  refine (unhide L0).mono ?_
  rintro r w1 ⟨v, rfl, ho, hb1⟩
  have hfar : ts = [] ∨ ∃ g cap, v = .slice (some ⟨g, 0, none⟩) ts.length cap ∧ g < w1.heap.size := by
    rcases ho.form with ⟨_, h⟩ | ⟨g, cap, h1, _, h2, _⟩
    · exact .inl h
    · exact .inr ⟨g, cap, h1, h2⟩
  obtain ⟨la, cap, rfl, hrd⟩ := ho.rd
  have B1 := hide ((unhide B0).trans (hb1.mono (unhide B0).size))
  have R1 := hide (row_keep (unhide R0) hb1)
  have hZ1 : w.heap.size < w1.heap.size := Nat.lt_of_lt_of_le hZ0 hb1.size
  have RZ := hide (show Rz (w1.alloc (.cells #[.slice la ts.length cap, .int .i64 0, .bool (!ok)] 59)) w1.heap.size la cap ts 0 (!ok) from
    ⟨Array.getElem?_push_size, hrd.later (below_new w1 _), by
      rcases hfar with h | ⟨g, cp, h1, h2⟩
      · exact .inl h
      · refine .inr fun ad e => ?_
        injection h1 with h3
        rw [h3] at e
        cases e
        show g ≠ w1.heap.size
        omega, Nat.zero_le _⟩)
  have hb2 := below_new w1 (.cells #[.slice la ts.length cap, .int .i64 0, .bool (!ok)] 59)
  clear ho hb1 hrd hfar L0 B0 R0
  obtain ⟨rb, hrb⟩ : ∃ rb, w1.heap.size = rb := ⟨_, rfl⟩
  obtain ⟨w2, hw2⟩ : ∃ w2, w1.alloc (.cells #[.slice la ts.length cap, .int .i64 0, .bool (!ok)] 59) = w2 := ⟨_, rfl⟩
  rw [hw2] at hb2 RZ
  rw [hrb] at RZ
  have hZr : w.heap.size < rb := hrb ▸ hZ1
  have B2 := hide ((unhide B1).trans (hb2.mono (unhide B1).size))
  have R2 := hide (row_keep (unhide R1) hb2)
  have RD := hide (readS_6 1 (by decide) rb la cap ts 0 (!ok) w2 hlen (unhide RZ))
  unfold RdR at RD
  have hZ2 : w.heap.size < w2.heap.size := Nat.lt_of_lt_of_le hZ1 hb2.size
  clear hb2 B1 R1
  go_wp2_with fail
  refine (unhide RD).mono ?_
  rintro r w3 ⟨x, c, cp, k', bad', rfl, hnx, hr3, hg3, ho3⟩
  have B3 := hide ((unhide B2).grown hg3 (unhide B2).size (fun k e => by cases e; omega))
  have R3 := hide ((hg3.block _ (Array.getElem?_eq_some_iff.1 (unhide R2)).1 (fun e => by simp at e; omega)).trans (unhide R2))
  have Z3 := hide hr3
  have X3 := hide (hnx.lower (show w.heap.size + 1 ≤ w2.heap.size by omega))
  have hk' := hr3.le
  obtain ⟨p1, p2, p3⟩ := unhide PO x k' bad' ho3 hk'
  unfold Ex.cs
  clear hnx hr3 hg3 ho3 B2 R2 RD RZ PO hw2
  have hb4 := below_new w3 (.cells #[.int .i64 x.k, .int .i64 x.n, .string x.s, .slice c x.l.length cp] 26)
  have hg4 : (w3.alloc (.cells #[.int .i64 x.k, .int .i64 x.n, .string x.s, .slice c x.l.length cp] 26)).heap[w3.heap.size]? = some (.cells #[.int .i64 x.k, .int .i64 x.n, .string x.s, .slice c x.l.length cp] 26 (0, 0)) := Array.getElem?_push_size
  obtain ⟨w4, hw4⟩ : ∃ w4, w3.alloc (.cells #[.int .i64 x.k, .int .i64 x.n, .string x.s, .slice c x.l.length cp] 26) = w4 := ⟨_, rfl⟩
  rw [hw4] at hb4 hg4
  obtain ⟨g, hgg⟩ : ∃ g, w3.heap.size = g := ⟨_, rfl⟩
  rw [hgg] at hg4
  have B4 := hide ((unhide B3).trans (hb4.mono (unhide B3).size))
  have R4 := hide (row_keep (unhide R3) hb4)
  have X4 := hide ((unhide X3).later hb4)
  have G4 := hide hg4
  obtain ⟨c0, c1, c2⟩ := ((unhide Z3).later hb4).cells
  clear hb4 hg4 B3 R3 X3 Z3
  cases bad'
  case true =>
    have PN := hide (p1 rfl)
    clear p1 p2 p3
    go_wp2_with (refine wpList_store_row rfl 26 _ _ rfl w.heap.size #[.int .i64 0, .int .i64 0, .string ⟨#[]⟩, .slice none 0 0] rfl rfl 26 _ (unhide R4) szE rfl (ex_one _ _ _ _ _ _) ?_)
    refine bodyPost_ret (results_row2 (P := Tryz.prog) rfl _ _ w.heap.size 26 #[.int .i64 0, .int .i64 0, .string ⟨#[]⟩, .slice none 0 0] (0, 0) _ rfl (setRow_heap _ _ _ _ _ _ (unhide R4)) Tryz.underlying26 rfl szE) rfl ?_
    exact .inr ⟨unhide PN, rfl, (unhide B4).grown (grownBy_row _) (unhide B4).size (fun k e => by cases e; exact Nat.le_refl _)⟩
  case false =>
  by_cases he : k' = ts.length
  · obtain ⟨q1, q2⟩ := p3 rfl he
    have PS := hide q1
    have OK := hide q2
    have PL := hide (plainS_any x c cp w4 ((unhide X4).rd.lower (Nat.zero_le _) _ _) (by have := plain_small q2; omega))
    rw [q2] at PL
    unfold Ex.cs at PL
    clear p1 p2 p3 q1 q2
    subst he
    have y0 := Lib.cell_of_heap (unhide G4) 0
    have y1 := Lib.cell_of_heap (unhide G4) 1
    have y2 := Lib.cell_of_heap (unhide G4) 2
    have y3 := Lib.cell_of_heap (unhide G4) 3
    generalize ts.length = n at *
    go_wp2_with fail
    refine (unhide PL).mono ?_
    rintro r w5 ⟨rfl, hb5⟩
    have B5 := hide ((unhide B4).trans (hb5.mono (unhide B4).size))
    have R5 := hide (row_keep (unhide R4) hb5)
    have X5 := hide ((unhide X4).later hb5)
    have G5 := row_keep (unhide G4) hb5
    clear hb5 B4 R4 X4 G4 PL y0 y1 y2 y3 c0 c1 c2 hw4
    have y0 := Lib.cell_of_heap G5 0
    have y1 := Lib.cell_of_heap G5 1
    have y2 := Lib.cell_of_heap G5 2
    have y3 := Lib.cell_of_heap G5 3
    clear G5
    go_wp2_with (refine wpList_store_row rfl 26 _ _ rfl w.heap.size #[.int .i64 x.k, .int .i64 x.n, .string x.s, .slice c x.l.length cp] rfl rfl 26 _ (unhide R5) szE rfl (ex_one _ _ _ _ _ _) ?_)
    refine bodyPost_ret (results_row2 (P := Tryz.prog) rfl _ _ w.heap.size 26 #[.int .i64 x.k, .int .i64 x.n, .string x.s, .slice c x.l.length cp] (0, 0) _ rfl (setRow_heap _ _ _ _ _ _ (unhide R5)) Tryz.underlying26 rfl szE) rfl ?_
    exact .inl ⟨x, c, cp, unhide PS, unhide OK, rfl, ((unhide X5).row _ (Nat.lt_succ_self _)).lower (Nat.le_succ _), (unhide B5).grown (grownBy_row _) (unhide B5).size (fun k e => by cases e; exact Nat.le_refl _)⟩
  · have PN := hide (p2 rfl he)
    clear p1 p2 p3
    have he2 : ¬ (k' : Int) = (ts.length : Int) := by omega
    generalize ts.length = n at *
    go_wp2_with (refine wpList_store_row rfl 26 _ _ rfl w.heap.size #[.int .i64 0, .int .i64 0, .string ⟨#[]⟩, .slice none 0 0] rfl rfl 26 _ (unhide R4) szE rfl (ex_one _ _ _ _ _ _) ?_)
    refine bodyPost_ret (results_row2 (P := Tryz.prog) rfl _ _ w.heap.size 26 #[.int .i64 0, .int .i64 0, .string ⟨#[]⟩, .slice none 0 0] (0, 0) _ rfl (setRow_heap _ _ _ _ _ _ (unhide R4)) Tryz.underlying26 rfl szE) rfl ?_
    exact .inr ⟨unhide PN, rfl, (unhide B4).grown (grownBy_row _) (unhide B4).size (fun k e => by cases e; exact Nat.le_refl _)⟩
end Go.Proofs.YthgbpofcfmnpdaaGreatDoor

namespace Go.Proofs.YthgbpofcfmnpdaaGreatDoor
open Go.ChangeShapes Go.WideShapes Go.ChangeAt Go.RowKit
set_option linter.unusedVariables false
set_option maxRecDepth 8000
set_option linter.unusedSimpArgs false

theorem grownBy_cell {W : World} {g i : Nat} (v : Value) : W.grownBy (W.setCell ⟨g, i, none⟩ v) (some g) := ⟨rfl, rfl, rfl, by simp [World.setCell], fun k _ hk => heap_setCell_other W ⟨g, i, none⟩ k v (fun e => hk (by rw [show k = g from e]))⟩
theorem below_none {w w' : World} (h : w.grownBy w' none) : Below w.heap.size w w' := (Below.refl _ _).grown h (Nat.le_refl _) (fun k e => by cases e)
theorem exL_one (x : Ex) (c : Option Addr) (cp : Nat) : ∀ u ∈ exL x c cp, u.oneCell' = true := by
  intro u hu
  simp only [exL, List.mem_cons, List.not_mem_nil, or_false] at hu
  rcases hu with rfl | rfl | rfl | rfl <;> rfl
set_option maxHeartbeats 8000000 in
theorem xo_neg (t : TypeId) (x : Value) (e : Ex) (h1 : ∀ w, Calls Tryz.prog 31 #[.iface t x] w (XoR e w)) (w : World) : Calls Tryz.prog 31 #[.iface 85 (.agg #[.iface t x])] w (XoR ⟨4, 0, E0, [e]⟩ w) := by
  obtain ⟨i0, hi, hz0, hz1, hz2⟩ := info_parts infoX
  have KD := hide (fun w => kind_neg 0 E0 t 0 x .nilIface w)
  have t0 := taN_num 85 (.agg #[.iface t x]) (by decide)
  have t1 := taN_sect 85 (.agg #[.iface t x]) (by decide)
  have t2 := taN_sym 85 (.agg #[.iface t x]) (by decide)
  have t3 := taN_glob 85 (.agg #[.iface t x]) (by decide)
  have m := me_neg (.iface t x)
  have X0 := hide (Xb.new2 (n := 0) (s := ⟨#[]⟩) (v := .slice none 0 0) w 4)
  have H1 := hide h1
  unfold XoR at H1
  generalize hX : XoR ⟨4, 0, E0, [e]⟩ w = X
  have HX := hide hX
  clear hX h1
  go_enter Tryz.func31, Tryz.ntmps31
  go_wp2_with (first | (go_at_call 55; refine (unhide KD _).mono ?_; rintro r w' ⟨rfl, hw'⟩; rw [hw']; clear hw' w'))
  generalize (w.alloc (.cells #[.int .i64 0, .int .i64 0, .string ⟨#[]⟩, .slice none 0 0] 26)).alloc (.cells #[.int .i64 4, .int .i64 0, .string ⟨#[]⟩, .slice none 0 0] 26) = W at *
  refine (parts1 t x W).mono ?_
  rintro r w1 ⟨gp, rfl, hgp, hb1⟩
  have X1 := hide ((unhide X0).later hb1)
  have G1 := hide hgp
  have c0 := Lib.cell_of_heap hgp 0
  clear hb1 X0 hgp t0 t1 t2 t3 m KD
  go_wp2
  refine wp_loop_rounds 2 ?_
  rw [rounds_succ]
  go_wp2_with fail
  clear c0
  have XD0 := hide ((unhide X1).later (below_drew (w := w1)))
  have GD0 := hide (row_keep (unhide G1) (below_drew (w := w1)))
  have SD0 : w1.drew.cell? ⟨w.heap.size + 1, 3, none⟩ = some (.slice none 0 0) := Lib.cell_of_heap (unhide XD0).box 3
  have HSD0 := hide SD0
  clear X1 G1 SD0
  refine wp_region_last (fun v => v.cell? ⟨w.heap.size + 1, 3, none⟩ = some (.slice none 0 0)) 7 (by kernel_rfl) ?_
  generalize w1.drew = v0 at *
  refine wpAnyL_takeW (i := 0) (v := .pointer (some ⟨w.heap.size + 1, 3, none⟩)) rfl (by kernel_rfl) (by kernel_rfl) (by kernel_rfl) (by kernel_rfl) (fun _ _ _ h => h) (Or.inl ⟨by rfl, fun w hc => ?_⟩) (.inl (unhide HSD0)) ?_
  · clear hc; go_simp
  go_simp
  refine wpAnyL_takeS (i := 1) (v := .slice none 0 0) rfl (by kernel_rfl) (by kernel_rfl) (by kernel_rfl) (by kernel_rfl) (by kernel_rfl) (fun _ _ _ h => h) (Or.inl ⟨by rfl, fun w hc => ?_⟩) (unhide HSD0) ?_
  · go_simp
  go_simp
  refine wpAnyL_takeW (i := 2) (v := .iface t x) rfl (by kernel_rfl) (by kernel_rfl) (by kernel_rfl) (by kernel_rfl) (fun _ _ _ h => h) (Or.inl ⟨by rfl, fun w hc => ?_⟩) (.inl (unhide HSD0)) ?_
  · clear hc; go_simp
  go_simp
  refine wpAnyL_one (i := 3) (by kernel_rfl) rfl (fun K2 hK => ?_)
  go_simp
  refine (unhide H1 v0).mono ?_
  rintro r wa0 ⟨c0, cp0, rfl, hn0, hb0⟩
  unfold Ex.cs
  have XA0 := hide ((unhide XD0).later hb0)
  have GA0 := hide (row_keep (unhide GD0) hb0)
  have NA0 := hide hn0.half
  have hl0 := (unhide XD0).lt
  have hs0 := hb0.size
  have SA0 := hide (show wa0.cell? ⟨w.heap.size + 1, 3, none⟩ = some (.slice none 0 0) from Lib.cell_of_heap (unhide XA0).box 3)
  refine hK.out _ _ (fun _ => unhide SA0) ?_
  clear hK K2
  clear hn0 hb0 XD0 GD0 HSD0
  refine wpAnyL_one (i := 4) (by kernel_rfl) rfl (fun K2 hK => ?_)
  go_simp
  have hb0 := below_new wa0 (.cells #[.int .i64 e.k, .int .i64 e.n, .string e.s, .slice c0 e.l.length cp0] 26)
  have XB0 := hide ((unhide XA0).later hb0)
  have GB0 := hide (row_keep (unhide GA0) hb0)
  have NB0 := hide ((unhide NA0).later hb0)
  have CN0 := hide (cell_new wa0 #[.int .i64 e.k, .int .i64 e.n, .string e.s, .slice c0 e.l.length cp0] 26)
  have SB0 := hide (show (wa0.alloc (.cells #[.int .i64 e.k, .int .i64 e.n, .string e.s, .slice c0 e.l.length cp0] 26)).cell? ⟨w.heap.size + 1, 3, none⟩ = some (.slice none 0 0) from Lib.cell_of_heap (unhide XB0).box 3)
  have hz0 : (wa0.alloc (.cells #[.int .i64 e.k, .int .i64 e.n, .string e.s, .slice c0 e.l.length cp0] 26)).heap.size = wa0.heap.size + 1 := by simp
  have HZ0 := hide hz0
  refine hK.out _ _ (fun _ => unhide SB0) ?_
  clear hK K2
  clear hb0 hz0 XA0 GA0 NA0 SA0
  generalize hM0 : wa0.heap.size = M0 at *
  have HM0 := hide hM0
  clear hM0
  generalize wa0.alloc (.cells #[.int .i64 e.k, .int .i64 e.n, .string e.s, .slice c0 e.l.length cp0] 26) = wb0 at *
  refine wpAnyL_one (i := 5) (by kernel_rfl) rfl (fun K2 hK => ?_)
  rw [if_pos (by rfl)]
  refine wp_append_to (.tmp 48) (.tmp 51) 24 rfl M0 26 i0 (.agg #[.int .i64 0, .int .i64 0, .string ⟨#[]⟩, .slice none 0 0]) 4 56 Tryz.underlying24 hi hz0 hz1 hz2 rfl (by decide) (.slice none 0 0) 0 ([]) rfl (World.ownsRow_nil _ _ _ _) ⟨M0, 0, none⟩ 1 1 (exL e c0 cp0) rfl rfl (unhide CN0) (exL_one _ _ _) (by unfold maxLen; omega) (by omega) (by have := unhide HZ0; omega) (by omega) ?_
  intro g0 cap0 wc0 hown0 hgrow0 hwh0
  have hbc := below_none hgrow0
  have XC := hide ((unhide XB0).later hbc)
  have NC := hide ((unhide NB0).later hbc)
  have OC := hide (show wc0.ownsRow M0 26 4 (.slice (some ⟨g0, 0, none⟩) 1 cap0) 1 (exL e c0 cp0) from hown0)
  have hgM : M0 ≤ g0 := (World.ownsRow.lt hown0 g0 rfl).1
  have SC := hide (show wc0.cell? ⟨w.heap.size + 1, 3, none⟩ = some (.slice none 0 0) from Lib.cell_of_heap (unhide XC).box 3)
  have fz : wc0.frozen? ⟨w.heap.size + 1, 3, none⟩ = false := by simp [World.frozen?, (unhide XC).box]
  have c3 := Lib.cell_of_heap (unhide XC).box 3
  refine hK.out _ _ (fun _ => unhide SC) ?_
  clear hK K2
  clear hbc hown0 hgrow0 hwh0 XB0 GB0 NB0 SB0 CN0
  refine wpAnyL_takeW (i := 6) (v := .pointer (some ⟨w.heap.size + 1, 3, none⟩)) rfl (by kernel_rfl) (by kernel_rfl) (by kernel_rfl) (by kernel_rfl) (fun _ _ _ h => h) (Or.inl ⟨by rfl, fun w hc => ?_⟩) (.inl (unhide SC)) ?_
  · clear hc; go_simp
  go_simp
  refine wpAnyL_one (i := 7) (by kernel_rfl) rfl (fun K2 hK => ?_)
  go_simp
  refine hK.out _ _ (fun h => absurd h (by decide)) ?_
  clear hK K2
  refine wpAnyL_done (by kernel_rfl) ?_ _
  have XE := hide ((unhide XC).set3 (.slice (some ⟨g0, 0, none⟩) 1 cap0))
  have hgc := grownBy_cell (W := wc0) (g := w.heap.size + 1) (i := 3) (.slice (some ⟨g0, 0, none⟩) 1 cap0)
  have NE := (unhide NC).drawn hgc (by omega)
  have OE := World.ownsRow.kept (unhide OC) hgc (.inr (by simp [Value.ownBlock]; omega))
  have NW := hide ((NE.row1 OE hs0 4 0 E0).lower (show w.heap.size + 1 ≤ v0.heap.size by omega))
  clear hgc NE OE XC NC OC SC fz c3 HZ0 HM0
  generalize wc0.setCell ⟨w.heap.size + 1, 3, none⟩ (.slice (some ⟨g0, 0, none⟩) 1 cap0) = we0 at *
  go_wp2
  rw [rounds_succ]
  go_wp2_with (first | (refine wpList_load_row rfl 26 _ rfl (w.heap.size + 1) rfl 26 #[.int .i64 4, .int .i64 0, .string ⟨#[]⟩, .slice (some ⟨g0, 0, none⟩) 1 cap0] (0, 0) _ (unhide XE).box Tryz.underlying26 rfl (by kernel_rfl) ?_) | (refine wpList_store_row rfl 26 _ _ rfl w.heap.size #[.int .i64 4, .int .i64 0, .string ⟨#[]⟩, .slice (some ⟨g0, 0, none⟩) 1 cap0] rfl rfl 26 _ (unhide XE).res szE rfl (ex_one _ _ _ _ _ _) ?_))
  refine bodyPost_ret (results_cell_row (P := Tryz.prog) rfl _ _ w.heap.size 26 #[.int .i64 4, .int .i64 0, .string ⟨#[]⟩, .slice (some ⟨g0, 0, none⟩) 1 cap0] (0, 0) _ rfl (setRow_heap _ _ _ _ _ _ (unhide XE).res) Tryz.underlying26 rfl szE) rfl ?_
  rw [← unhide HX]
  exact Xb.end (l := [e]) (unhide XE) (unhide NW) _
set_option maxHeartbeats 16000000 in
theorem xo_two (T : TypeId) (k : Int) (t u : TypeId) (x y : Value) (e f : Ex) (n0 : T ≠ 106) (n1 : T ≠ 91) (n2 : T ≠ 107) (n3 : T ≠ 93) (m : ∀ w, (method 292 T (.agg #[.iface t x, .iface u y]) "loop.example/g00329/impl.parts").run Tryz.prog w = .ok (151, .agg #[.iface t x, .iface u y]) w) (kd : ∀ w, Calls Tryz.prog 55 #[.iface T (.agg #[.iface t x, .iface u y])] w fun r w' => r = .returned (.int .i64 k) ∧ w' = w) (h1 : ∀ w, Calls Tryz.prog 31 #[.iface t x] w (XoR e w)) (h2 : ∀ w, Calls Tryz.prog 31 #[.iface u y] w (XoR f w)) (w : World) : Calls Tryz.prog 31 #[.iface T (.agg #[.iface t x, .iface u y])] w (XoR ⟨k, 0, E0, [e, f]⟩ w) := by
  obtain ⟨i0, hi, hz0, hz1, hz2⟩ := info_parts infoX
  have KD := hide kd
  have t0 := taN_num T (.agg #[.iface t x, .iface u y]) n0
  have t1 := taN_sect T (.agg #[.iface t x, .iface u y]) n1
  have t2 := taN_sym T (.agg #[.iface t x, .iface u y]) n2
  have t3 := taN_glob T (.agg #[.iface t x, .iface u y]) n3
  have X0 := hide (Xb.new2 (n := 0) (s := ⟨#[]⟩) (v := .slice none 0 0) w k)
  have H1 := hide h1
  have H2 := hide h2
  unfold XoR at H1 H2
  generalize hX : XoR ⟨k, 0, E0, [e, f]⟩ w = X
  have HX := hide hX
  clear hX h1 h2 kd n0 n1 n2 n3
  go_enter Tryz.func31, Tryz.ntmps31
  go_wp2_with (first | (go_at_call 55; refine (unhide KD _).mono ?_; rintro r w' ⟨rfl, hw'⟩; rw [hw']; clear hw' w'))
  generalize (w.alloc (.cells #[.int .i64 0, .int .i64 0, .string ⟨#[]⟩, .slice none 0 0] 26)).alloc (.cells #[.int .i64 k, .int .i64 0, .string ⟨#[]⟩, .slice none 0 0] 26) = W at *
  refine (parts2 t u x y W).mono ?_
  rintro r w1 ⟨gp, rfl, hgp, hb1⟩
  have X1 := hide ((unhide X0).later hb1)
  have G1 := hide hgp
  have c0 := Lib.cell_of_heap hgp 0
  have hgn : gp ≠ w.heap.size + 1 := fun e => by have h := (unhide X1).box; rw [← e, hgp] at h; cases h
  clear hb1 X0 hgp t0 t1 t2 t3 m KD
  go_wp2
  refine wp_loop_rounds 3 ?_
  rw [rounds_succ]
  go_wp2_with fail
  clear c0
  have XD0 := hide ((unhide X1).later (below_drew (w := w1)))
  have GD0 := hide (row_keep (unhide G1) (below_drew (w := w1)))
  have SD0 : w1.drew.cell? ⟨w.heap.size + 1, 3, none⟩ = some (.slice none 0 0) := Lib.cell_of_heap (unhide XD0).box 3
  have HSD0 := hide SD0
  clear X1 G1 SD0
  refine wp_region_last (fun v => v.cell? ⟨w.heap.size + 1, 3, none⟩ = some (.slice none 0 0)) 7 (by kernel_rfl) ?_
  generalize w1.drew = v0 at *
  refine wpAnyL_takeW (i := 0) (v := .pointer (some ⟨w.heap.size + 1, 3, none⟩)) rfl (by kernel_rfl) (by kernel_rfl) (by kernel_rfl) (by kernel_rfl) (fun _ _ _ h => h) (Or.inl ⟨by rfl, fun w hc => ?_⟩) (.inl (unhide HSD0)) ?_
  · clear hc; go_simp
  go_simp
  refine wpAnyL_takeS (i := 1) (v := .slice none 0 0) rfl (by kernel_rfl) (by kernel_rfl) (by kernel_rfl) (by kernel_rfl) (by kernel_rfl) (fun _ _ _ h => h) (Or.inl ⟨by rfl, fun w hc => ?_⟩) (unhide HSD0) ?_
  · go_simp
  go_simp
  refine wpAnyL_takeW (i := 2) (v := .iface t x) rfl (by kernel_rfl) (by kernel_rfl) (by kernel_rfl) (by kernel_rfl) (fun _ _ _ h => h) (Or.inl ⟨by rfl, fun w hc => ?_⟩) (.inl (unhide HSD0)) ?_
  · clear hc; go_simp
  go_simp
  refine wpAnyL_one (i := 3) (by kernel_rfl) rfl (fun K2 hK => ?_)
  go_simp
  refine (unhide H1 v0).mono ?_
  rintro r wa0 ⟨c0, cp0, rfl, hn0, hb0⟩
  unfold Ex.cs
  have XA0 := hide ((unhide XD0).later hb0)
  have GA0 := hide (row_keep (unhide GD0) hb0)
  have NA0 := hide hn0.half
  have hl0 := (unhide XD0).lt
  have hs0 := hb0.size
  have SA0 := hide (show wa0.cell? ⟨w.heap.size + 1, 3, none⟩ = some (.slice none 0 0) from Lib.cell_of_heap (unhide XA0).box 3)
  refine hK.out _ _ (fun _ => unhide SA0) ?_
  clear hK K2
  clear hn0 hb0 XD0 GD0 HSD0
  refine wpAnyL_one (i := 4) (by kernel_rfl) rfl (fun K2 hK => ?_)
  go_simp
  have hb0 := below_new wa0 (.cells #[.int .i64 e.k, .int .i64 e.n, .string e.s, .slice c0 e.l.length cp0] 26)
  have XB0 := hide ((unhide XA0).later hb0)
  have GB0 := hide (row_keep (unhide GA0) hb0)
  have NB0 := hide ((unhide NA0).later hb0)
  have CN0 := hide (cell_new wa0 #[.int .i64 e.k, .int .i64 e.n, .string e.s, .slice c0 e.l.length cp0] 26)
  have SB0 := hide (show (wa0.alloc (.cells #[.int .i64 e.k, .int .i64 e.n, .string e.s, .slice c0 e.l.length cp0] 26)).cell? ⟨w.heap.size + 1, 3, none⟩ = some (.slice none 0 0) from Lib.cell_of_heap (unhide XB0).box 3)
  have hz0 : (wa0.alloc (.cells #[.int .i64 e.k, .int .i64 e.n, .string e.s, .slice c0 e.l.length cp0] 26)).heap.size = wa0.heap.size + 1 := by simp
  have HZ0 := hide hz0
  refine hK.out _ _ (fun _ => unhide SB0) ?_
  clear hK K2
  clear hb0 hz0 XA0 GA0 NA0 SA0
  generalize hM0 : wa0.heap.size = M0 at *
  have HM0 := hide hM0
  clear hM0
  generalize wa0.alloc (.cells #[.int .i64 e.k, .int .i64 e.n, .string e.s, .slice c0 e.l.length cp0] 26) = wb0 at *
  refine wpAnyL_one (i := 5) (by kernel_rfl) rfl (fun K2 hK => ?_)
  rw [if_pos (by rfl)]
  refine wp_append_to (.tmp 48) (.tmp 51) 24 rfl M0 26 i0 (.agg #[.int .i64 0, .int .i64 0, .string ⟨#[]⟩, .slice none 0 0]) 4 56 Tryz.underlying24 hi hz0 hz1 hz2 rfl (by decide) (.slice none 0 0) 0 ([]) rfl (World.ownsRow_nil _ _ _ _) ⟨M0, 0, none⟩ 1 1 (exL e c0 cp0) rfl rfl (unhide CN0) (exL_one _ _ _) (by unfold maxLen; omega) (by omega) (by have := unhide HZ0; omega) (by omega) ?_
  intro g0 cap0 wc0 hown0 hgrow0 hwh0
  have hbc := below_none hgrow0
  have XC := hide ((unhide XB0).later hbc)
  have GC := hide (row_keep (unhide GB0) hbc)
  have NC := hide ((unhide NB0).later hbc)
  have OC := hide (show wc0.ownsRow M0 26 4 (.slice (some ⟨g0, 0, none⟩) 1 cap0) 1 (exL e c0 cp0) from hown0)
  have hgM : M0 ≤ g0 := (World.ownsRow.lt hown0 g0 rfl).1
  have hgL : g0 < wc0.heap.size := (World.ownsRow.lt hown0 g0 rfl).2
  have SC := hide (show wc0.cell? ⟨w.heap.size + 1, 3, none⟩ = some (.slice none 0 0) from Lib.cell_of_heap (unhide XC).box 3)
  have fz : wc0.frozen? ⟨w.heap.size + 1, 3, none⟩ = false := by simp [World.frozen?, (unhide XC).box]
  have c3 := Lib.cell_of_heap (unhide XC).box 3
  refine hK.out _ _ (fun _ => unhide SC) ?_
  clear hK K2
  clear hbc hown0 hgrow0 hwh0 XB0 GB0 NB0 SB0 CN0
  refine wpAnyL_takeW (i := 6) (v := .pointer (some ⟨w.heap.size + 1, 3, none⟩)) rfl (by kernel_rfl) (by kernel_rfl) (by kernel_rfl) (by kernel_rfl) (fun _ _ _ h => h) (Or.inl ⟨by rfl, fun w hc => ?_⟩) (.inl (unhide SC)) ?_
  · clear hc; go_simp
  go_simp
  refine wpAnyL_one (i := 7) (by kernel_rfl) rfl (fun K2 hK => ?_)
  go_simp
  refine hK.out _ _ (fun h => absurd h (by decide)) ?_
  clear hK K2
  refine wpAnyL_done (by kernel_rfl) ?_ _
  have XE := hide ((unhide XC).set3 (.slice (some ⟨g0, 0, none⟩) 1 cap0))
  have hgc := grownBy_cell (W := wc0) (g := w.heap.size + 1) (i := 3) (.slice (some ⟨g0, 0, none⟩) 1 cap0)
  have RN0 := hide ((unhide NC).drawn hgc (by omega))
  have RO0 := hide (World.ownsRow.kept (unhide OC) hgc (.inr (by simp [Value.ownBlock]; omega)))
  have GE := hide ((hgc.block _ (Array.getElem?_eq_some_iff.1 (unhide GC)).1 (fun e => by simp at e; omega)).trans (unhide GC))
  have hgE : g0 < (wc0.setCell ⟨w.heap.size + 1, 3, none⟩ (.slice (some ⟨g0, 0, none⟩) 1 cap0)).heap.size := Nat.lt_of_lt_of_le hgL hgc.size
  have c1 := Lib.cell_of_heap (unhide GE) 1
  clear hgc XC NC OC GC SC fz c3 HZ0 HM0 hgL
  generalize wc0.setCell ⟨w.heap.size + 1, 3, none⟩ (.slice (some ⟨g0, 0, none⟩) 1 cap0) = we0 at *
  go_wp2
  rw [rounds_succ]
  go_wp2_with fail
  clear c1
  have hgD : g0 < we0.drew.heap.size := hgE
  have XD1 := hide ((unhide XE).later (below_drew (w := we0)))
  have GD1 := hide (row_keep (unhide GE) (below_drew (w := we0)))
  have RND := hide ((unhide RN0).later (below_drew (w := we0)))
  have ROD := hide (ownsRow_later (unhide RO0) (below_drew (w := we0)))
  have SD1 : we0.drew.cell? ⟨w.heap.size + 1, 3, none⟩ = some (.slice (some ⟨g0, 0, none⟩) 1 cap0) := Lib.cell_of_heap (unhide XD1).box 3
  have HSD1 := hide SD1
  clear XE GE SD1
  refine wp_region_last (fun v => v.cell? ⟨w.heap.size + 1, 3, none⟩ = some (.slice (some ⟨g0, 0, none⟩) 1 cap0)) 7 (by kernel_rfl) ?_
  generalize we0.drew = v1 at *
  refine wpAnyL_takeW (i := 0) (v := .pointer (some ⟨w.heap.size + 1, 3, none⟩)) rfl (by kernel_rfl) (by kernel_rfl) (by kernel_rfl) (by kernel_rfl) (fun _ _ _ h => h) (Or.inl ⟨by rfl, fun w hc => ?_⟩) (.inl (unhide HSD1)) ?_
  · clear hc; go_simp
  go_simp
  refine wpAnyL_takeS (i := 1) (v := .slice (some ⟨g0, 0, none⟩) 1 cap0) rfl (by kernel_rfl) (by kernel_rfl) (by kernel_rfl) (by kernel_rfl) (by kernel_rfl) (fun _ _ _ h => h) (Or.inl ⟨by rfl, fun w hc => ?_⟩) (unhide HSD1) ?_
  · go_simp
  go_simp
  refine wpAnyL_takeW (i := 2) (v := .iface u y) rfl (by kernel_rfl) (by kernel_rfl) (by kernel_rfl) (by kernel_rfl) (fun _ _ _ h => h) (Or.inl ⟨by rfl, fun w hc => ?_⟩) (.inl (unhide HSD1)) ?_
  · clear hc; go_simp
  go_simp
  refine wpAnyL_one (i := 3) (by kernel_rfl) rfl (fun K2 hK => ?_)
  go_simp
  refine (unhide H2 v1).mono ?_
  rintro r wa1 ⟨c1, cp1, rfl, hn1, hb1⟩
  unfold Ex.cs
  have XA1 := hide ((unhide XD1).later hb1)
  have GA1 := hide (row_keep (unhide GD1) hb1)
  have RNA := hide ((unhide RND).later (hb1))
  have ROA := hide (ownsRow_later (unhide ROD) (hb1))
  have NA1 := hide hn1.half
  have hl1 := (unhide XD1).lt
  have hs1 := hb1.size
  have SA1 := hide (show wa1.cell? ⟨w.heap.size + 1, 3, none⟩ = some (.slice (some ⟨g0, 0, none⟩) 1 cap0) from Lib.cell_of_heap (unhide XA1).box 3)
  refine hK.out _ _ (fun _ => unhide SA1) ?_
  clear hK K2
  clear hn1 hb1 XD1 GD1 HSD1
  refine wpAnyL_one (i := 4) (by kernel_rfl) rfl (fun K2 hK => ?_)
  go_simp
  have hb1 := below_new wa1 (.cells #[.int .i64 f.k, .int .i64 f.n, .string f.s, .slice c1 f.l.length cp1] 26)
  have XB1 := hide ((unhide XA1).later hb1)
  have GB1 := hide (row_keep (unhide GA1) hb1)
  have RNB := hide ((unhide RNA).later (hb1))
  have ROB := hide (ownsRow_later (unhide ROA) (hb1))
  have NB1 := hide ((unhide NA1).later hb1)
  have CN1 := hide (cell_new wa1 #[.int .i64 f.k, .int .i64 f.n, .string f.s, .slice c1 f.l.length cp1] 26)
  have SB1 := hide (show (wa1.alloc (.cells #[.int .i64 f.k, .int .i64 f.n, .string f.s, .slice c1 f.l.length cp1] 26)).cell? ⟨w.heap.size + 1, 3, none⟩ = some (.slice (some ⟨g0, 0, none⟩) 1 cap0) from Lib.cell_of_heap (unhide XB1).box 3)
  have hz1 : (wa1.alloc (.cells #[.int .i64 f.k, .int .i64 f.n, .string f.s, .slice c1 f.l.length cp1] 26)).heap.size = wa1.heap.size + 1 := by simp
  have HZ1 := hide hz1
  refine hK.out _ _ (fun _ => unhide SB1) ?_
  clear hK K2
  clear hb1 hz1 XA1 GA1 NA1 SA1
  generalize hM1 : wa1.heap.size = M1 at *
  have HM1 := hide hM1
  clear hM1
  generalize wa1.alloc (.cells #[.int .i64 f.k, .int .i64 f.n, .string f.s, .slice c1 f.l.length cp1] 26) = wb1 at *
  refine wpAnyL_one (i := 5) (by kernel_rfl) rfl (fun K2 hK => ?_)
  rw [if_pos (by rfl)]
  refine wp_append_to (.tmp 48) (.tmp 51) 24 rfl M0 26 i0 (.agg #[.int .i64 0, .int .i64 0, .string ⟨#[]⟩, .slice none 0 0]) 4 56 Tryz.underlying24 hi hz0 hz1 hz2 rfl (by decide) (.slice (some ⟨g0, 0, none⟩) 1 cap0) 1 (exL e c0 cp0) rfl (unhide ROB) ⟨M1, 0, none⟩ 1 1 (exL f c1 cp1) rfl rfl (unhide CN1) (exL_one _ _ _) (by unfold maxLen; omega) (by omega) (by have := unhide HZ1; omega) (by omega) ?_
  intro g1 cap1 wc1 hown1 hgrow1 hwh1
  have hgr : wb1.grownBy wc1 (some g0) := hgrow1
  have XC := hide ((unhide XB1).grown hgr (by omega))
  have NC := hide ((unhide NB1).drawn hgr hgD)
  have RC := hide ((unhide RNB).beyond hgr hgM)
  have OC := hide (show wc1.ownsRow M0 26 4 (.slice (some ⟨g1, 0, none⟩) 2 cap1) 2 (exL e c0 cp0 ++ exL f c1 cp1) from hown1)
  have hgw : g1 < v1.heap.size ∨ M1 ≤ g1 := by
    rcases hwh1 with h | h
    · left
      have : g0 = g1 := by simpa [Value.ownBlock] using h
      omega
    · right
      have := unhide HZ1
      omega
  have hgN : M0 ≤ g1 := (World.ownsRow.lt hown1 g1 rfl).1
  have SC := hide (show wc1.cell? ⟨w.heap.size + 1, 3, none⟩ = some (.slice (some ⟨g0, 0, none⟩) 1 cap0) from Lib.cell_of_heap (unhide XC).box 3)
  have fz : wc1.frozen? ⟨w.heap.size + 1, 3, none⟩ = false := by simp [World.frozen?, (unhide XC).box]
  have c3 := Lib.cell_of_heap (unhide XC).box 3
  refine hK.out _ _ (fun _ => unhide SC) ?_
  clear hK K2
  clear hgr hown1 hgrow1 hwh1 XB1 GB1 NB1 SB1 CN1 RNB ROB RNA ROA RND ROD RN0 RO0
  refine wpAnyL_takeW (i := 6) (v := .pointer (some ⟨w.heap.size + 1, 3, none⟩)) rfl (by kernel_rfl) (by kernel_rfl) (by kernel_rfl) (by kernel_rfl) (fun _ _ _ h => h) (Or.inl ⟨by rfl, fun w hc => ?_⟩) (.inl (unhide SC)) ?_
  · clear hc; go_simp
  go_simp
  refine wpAnyL_one (i := 7) (by kernel_rfl) rfl (fun K2 hK => ?_)
  go_simp
  refine hK.out _ _ (fun h => absurd h (by decide)) ?_
  clear hK K2
  refine wpAnyL_done (by kernel_rfl) ?_ _
  have XE := hide ((unhide XC).set3 (.slice (some ⟨g1, 0, none⟩) 2 cap1))
  have hgc := grownBy_cell (W := wc1) (g := w.heap.size + 1) (i := 3) (.slice (some ⟨g1, 0, none⟩) 2 cap1)
  have NE := (unhide NC).drawn hgc (by omega)
  have RE := (unhide RC).drawn hgc (by omega)
  have OE := World.ownsRow.kept (unhide OC) hgc (.inr (by simp [Value.ownBlock]; omega))
  have NW := hide ((RE.row2 NE OE hs0 (by omega) hgw k 0 E0).lower (show w.heap.size + 1 ≤ v0.heap.size by omega))
  clear hgc NE RE OE XC NC RC OC SC fz c3 HZ1 HM1
  generalize wc1.setCell ⟨w.heap.size + 1, 3, none⟩ (.slice (some ⟨g1, 0, none⟩) 2 cap1) = we1 at *
  go_wp2
  rw [rounds_succ]
  go_wp2_with (first | (refine wpList_load_row rfl 26 _ rfl (w.heap.size + 1) rfl 26 #[.int .i64 k, .int .i64 0, .string ⟨#[]⟩, .slice (some ⟨g1, 0, none⟩) 2 cap1] (0, 0) _ (unhide XE).box Tryz.underlying26 rfl (by kernel_rfl) ?_) | (refine wpList_store_row rfl 26 _ _ rfl w.heap.size #[.int .i64 k, .int .i64 0, .string ⟨#[]⟩, .slice (some ⟨g1, 0, none⟩) 2 cap1] rfl rfl 26 _ (unhide XE).res szE rfl (ex_one _ _ _ _ _ _) ?_))
  refine bodyPost_ret (results_cell_row (P := Tryz.prog) rfl _ _ w.heap.size 26 #[.int .i64 k, .int .i64 0, .string ⟨#[]⟩, .slice (some ⟨g1, 0, none⟩) 2 cap1] (0, 0) _ rfl (setRow_heap _ _ _ _ _ _ (unhide XE).res) Tryz.underlying26 rfl szE) rfl ?_
  rw [← unhide HX]
  exact Xb.end (l := [e, f]) (unhide XE) (unhide NW) _
def XoP (d : Nat) : Prop := ∀ (e : Ex) (w : World), okF d true e = true → Calls Tryz.prog 31 #[tv e] w (XoR e w)
theorem xo_all : ∀ d : Nat, d ≤ 6 → XoP d := by
  intro d
  induction d with
  | zero => intro _ e w h; cases h
  | succ d ih =>
    intro hd e w h
    have ihd := ih (by omega)
    rcases plain_cases h with ⟨n, hn, rfl⟩ | ⟨s, hs, rfl⟩ | rfl | ⟨a, ha, rfl⟩ | ⟨k, a, b, hk, ha, hb, rfl⟩
    · rw [tv_num]; exact xo_num n w
    · rw [tv_sym]
      refine xo_sym s ?_ w
      have := name_sz hs
      omega
    · rw [tv_here]; exact xo_here w
    · obtain ⟨t, x, e1⟩ := tv_if a
      have h1 := fun w => ihd a w ha
      rw [e1] at h1
      rw [tv_neg, e1]
      exact xo_neg t x a h1 w
    · obtain ⟨t, x, e1⟩ := tv_if a
      obtain ⟨u, y, e2⟩ := tv_if b
      have h1 := fun w => ihd a w ha
      have h2 := fun w => ihd b w hb
      rw [e1] at h1
      rw [e2] at h2
      rw [tv_two hk, e1, e2]
      have : k = 5 ∨ k = 6 ∨ k = 7 ∨ k = 8 ∨ k = 9 ∨ k = 10 := by omega
      rcases this with rfl | rfl | rfl | rfl | rfl | rfl
      · exact xo_two 124 5 t u x y a b (by decide) (by decide) (by decide) (by decide) (me_add (.iface t x) (.iface u y)) (fun w => kind_add 0 E0 t u x y w) h1 h2 w
      · exact xo_two 125 6 t u x y a b (by decide) (by decide) (by decide) (by decide) (me_sub (.iface t x) (.iface u y)) (fun w => kind_sub 0 E0 t u x y w) h1 h2 w
      · exact xo_two 126 7 t u x y a b (by decide) (by decide) (by decide) (by decide) (me_mul (.iface t x) (.iface u y)) (fun w => kind_mul 0 E0 t u x y w) h1 h2 w
      · exact xo_two 127 8 t u x y a b (by decide) (by decide) (by decide) (by decide) (me_div (.iface t x) (.iface u y)) (fun w => kind_div 0 E0 t u x y w) h1 h2 w
      · exact xo_two 128 9 t u x y a b (by decide) (by decide) (by decide) (by decide) (me_and (.iface t x) (.iface u y)) (fun w => kind_and 0 E0 t u x y w) h1 h2 w
      · exact xo_two 129 10 t u x y a b (by decide) (by decide) (by decide) (by decide) (me_or (.iface t x) (.iface u y)) (fun w => kind_or 0 E0 t u x y w) h1 h2 w
end Go.Proofs.YthgbpofcfmnpdaaGreatDoor
