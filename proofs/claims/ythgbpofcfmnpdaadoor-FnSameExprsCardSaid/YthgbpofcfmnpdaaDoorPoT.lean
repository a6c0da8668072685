/- Contracts of ParseOct (the program's and the model's), over this seat's translation; conditions stand as hypotheses of each. -/
import Derived.Test.YthgbpofcfmnpdaaDoorPuT
namespace Go.Proofs.YthgbpofcfmnpdaaDoor
open Go.ChangeShapes Go.WideShapes Go.ChangeAt Go.RowKit
set_option linter.unusedVariables false

theorem octD_dig (m : Nat) : ∀ c ∈ octD m, 48 ≤ c.toNat ∧ c.toNat ≤ 55 := by
  induction m using Nat.strongRecOn with
  | ind m ih =>
    intro c hc
    by_cases h : m < 8
    · rw [octD_small m h] at hc
      simp only [List.mem_singleton] at hc
      subst hc
      have := dg_val m h
      omega
    · rw [octD_big m h, List.mem_append] at hc
      rcases hc with hc | hc
      · exact ih (m / 8) (by omega) c hc
      · simp only [List.mem_singleton] at hc
        subst hc
        have := dg_val (m % 8) (by omega)
        omega
theorem octD_ov (m : Nat) : ov (octD m) = m := by
  induction m using Nat.strongRecOn with
  | ind m ih =>
    by_cases h : m < 8
    · rw [octD_small m h]
      have := dg_val m h
      show 0 * 8 + (((dg m).toNat : Int) - 48) = m
      omega
    · rw [octD_big m h, ov_snoc, ih (m / 8) (by omega), dg_val (m % 8) (by omega)]
      omega
theorem octD_ne (m : Nat) : octD m ≠ [] := by
  rw [octD_split]
  simp
theorem ov_take_bd (l : List UInt8) (h : ∀ c ∈ l, 48 ≤ c.toNat) (k : Nat) : 0 ≤ ov (l.take k) ∧ ∀ j, k ≤ j → ov (l.take k) ≤ ov (l.take j) := by
  have step : ∀ k, 0 ≤ ov (l.take k) → ov (l.take k) ≤ ov (l.take (k + 1)) ∧ 0 ≤ ov (l.take (k + 1)) := by
    intro k h0
    by_cases hk : k < l.length
    · rw [ov_take l k hk]
      have : (48 : Int) ≤ bAt l k := by
        unfold bAt
        rw [List.getD_eq_getElem?_getD, List.getElem?_eq_getElem hk]
        have := h l[k] (List.getElem_mem _)
        simp
        omega
      omega
    · rw [List.take_of_length_le (by omega), List.take_of_length_le (by omega)] at *
      exact ⟨Int.le_refl _, h0⟩
  have nn : ∀ k, 0 ≤ ov (l.take k) := by
    intro k
    induction k with
    | zero => exact Int.le_refl _
    | succ k ih => exact (step k ih).2
  refine ⟨nn k, fun j hj => ?_⟩
  induction j with
  | zero => obtain rfl : k = 0 := by omega
            exact Int.le_refl _
  | succ j ih =>
    by_cases e : k = j + 1
    · subst e; exact Int.le_refl _
    · exact Int.le_trans (ih (by omega)) (step j (nn j)).1
theorem octD_good (m : Nat) (hm : m < 65536) : ¬ Bad (octD m) := by
  rintro ⟨k, hk, h⟩
  have hd := octD_dig m (octD m)[k] (List.getElem_mem _)
  have e : bAt (octD m) k = ((octD m)[k].toNat : Int) := by unfold bAt; rw [List.getD_eq_getElem?_getD, List.getElem?_eq_getElem hk]; rfl
  have h2 := (ov_take_bd (octD m) (fun c hc => (octD_dig m c hc).1) (k + 1)).2 (octD m).length (by omega)
  rw [List.take_of_length_le (Nat.le_refl _), octD_ov] at h2
  rw [e] at h
  omega


set_option maxHeartbeats 400000 in
set_option maxRecDepth 100000 in
theorem pu_empty (w : World) : Calls Tryd.prog 108 #[.string ⟨#[]⟩, .int .i64 8, .int .i64 16] w fun e w' => BadEnd e ∧ w' = w := by
  go_enter Tryd.func108, Tryd.ntmps108
  go_wp2
  go_ret2
  exact ⟨⟨_, 2, .inr rfl, rfl⟩, rfl⟩

/-- What strconv.ParseUint(s, 8, 16) ends with: the number and nil; or an error. -/
def PuEnd (l : List UInt8) (e : Ending) : Prop :=
  (0 ≤ ov l ∧ ov l ≤ 65535 ∧ e = .returned (.tuple #[.int .u64 (ov l), .nilIface])) ∨ ((l = [] ∨ Bad l) ∧ ∃ y t v, e = .returned (.tuple #[.int .u64 y, .iface t v]))

set_option maxHeartbeats 1000000 in
set_option maxRecDepth 100000 in
theorem puP_any (s : ByteArray) (hmax : s.size ≤ 1099511627776) (te1 te2 : TypeId) (pe1 pe2 : Value) (w : World) (hv1 : w.cell? ⟨5, 0, none⟩ = some (.iface te1 pe1)) (hv2 : w.cell? ⟨6, 0, none⟩ = some (.iface te2 pe2)) :
    Calls Tryd.prog 101 #[.string s, .int .i64 8, .int .i64 16] w fun e w' => PuEnd s.data.toList e ∧ Below w.heap.size w w' := by
  have g1 : 5 < w.heap.size := World.block_lt_of_cell? w _ hv1
  have g2 : 6 < w.heap.size := World.block_lt_of_cell? w _ hv2
  have V1 := hide hv1
  have V2 := hide hv2
  clear hv1 hv2
  have inner : Calls Tryd.prog 108 #[.string s, .int .i64 8, .int .i64 16] w fun e w' => Below w.heap.size w w' ∧
      ((0 ≤ ov s.data.toList ∧ ov s.data.toList ≤ 65535 ∧ e = .returned (.tuple #[.int .u64 (ov s.data.toList), .nilIface])) ∨ ((s.data.toList = [] ∨ Bad s.data.toList) ∧ BadEnd e)) := by
    by_cases h0 : s.size = 0
    · have hs : s = ⟨#[]⟩ := by
        apply ByteArray.ext
        exact Array.eq_empty_of_size_eq_zero h0
      subst hs
      exact (pu_empty w).mono fun e w' ⟨he, hw⟩ => by subst hw; exact ⟨Below.refl _ _, .inr ⟨.inl rfl, he⟩⟩
    · exact (pu_any s h0 hmax w).mono fun e w' ⟨hb, h⟩ => ⟨hb, h.elim .inl fun ⟨a, b⟩ => .inr ⟨.inr a, b⟩⟩
  have HI := hide inner
  clear inner
  go_enter Tryd.func101, Tryd.ntmps101
  go_wp2_with fail
  refine (unhide HI).mono ?_
  rintro e w1 ⟨hb, h⟩
  clear HI
  have c1 := hide ((hb.cell (p := ⟨5, 0, none⟩) g1).trans (unhide V1))
  have c2 := hide ((hb.cell (p := ⟨6, 0, none⟩) g2).trans (unhide V2))
  have s1 := hb.size
  rcases h with ⟨h0, h1, he⟩ | ⟨hbad, y, c, hc, he⟩
  · subst he
    go_wp2
    go_ret2
    exact ⟨.inl ⟨h0, h1, rfl⟩, hb⟩
  · subst he
    have HB := hide hbad
    clear hbad
    rcases hc with rfl | rfl
    · go_wp2_with fail
      refine (toErr_rng _ s 8 16 te2 pe2 w1 (by omega) (unhide c2)).mono ?_
      rintro e w2 ⟨t, v, rfl, hb2⟩
      go_wp2
      go_ret2
      exact ⟨.inr ⟨unhide HB, _, _, _, rfl⟩, hb.trans (hb2.mono s1)⟩
    · go_wp2_with fail
      refine (toErr_syn _ s 8 16 te1 pe1 w1 (by omega) (unhide c1)).mono ?_
      rintro e w2 ⟨t, v, rfl, hb2⟩
      go_wp2
      go_ret2
      exact ⟨.inr ⟨unhide HB, _, _, _, rfl⟩, hb.trans (hb2.mono s1)⟩


set_option maxHeartbeats 1000000 in
theorem poI_yes (m : Nat) (hm : m < 65536) (te1 te2 : TypeId) (pe1 pe2 : Value) (w : World) (hv1 : w.cell? ⟨5, 0, none⟩ = some (.iface te1 pe1)) (hv2 : w.cell? ⟨6, 0, none⟩ = some (.iface te2 pe2)) (hg : w.cell? ⟨8, 7, none⟩ = some (.int .u8 3)) :
    Calls Tryd.prog 79 #[.string (strOf (octD m))] w fun e w' => e = .returned (.tuple #[.int .i64 m, .bool true]) ∧ Below w.heap.size w w' := by
  have g4 : 8 < w.heap.size := World.block_lt_of_cell? w _ hg
  have hlen := octD_len m 5 (by omega)
  have H := hide (puP_any (strOf (octD m)) (by rw [strOf_size]; omega) te1 te2 pe1 pe2 w hv1 hv2)
  have V := hide hg
  clear hv1 hv2 hg
  go_enter Tryd.func79, Tryd.ntmps79
  go_wp2_with fail
  refine (unhide H).mono ?_
  rintro e w1 ⟨h, hb⟩
  have c4 := hide ((hb.cell (p := ⟨8, 7, none⟩) g4).trans (unhide V))
  rw [strOf_list] at h
  have s1 := hb.size
  rcases h with ⟨h0, h1, he⟩ | ⟨hbad, _⟩
  · rw [octD_ov] at he
    subst he
    clear h0 h1 H V hlen
    go_wp2_with fail
    refine (octI_any m w1 (unhide c4)).mono ?_
    rintro e w2 ⟨he, hb2⟩
    rw [show ((m : Int) % 65536).toNat = m by omega] at he
    subst he
    go_wp2
    go_ret2
    exact ⟨rfl, hb.trans (hb2.mono s1)⟩
  · exact absurd hbad (by
      rintro (h | h)
      · exact octD_ne m h
      · exact octD_good m hm h)

set_option maxHeartbeats 1000000 in
theorem poI_no (s : ByteArray) (hs : ∀ m, m < 65536 → s ≠ strOf (octD m)) (hmax : s.size ≤ 1099511627776) (te1 te2 : TypeId) (pe1 pe2 : Value) (w : World) (hv1 : w.cell? ⟨5, 0, none⟩ = some (.iface te1 pe1)) (hv2 : w.cell? ⟨6, 0, none⟩ = some (.iface te2 pe2)) (hg : w.cell? ⟨8, 7, none⟩ = some (.int .u8 3)) :
    Calls Tryd.prog 79 #[.string s] w fun e w' => e = .returned (.tuple #[.int .i64 0, .bool false]) ∧ Below w.heap.size w w' := by
  have g4 : 8 < w.heap.size := World.block_lt_of_cell? w _ hg
  have H := hide (puP_any s hmax te1 te2 pe1 pe2 w hv1 hv2)
  have V := hide hg
  have HS := hide hs
  clear hv1 hv2 hg hs
  go_enter Tryd.func79, Tryd.ntmps79
  go_wp2_with fail
  refine (unhide H).mono ?_
  rintro e w1 ⟨h, hb⟩
  have c4 := hide ((hb.cell (p := ⟨8, 7, none⟩) g4).trans (unhide V))
  have s1 := hb.size
  rcases h with ⟨h0, h1, he⟩ | ⟨_, y, t, v, he⟩
  · subst he
    obtain ⟨x, hx⟩ := Int.eq_ofNat_of_zero_le h0
    rw [hx] at h1 ⊢
    have hne := str_ne (unhide HS x (by omega)).symm
    clear H V hx h0
    go_wp2_with fail
    refine (octI_any x w1 (unhide c4)).mono ?_
    rintro e w2 ⟨he, hb2⟩
    rw [show ((x : Int) % 65536).toNat = x by omega] at he
    subst he
    go_wp2
    go_ret2
    exact ⟨rfl, hb.trans (hb2.mono s1)⟩
  · subst he
    clear H V
    go_wp2
    go_ret2
    exact ⟨rfl, hb⟩

theorem in_yes (x a b : Int) (w : World) (h1 : a ≤ x) (h2 : x ≤ b) : Calls Tryd.prog 62 #[.int .i64 x, .int .i64 a, .int .i64 b] w fun e w' => e = .returned (.bool true) ∧ w' = w := by
  go_enter Tryd.func62, Tryd.ntmps62
  go_wp2
  go_ret
  exact ⟨rfl, rfl⟩
theorem in_no (x a b : Int) (w : World) (h : x < a ∨ b < x) : Calls Tryd.prog 62 #[.int .i64 x, .int .i64 a, .int .i64 b] w fun e w' => e = .returned (.bool false) ∧ w' = w := by
  by_cases h1 : x < a
  · clear h
    go_enter Tryd.func62, Tryd.ntmps62
    go_wp2
    go_ret
    exact ⟨rfl, rfl⟩
  · have h2 : b < x := by omega
    have h3 : a ≤ x := by omega
    have h4 : decide (x ≤ b) = false := by simp; omega
    clear h h1
    go_enter Tryd.func62, Tryd.ntmps62
    go_wp2
    go_ret
    exact ⟨rfl, rfl⟩

def Digs (l : List UInt8) (k : Nat) : Prop := ∀ j, j < k → 48 ≤ bAt l j ∧ bAt l j ≤ 55
theorem ov_lt (l : List UInt8) (k : Nat) (hk : k ≤ l.length) (h : Digs l k) : 0 ≤ ov (l.take k) ∧ ov (l.take k) + 1 ≤ ((8 ^ k : Nat) : Int) := by
  induction k with
  | zero => exact ⟨Int.le_refl _, Int.le_refl _⟩
  | succ k ih =>
    have ih := ih (by omega) (fun j hj => h j (by omega))
    have hd := h k (by omega)
    rw [ov_take l k (by omega), Nat.pow_succ]
    omega
theorem ov_six (l : List UInt8) (k : Nat) (hk : k ≤ l.length) (h6 : k ≤ 6) (h : Digs l k) : 0 ≤ ov (l.take k) ∧ ov (l.take k) ≤ 262143 := by
  have h1 := ov_lt l k hk h
  have h2 : 8 ^ k ≤ 8 ^ 6 := Nat.pow_le_pow_right (by omega) h6
  have h3 : (8 : Nat) ^ 6 = 262144 := by decide
  omega

theorem no_dig (s : ByteArray) (k : Nat) (hk : k < s.size) (h : ¬ (48 ≤ bAt s.data.toList k ∧ bAt s.data.toList k ≤ 55)) : ∀ m, m < 65536 → s ≠ strOf (octD m) := by
  intro m _ e
  rw [e, strOf_list] at h
  have hk' : k < (octD m).length := by rw [e, strOf_size] at hk; exact hk
  have hd := octD_dig m (octD m)[k] (List.getElem_mem _)
  apply h
  unfold bAt
  rw [List.getD_eq_getElem?_getD, List.getElem?_eq_getElem hk']
  simp
  omega
theorem no_ov (s : ByteArray) (h : ov s.data.toList < 0 ∨ 65535 < ov s.data.toList ∨ s ≠ strOf (octD (ov s.data.toList).toNat)) : ∀ m, m < 65536 → s ≠ strOf (octD m) := by
  intro m hm e
  have h2 : ov s.data.toList = m := by rw [e, strOf_list, octD_ov]
  rw [h2, Int.toNat_natCast] at h
  rcases h with h | h | h
  · omega
  · omega
  · exact h e

set_option maxHeartbeats 1000000 in
set_option maxRecDepth 100000 in
theorem poS_any (s : ByteArray) (hmax : s.size ≤ 1099511627776) (w : World) :
    Calls Tryd.prog 90 #[.string s] w fun e w' => Below w.heap.size w w' ∧
      ((∃ m : Nat, m < 65536 ∧ s = strOf (octD m) ∧ e = .returned (.tuple #[.int .i64 m, .bool true])) ∨ ((∀ m, m < 65536 → s ≠ strOf (octD m)) ∧ e = .returned (.tuple #[.int .i64 0, .bool false]))) := by
  by_cases h6 : s.size ≤ 6
  · go_enter Tryd.func90, Tryd.ntmps90
    go_wp2
    go_loop [4, 5] (fun n i => ∃ (k : Nat) (a : Int), n = .int .i64 a ∧ i = .int .i64 k ∧ k ≤ s.size ∧ 0 ≤ a ∧ a ≤ 262143 ∧ Hid (a = ov (s.data.toList.take k)) ∧ Hid (Digs s.data.toList k)) (fun _ i => s.size - (intOf i).toNat)
    case atStart => exact ⟨0, 0, rfl, rfl, by omega, by omega, by omega, rfl, fun j hj => by omega⟩
    case round =>
      obtain ⟨k, a, rfl, rfl, hk, a0, a1, ha, hd⟩ := hrel
      have hsl : s.data.toList.length = s.size := by simp
      by_cases hlt : k < s.size
      · have he := sAt s k hlt
        have hbd := bAt_bd s.data.toList k
        have hT := ov_take s.data.toList k (by omega)
        rw [← ha.out] at hT
        have HT := hide hT
        clear hT
        by_cases hdig : 48 ≤ bAt s.data.toList k ∧ bAt s.data.toList k ≤ 55
        · have hd' : Digs s.data.toList (k + 1) := fun j hj => by
            by_cases e : j = k
            · subst e; exact hdig
            · exact hd.out j (by omega)
          have hb := ov_six s.data.toList (k + 1) (by omega) (by omega) hd'
          rw [unhide HT] at hb
          have HD := hide hd'
          have hdig0 := hdig.1
          have hdig1 := hdig.2
          clear hd' hdig hsl
          go_wp2_with (go_at_call 62; refine (in_yes _ _ _ _ (by omega) (by omega)).mono ?_; rintro e w' ⟨rfl, hw'⟩; rw [hw']; clear hw' w')
          go_round
          case rel => exact ⟨k + 1, a * 8 + (bAt s.data.toList k - 48), by go_num, by go_num, by omega, hb.1, hb.2, (unhide HT).symm, unhide HD⟩
          case measure => simp [intOf]; omega
        · have HN := hide (no_dig s k hlt hdig)
          have hor : bAt s.data.toList k < 48 ∨ 55 < bAt s.data.toList k := by omega
          have HO := hide hor
          clear hor hdig hsl
          go_wp2_with (go_at_call 62; refine (in_no _ _ _ _ (unhide HO)).mono ?_; rintro e w' ⟨rfl, hw'⟩; rw [hw']; clear hw' w')
          go_ret2
          exact ⟨Below.refl _ _, .inr ⟨unhide HN, rfl⟩⟩
      · have hfin : a = ov s.data.toList := by rw [ha.out, List.take_of_length_le (by omega)]
        have HF := hide hfin
        clear hfin ha hd hsl
        by_cases hgt : 65535 < a
        · have HN := hide (no_ov s (.inr (.inl (by rw [← unhide HF]; exact hgt))))
          go_wp2
          go_ret2
          exact ⟨Below.refl _ _, .inr ⟨unhide HN, rfl⟩⟩
        · obtain ⟨m, rfl⟩ := Int.eq_ofNat_of_zero_le a0
          have hm : m < 65536 := by omega
          by_cases heq : s = strOf (octD m)
          · have HE := hide heq
            clear heq
            go_wp2_with fail
            refine (octS_any m w).mono ?_
            rintro e w2 ⟨he, hb2⟩
            rw [show ((m : Int) % 65536).toNat = m by omega, ← unhide HE] at he
            subst he
            go_wp2
            go_ret2
            exact ⟨hb2, .inl ⟨m, hm, unhide HE, rfl⟩⟩
          · have hne := str_ne (fun e => heq (Eq.symm e))
            have HN := hide (no_ov s (.inr (.inr (by rw [← unhide HF, Int.toNat_natCast]; exact heq))))
            clear heq
            go_wp2_with fail
            refine (octS_any m w).mono ?_
            rintro e w2 ⟨he, hb2⟩
            rw [show ((m : Int) % 65536).toNat = m by omega] at he
            subst he
            go_wp2
            go_ret2
            exact ⟨hb2, .inr ⟨unhide HN, rfl⟩⟩
  · have HN := hide (show ∀ m, m < 65536 → s ≠ strOf (octD m) from fun m hm e => by
      have h1 := octD_len m 5 (by omega)
      have h2 := strOf_size (octD m)
      rw [← e] at h2
      omega)
    have hne := str_ne (a := strOf (octD 0)) (b := s) (fun e => unhide HN 0 (by omega) e.symm)
    have h7 : decide ((s.size : Int) ≤ 6) = false := by simp; omega
    go_enter Tryd.func90, Tryd.ntmps90
    go_wp2
    go_loop [4, 5] (fun n i => n = .int .i64 0 ∧ i = .int .i64 0) (fun _ _ => 0)
    case atStart => exact ⟨rfl, rfl⟩
    case round =>
      obtain ⟨rfl, rfl⟩ := hrel
      go_wp2_with fail
      refine (octS_any 0 w).mono ?_
      rintro e w2 ⟨he, hb2⟩
      rw [show ((0 : Int) % 65536).toNat = 0 by decide] at he
      subst he
      go_wp2
      go_ret2
      exact ⟨hb2, .inr ⟨unhide HN, rfl⟩⟩
end Go.Proofs.YthgbpofcfmnpdaaDoor
