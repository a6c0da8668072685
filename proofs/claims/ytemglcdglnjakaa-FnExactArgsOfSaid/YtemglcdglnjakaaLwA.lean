/- The laws' marks on lists of tokens, from any number on; over this seat's translation; conditions stand as hypotheses of each. -/
import Derived.Test.YtemglcdglnjakaaLiC
namespace Go.Proofs.Ytemglcdglnjakaa
open Go.ChangeShapes Go.WideShapes Go.ChangeAt Go.RowKit
set_option linter.unusedVariables false
set_option maxRecDepth 8000

set_option maxHeartbeats 1000000 in
theorem markTx_big (k : Nat) (hk0 : 0 < k) (hk : k ≤ 70368744177664) (w : World) : Calls Try.prog 29 #[.int .i64 k] w fun e w' => e = .returned (.string (mkTx k)) ∧ Below w.heap.size w w' := by
  unfold mkTx
  obtain ⟨T, hT⟩ : ∃ T, decA k [] = T := ⟨_, rfl⟩
  have HT := hide hT
  rw [hT]
  clear hT
  go_enter Try.func29, Try.ntmps29
  go_wp2
  go_loopw [0, 3] (fun i s wr => ∃ (m : Nat) (t : List UInt8), m + t.length ≤ 70368744177664 ∧ i = .int .i64 m ∧ s = .string (strOf t) ∧ Hid (decA m t = T) ∧ Below w.heap.size w wr) (fun i _ _ => (intOf i).toNat)
  case atStart => exact ⟨k, [], by simp; omega, rfl, rfl, unhide HT, Below.refl _ _⟩
  case round =>
    clear HT
    obtain ⟨m, t, hm, rfl, rfl, hd, hb⟩ := hrel
    by_cases h0 : m = 0
    · subst h0
      have E := hide ((decA_0 t).symm.trans hd.out)
      have hsz : (strOf t).size ≤ 70368744177664 := by rw [strOf_size]; omega
      clear hd
      rw [unhide E] at hsz ⊢
      go_wp2
      go_ret
      exact ⟨rfl, hb⟩
    · have E := hide ((decA_s h0 t).symm.trans hd.out)
      have hc := one_conv10 wr (m % 10) (by omega) (48 + (m : Int) % 10) (by omega)
      have hsz : (strOf t).size ≤ 70368744177664 := by rw [strOf_size]; omega
      have hsz1 := strOf_size [d10 (m % 10)]
      have hp : (0 : Int) < (m : Int) := by omega
      have AP := hide (strOf_append [d10 (m % 10)] t)
      clear hd
      go_wp2
      go_roundw
      case rel => exact ⟨m / 10, d10 (m % 10) :: t, by rw [List.length_cons]; omega, by go_num, by rw [unhide AP]; rfl, unhide E, hb.alloc hb.size _⟩
      case measure => simp [intOf]; omega

/-- What the marks leave, from K on. -/
def mK (K i : Nat) : Tk := ⟨((K + 3 * i : Nat) : Int), ((K + 1 + 3 * i : Nat) : Int), mkTx (K + 2 + 3 * i)⟩
def marksK (K n : Nat) : List Tk := (List.range n).map (mK K)
theorem marksK_len (K n : Nat) : (marksK K n).length = n := by simp [marksK]
theorem marksK_at (K n i : Nat) (h : i < n) : tAt (marksK K n) i = mK K i := by
  unfold tAt marksK
  rw [List.getD_eq_getElem?_getD, List.getElem?_map, List.getElem?_range h]
  rfl
theorem mark_stepK (K : Nat) (ts : List Tk) (k : Nat) (h : k < ts.length) : (marksK K k ++ ts.drop k).set k (mK K k) = marksK K (k + 1) ++ ts.drop (k + 1) := by
  have e1 : marksK K (k + 1) = marksK K k ++ [mK K k] := by simp [marksK, List.range_succ]
  rw [List.set_append_right _ _ (by rw [marksK_len]; omega), marksK_len, Nat.sub_self, List.drop_eq_getElem_cons h, List.set_cons_zero, e1, List.append_assoc]
  rfl
set_option maxHeartbeats 2000000 in
theorem markTokS_K (v : Value) (ts : List Tk) (B K : Nat) (w : World) (hK : 0 < K) (hm : K + 3 * ts.length ≤ 70368744177000) (h : OwnT w B v ts) : Calls Try.prog 16 #[v, .int .i64 (K : Nat)] w fun e w' => e = .returned (.int .i64 ((K + 3 * ts.length : Nat) : Int)) ∧ OwnT w' B v (marksK K ts.length) ∧ w.grownBy w' v.ownBlock := by
  obtain ⟨n, hn⟩ : ∃ n, ts.length = n := ⟨_, rfl⟩
  obtain ⟨a, cap, rfl, _⟩ := h.rd
  rw [hn] at hm h ⊢
  have O0 := hide (show OwnT w B (.slice a n cap) (marksK K 0 ++ ts.drop 0) from h)
  have FM := hide h.form
  have HB := hide (fun g hg => (h.lt (g := g) hg))
  clear h
  go_enter Try.func16, Try.ntmps16
  go_wp2
  go_loopw [1, 5] (fun kv i wr => ∃ k : Nat, k ≤ n ∧ i = .int .i64 k ∧ kv = .int .i64 ((K + 3 * k : Nat) : Int) ∧ OwnT wr B (.slice a n cap) (marksK K k ++ ts.drop k) ∧ w.grownBy wr (Value.slice a n cap).ownBlock) (fun _ i _ => n - (intOf i).toNat)
  case atStart => exact ⟨0, Nat.zero_le _, rfl, by simp, unhide O0, grownBy_below (Below.refl _ _)⟩
  case round =>
    clear O0
    obtain ⟨k, hk, rfl, rfl, ho, hg⟩ := hrel
    by_cases hlt : k < n
    · obtain ⟨g, e⟩ : ∃ g, a = some ⟨g, 0, none⟩ := by
        rcases unhide FM with ⟨e, h0⟩ | ⟨g, c, e, _⟩
        · rw [h0] at hn; simp at hn; omega
        · cases e; exact ⟨g, rfl⟩
      subst e
      have hL : (marksK K k ++ ts.drop k).length = n := by rw [List.length_append, marksK_len, List.length_drop]; omega
      have hown : wr.ownsRow B 45 3 (.slice (some ⟨g, 0, none⟩) n cap) n (cellsT (marksK K k ++ ts.drop k)) := by have := ho; unfold OwnT at this; rw [hL] at this; exact this
      have MS := hide (mark_stepK K ts k (by omega))
      have MX := hide (fun W => markTx_big (K + 2 + 3 * k) (by omega) (by omega) W)
      generalize marksK K k ++ ts.drop k = L at *
      have hkl : k < L.length := by omega
      obtain ⟨q0, q1, q2⟩ := cellsT_get L k hkl
      have c0 := (World.ownsRow.cellAt hown (k * 3) (by omega)).trans q0
      have c1 := (World.ownsRow.cellAt hown (k * 3 + 1) (by omega)).trans q1
      have f0 := World.ownsRow.frozenAt hown (k * 3)
      have f1 := World.ownsRow.frozenAt hown (k * 3 + 1)
      have h1 := World.ownsRow.stored hown (k * 3) (.int .i64 ((K + 3 * k : Nat) : Int))
      have h2 := World.ownsRow.stored h1.1 (k * 3 + 1) (.int .i64 ((K + 1 + 3 * k : Nat) : Int))
      have C2 := hide (show ((wr.setCell ⟨g, k * 3, none⟩ (.int .i64 ((K + 3 * k : Nat) : Int))).setCell ⟨g, k * 3 + 1, none⟩ (.int .i64 ((K + 1 + 3 * k : Nat) : Int))).cell? ⟨g, k * 3 + 2, none⟩ = some (.string (tAt L k).s) by
        rw [World.ownsRow.cellAt h2.1 (k * 3 + 2) (by omega), List.getElem?_set_ne (by omega), List.getElem?_set_ne (by omega)]
        exact q2)
      have F2 := hide (World.ownsRow.frozenAt h2.1 (k * 3 + 2))
      have H2 := hide h2.1
      have G2 := hide (grownBy_trans hg (grownBy_trans h1.2 h2.2))
      have EN : ((K + 3 * k : Nat) : Int) + 1 = ((K + 1 + 3 * k : Nat) : Int) := by omega
      have EM : ((K + 1 + 3 * k : Nat) : Int) + 1 = ((K + 2 + 3 * k : Nat) : Int) := by omega
      have EP : ((K + 2 + 3 * k : Nat) : Int) + 1 = ((K + 3 * (k + 1) : Nat) : Int) := by omega
      have WL : (wr.setCell ⟨g, k * 3, none⟩ (.int .i64 ((K + 3 * k : Nat) : Int))).heap.size = wr.heap.size := by simp
      have CS := hide (show ((((cellsT L).set (k * 3) (.int .i64 ((K + 3 * k : Nat) : Int))).set (k * 3 + 1) (.int .i64 ((K + 1 + 3 * k : Nat) : Int))).set (k * 3 + 2) (.string (mkTx (K + 2 + 3 * k)))) = cellsT (marksK K (k + 1) ++ ts.drop (k + 1)) by rw [← unhide MS]; exact cellsT_set L k hkl (mK K k))
      have LN := hide (show (marksK K (k + 1) ++ ts.drop (k + 1)).length = n by rw [List.length_append, marksK_len, List.length_drop]; omega)
      have GL := hide (World.ownsRow.lt h2.1 g rfl).2
      clear ho hown h1 h2 q0 q1 q2 hg
      generalize hA : ((K + 3 * k : Nat) : Int) = A at *
      generalize hB2 : ((K + 1 + 3 * k : Nat) : Int) = A2 at *
      generalize hC : ((K + 2 + 3 * k : Nat) : Int) = A3 at *
      have bA : 0 ≤ A ∧ A ≤ 70368744177664 := by omega
      have bA2 : 0 ≤ A2 ∧ A2 ≤ 70368744177664 := by omega
      have bA3 : 0 ≤ A3 ∧ A3 ≤ 70368744177664 := by omega
      clear WL
      go_wp2_with fail
      generalize (wr.setCell ⟨g, k * 3, none⟩ (.int .i64 A)).setCell ⟨g, k * 3 + 1, none⟩ (.int .i64 A2) = W2 at *
      refine (unhide MX _).mono ?_
      rintro e w3 ⟨rfl, hb3⟩
      have d2 := (hb3.cell (p := ⟨g, k * 3 + 2, none⟩) (unhide GL)).trans (unhide C2)
      have e2 := (hb3.frozen (p := ⟨g, k * 3 + 2, none⟩) (unhide GL)).trans (unhide F2)
      have H3 := World.ownsRow.kept (unhide H2) (grownBy_below (r := none) hb3) (.inr (by simp [Value.ownBlock]))
      have H4 := World.ownsRow.stored H3 (k * 3 + 2) (.string (mkTx (K + 2 + 3 * k)))
      rw [unhide CS] at H4
      have G4 := hide (grownBy_trans (grownBy_trans (unhide G2) (grownBy_below hb3)) H4.2)
      have O4 := hide (show OwnT (w3.setCell ⟨g, k * 3 + 2, none⟩ (.string (mkTx (K + 2 + 3 * k)))) B (.slice (some ⟨g, 0, none⟩) n cap) (marksK K (k + 1) ++ ts.drop (k + 1)) by unfold OwnT; rw [unhide LN]; exact H4.1)
      generalize mkTx (K + 2 + 3 * k) = X at *
      clear H3 H4 hb3 C2 F2 H2 G2 CS GL MX c0 c1 f0 f1
      go_wp2
      go_roundw
      case rel => exact ⟨k + 1, by omega, by go_num, by first | rfl | (rw [← EP]; rfl) | (congr 1; omega), unhide O4, unhide G4⟩
      case measure => simp [intOf]; omega
    · obtain rfl : k = n := by omega
      have E := hide (show marksK K k ++ ts.drop k = marksK K k by rw [← hn, List.drop_length, List.append_nil])
      rw [unhide E] at ho
      have O1 := hide ho
      have G1 := hide hg
      clear ho hg
      go_wp2
      go_ret
      exact ⟨rfl, unhide O1, unhide G1⟩

set_option maxHeartbeats 2000000 in
theorem heldTokS_K (a : Option Addr) (n cap K : Nat) (w : World) (hK : 0 < K) (hm : K + 3 * n ≤ 70368744177000) (h : RdT w a (marksK K n)) : Calls Try.prog 19 #[.slice a n cap, .int .i64 (K : Nat)] w fun e w' => e = .returned (.int .i64 ((K + 3 * n : Nat) : Int)) ∧ Below w.heap.size w w' := by
  go_enter Try.func19, Try.ntmps19
  go_wp2
  go_loopw [1, 5] (fun kv i wr => ∃ (k : Nat) (y : Sub w.heap.size w), k ≤ n ∧ i = .int .i64 k ∧ kv = .int .i64 ((K + 3 * k : Nat) : Int) ∧ wr = y.w) (fun _ i _ => n - (intOf i).toNat)
  case atStart => exact ⟨0, ⟨w, Below.refl _ _⟩, Nat.zero_le _, rfl, by simp, rfl⟩
  case round =>
    obtain ⟨k, x, hk, rfl, rfl, rfl⟩ := hrel
    by_cases hlt : k < n
    · rcases h with h0 | ⟨p, po, rfl, hp, hpc⟩
      · have := marksK_len K n; rw [h0] at this; simp at this; omega
      obtain ⟨e0, e1, e2⟩ := hpc k (by rw [marksK_len]; omega)
      rw [marksK_at K n k hlt] at e0 e1 e2
      have d0 : ∀ y : Sub w.heap.size w, y.w.cell? ⟨p, po + k * 3, none⟩ = some (.int .i64 ((K + 3 * k : Nat) : Int)) := fun y => (y.h.cell (p := ⟨p, _, none⟩) hp).trans e0
      have d1 : ∀ y : Sub w.heap.size w, y.w.cell? ⟨p, po + k * 3 + 1, none⟩ = some (.int .i64 ((K + 1 + 3 * k : Nat) : Int)) := fun y => (y.h.cell (p := ⟨p, _, none⟩) hp).trans e1
      have d2 : ∀ y : Sub w.heap.size w, y.w.cell? ⟨p, po + k * 3 + 2, none⟩ = some (.string (mkTx (K + 2 + 3 * k))) := fun y => (y.h.cell (p := ⟨p, _, none⟩) hp).trans e2
      have MX := hide (fun W => markTx_big (K + 2 + 3 * k) (by omega) (by omega) W)
      have ne := Sub.ne w.heap.size w
      have HZ := hide (Nat.le_refl w.heap.size)
      have EN : ((K + 3 * k : Nat) : Int) + 1 = ((K + 1 + 3 * k : Nat) : Int) := by omega
      have EM : ((K + 1 + 3 * k : Nat) : Int) + 1 = ((K + 2 + 3 * k : Nat) : Int) := by omega
      have EP : ((K + 2 + 3 * k : Nat) : Int) + 1 = ((K + 3 * (k + 1) : Nat) : Int) := by omega
      generalize mkTx (K + 2 + 3 * k) = X at *
      generalize hA : ((K + 3 * k : Nat) : Int) = A at *
      generalize hB2 : ((K + 1 + 3 * k : Nat) : Int) = A2 at *
      generalize hC : ((K + 2 + 3 * k : Nat) : Int) = A3 at *
      have bA : 0 ≤ A ∧ A ≤ 70368744177664 := by omega
      have bA2 : 0 ≤ A2 ∧ A2 ≤ 70368744177664 := by omega
      have bA3 : 0 ≤ A3 ∧ A3 ≤ 70368744177664 := by omega
      clear e0 e1 e2 hpc
      go_wp2_with fail
      refine wp_region_sub x (by kernel_rfl) (by kernel_rfl) ?_
      repeat (go_big_quiet_step (first | (go_at_call 29; exact Sub.call (unhide HZ) (unhide MX _))))
      refine wpQuiet_nil ?_
      intro y
      go_wp2
      go_roundw
      case rel => exact ⟨k + 1, y, by omega, by go_num, by first | rfl | (rw [← EP]; rfl) | (congr 1; omega), rfl⟩
      case measure => simp [intOf]; omega
    · obtain rfl : k = n := by omega
      go_wp2
      go_ret
      exact ⟨rfl, x.h⟩
end Go.Proofs.Ytemglcdglnjakaa
