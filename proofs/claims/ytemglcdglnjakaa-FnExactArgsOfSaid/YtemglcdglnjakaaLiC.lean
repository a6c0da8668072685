/- The laws' marks on lists of tokens; over this seat's translation; conditions stand as hypotheses of each. -/
import Derived.Test.YtemglcdglnjakaaLiB
namespace Go.Proofs.Ytemglcdglnjakaa
open Go.ChangeShapes Go.WideShapes Go.ChangeAt Go.RowKit
set_option linter.unusedVariables false
set_option maxRecDepth 8000

def d10 (x : Nat) : UInt8 := UInt8.ofNat (48 + x)
/-- The digits to the base 10, ahead of t, by so many steps. -/
def decG : Nat → Nat → List UInt8 → List UInt8
  | 0, _, t => t
  | n + 1, m, t => if m = 0 then t else decG n (m / 10) (d10 (m % 10) :: t)
theorem decG_more : ∀ (n k m : Nat) (t : List UInt8), m ≤ n → m ≤ k → decG n m t = decG k m t := by
  intro n
  induction n with
  | zero =>
    intro k m t hn hk
    obtain rfl : m = 0 := by omega
    cases k with
    | zero => rfl
    | succ k => rfl
  | succ n ih =>
    intro k m t hn hk
    by_cases h0 : m = 0
    · subst h0
      cases k with
      | zero => rfl
      | succ k => rfl
    · cases k with
      | zero => omega
      | succ k =>
        simp only [decG]
        rw [ih k (m / 10) _ (by omega) (by omega)]
/-- The digits to the base 10, ahead of t. -/
def decA (m : Nat) (t : List UInt8) : List UInt8 := decG m m t
theorem decA_0 (t : List UInt8) : decA 0 t = t := rfl
theorem decA_s {m : Nat} (h : m ≠ 0) (t : List UInt8) : decA m t = decA (m / 10) (d10 (m % 10) :: t) := by
  obtain ⟨n, rfl⟩ : ∃ n, m = n + 1 := ⟨m - 1, by omega⟩
  unfold decA
  rw [decG, if_neg h]
  exact decG_more _ _ _ _ (by omega) (Nat.le_refl _)
/-- The marks' text. -/
def mkTx (k : Nat) : ByteArray := ⟨#[109]⟩ ++ strOf (decA k [])
theorem one_conv10 (W : World) (d : Nat) (hd : d < 10) (x : Int) (hx : x = 48 + (d : Int)) (b : Nat) (hb : b = W.heap.size) : (convert 52 9 (.slice (some ⟨b, 0, none⟩) 1 1)).run Try.prog (W.alloc (.cells #[.int .u8 x] 5)) = .ok (.string (strOf [d10 d])) (W.alloc (.cells #[.int .u8 x] 5)) := by
  subst hb
  exact run_convert_bytes_back (P := Try.prog) (W.alloc (.cells #[.int .u8 x] 5)) 52 9 5 ⟨W.heap.size, 0, none⟩ 1 [d10 d] Try.underlying52 Try.underlying5 Try.underlying9 (fun j hj => by
    obtain rfl : j = 0 := by simp at hj; omega
    have e : ((d10 d).toNat : Int) = x := by unfold d10; simp; omega
    simp only [List.getElem_cons_zero, e]
    simp [Addr.add])
set_option maxHeartbeats 1000000 in
theorem markTx_any (k : Nat) (hk0 : 0 < k) (hk : k ≤ 16777216) (w : World) : Calls Try.prog 29 #[.int .i64 k] w fun e w' => e = .returned (.string (mkTx k)) ∧ Below w.heap.size w w' := by
  unfold mkTx
  obtain ⟨T, hT⟩ : ∃ T, decA k [] = T := ⟨_, rfl⟩
  have HT := hide hT
  rw [hT]
  clear hT
  go_enter Try.func29, Try.ntmps29
  go_wp2
  go_loopw [0, 3] (fun i s wr => ∃ (m : Nat) (t : List UInt8), m + t.length ≤ 16777216 ∧ i = .int .i64 m ∧ s = .string (strOf t) ∧ Hid (decA m t = T) ∧ Below w.heap.size w wr) (fun i _ _ => (intOf i).toNat)
  case atStart => exact ⟨k, [], by simp; omega, rfl, rfl, unhide HT, Below.refl _ _⟩
  case round =>
    clear HT
    obtain ⟨m, t, hm, rfl, rfl, hd, hb⟩ := hrel
    by_cases h0 : m = 0
    · subst h0
      have E := hide ((decA_0 t).symm.trans hd.out)
      have hsz : (strOf t).size ≤ 16777216 := by rw [strOf_size]; omega
      clear hd
      rw [unhide E] at hsz ⊢
      go_wp2
      go_ret
      exact ⟨rfl, hb⟩
    · have E := hide ((decA_s h0 t).symm.trans hd.out)
      have hc := one_conv10 wr (m % 10) (by omega) (48 + (m : Int) % 10) (by omega)
      have hsz : (strOf t).size ≤ 16777216 := by rw [strOf_size]; omega
      have hsz1 := strOf_size [d10 (m % 10)]
      have hp : (0 : Int) < (m : Int) := by omega
      have AP := hide (strOf_append [d10 (m % 10)] t)
      clear hd
      go_wp2
      go_roundw
      case rel => exact ⟨m / 10, d10 (m % 10) :: t, by rw [List.length_cons]; omega, by go_num, by rw [unhide AP]; rfl, unhide E, hb.alloc hb.size _⟩
      case measure => simp [intOf]; omega

def mT (i : Nat) : Tk := ⟨((1 + 3 * i : Nat) : Int), ((2 + 3 * i : Nat) : Int), mkTx (3 + 3 * i)⟩
/-- What the marks leave. -/
def marksT (n : Nat) : List Tk := (List.range n).map mT
theorem marksT_len (n : Nat) : (marksT n).length = n := by simp [marksT]
theorem marksT_at (n i : Nat) (h : i < n) : tAt (marksT n) i = mT i := by
  unfold tAt marksT
  rw [List.getD_eq_getElem?_getD, List.getElem?_map, List.getElem?_range h]
  rfl
theorem mark_stepT (ts : List Tk) (k : Nat) (h : k < ts.length) : (marksT k ++ ts.drop k).set k (mT k) = marksT (k + 1) ++ ts.drop (k + 1) := by
  have e1 : marksT (k + 1) = marksT k ++ [mT k] := by simp [marksT, List.range_succ]
  rw [List.set_append_right _ _ (by rw [marksT_len]; omega), marksT_len, Nat.sub_self, List.drop_eq_getElem_cons h, List.set_cons_zero, e1, List.append_assoc]
  rfl
set_option maxHeartbeats 2000000 in
theorem markTokS_own (v : Value) (ts : List Tk) (B : Nat) (w : World) (hm : ts.length ≤ 800) (h : OwnT w B v ts) : Calls Try.prog 16 #[v, .int .i64 1] w fun e w' => e = .returned (.int .i64 ((1 + 3 * ts.length : Nat) : Int)) ∧ OwnT w' B v (marksT ts.length) ∧ w.grownBy w' v.ownBlock := by
  obtain ⟨n, hn⟩ : ∃ n, ts.length = n := ⟨_, rfl⟩
  obtain ⟨a, cap, rfl, _⟩ := h.rd
  rw [hn] at hm h ⊢
  have O0 := hide (show OwnT w B (.slice a n cap) (marksT 0 ++ ts.drop 0) from h)
  have FM := hide h.form
  have HB := hide (fun g hg => (h.lt (g := g) hg))
  clear h
  go_enter Try.func16, Try.ntmps16
  go_wp2
  go_loopw [1, 5] (fun kv i wr => ∃ k : Nat, k ≤ n ∧ i = .int .i64 k ∧ kv = .int .i64 ((1 + 3 * k : Nat) : Int) ∧ OwnT wr B (.slice a n cap) (marksT k ++ ts.drop k) ∧ w.grownBy wr (Value.slice a n cap).ownBlock) (fun _ i _ => n - (intOf i).toNat)
  case atStart => exact ⟨0, Nat.zero_le _, rfl, rfl, unhide O0, grownBy_below (Below.refl _ _)⟩
  case round =>
    clear O0
    obtain ⟨k, hk, rfl, rfl, ho, hg⟩ := hrel
    by_cases hlt : k < n
    · obtain ⟨g, e⟩ : ∃ g, a = some ⟨g, 0, none⟩ := by
        rcases unhide FM with ⟨e, h0⟩ | ⟨g, c, e, _⟩
        · rw [h0] at hn; simp at hn; omega
        · cases e; exact ⟨g, rfl⟩
      subst e
      have hL : (marksT k ++ ts.drop k).length = n := by rw [List.length_append, marksT_len, List.length_drop]; omega
      have hown : wr.ownsRow B 45 3 (.slice (some ⟨g, 0, none⟩) n cap) n (cellsT (marksT k ++ ts.drop k)) := by have := ho; unfold OwnT at this; rw [hL] at this; exact this
      have MS := hide (mark_stepT ts k (by omega))
      have MX := hide (fun W => markTx_any (3 + 3 * k) (by omega) (by omega) W)
      generalize marksT k ++ ts.drop k = L at *
      have hkl : k < L.length := by omega
      obtain ⟨q0, q1, q2⟩ := cellsT_get L k hkl
      have c0 := (World.ownsRow.cellAt hown (k * 3) (by omega)).trans q0
      have c1 := (World.ownsRow.cellAt hown (k * 3 + 1) (by omega)).trans q1
      have f0 := World.ownsRow.frozenAt hown (k * 3)
      have f1 := World.ownsRow.frozenAt hown (k * 3 + 1)
      have h1 := World.ownsRow.stored hown (k * 3) (.int .i64 ((1 + 3 * k : Nat) : Int))
      have h2 := World.ownsRow.stored h1.1 (k * 3 + 1) (.int .i64 ((2 + 3 * k : Nat) : Int))
      have C2 := hide (show ((wr.setCell ⟨g, k * 3, none⟩ (.int .i64 ((1 + 3 * k : Nat) : Int))).setCell ⟨g, k * 3 + 1, none⟩ (.int .i64 ((2 + 3 * k : Nat) : Int))).cell? ⟨g, k * 3 + 2, none⟩ = some (.string (tAt L k).s) by
        rw [World.ownsRow.cellAt h2.1 (k * 3 + 2) (by omega), List.getElem?_set_ne (by omega), List.getElem?_set_ne (by omega)]
        exact q2)
      have F2 := hide (World.ownsRow.frozenAt h2.1 (k * 3 + 2))
      have H2 := hide h2.1
      have G2 := hide (grownBy_trans hg (grownBy_trans h1.2 h2.2))
      have EN : ((1 + 3 * k : Nat) : Int) + 1 = ((2 + 3 * k : Nat) : Int) := by omega
      have EM : ((2 + 3 * k : Nat) : Int) + 1 = ((3 + 3 * k : Nat) : Int) := by omega
      have EP : ((3 + 3 * k : Nat) : Int) + 1 = ((1 + 3 * (k + 1) : Nat) : Int) := by omega
      have WL : (wr.setCell ⟨g, k * 3, none⟩ (.int .i64 ((1 + 3 * k : Nat) : Int))).heap.size = wr.heap.size := by simp
      have CS := hide (show ((((cellsT L).set (k * 3) (.int .i64 ((1 + 3 * k : Nat) : Int))).set (k * 3 + 1) (.int .i64 ((2 + 3 * k : Nat) : Int))).set (k * 3 + 2) (.string (mkTx (3 + 3 * k)))) = cellsT (marksT (k + 1) ++ ts.drop (k + 1)) by rw [← unhide MS]; exact cellsT_set L k hkl (mT k))
      have LN := hide (show (marksT (k + 1) ++ ts.drop (k + 1)).length = n by rw [List.length_append, marksT_len, List.length_drop]; omega)
      have GL := hide (World.ownsRow.lt h2.1 g rfl).2
      clear ho hown h1 h2 q0 q1 q2 hg
      generalize hA : ((1 + 3 * k : Nat) : Int) = A at *
      generalize hB2 : ((2 + 3 * k : Nat) : Int) = A2 at *
      generalize hC : ((3 + 3 * k : Nat) : Int) = A3 at *
      have bA : 0 ≤ A ∧ A ≤ 100000 := by omega
      have bA2 : 0 ≤ A2 ∧ A2 ≤ 100000 := by omega
      have bA3 : 0 ≤ A3 ∧ A3 ≤ 100000 := by omega
      clear WL
      go_wp2_with fail
      generalize (wr.setCell ⟨g, k * 3, none⟩ (.int .i64 A)).setCell ⟨g, k * 3 + 1, none⟩ (.int .i64 A2) = W2 at *
      refine (unhide MX _).mono ?_
      rintro e w3 ⟨rfl, hb3⟩
      have d2 := (hb3.cell (p := ⟨g, k * 3 + 2, none⟩) (unhide GL)).trans (unhide C2)
      have e2 := (hb3.frozen (p := ⟨g, k * 3 + 2, none⟩) (unhide GL)).trans (unhide F2)
      have H3 := World.ownsRow.kept (unhide H2) (grownBy_below (r := none) hb3) (.inr (by simp [Value.ownBlock]))
      have H4 := World.ownsRow.stored H3 (k * 3 + 2) (.string (mkTx (3 + 3 * k)))
      rw [unhide CS] at H4
      have G4 := hide (grownBy_trans (grownBy_trans (unhide G2) (grownBy_below hb3)) H4.2)
      have O4 := hide (show OwnT (w3.setCell ⟨g, k * 3 + 2, none⟩ (.string (mkTx (3 + 3 * k)))) B (.slice (some ⟨g, 0, none⟩) n cap) (marksT (k + 1) ++ ts.drop (k + 1)) by unfold OwnT; rw [unhide LN]; exact H4.1)
      generalize mkTx (3 + 3 * k) = X at *
      clear H3 H4 hb3 C2 F2 H2 G2 CS GL MX c0 c1 f0 f1
      go_wp2
      go_roundw
      case rel => exact ⟨k + 1, by omega, by go_num, by first | rfl | (rw [← EP]; rfl) | (congr 1; omega), unhide O4, unhide G4⟩
      case measure => simp [intOf]; omega
    · obtain rfl : k = n := by omega
      have E := hide (show marksT k ++ ts.drop k = marksT k by rw [← hn, List.drop_length, List.append_nil])
      rw [unhide E] at ho
      have O1 := hide ho
      have G1 := hide hg
      clear ho hg
      go_wp2
      go_ret
      exact ⟨rfl, unhide O1, unhide G1⟩

set_option maxHeartbeats 2000000 in
theorem heldTokS_rd (a : Option Addr) (n cap : Nat) (w : World) (hm : n ≤ 800) (h : RdT w a (marksT n)) : Calls Try.prog 19 #[.slice a n cap, .int .i64 1] w fun e w' => e = .returned (.int .i64 ((1 + 3 * n : Nat) : Int)) ∧ Below w.heap.size w w' := by
  go_enter Try.func19, Try.ntmps19
  go_wp2
  go_loopw [1, 5] (fun kv i wr => ∃ (k : Nat) (y : Sub w.heap.size w), k ≤ n ∧ i = .int .i64 k ∧ kv = .int .i64 ((1 + 3 * k : Nat) : Int) ∧ wr = y.w) (fun _ i _ => n - (intOf i).toNat)
  case atStart => exact ⟨0, ⟨w, Below.refl _ _⟩, Nat.zero_le _, rfl, rfl, rfl⟩
  case round =>
    obtain ⟨k, x, hk, rfl, rfl, rfl⟩ := hrel
    by_cases hlt : k < n
    · rcases h with h0 | ⟨p, po, rfl, hp, hpc⟩
      · have := marksT_len n; rw [h0] at this; simp at this; omega
      obtain ⟨e0, e1, e2⟩ := hpc k (by rw [marksT_len]; omega)
      rw [marksT_at n k hlt] at e0 e1 e2
      have d0 : ∀ y : Sub w.heap.size w, y.w.cell? ⟨p, po + k * 3, none⟩ = some (.int .i64 ((1 + 3 * k : Nat) : Int)) := fun y => (y.h.cell (p := ⟨p, _, none⟩) hp).trans e0
      have d1 : ∀ y : Sub w.heap.size w, y.w.cell? ⟨p, po + k * 3 + 1, none⟩ = some (.int .i64 ((2 + 3 * k : Nat) : Int)) := fun y => (y.h.cell (p := ⟨p, _, none⟩) hp).trans e1
      have d2 : ∀ y : Sub w.heap.size w, y.w.cell? ⟨p, po + k * 3 + 2, none⟩ = some (.string (mkTx (3 + 3 * k))) := fun y => (y.h.cell (p := ⟨p, _, none⟩) hp).trans e2
      have MX := hide (fun W => markTx_any (3 + 3 * k) (by omega) (by omega) W)
      have ne := Sub.ne w.heap.size w
      have HZ := hide (Nat.le_refl w.heap.size)
      have EN : ((1 + 3 * k : Nat) : Int) + 1 = ((2 + 3 * k : Nat) : Int) := by omega
      have EM : ((2 + 3 * k : Nat) : Int) + 1 = ((3 + 3 * k : Nat) : Int) := by omega
      have EP : ((3 + 3 * k : Nat) : Int) + 1 = ((1 + 3 * (k + 1) : Nat) : Int) := by omega
      generalize mkTx (3 + 3 * k) = X at *
      generalize hA : ((1 + 3 * k : Nat) : Int) = A at *
      generalize hB2 : ((2 + 3 * k : Nat) : Int) = A2 at *
      generalize hC : ((3 + 3 * k : Nat) : Int) = A3 at *
      have bA : 0 ≤ A ∧ A ≤ 100000 := by omega
      have bA2 : 0 ≤ A2 ∧ A2 ≤ 100000 := by omega
      have bA3 : 0 ≤ A3 ∧ A3 ≤ 100000 := by omega
      clear e0 e1 e2 hpc
      go_wp2_with fail
      refine wp_region_sub x (by kernel_rfl) (by kernel_rfl) ?_
      repeat (go_big_quiet_step (first | (go_at_call 29; exact Sub.call (unhide HZ) (unhide MX _))))
      refine wpQuiet_nil ?_
      intro y
      go_wp2
      go_roundw
      case rel => exact ⟨k + 1, y, by omega, by go_num, by first | rfl | (rw [← EP]; rfl) | (congr 1; omega), rfl⟩
      case measure => simp [intOf]; omega
    · obtain rfl : k = n := by omega
      go_wp2
      go_ret
      exact ⟨rfl, x.h⟩
end Go.Proofs.Ytemglcdglnjakaa
