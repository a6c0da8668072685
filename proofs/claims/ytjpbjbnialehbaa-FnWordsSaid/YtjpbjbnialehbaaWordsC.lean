/- Contracts of the model's draw of a text, and of Signed, over this seat's translation; conditions stand as hypotheses of each. -/
import Derived.Test.YtjpbjbnialehbaaSumsC
namespace Go.Proofs.Ytjpbjbnialehbaa
open Go.ChangeShapes Go.WideShapes Go.ChangeAt Go.RowKit
set_option linter.unusedVariables false
set_option maxRecDepth 8000

theorem hasSignW_any (n : Int) (w : World) : Calls Try.prog 40 #[.int .i64 n] w fun e w' => e = .returned (.bool (decide (32768 ≤ n))) ∧ w' = w := by
  go_enter Try.func40, Try.ntmps40
  go_wp2
  go_ret
  exact ⟨by simp, rfl⟩
theorem signed_any (n : Int) (w : World) : Calls Try.prog 14 #[.int .i64 n] w fun e w' => ∃ x : Int, -32768 ≤ x ∧ x ≤ 32767 ∧ x % 65536 = n % 65536 ∧ e = .returned (.int .i64 x) ∧ w' = w := by
  by_cases h : 32768 ≤ n % 65536
  · go_enter Try.func14, Try.ntmps14
    go_wp2_with (first | (go_at_call 16; refine (wrapI_any _ _).mono ?_; rintro e w' ⟨rfl, hw'⟩; rw [hw']; clear hw' w') | (go_at_call 40; refine (hasSignW_any _ _).mono ?_; rintro e w' ⟨rfl, hw'⟩; rw [hw', decide_eq_true h]; clear hw' w'))
    go_ret
    exact ⟨_, by omega, by omega, by omega, rfl, rfl⟩
  · have h' : n % 65536 < 32768 := by omega
    have HN := hide h
    clear h
    go_enter Try.func14, Try.ntmps14
    go_wp2_with (first | (go_at_call 16; refine (wrapI_any _ _).mono ?_; rintro e w' ⟨rfl, hw'⟩; rw [hw']; clear hw' w') | (go_at_call 40; refine (hasSignW_any _ _).mono ?_; rintro e w' ⟨rfl, hw'⟩; rw [hw', show decide (32768 ≤ n % 65536) = false by simp; omega]; clear hw' w'))
    go_ret
    exact ⟨_, by omega, by omega, by omega, rfl, rfl⟩

set_option maxHeartbeats 400000 in
theorem sameBytes_same (a a' : Option Addr) (len cap cap' : Nat) (xs : List UInt8) (w : World) (hl : xs.length = len) (hm : len ≤ 140737488355328) (hr : Rd w a xs) (hr' : Rd w a' xs) :
    Calls Try.prog 15 #[.slice a len cap, .slice a' len cap'] w fun e w' => e = .returned (.bool true) ∧ Below w.heap.size w w' := by
  go_enter Try.func15, Try.ntmps15
  go_wp2
  go_loopw [5] (fun i wr => ∃ k : Nat, k ≤ len ∧ i = .int .i64 k ∧ Below w.heap.size w wr) (fun i _ => len - (intOf i).toNat)
  case atStart => exact ⟨0, Nat.zero_le _, rfl, Below.refl _ _⟩
  case round =>
    obtain ⟨k, hk, rfl, hbel⟩ := hrel
    by_cases hlt : k < len
    · rcases hr with rfl | ⟨b, off, rfl, hb, hc⟩
      · simp at hl; omega
      rcases hr' with rfl | ⟨b', off', rfl, hb', hc'⟩
      · simp at hl; omega
      have hcx : wr.cell? ⟨b, off + k, none⟩ = some (.int .u8 (bAt xs k)) := (hbel.cell (p := ⟨b, off + k, none⟩) hb).trans (hc k (by omega))
      have hcx' : wr.cell? ⟨b', off' + k, none⟩ = some (.int .u8 (bAt xs k)) := (hbel.cell (p := ⟨b', off' + k, none⟩) hb').trans (hc' k (by omega))
      have hlt' : (k : Int) < (len : Int) := by omega
      clear hc hc'
      go_wp2
      go_region
      all_goals go_wp2
      all_goals go_roundw
      case rel => exact ⟨k + 1, by omega, by go_num, hbel.drew⟩
      case measure => simp [intOf]; omega
    · go_wp2
      go_ret
      exact ⟨rfl, hbel⟩

theorem Cur.drew {w : World} {cb : Nat} {a : Option Addr} {len cap : Nat} {xs : List UInt8} (h : Cur w cb a len cap xs) : Cur w.drew cb a len cap xs :=
  ⟨h.c0, h.c1, h.c2, h.f1, h.f2, h.rd.later ⟨rfl, rfl, rfl, Nat.le_refl _, fun _ _ => rfl⟩, h.ln, h.lm, h.ne⟩

theorem own_conv {w : World} {B g n c : Nat} {ys : List UInt8} (h : OwnB w B (.slice (some ⟨g, 0, none⟩) n c) ys) (hn : ys.length = n) : (convert 22 9 (.slice (some ⟨g, 0, none⟩) n c)).run Try.prog w = .ok (.string (txt ys 0 n)) w := by
  rcases h.rd1 with rfl | ⟨b, off, e, hb, hc⟩
  · obtain rfl : n = 0 := by simpa using hn.symm
    have := txt_conv w g 0 [] (fun i hi => by simp at hi) 0 0 c (by simp)
    simpa using this
  · cases e
    have := txt_conv w g 0 ys hc 0 n c (by omega)
    simpa using this
theorem txt_size (ys : List UInt8) (n : Nat) : (txt ys 0 n).size ≤ n := by
  show ((ys.drop 0).take n).toArray.size ≤ n
  simp
  omega

/-- A text of so many noughts. -/
def zeroS (n : Nat) : ByteArray := ⟨(List.replicate n (0 : UInt8)).toArray⟩
theorem zeroS_size (n : Nat) : (zeroS n).size = n := by show (List.replicate n (0 : UInt8)).toArray.size = n; simp
theorem zero_conv (W : World) (b n : Nat) (hc : ∀ i, i < n → W.cell? ⟨b, i, none⟩ = some (.int .u8 0)) : (convert 22 9 (.slice (some ⟨b, 0, none⟩) n n)).run Try.prog W = .ok (.string (zeroS n)) W := by
  have h := txt_conv W b 0 (List.replicate n (0 : UInt8)) (fun i hi => by
    have hi' : i < n := by simpa using hi
    have e : bAt (List.replicate n (0 : UInt8)) i = 0 := by unfold bAt; rw [List.getD_eq_getElem?_getD, List.getElem?_replicate, if_pos hi']; rfl
    rw [e, Nat.zero_add]
    exact hc i hi') 0 n n (by simp)
  have e2 : txt (List.replicate n (0 : UInt8)) 0 n = zeroS n := by unfold txt zeroS; simp
  rw [e2] at h
  exact h
theorem made_cell (W : World) (n i : Nat) (hi : i < n) : (W.alloc (.cells (madeCells #[.int .u8 0] n) 5)).cell? ⟨W.heap.size, i, none⟩ = some (.int .u8 0) := (World.rowIs_made W (.int .u8 0) n 5).cell hi
theorem made_conv1 (n : Nat) (W : World) (b : Nat) (hb : b = W.heap.size) : (convert 22 9 (.slice (some ⟨b, 0, none⟩) n n)).run Try.prog (W.alloc (.cells (madeCells #[.int .u8 0] n) 5)) = .ok (.string (zeroS n)) (W.alloc (.cells (madeCells #[.int .u8 0] n) 5)) := by
  subst hb
  exact zero_conv _ _ n (fun i hi => made_cell W n i hi)
theorem made_conv2 (n : Nat) (W : World) (b : Nat) (o : Obj) (hb : b = W.heap.size) : (convert 22 9 (.slice (some ⟨b, 0, none⟩) n n)).run Try.prog ((W.alloc (.cells (madeCells #[.int .u8 0] n) 5)).alloc o) = .ok (.string (zeroS n)) ((W.alloc (.cells (madeCells #[.int .u8 0] n) 5)).alloc o) := by
  subst hb
  exact zero_conv _ _ n (fun i hi => by rw [World.cell?_alloc_past _ _ _ (by simp)]; exact made_cell W n i hi)
theorem make_sum (j : Nat) (hj : j < 2) (W : World) : (Instr.makeSlice 22 (.int .i64 (1000 + (j : Int))) (.int .i64 (1000 + (j : Int)))).run Try.prog W = .ok (.slice (some ⟨W.heap.size, 0, none⟩) (1000 + j) (1000 + j)) (W.alloc (.cells (madeCells #[.int .u8 0] (1000 + j)) 5)) := by
  have h := run_make_row' (P := Try.prog) 22 5 (.int .u8 0) 1 Try.underlying22 Try.info5 rfl .i64 .i64 (1000 + j) (by omega) (by omega) W
  rw [show ((1000 + j : Nat) : Int) = 1000 + (j : Int) by omega] at h
  exact h

theorem ownB_lit1 (W : World) : OwnB (W.alloc (.cells #[.int .u8 1] 5)) W.heap.size (.slice (some ⟨W.heap.size, 0, none⟩) 1 1) [1] :=
  World.ownsRow_lit W #[.int .u8 1] 1 (Nat.le_refl _) (by decide) rfl
theorem OwnB.alloc {w : World} {B : Nat} {v : Value} {ys : List UInt8} (h : OwnB w B v ys) (o : Obj) : OwnB (w.alloc o) B v ys := h.later ((Below.refl _ _).alloc (Nat.le_refl _) _)
theorem OwnB.drew {w : World} {B : Nat} {v : Value} {ys : List UInt8} (h : OwnB w B v ys) : OwnB w.drew B v ys := h
theorem OwnB.base {w : World} {B B' : Nat} {v : Value} {ys : List UInt8} (h : OwnB w B v ys) (hB : B' ≤ B) : OwnB w B' v ys := ownsRow_base h hB
theorem own_at {W : World} {B b b' : Nat} {ys : List UInt8} {n c : Nat} (h : OwnB W B (.slice (some ⟨b, 0, none⟩) n c) ys) (e : b = b') : OwnB W B (.slice (some ⟨b', 0, none⟩) n c) ys := by subst e; exact h

set_option maxHeartbeats 1000000 in
theorem drawPutText_any (a : Option Addr) (len cap : Nat) (xs : List UInt8) (w : World) (hl : xs.length = len) (hm : len ≤ 1048576) (hr : Rd w a xs) :
    Calls Try.prog 11 #[.slice a len cap] w fun e w' => ∃ v ys s, e = .returned (.tuple #[v, .string s]) ∧ v ≠ .slice none 0 0 ∧ ys.length ≤ 9 ∧ s.size ≤ 1001 ∧ OwnB w' w.heap.size v ys ∧ Below w.heap.size w w' := by
  go_enter Try.func11, Try.ntmps11
  go_wp2_with fail
  refine (new_any a len cap xs w hl hm hr).mono ?_
  rintro e w1 ⟨rfl, hc1, hb1⟩
  go_wp2_with fail
  refine (once_any _ a len cap xs 10 w1 (by omega) hc1).mono ?_
  rintro e w2 ⟨b, rfl, hc2, hg2⟩
  have B2 := below_of_new hb1 hg2
  have hl2 := hc2.lt
  have tok : True := trivial
  cases b
  · go_wp2
    go_region_with (first | (go_at_call 35; have _t := tok; refine (some_any _ a len cap xs _ (by exact hc2.drew)).mono ?_; rintro e w3 ⟨v3, ys3, rfl, hnn3, hyl3, own3, hc3, hg3⟩; clear tok) | (go_at_call 35; refine (some_any _ a len cap xs _ (by exact hc3)).mono ?_; rintro e w4 ⟨v4, ys4, rfl, hnn4, hyl4, own4, hc4, hg4⟩; obtain ⟨g4, c4, hv4, hB4, hg4', hq4, hq4'⟩ := own4.formN hnn4; obtain ⟨n4, hn4⟩ : ∃ n, ys4.length = n := ⟨_, rfl⟩; rw [hn4] at hv4; subst hv4; have hcv := own_conv own4 hn4))
    all_goals
      have o3 : OwnB w4 w.heap.size v3 ys3 := ownsRow_base (own3.past hg4 (fun e => by have := (OwnB.lt own3 e).1; simp at this; omega)) (by simp; omega)
      have B4 : Below w.heap.size w w4 := (B2.drew).grown (grownBy_trans hg3 hg4) (by simp; omega) (fun k e => by cases e; exact Nat.le_refl _)
      have ht := txt_size ys4 n4
      clear hcv hc2 hc3 hc4 own3 own4 hg3 hg4
      go_wp2
      go_ret2
      exact ⟨v3, ys3, txt ys4 0 n4, rfl, hnn3, hyl3, by omega, o3, B4⟩
  · go_wp2
    go_region_with (go_at_call 39; refine (below_any _ a len cap xs 2 _ (by omega) (by first | exact hc2.drew | exact (hc2.later ((Below.refl _ _).alloc (Nat.le_refl _) _)).drew)).mono ?_; rintro e w3 ⟨x, hx0, hx1, rfl, hc3, hg3⟩; obtain ⟨hx2, hx3⟩ := hx0 (by omega); obtain ⟨j, rfl⟩ := Int.eq_ofNat_of_zero_le hx2; have hj2 : j < 2 := (by omega); have hwr : IntKind.i64.wrap (1000 + (j : Int)) = 1000 + (j : Int) := (by rw [IntKind.wrap_i64]; omega); have hmk := make_sum j hj2; have hv1 := made_conv1 (1000 + j); have hv2 := made_conv2 (1000 + j))
    all_goals
      clear hc2 hc3 hc1 hb1 hg2
      have s3 := hg3.size
      go_wp2
      go_ret2
      refine ⟨_, [1], zeroS (1000 + j), rfl, (by intro h; cases h), by simp, by rw [zeroS_size]; omega, ?_, ?_⟩
      · first
          | exact ((((ownB_lit1 w2).drew.past hg3 (by simp [Value.ownBlock]; omega)).alloc _).base (Nat.le_of_lt hl2))
          | exact (((ownB_lit1 w3).alloc _).base (by simp at s3; omega))
          | exact (own_at (ownB_lit1 _) (by simp)).base (by simp at s3 ⊢; omega)
      · first
          | exact (((B2.alloc (Nat.le_of_lt hl2) _).drew.grown hg3 (by simp; omega) (fun k e => by cases e; exact Nat.le_refl _)).alloc (by simp at s3; omega) _)
          | exact ((B2.drew.grown hg3 (by simp; omega) (fun k e => by cases e; exact Nat.le_refl _)).alloc (by simp at s3; omega) _).alloc (by simp at s3 ⊢; omega) _

theorem bAt_mid (ys zs : List UInt8) (i : Nat) : bAt (ys ++ zs) (ys.length + i) = bAt zs i := by
  unfold bAt
  rw [List.getD_eq_getElem?_getD, List.getD_eq_getElem?_getD, List.getElem?_append_right (by omega), Nat.add_sub_cancel_left]
theorem wAt_mid (ys rest : List UInt8) (n : Int) (L : Nat) (hL : ys.length = L) : wAt (ys ++ ([lo n, hi8 n] ++ rest)) L = n % 65536 := by
  subst hL
  have h0 : bAt (ys ++ ([lo n, hi8 n] ++ rest)) ys.length = n % 256 := by
    have := bAt_mid ys ([lo n, hi8 n] ++ rest) 0
    rw [Nat.add_zero] at this
    rw [this]; exact lo_val n
  have h1 : bAt (ys ++ ([lo n, hi8 n] ++ rest)) (ys.length + 1) = n % 65536 / 256 := by
    rw [bAt_mid ys ([lo n, hi8 n] ++ rest) 1]; exact hi8_val n
  rw [wAt_eq, h0, h1]
  omega
theorem wAt_end (ys : List UInt8) (n : Int) (L : Nat) (hL : ys.length = L) : wAt (ys ++ [lo n, hi8 n]) L = n % 65536 := by
  have := wAt_mid ys [] n L hL
  rw [List.append_nil] at this
  exact this
theorem txt_mid (ys : List UInt8) (a b : UInt8) (s : ByteArray) (L : Nat) (hL : ys.length = L) : txt (ys ++ ([a, b] ++ s.data.toList)) (L + 2) s.size = s := by
  subst hL
  unfold txt
  have e : (ys ++ ([a, b] ++ s.data.toList)).drop (ys.length + 2) = s.data.toList := by
    rw [← List.append_assoc, show ys.length + 2 = (ys ++ [a, b]).length by simp, List.drop_left]
  rw [e, List.take_of_length_le (by simp)]
end Go.Proofs.Ytjpbjbnialehbaa
