/- Contracts of the search of a letter's number (the program's), over this seat's translation; conditions stand as hypotheses of each. -/
import Derived.Test.YtcnlimpebnhikaaDoorRadC
import Derived.Lib.Bytealg
import Derived.Laws.Runes
import Derived.WalkMore
import Derived.Laws.Strings3
import Derived.Lib.OthersKept
namespace Go.Proofs.YtcnlimpebnhikaaDoor
open Go.ChangeShapes Go.WideShapes Go.ChangeAt Go.RowKit
set_option linter.unusedVariables false

/-- The letters, each at its number's place. -/
def tab : ByteArray := ⟨#[32, 97, 98, 99, 100, 101, 102, 103, 104, 105, 106, 107, 108, 109, 110, 111, 112, 113, 114, 115, 116, 117, 118, 119, 120, 121, 122, 36, 46, 0, 48, 49, 50, 51, 52, 53, 54, 55, 56, 57]⟩
theorem tab_size : tab.size = 40 := rfl
theorem tab_low : ∀ b ∈ tab.data.toList, b.toNat < 128 := by decide +kernel
theorem tab_at (k : Nat) (h : k < tab.size) : (tab[k]'h).toNat < 128 := tab_low _ (Array.getElem_mem_toList (xs := tab.data) h)
def ixOf (r : Int) : Int := Lib.indexByte tab.data.toList r.toNat.toUInt8
theorem ix_fin : ∀ i : Fin 128, (-1 ≤ ixOf (i.val : Int) ∧ ixOf (i.val : Int) ≤ 39) ∧ ((0 ≤ ixOf (i.val : Int) ∧ ixOf (i.val : Int) ≠ 29) ↔ 0 ≤ lc (i.val : Int)) ∧ (0 ≤ lc (i.val : Int) → ixOf (i.val : Int) = lc (i.val : Int)) := by decide +kernel
theorem ix_all (r : Int) (h0 : 0 ≤ r) (h1 : r < 128) : (-1 ≤ ixOf r ∧ ixOf r ≤ 39) ∧ ((0 ≤ ixOf r ∧ ixOf r ≠ 29) ↔ 0 ≤ lc r) ∧ (0 ≤ lc r → ixOf r = lc r) := by
  obtain ⟨n, rfl⟩ := Int.eq_ofNat_of_zero_le h0
  exact ix_fin ⟨n, by omega⟩
theorem lc_high (r : Int) (h : 128 ≤ r) : lc r = -1 := by
  unfold lc
  repeat' split
  all_goals omega

theorem ixLite (s : ByteArray) (c : Int) (w : World) : Calls Tryd.prog 43 #[.string s, .int .u8 c] w fun e w' => e = .returned (.int .i64 (Lib.indexByte s.data.toList c.toNat.toUInt8)) ∧ w' = w := by
  go_enter Tryd.func43, Tryd.ntmps43
  go_wp2
  rw [run_callFunc_extern Tryd.func46 (by kernel_rfl) (by kernel_rfl) (by kernel_rfl) (e := Extern.BytealgIndexByte.indexByte) (by kernel_rfl), Lib.run_indexByteString]
  simp only [Result.andThen]
  rw [Oper.upon_value]
  go_wp2
  go_ret
  exact ⟨rfl, rfl⟩
theorem ixByte (s : ByteArray) (c : Int) (w : World) : Calls Tryd.prog 35 #[.string s, .int .u8 c] w fun e w' => e = .returned (.int .i64 (Lib.indexByte s.data.toList c.toNat.toUInt8)) ∧ w' = w := by
  go_enter Tryd.func35, Tryd.ntmps35
  go_wp2_with (go_at_call 43; refine (ixLite _ _ _).mono ?_; rintro e w' ⟨rfl, hw'⟩; rw [hw']; clear hw' w')
  go_ret
  exact ⟨rfl, rfl⟩

set_option maxHeartbeats 1000000 in
set_option maxRecDepth 100000 in
theorem ixRune_low (r : Int) (w : World) (h0 : 0 ≤ r) (h1 : r < 128) : Calls Tryd.prog 28 #[.string tab, .int .i32 r] w fun e w' => e = .returned (.int .i64 (ixOf r)) ∧ w' = w := by
  unfold ixOf
  obtain ⟨T, hT⟩ : ∃ T, tab = T := ⟨_, rfl⟩
  rw [hT]
  clear hT
  go_enter Tryd.func28, Tryd.ntmps28
  go_wp2_with (go_at_call 35; refine (ixByte _ _ _).mono ?_; rintro e w' ⟨rfl, hw'⟩; rw [hw']; clear hw' w')
  go_ret
  exact ⟨rfl, rfl⟩

theorem hix (T : ByteArray) (hlow : ∀ b ∈ T.data.toList, b.toNat < 128) (y : Int) (h0 : 128 ≤ y) (h1 : y ≤ 255) (a e : Nat) : Lib.indexByte (T.extract a e).data.toList y.toNat.toUInt8 = -1 := by
  rw [← Lib.firstIdx_eq]
  exact firstIdx_ascii T a e _ hlow (by simp; omega)

theorem ixNone (T : ByteArray) (hlow : ∀ b ∈ T.data.toList, b.toNat < 128) (y : Int) (h0 : 128 ≤ y) (h1 : y ≤ 255) (a e : Nat) (w : World) :
    Calls Tryd.prog 35 #[.string (T.extract a e), .int .u8 y] w fun e w' => e = .returned (.int .i64 (-1)) ∧ w' = w :=
  (ixByte _ _ _).mono fun _ _ ⟨he, hw⟩ => ⟨by rw [he, hix T hlow y h0 h1], hw⟩

theorem valid_any (r : Int) (w : World) (h0 : 0 ≤ r) : Calls Tryd.prog 36 #[.int .i32 r] w fun e w' => e = .returned (.bool (Utf8.valid r)) ∧ w' = w := by
  rw [validRune_eq]
  unfold validRune
  by_cases h1 : r < 55296
  · rw [decide_eq_true (show (0 ≤ r ∧ r < 55296) ∨ (57343 < r ∧ r ≤ 1114111) from .inl ⟨h0, h1⟩)]
    go_enter Tryd.func36, Tryd.ntmps36
    go_wp2
    go_ret
    exact ⟨rfl, rfl⟩
  · have hd1 : decide (r < 55296) = false := by simp; omega
    by_cases h2 : 57343 < r
    · by_cases h3 : r ≤ 1114111
      · rw [decide_eq_true (show (0 ≤ r ∧ r < 55296) ∨ (57343 < r ∧ r ≤ 1114111) from .inr ⟨h2, h3⟩)]
        go_enter Tryd.func36, Tryd.ntmps36
        go_wp2
        go_ret
        exact ⟨rfl, rfl⟩
      · rw [decide_eq_false (show ¬ ((0 ≤ r ∧ r < 55296) ∨ (57343 < r ∧ r ≤ 1114111)) by omega)]
        have hd2 : decide (r ≤ 1114111) = false := by simp; omega
        go_enter Tryd.func36, Tryd.ntmps36
        go_wp2
        go_ret
        exact ⟨rfl, rfl⟩
    · rw [decide_eq_false (show ¬ ((0 ≤ r ∧ r < 55296) ∨ (57343 < r ∧ r ≤ 1114111)) by omega)]
      have hd2 : decide (57343 < r) = false := by simp; omega
      go_enter Tryd.func36, Tryd.ntmps36
      go_wp2
      go_ret
      exact ⟨rfl, rfl⟩

set_option maxHeartbeats 1000000 in
set_option maxRecDepth 100000 in
theorem ixRune_high (T : ByteArray) (hT : T.size = 40) (hlow : ∀ b ∈ T.data.toList, b.toNat < 128) (r : Int) (w : World) (h0 : 128 ≤ r) (h1 : r ≤ 2147483647) : Calls Tryd.prog 28 #[.string T, .int .i32 r] w fun e w' => e = .returned (.int .i64 (-1)) ∧ Below w.heap.size w w' := by
  have hat : ∀ (k : Nat) (h : k < T.size), (T[k]'h).toNat < 128 := fun k h => hlow _ (Array.getElem_mem_toList (xs := T.data) h)
  have HL := hide hlow
  have HA := hide hat
  clear hlow hat
  have hd0 : decide (r < 128) = false := by simp; omega
  by_cases he : r = 65533
  · have hq : (r == 65533) = true := by simp [he]
    clear he
    go_enter Tryd.func28, Tryd.ntmps28
    go_wp2
    go_loopw [4] (fun _ wr => ∃ p : Nat, p ≤ T.size ∧ wr = w.iter T p) (fun _ wr => T.size - wr.iterPos w.heap.size)
    case atStart => exact ⟨0, by omega, rfl⟩
    case round =>
      obtain ⟨p, hp, rfl⟩ := hrel
      by_cases hlt : p < T.size
      · have hx := unhide HA p hlt
        have hnx := fun ty => run_next_ascii (P := Tryd.prog) w T p ty hlt hx
        obtain ⟨x, hxx⟩ : ∃ x, (T[p]'hlt).toNat = x := ⟨_, rfl⟩
        rw [hxx] at hnx hx
        clear hxx
        have hne : ((x : Int) == 65533) = false := beq_eq_false_iff_ne.2 (by omega)
        go_wp2
        go_roundw
        case rel => exact ⟨p + 1, by omega, rfl⟩
        case measure => simp; omega
      · have hnx := fun ty => run_next_end (P := Tryd.prog) w T p ty hlt
        go_wp2
        go_ret
        exact ⟨rfl, (Below.refl _ _).alloc (Nat.le_refl _) _⟩
  · have hq : (r == 65533) = false := beq_eq_false_iff_ne.2 he
    clear he
    have hz : 0 ≤ r := by omega
    cases hv : Utf8.valid r
    · go_enter Tryd.func28, Tryd.ntmps28
      go_wp2_with (go_at_call 36; refine (valid_any _ _ hz).mono ?_; rintro e w' ⟨rfl, hw'⟩; rw [hw', hv]; clear hw' w')
      go_ret
      exact ⟨rfl, Below.refl _ _⟩
    · obtain ⟨e2, e4, e128⟩ := encode_facts r hv h0
      obtain ⟨E, hE⟩ : ∃ E, Utf8.encode r = E := ⟨_, rfl⟩
      rw [hE] at e2 e4 e128
      have hlt := unhide HA
      have HE := hide e128
      clear e128
      obtain hm | hm | hm : E.size = 2 ∨ E.size = 3 ∨ E.size = 4 := by omega
      · obtain ⟨x, hx⟩ : ∃ x : Int, ((T[1]'(by omega)).toNat : Int) = x := ⟨_, rfl⟩
        obtain ⟨y, hy⟩ : ∃ y : Int, ((E[1]'(by omega)).toNat : Int) = y := ⟨_, rfl⟩
        have hxb := hlt 1 (by omega)
        have hyb : 128 ≤ (E[1]'(by omega)).toNat := by have := unhide HE (by omega); simpa [hm] using this
        have hy2 := (E[1]'(by omega)).toNat_lt
        have hxy : (x == y) = false := beq_eq_false_iff_ne.2 (by omega)
        have hy1 : 128 ≤ y ∧ y ≤ 255 := by omega
        clear hlt hxb hyb hy2
        go_enter Tryd.func28, Tryd.ntmps28
        go_wp2_with (go_at_call 36; refine (valid_any _ _ hz).mono ?_; rintro e w' ⟨rfl, hw'⟩; rw [hw', hv]; clear hw' w')
        go_step3
        go_wp2
        go_loopw [9] (fun i wr => i = .int .i64 1 ∧ wr = w) (fun _ _ => 0)
        case atStart => exact ⟨rfl, rfl⟩
        case round =>
          obtain ⟨rfl, rfl⟩ := hrel
          go_wp2
          go_step3
          go_wp2
          go_quiet (fail)
          have hB1 := hide (below_drewN (Below.refl wr.heap.size wr) nq)
          generalize wr.drewN nq = W1 at *
          go_wp2
          have hw2 : IntKind.i64.wrap 2 = 2 := by kernel_rfl
          have hsl : ∀ w, (Instr.slice 9 (.string T) (some (.int .i64 2)) none none).run Tryd.prog w = .ok (.string (T.extract 2 40)) w := fun w => by
            rw [run_slice_string_from_if w 9 T .i64 2 Tryd.underlying9, if_pos (by omega), hT]; rfl
          go_quiet (first | (go_at_call 35; refine Calls.quiet_of_same (ixNone T (unhide HL) y hy1.1 hy1.2 2 40 _)))
          go_wp2
          rw [Exit.noGoto_ret]
          go_wp2
          rw [Exit.noGoto_ret]
          go_ret
          exact ⟨rfl, below_drewN (unhide hB1) _⟩
      · obtain ⟨x, hx⟩ : ∃ x : Int, ((T[2]'(by omega)).toNat : Int) = x := ⟨_, rfl⟩
        obtain ⟨y, hy⟩ : ∃ y : Int, ((E[2]'(by omega)).toNat : Int) = y := ⟨_, rfl⟩
        have hxb := hlt 2 (by omega)
        have hyb : 128 ≤ (E[2]'(by omega)).toNat := by have := unhide HE (by omega); simpa [hm] using this
        have hy2 := (E[2]'(by omega)).toNat_lt
        have hxy : (x == y) = false := beq_eq_false_iff_ne.2 (by omega)
        have hy1 : 128 ≤ y ∧ y ≤ 255 := by omega
        clear hlt hxb hyb hy2
        go_enter Tryd.func28, Tryd.ntmps28
        go_wp2_with (go_at_call 36; refine (valid_any _ _ hz).mono ?_; rintro e w' ⟨rfl, hw'⟩; rw [hw', hv]; clear hw' w')
        go_step3
        go_wp2
        go_loopw [9] (fun i wr => i = .int .i64 2 ∧ wr = w) (fun _ _ => 0)
        case atStart => exact ⟨rfl, rfl⟩
        case round =>
          obtain ⟨rfl, rfl⟩ := hrel
          go_wp2
          go_step3
          go_wp2
          go_quiet (fail)
          have hB1 := hide (below_drewN (Below.refl wr.heap.size wr) nq)
          generalize wr.drewN nq = W1 at *
          go_wp2
          have hw2 : IntKind.i64.wrap 3 = 3 := by kernel_rfl
          have hsl : ∀ w, (Instr.slice 9 (.string T) (some (.int .i64 3)) none none).run Tryd.prog w = .ok (.string (T.extract 3 40)) w := fun w => by
            rw [run_slice_string_from_if w 9 T .i64 3 Tryd.underlying9, if_pos (by omega), hT]; rfl
          go_quiet (first | (go_at_call 35; refine Calls.quiet_of_same (ixNone T (unhide HL) y hy1.1 hy1.2 3 40 _)))
          go_wp2
          rw [Exit.noGoto_ret]
          go_wp2
          rw [Exit.noGoto_ret]
          go_ret
          exact ⟨rfl, below_drewN (unhide hB1) _⟩
      · obtain ⟨x, hx⟩ : ∃ x : Int, ((T[3]'(by omega)).toNat : Int) = x := ⟨_, rfl⟩
        obtain ⟨y, hy⟩ : ∃ y : Int, ((E[3]'(by omega)).toNat : Int) = y := ⟨_, rfl⟩
        have hxb := hlt 3 (by omega)
        have hyb : 128 ≤ (E[3]'(by omega)).toNat := by have := unhide HE (by omega); simpa [hm] using this
        have hy2 := (E[3]'(by omega)).toNat_lt
        have hxy : (x == y) = false := beq_eq_false_iff_ne.2 (by omega)
        have hy1 : 128 ≤ y ∧ y ≤ 255 := by omega
        clear hlt hxb hyb hy2
        go_enter Tryd.func28, Tryd.ntmps28
        go_wp2_with (go_at_call 36; refine (valid_any _ _ hz).mono ?_; rintro e w' ⟨rfl, hw'⟩; rw [hw', hv]; clear hw' w')
        go_step3
        go_wp2
        go_loopw [9] (fun i wr => i = .int .i64 3 ∧ wr = w) (fun _ _ => 0)
        case atStart => exact ⟨rfl, rfl⟩
        case round =>
          obtain ⟨rfl, rfl⟩ := hrel
          go_wp2
          go_step3
          go_wp2
          go_quiet (fail)
          have hB1 := hide (below_drewN (Below.refl wr.heap.size wr) nq)
          generalize wr.drewN nq = W1 at *
          go_wp2
          have hw2 : IntKind.i64.wrap 4 = 4 := by kernel_rfl
          have hsl : ∀ w, (Instr.slice 9 (.string T) (some (.int .i64 4)) none none).run Tryd.prog w = .ok (.string (T.extract 4 40)) w := fun w => by
            rw [run_slice_string_from_if w 9 T .i64 4 Tryd.underlying9, if_pos (by omega), hT]; rfl
          go_quiet (first | (go_at_call 35; refine Calls.quiet_of_same (ixNone T (unhide HL) y hy1.1 hy1.2 4 40 _)))
          go_wp2
          rw [Exit.noGoto_ret]
          go_wp2
          rw [Exit.noGoto_ret]
          go_ret
          exact ⟨rfl, below_drewN (unhide hB1) _⟩
end Go.Proofs.YtcnlimpebnhikaaDoor
