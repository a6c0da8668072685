/- Contracts of strings.Builder's String and of strings.TrimRight at one blank, over this seat's translation; conditions stand as hypotheses of each. -/
import Derived.Test.YtcnlimpebnhikaaDoorGetD
import Derived.Lib.OthersKept
namespace Go.Proofs.YtcnlimpebnhikaaDoor
open Go.ChangeShapes Go.WideShapes Go.ChangeAt Go.RowKit
set_option linter.unusedVariables false

set_option maxHeartbeats 1000000 in
set_option maxRecDepth 100000 in
theorem strB_nil (B b : Nat) (p : Value) (w : World) (hbk : w.heap[b]? = some (.cells #[p, .slice none 0 0] 48 (0, 0))) :
    Calls Tryd.prog 25 #[.pointer (some ⟨b, 0, none⟩)] w fun e w' => e = .returned (.string ⟨#[]⟩) ∧ Below B w w' := by
  have c1 : w.drew.cell? ⟨b, 1, none⟩ = some (.slice none 0 0) := by
    have : w.drew.heap[b]? = some (.cells #[p, .slice none 0 0] 48 (0, 0)) := hbk
    rw [Lib.cell_of_heap this]; rfl
  have hSD : (Builtin.unsafeSliceData_ #[22] 69 #[.slice none 0 0]).run Tryd.prog w.drew = .ok (.pointer none) w.drew := rfl
  have hUS := Lib.run_unsafeString_none (P := Tryd.prog) w.drew 69 3 9 none
  clear hbk
  go_enter Tryd.func25, Tryd.ntmps25
  go_wp2
  go_region
  all_goals go_wp2
  all_goals go_ret
  all_goals exact ⟨rfl, (Below.refl B w).drew⟩

set_option maxHeartbeats 1000000 in
set_option maxRecDepth 100000 in
theorem strB (B b : Nat) (bs : List UInt8) (w : World) (h : Bd w B b bs) (h0 : bs ≠ []) :
    Calls Tryd.prog 25 #[.pointer (some ⟨b, 0, none⟩)] w fun e w' => e = .returned (.string (strOf bs)) ∧ Below B w w' := by
  obtain ⟨p, hB, v, hbk, hown, hne⟩ : ∃ p, Lib.BuilderAt 48 5 B b p (cellsB bs) w := h.elim (fun x => ⟨_, x⟩) (fun x => ⟨_, x⟩)
  rw [cellsB_length] at hown
  have hl0 : bs.length ≠ 0 := by simpa using h0
  have hO : OwnB w B v bs := hown
  obtain ⟨_, ⟨_, hz⟩ | ⟨g, cap, cur, rfl, hbg, hg, hnc, hcm, hcs, htake⟩⟩ := hown
  · exact absurd hz hl0
  unfold maxLen at hcm
  have c1 : w.drew.cell? ⟨b, 1, none⟩ = some (.slice (some ⟨g, 0, none⟩) bs.length cap) := by
    have : w.drew.heap[b]? = some (.cells #[p, .slice (some ⟨g, 0, none⟩) bs.length cap] 48 (0, 0)) := hbk
    rw [Lib.cell_of_heap this]; rfl
  have hSD : (Builtin.unsafeSliceData_ #[22] 69 #[.slice (some ⟨g, 0, none⟩) bs.length cap]).run Tryd.prog w.drew = .ok (.pointer (some ⟨g, 0, none⟩)) w.drew := Lib.run_unsafeSliceData_row _ _ _ _ _ _ (by omega)
  have hUS : (Builtin.unsafeString_ #[69, 3] 9 #[.pointer (some ⟨g, 0, none⟩), .int .i64 bs.length]).run Tryd.prog w.drew = .ok (.string (strOf bs)) (w.drew.freeze ⟨g, 0, none⟩ bs.length) := by
    refine Lib.run_unsafeString_row w.drew 69 3 9 5 Tryd.underlying69 cells5 g cur.size (by have hg' : w.drew.heap[g]? = some (.cells cur 5 (0, 0)) := hg; simp [World.shape?, hg']) bs h0 (by omega) (by omega) ?_
    intro j x hx
    exact rd_cells hO.rd1 j (.int .u8 x.toNat) (by simp [cellsB, hx])
  have HB := hide (Lib.below_freeze (Below.drew (Below.refl B w)) (p := ⟨g, 0, none⟩) hbg bs.length)
  clear hbk hg htake hO h
  go_enter Tryd.func25, Tryd.ntmps25
  go_wp2
  go_region
  all_goals go_wp2
  all_goals go_ret
  all_goals exact ⟨rfl, unhide HB⟩

theorem strOf_size (l : List UInt8) : (strOf l).size = l.length := by simp [strOf, ByteArray.size]
theorem strOf_cut (m : List UInt8) (c : UInt8) : (strOf (m ++ [c])).extract 0 m.length = strOf m := by
  apply ByteArray.ext
  simp [strOf, ByteArray.data_extract]
theorem strOf_last (m : List UInt8) (c : UInt8) (h : m.length < (strOf (m ++ [c])).size) : (((strOf (m ++ [c]))[m.length]'h).toNat : Int) = (c.toNat : Int) := by
  rw [sAt]
  simp [bAt, strOf]
def strLen : Value → Nat
  | .string s => s.size
  | _ => 0

set_option maxHeartbeats 1000000 in
theorem trimByte (bs : List UInt8) (hm : bs.length ≤ 1048576) (w : World) : Calls Tryd.prog 31 #[.string (strOf bs), .int .u8 32] w fun e w' => e = .returned (.string (strOf (trimR bs))) ∧ w' = w := by
  go_enter Tryd.func31, Tryd.ntmps31
  go_wp2
  go_loop [0] (fun v => ∃ l, v = .string (strOf l) ∧ l.length ≤ bs.length ∧ Hid (trimR l = trimR bs)) (fun v => strLen v)
  case atStart => exact ⟨bs, rfl, Nat.le_refl _, rfl⟩
  case round =>
    obtain ⟨l, rfl, hl, ht⟩ := hrel
    rcases List.eq_nil_or_concat l with rfl | ⟨m, c, rfl⟩
    · have hz := strOf_size []
      simp only [List.length_nil] at hz
      have HF := hide (show strOf [] = strOf (trimR bs) by rw [← ht.out]; rfl)
      go_wp2
      go_ret
      exact ⟨by rw [← unhide HF]; rfl, rfl⟩
    · rw [List.concat_eq_append] at *
      obtain ⟨S, hS⟩ : ∃ S, S = strOf (m ++ [c]) := ⟨_, rfl⟩
      have hz : S.size = m.length + 1 := by rw [hS, strOf_size]; simp
      have hlast : ∀ h : m.length < S.size, ((S[m.length]'h).toNat : Int) = (c.toNat : Int) := by
        subst hS
        exact fun h => strOf_last m c h
      have hlast := hlast (by omega)
      have hcut : S.extract 0 m.length = strOf m := by rw [hS]; exact strOf_cut m c
      have hml : m.length + 1 ≤ bs.length := by simpa using hl
      have hcl := c.toNat_lt
      have ht2 := trimR_snoc m c
      have hzz : (strOf m).size = m.length := strOf_size m
      have HS := hide hS
      rw [← hS]
      clear hS
      by_cases h32 : c = 32
      · have HT := hide (show trimR m = trimR bs by rw [← ht.out, ht2, if_pos h32])
        have hq : ((c.toNat : Int) == 32) = true := by rw [h32]; rfl
        clear ht2 h32 hcl hl
        go_wp2
        go_round
        case rel => exact ⟨m, rfl, by omega, unhide HT⟩
        case measure => simp [strLen]; omega
      · have HF := hide (show S = strOf (trimR bs) by rw [unhide HS, ← ht.out, ht2, if_neg h32])
        have hq : ((c.toNat : Int) == 32) = false := beq_eq_false_iff_ne.2 (fun e => h32 (by apply UInt8.toNat.inj; have : (32 : UInt8).toNat = 32 := rfl; omega))
        clear ht2 h32 hcl hcut hl
        go_wp2
        go_ret
        exact ⟨by rw [← unhide HF]; rfl, rfl⟩

set_option maxHeartbeats 1000000 in
set_option maxRecDepth 100000 in
theorem trimR_any (bs : List UInt8) (hm : bs.length ≤ 1048576) (w : World) : Calls Tryd.prog 24 #[.string (strOf bs), .string ⟨#[32]⟩] w fun e w' => e = .returned (.string (strOf (trimR bs))) ∧ w' = w := by
  cases bs with
  | nil =>
    have e1 : strOf [] = ⟨#[]⟩ := rfl
    have e2 : trimR [] = [] := rfl
    rw [e2, e1]
    go_enter Tryd.func24, Tryd.ntmps24
    go_wp2
    go_ret
    exact ⟨rfl, rfl⟩
  | cons x l =>
    have H := hide (trimByte (x :: l) hm w)
    have hemp : (strOf (x :: l)).toList.isEmpty = false := by
      rw [← decide_eq_emptyBytes]
      exact decide_eq_false (fun h => by have := strOf_size (x :: l); rw [h] at this; simp at this)
    generalize strOf (x :: l) = S at *
    go_enter Tryd.func24, Tryd.ntmps24
    go_wp2_with fail
    refine (unhide H).mono ?_
    rintro e w' ⟨rfl, rfl⟩
    go_wp2
    go_ret
    exact ⟨rfl, rfl⟩
end Go.Proofs.YtcnlimpebnhikaaDoor
