/- What Outcome answers, by the model; over this seat's translation; conditions stand as hypotheses of each. -/
import Derived.Test.YtboedaofbchdkaaDoorOutA
import Derived.Test.YtboedaofbchdkaaDoorLawA
namespace Go.Proofs.YtboedaofbchdkaaDoor
open Go.ChangeShapes Go.WideShapes Go.ChangeAt Go.RowKit
set_option linter.unusedVariables false
set_option maxRecDepth 8000
set_option linter.unusedSimpArgs false

/-- How it stands, as a word. -/
def outW (st : Int) : List UInt8 := if st = 0 then [114, 117, 110] else if st = 1 then [104, 97, 108, 116] else [102, 97, 117, 108, 116]
/-- One word that went out, and a blank. -/
def outN (n : Int) : List UInt8 := octD (n % 65536).toNat ++ [32]
/-- The words that went out. -/
def outB : List Int → List UInt8
  | [] => []
  | n :: l => outN n ++ outB l
theorem outB_app : ∀ a b, outB (a ++ b) = outB a ++ outB b
  | [], b => rfl
  | n :: a, b => by show outN n ++ outB (a ++ b) = outN n ++ outB a ++ outB b; rw [outB_app a b, List.append_assoc]
theorem take_snoc (o : List Int) (k : Nat) (h : k < o.length) : o.take (k + 1) = o.take k ++ [nAt o k] := by
  rw [List.take_add_one]
  congr 1
  unfold nAt
  rw [List.getD_eq_getElem?_getD, List.getElem?_eq_getElem h]
  rfl
theorem outB_take (o : List Int) (k : Nat) (h : k < o.length) : outB (o.take (k + 1)) = outB (o.take k) ++ outN (nAt o k) := by
  rw [take_snoc o k h, outB_app]
  show _ ++ (outN (nAt o k) ++ []) = _
  rw [List.append_nil]
theorem octD_six (n : Int) : (octD (n % 65536).toNat).length ≤ 6 := octD_len _ 5 (by have := Int.emod_lt_of_pos n (show (0 : Int) < 65536 by omega); omega)
theorem outN_len (n : Int) : (outN n).length ≤ 7 := by
  unfold outN
  rw [List.length_append]
  have := octD_six n
  simp
  omega
theorem outB_len : ∀ o, (outB o).length ≤ 7 * o.length
  | [] => by simp [outB]
  | n :: l => by
    show (outN n ++ outB l).length ≤ _
    rw [List.length_append, List.length_cons]
    have := outB_len l
    have := outN_len n
    omega
theorem outT_len (o : List Int) (k m : Nat) (h : o.length ≤ m) : (outB (o.take k)).length ≤ 7 * m := by
  have := outB_len (o.take k)
  have : (o.take k).length ≤ o.length := by rw [List.length_take]; omega
  omega
/-- All that Outcome tells. -/
def outS (o : List Int) (st : Int) : List UInt8 := outB o ++ outW st
theorem RdN.at {w : World} {a : Option Addr} {ns : List Int} (h : RdN w a ns) {k : Nat} (hk : k < ns.length) : ∃ b off, a = some ⟨b, off, none⟩ ∧ b < w.heap.size ∧ w.cell? ⟨b, off + k, none⟩ = some (.int .i64 (nAt ns k)) := by
  rcases h with rfl | ⟨b, off, rfl, hb, hc⟩
  · simp at hk
  · exact ⟨b, off, rfl, hb, hc k hk⟩
theorem ret_strO {a b : List UInt8} (h : a = b) : Ending.returned (.string (strOf a)) = .returned (.string (strOf b)) := by rw [h]
/-- What the model's Outcome answers. -/
def OuS (x : Mv) (s : List UInt8) (w : World) : Prop := Calls Tryd.prog 14 #[.agg x.cs] w fun e w' => e = .returned (.string (strOf s)) ∧ Below w.heap.size w w'
set_option maxHeartbeats 2000000 in
theorem outS_any (x : Mv) (d : Md) (w : World) (hs : x.small) (hr : RdM w x d) : OuS x (outS d.o x.st) w := by
  have B0 := hide (below_new w (.cells x.cs 32))
  have R0 := hide (heap_alloc_last w (.cells x.cs 32))
  have X0 := hide (hr.later (unhide B0)).o
  have OL := hide hr.ol
  have SM := hide hs.2.2.2
  have hsm := hs.2.2.2
  unfold OuS
  have SZ := hide (show (w.alloc (.cells x.cs 32)).heap.size = w.heap.size + 1 by simp)
  obtain ⟨T, hT⟩ : ∃ T, T = outS d.o x.st := ⟨_, rfl⟩
  rw [← hT]
  have ET := hide hT
  clear hs hr hT
  go_enter Tryd.func14, Tryd.ntmps14
  go_wp2
  go_loopw [3, 4] (fun s i wr => ∃ k : Nat, k ≤ x.o.n ∧ i = .int .i64 k ∧ s = .string (strOf (outB (d.o.take k))) ∧ Below (w.alloc (.cells x.cs 32)).heap.size (w.alloc (.cells x.cs 32)) wr) (fun _ i _ => x.o.n - (intOf i).toNat)
  case atStart => exact ⟨0, Nat.zero_le _, rfl, rfl, Below.refl _ _⟩
  case round =>
    obtain ⟨k, hk, rfl, rfl, hb⟩ := hrel
    have R1 := row_lat (unhide R0) hb
    have HB := hide hb
    by_cases hlt : k < x.o.n
    · obtain ⟨b, off, ha, hbl, hc⟩ := ((unhide X0).later hb).at (k := k) (by have := unhide OL; omega)
      have c7 := row_o R1
      rw [ha] at c7
      have OC := hide (octS_any (nAt d.o k) wr)
      have hz1 : (strOf (outB (d.o.take k))).size ≤ 7340032 := by rw [strOf_size]; exact outT_len _ _ 1048576 (by have := unhide OL; omega)
      have hz2 : (strOf (octD (nAt d.o k % 65536).toNat)).size ≤ 6 := by rw [strOf_size]; exact octD_six _
      have HN := hide (show strOf (outB (d.o.take k)) ++ strOf (octD (nAt d.o k % 65536).toNat) ++ (⟨#[32]⟩ : ByteArray) = strOf (outB (d.o.take (k + 1))) by
        rw [outB_take _ _ (by have := unhide OL; omega), strOf_append]
        show strOf _ ++ strOf [32] = _
        rw [strOf_append]
        unfold outN
        rw [List.append_assoc])
      generalize strOf (outB (d.o.take k)) = S1 at hz1 HN ⊢
      generalize strOf (octD (nAt d.o k % 65536).toNat) = S2 at hz2 HN OC ⊢
      generalize nAt d.o k = nn at hc OC ⊢
      clear hb R1 ha
      go_wp2_with (go_at_call 35; refine (unhide OC).mono ?_; rintro e w5 ⟨rfl, hb5⟩)
      go_roundw
      case rel => exact ⟨k + 1, by omega, by go_num, by rw [← unhide HN], (unhide HB).trans (hb5.mono (unhide HB).size)⟩
      case measure => simp [intOf]; omega
    · have c7 := row_o R1
      have c8 := row_st R1
      obtain rfl : k = x.o.n := by omega
      have HN := hide (show d.o.take x.o.n = d.o by rw [← unhide OL, List.take_length])
      have HB2 := hide ((unhide B0).trans (hb.mono (by simp)))
      have hz1 : (strOf (outB (d.o.take x.o.n))).size ≤ 7340032 := by rw [strOf_size]; exact outT_len _ _ 1048576 (by have := unhide OL; omega)
      rw [unhide HN] at hz1 ⊢
      clear hb R1 HB hk hlt
      have AP := hide (fun l => strOf_append (outB d.o) l)
      have F2 := hide (show ∀ l, outW x.st = l → strOf (outB d.o) ++ strOf l = strOf T from fun l e => by rw [unhide ET, unhide AP]; unfold outS; rw [e])
      have E3 := hide (show ∀ st, st = x.st → st ≠ 0 → st ≠ 1 → outW x.st = [102, 97, 117, 108, 116] from fun st e h0 h1 => by unfold outW; rw [← e, if_neg h0, if_neg h1])
      have E1 := hide (show ∀ st : Int, st = x.st → st = 1 → outW x.st = [104, 97, 108, 116] from fun st e h1 => by unfold outW; rw [← e, h1]; rfl)
      have E0 := hide (show ∀ st : Int, st = x.st → st = 0 → outW x.st = [114, 117, 110] from fun st e h1 => by unfold outW; rw [← e, h1]; rfl)
      generalize hst : x.st = st at c8
      have HST := hide hst.symm
      clear hst
      by_cases h1 : st = 1
      · have W1 := hide (unhide F2 _ (unhide E1 st (unhide HST) h1))
        subst h1
        generalize strOf (outB d.o) = S1 at hz1 W1 ⊢
        go_wp2
        go_ret
        exact ⟨by rw [← unhide W1]; rfl, unhide HB2⟩
      · by_cases h0 : st = 0
        · have W1 := hide (unhide F2 _ (unhide E0 st (unhide HST) h0))
          subst h0
          generalize strOf (outB d.o) = S1 at hz1 W1 ⊢
          go_wp2
          go_ret
          exact ⟨by rw [← unhide W1]; rfl, unhide HB2⟩
        · have W1 := hide (unhide F2 _ (unhide E3 st (unhide HST) h0 h1))
          generalize strOf (outB d.o) = S1 at hz1 W1 ⊢
          go_wp2
          go_ret
          exact ⟨by rw [← unhide W1]; rfl, unhide HB2⟩
end Go.Proofs.YtboedaofbchdkaaDoor
