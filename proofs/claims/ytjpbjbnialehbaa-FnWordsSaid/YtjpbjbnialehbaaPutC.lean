/- Contracts of PutW (the program's and the model's) and of the laws' marks, over this seat's translation; conditions stand as hypotheses of each. -/
import Derived.Test.YtjpbjbnialehbaaTextC
import Derived.Laws.AppendOwnNone
import Derived.Laws.CopyOwn
import Derived.Laws.OwnMore
import Derived.Deep.DeepMust
namespace Go.Proofs.Ytjpbjbnialehbaa
open Go.ChangeShapes Go.WideShapes Go.ChangeAt Go.RowKit
set_option linter.unusedVariables false
set_option maxRecDepth 8000

def cellsB (ys : List UInt8) : List Value := ys.map fun y => .int .u8 (y.toNat : Int)
theorem cellsB_length (ys : List UInt8) : (cellsB ys).length = ys.length := by simp [cellsB]
theorem cellsB_append (a b : List UInt8) : cellsB (a ++ b) = cellsB a ++ cellsB b := by simp [cellsB]
theorem cellsB_one (ys : List UInt8) : ∀ u ∈ cellsB ys, u.oneCell' = true := by
  intro u hu
  simp only [cellsB, List.mem_map] at hu
  obtain ⟨y, _, rfl⟩ := hu
  rfl
theorem cellsB_get {ys : List UInt8} {j : Nat} {u : Value} (h : (cellsB ys)[j]? = some u) : j < ys.length ∧ u = .int .u8 (bAt ys j) := by
  simp only [cellsB, List.getElem?_map, Option.map_eq_some_iff] at h
  obtain ⟨y, hy, rfl⟩ := h
  have := (List.getElem?_eq_some_iff.1 hy).1
  exact ⟨this, by unfold bAt; rw [List.getD_eq_getElem?_getD, hy]; rfl⟩

/-- v is a slice of the call's own (blocks from B on) that holds the bytes ys. -/
def OwnB (w : World) (B : Nat) (v : Value) (ys : List UInt8) : Prop := w.ownsRow B 5 1 v ys.length (cellsB ys)

theorem rd_cells {w : World} {ad : Addr} {xs : List UInt8} (h : Rd w (some ad) xs) : ∀ j u, (cellsB xs)[j]? = some u → w.cell? (ad.add j) = some u := by
  intro j u hu
  obtain ⟨hj, rfl⟩ := cellsB_get hu
  rcases h with rfl | ⟨b, off, ha, hb, hc⟩
  · simp at hj
  · cases ha
    have := hc j hj
    unfold Addr.add
    by_cases h0 : j = 0
    · subst h0; simpa using this
    · simpa [h0] using this
theorem Rd.alloc {w : World} {a : Option Addr} {xs : List UInt8} (h : Rd w a xs) (o : Obj) : Rd (w.alloc o) a xs := h.later ((Below.refl _ _).alloc (Nat.le_refl _) _)

/-- The two bytes of a word, the lower first. -/
def lo (n : Int) : UInt8 := UInt8.ofNat (n % 256).toNat
def hi8 (n : Int) : UInt8 := UInt8.ofNat (n % 65536 / 256).toNat
theorem lo_val (n : Int) : ((lo n).toNat : Int) = n % 256 := by unfold lo; simp; omega
theorem hi8_val (n : Int) : ((hi8 n).toNat : Int) = n % 65536 / 256 := by unfold hi8; simp; omega

theorem cells_two (n : Int) : cellsB [lo n, hi8 n] = [.int .u8 (n % 256), .int .u8 (n % 65536 / 256)] := by
  simp only [cellsB, List.map_cons, List.map_nil, lo_val, hi8_val]
theorem two_new (w : World) (n : Int) : ∀ j u, (cellsB [lo n, hi8 n])[j]? = some u → (w.alloc (Obj.cells #[.int .u8 (n % 256), .int .u8 (n % 65536 / 256)] 5)).cell? ((⟨w.heap.size, 0, none⟩ : Addr).add j) = some u := by
  rw [cells_two]
  exact cell_two_new w _ _ 5

theorem ownB_empty (w : World) : (w.alloc (Obj.cells #[] 5)).ownsRow w.heap.size 5 1 (.slice (some ⟨w.heap.size, 0, none⟩) 0 0) 0 [] :=
  World.ownsRow_lit w #[] 0 (Nat.le_refl _) (by decide) rfl

theorem OwnB.rd {w : World} {B : Nat} {v : Value} {ys : List UInt8} (h : OwnB w B v ys) : ∃ a cap, v = .slice a ys.length cap ∧ ys.length ≤ cap ∧ cap ≤ maxLen ∧ Rd w a ys ∧ (∀ ad, a = some ad → B ≤ ad.block) ∧ (a = none → cap = 0) := by
  obtain ⟨_, ⟨rfl, h0⟩ | ⟨g, cap, cur, rfl, hg, hh, hn, hm, hs, ht⟩⟩ := id h
  · obtain rfl : ys = [] := List.eq_nil_of_length_eq_zero h0
    exact ⟨none, 0, rfl, Nat.le_refl _, Nat.zero_le _, .inl rfl, (fun _ h => by cases h), fun _ => rfl⟩
  · refine ⟨_, cap, rfl, hn, hm, .inr ⟨g, 0, rfl, (Array.getElem?_eq_some_iff.1 hh).1, fun i hi => ?_⟩, (fun ad h => by cases h; exact hg), fun h => by cases h⟩
    have h2 := World.ownsRow.cellAt h i (by omega)
    rw [Nat.zero_add, h2]
    simp only [cellsB, List.getElem?_map, List.getElem?_eq_getElem hi, Option.map_some]
    unfold bAt
    rw [List.getD_eq_getElem?_getD, List.getElem?_eq_getElem hi]
    rfl

theorem i64_and255 (n : Int) : bits .and .i64 n 255 = n % 256 := by
  have h127 : (BitVec.ofInt 64 255).toNat = 2 ^ 8 - 1 := by decide
  have key : (BitVec.ofInt 64 n &&& BitVec.ofInt 64 255).toNat = (n % ((2 ^ 64 : Nat) : Int)).toNat % 2 ^ 8 := by
    rw [BitVec.toNat_and, BitVec.toNat_ofInt, h127, Nat.and_two_pow_sub_one_eq_mod]
  show IntKind.i64.wrap ((BitVec.ofInt 64 n &&& BitVec.ofInt 64 255).toNat : Nat) = n % 256
  rw [key, IntKind.wrap_i64]
  omega
theorem and255_w (n : Int) : bits .and .i64 (n % 65536) 255 = n % 256 := by rw [i64_and255]; omega

/-- The bytes of words. -/
def wordB (ns : List Int) : List UInt8 := ns.flatMap fun n => [lo n, hi8 n]
theorem wordB_length (ns : List Int) : (wordB ns).length = 2 * ns.length := by
  unfold wordB
  induction ns with
  | nil => rfl
  | cons n ns ih => simp only [List.flatMap_cons, List.length_append, ih, List.length_cons, List.length_nil]; omega
theorem wordB_snoc (ns : List Int) (n : Int) : wordB (ns ++ [n]) = wordB ns ++ [lo n, hi8 n] := by simp [wordB]
def nAt (ns : List Int) (i : Nat) : Int := ns.getD i 0
theorem take_nAt (ns : List Int) (k : Nat) (h : k < ns.length) : ns.take (k + 1) = ns.take k ++ [nAt ns k] := by
  rw [List.take_succ_eq_append_getElem h]; simp [nAt, List.getElem?_eq_getElem h]

/-- A slice of ints with address a reads as ns. -/
def RdN (w : World) (a : Option Addr) (ns : List Int) : Prop :=
  ns = [] ∨ ∃ b off, a = some ⟨b, off, none⟩ ∧ b < w.heap.size ∧ ∀ i, i < ns.length → w.cell? ⟨b, off + i, none⟩ = some (.int .i64 (nAt ns i))

theorem own_of_row {w : World} {B g n cap : Nat} {L : List Value} {ys : List UInt8} (h : w.heap[g]? = some (.cells L.toArray 5 (0, 0))) (hB : B ≤ g) (hn : ys.length = n) (hc : n ≤ cap) (hm : cap ≤ maxLen) (hL : L.length = cap) (ht : L.take n = cellsB ys) :
    w.ownsRow B 5 1 (.slice (some ⟨g, 0, none⟩) n cap) n (cellsB ys) :=
  ⟨by rw [cellsB_length]; omega, .inr ⟨g, cap, L.toArray, rfl, hB, h, hc, hm, by simp [hL], by simpa using ht⟩⟩

theorem copy_own (w : World) (g dcap : Nat) (a : Option Addr) (len cap : Nat) (xs : List UInt8) (hl : xs.length = len) (hr : Rd w a xs) (L : List Value) (hg : w.heap[g]? = some (.cells L.toArray 5 (0, 0))) (hL : len ≤ L.length) (B : Nat) (hB : B ≤ g) :
    ∃ w1, (Builtin.copy_ #[22, 22] 3 #[.slice (some ⟨g, 0, none⟩) len dcap, .slice a len cap]).run Try.prog w = .ok (.int .i64 (len : Int)) w1 ∧ w1.heap[g]? = some (.cells (cellsB xs ++ L.drop len).toArray 5 (0, 0)) ∧ Below B w w1 := by
  obtain ⟨i0, hi, hz0, hz1, hz2⟩ := info_parts Try.info5
  have S1 : (Try.prog.info? 5).map (·.size) = some 1 := by rw [hi]; simp [hz1]
  rcases hr with rfl | ⟨b, off, rfl, hb, hc⟩
  · obtain rfl : len = 0 := by simpa using hl.symm
    exact ⟨w, run_copy_none w 22 22 3 5 _ _ 0 dcap 0 cap Try.underlying22 S1 rfl, by simpa [cellsB] using hg, Below.refl _ _⟩
  · have hr' : Rd w (some ⟨b, off, none⟩) xs := .inr ⟨b, off, rfl, hb, hc⟩
    have h := run_copy_row (P := Try.prog) w 22 22 3 5 g 0 len dcap ⟨b, off, none⟩ len cap L.toArray 5 (cellsB xs) Try.underlying22 S1 hg (by rw [cellsB_length]; simp; omega) (rd_cells hr') (by rw [cellsB_length]; simp; omega) (cellsB_one xs)
    have hcl : (cellsB xs).length = len := by rw [cellsB_length]; exact hl
    rw [hcl] at h
    refine ⟨_, h, ?_, below_setRow (Below.refl _ _) hB _⟩
    have := setRow_heap w g _ (L.toArray.toList.take 0 ++ cellsB xs ++ L.toArray.toList.drop (0 + len)).toArray 5 (0, 0) hg
    simpa using this

theorem i64_nat_toNat (a b : Nat) : ((a : Int) + 2 * (b : Int)).toNat = a + 2 * b := by omega

set_option maxHeartbeats 800000 in
theorem putWords_any (a : Option Addr) (len cap : Nat) (wa : Option Addr) (m wc : Nat) (xs : List UInt8) (ns : List Int) (w : World) (hl : xs.length = len) (hm : len ≤ 1099511627776) (hlm : ns.length = m) (hmm : m ≤ 1048576) (hr : Rd w a xs) (hn : RdN w wa ns) :
    Calls Try.prog 37 #[.slice a len cap, .slice wa m wc] w fun e w' => e = .returned (.slice (some ⟨w.heap.size, 0, none⟩) (len + 2 * m) (len + 2 * m)) ∧ w'.ownsRow w.heap.size 5 1 (.slice (some ⟨w.heap.size, 0, none⟩) (len + 2 * m) (len + 2 * m)) (len + 2 * m) (cellsB (xs ++ wordB ns)) ∧ Below w.heap.size w w' := by
  obtain ⟨i0, hi, hz0, hz1, hz2⟩ := info_parts Try.info5
  have hmk : ∀ w : World, (Instr.makeSlice 22 (.int .i64 (len : Int)) (.int .i64 ((len : Int) + 2 * (m : Int)))).run Try.prog w = .ok (.slice (some ⟨w.heap.size, 0, none⟩) len (len + 2 * m)) (w.alloc (.cells (madeCells #[.int .u8 0] (len + 2 * m)) 5)) := by
    intro w
    have := run_make (P := Try.prog) w 22 5 i0 (.int .u8 0) Try.underlying22 hi hz0 .i64 .i64 (len : Int) ((len : Int) + 2 * (m : Int)) (by omega) (by omega) (by rw [hz2]; omega) (by omega)
    rw [this, hz1]
    simp only [i64_nat_toNat, Int.toNat_natCast, Nat.mul_one]
    rfl
  have hg0 : (w.alloc (.cells (madeCells #[.int .u8 0] (len + 2 * m)) 5)).heap[w.heap.size]? = some (.cells (List.replicate (len + 2 * m) (Value.int .u8 0)).toArray 5 (0, 0)) := by
    rw [← toList_madeCells_one]; exact Array.getElem?_push_size
  obtain ⟨w1, hcp, hrow1, hb1⟩ := copy_own _ w.heap.size (len + 2 * m) a len cap xs hl (hr.alloc _) _ hg0 (by simp) w.heap.size (Nat.le_refl _)
  have B1 : Below w.heap.size w w1 := ((Below.refl w.heap.size w).alloc (Nat.le_refl _) _).trans hb1
  have own1 := own_of_row (n := len) (cap := len + 2 * m) hrow1 (Nat.le_refl _) hl (by omega) (by unfold maxLen; omega) (by rw [List.length_append, cellsB_length]; simp; omega) (by
    have : (cellsB xs).length = len := by rw [cellsB_length]; exact hl
    rw [← this]; simp)
  have H1 := hide B1
  have H2 := hide own1
  clear hg0 hrow1 hb1 B1 own1
  go_enter Try.func37, Try.ntmps37
  go_wp2
  go_loopw [5, 23] (fun out i wr => ∃ k : Nat, k ≤ m ∧ i = .int .i64 k ∧ out = .slice (some ⟨w.heap.size, 0, none⟩) (len + 2 * k) (len + 2 * m) ∧ wr.ownsRow w.heap.size 5 1 (.slice (some ⟨w.heap.size, 0, none⟩) (len + 2 * k) (len + 2 * m)) (len + 2 * k) (cellsB (xs ++ wordB (ns.take k))) ∧ Below w.heap.size w wr) (fun _ i _ => m - (intOf i).toNat)
  case atStart => exact ⟨0, Nat.zero_le _, rfl, rfl, by simpa [wordB] using unhide H2, unhide H1⟩
  case round =>
    obtain ⟨k, hk, rfl, rfl, hown, hbel⟩ := hrel
    clear H1 H2 hcp
    by_cases hlt : k < m
    · rcases hn with rfl | ⟨b, off, rfl, hb, hc⟩
      · simp at hlm; omega
      have hcx : wr.cell? ⟨b, off + k, none⟩ = some (.int .i64 (nAt ns k)) := (hbel.cell (p := ⟨b, off + k, none⟩) hb).trans (hc k (by omega))
      have h255 := and255_w (nAt ns k)
      have K1 := hide hown
      have K2 := hide (two_new wr (nAt ns k))
      clear hown hc hmk
      go_wp2_with (first | (go_at_call 16; refine (wrapI_any _ _).mono ?_; rintro e w' ⟨rfl, hw'⟩; rw [hw']; clear hw' w') | (at_builtin; go_must (refine wpList_append_fits _ rfl (.tmp 29) (.tmp 36) 22 rfl w.heap.size 5 i0 1 Try.underlying22 hi hz1 w.heap.size (len + 2 * k) (len + 2 * m) (cellsB (xs ++ wordB (ns.take k))) rfl ((unhide K1).alloc _) ⟨wr.heap.size, 0, none⟩ 2 2 (cellsB [lo (nAt ns k), hi8 (nAt ns k)]) rfl rfl (unhide K2) (cellsB_one _) (by omega) ?_; intro w2 hown2 hgrow2)))
      have E1 : len + 2 * k + 2 = len + 2 * (k + 1) := by omega
      have E2 : cellsB (xs ++ wordB (ns.take k)) ++ cellsB [lo (nAt ns k), hi8 (nAt ns k)] = cellsB (xs ++ wordB (ns.take (k + 1))) := by
        rw [take_nAt ns k (by omega), wordB_snoc, ← cellsB_append, List.append_assoc]
      rw [E1, E2] at hown2
      have B2 : Below w.heap.size w w2 := (hbel.alloc hbel.size _).grown hgrow2 (by have := hbel.size; simp; omega) (fun k h => by simp at h; omega)
      go_roundw
      case rel => exact ⟨k + 1, by omega, by go_num, by rw [← E1], hown2, B2⟩
      case measure => simp [intOf]; omega
    · go_wp2
      go_ret
      obtain rfl : k = m := by omega
      exact ⟨rfl, by rw [List.take_of_length_le (by omega)] at hown; exact hown, hbel⟩

theorem ownsRow_base {w : World} {B B' : Nat} {v : Value} {n : Nat} {L : List Value} (h : w.ownsRow B 5 1 v n L) (hB : B' ≤ B) : w.ownsRow B' 5 1 v n L := by
  obtain ⟨h1, h2 | ⟨g, cap, cur, e, hg, r⟩⟩ := h
  · exact ⟨h1, .inl h2⟩
  · exact ⟨h1, .inr ⟨g, cap, cur, e, Nat.le_trans hB hg, r⟩⟩

set_option maxHeartbeats 400000 in
theorem putWI_any (a : Option Addr) (len cap : Nat) (n : Int) (xs : List UInt8) (w : World) (hl : xs.length = len) (hm : len ≤ 1099511627776) (hr : Rd w a xs) :
    Calls Try.prog 9 #[.slice a len cap, .int .i64 n] w fun e w' => ∃ v, e = .returned v ∧ OwnB w' w.heap.size v (xs ++ [lo n, hi8 n]) ∧ Below w.heap.size w w' := by
  have hz : (w.alloc (Obj.cells #[Value.int .i64 n] 3)).heap.size = w.heap.size + 1 := by simp
  have hN : RdN (w.alloc (Obj.cells #[Value.int .i64 n] 3)) (some ⟨w.heap.size, 0, none⟩) [n] := .inr ⟨w.heap.size, 0, rfl, by rw [hz]; omega, fun i hi => by
    obtain rfl : i = 0 := by simp at hi; omega
    simp [nAt]⟩
  have HN := hide hN
  have HZ := hide hz
  clear hN hz
  go_enter Try.func9, Try.ntmps9
  go_wp2_with fail
  refine (putWords_any a len cap _ 1 1 xs [n] _ hl hm rfl (by omega) (hr.alloc _) (unhide HN)).mono ?_
  rintro e w2 ⟨rfl, hown, hbel⟩
  go_wp2
  go_ret
  rw [unhide HZ] at hown hbel
  refine ⟨_, rfl, ?_, ((Below.refl w.heap.size w).alloc (Nat.le_refl _) _).trans (hbel.mono (by omega))⟩
  have := ownsRow_base hown (show w.heap.size ≤ w.heap.size + 1 by omega)
  unfold OwnB
  rw [List.length_append, hl]
  exact this

theorem grownBy_trans {a b c : World} {r : Option Nat} (h : a.grownBy b r) (k : b.grownBy c r) : a.grownBy c r :=
  ⟨k.os.trans h.os, k.tape.trans h.tape, k.output.trans h.output, Nat.le_trans h.size k.size, fun j hj hn => (k.block j (Nat.lt_of_lt_of_le hj h.size) hn).trans (h.block j hj hn)⟩

/-- What the marks leave: bytes from k on. -/
def markB (k n : Nat) : List UInt8 := (List.range n).map fun i => UInt8.ofNat (k + i)
theorem markB_length (k n : Nat) : (markB k n).length = n := by simp [markB]
theorem markB_at (k n i : Nat) (h : i < n) : bAt (markB k n) i = ((k : Int) + i) % 256 := by
  unfold bAt markB
  rw [List.getD_eq_getElem?_getD, List.getElem?_map, List.getElem?_range h]
  simp

theorem mark_step (k0 k : Nat) (xs : List UInt8) (h : k < xs.length) : (cellsB (markB k0 k ++ xs.drop k)).set k (.int .u8 (((k0 : Int) + k) % 256)) = cellsB (markB k0 (k + 1) ++ xs.drop (k + 1)) := by
  have e1 : markB k0 (k + 1) = markB k0 k ++ [UInt8.ofNat (k0 + k)] := by simp [markB, List.range_succ]
  have e2 : xs.drop k = xs[k] :: xs.drop (k + 1) := List.drop_eq_getElem_cons h
  have e3 : ((UInt8.ofNat (k0 + k)).toNat : Int) = ((k0 : Int) + k) % 256 := by simp
  have e4 : (cellsB (markB k0 k)).length = k := by rw [cellsB_length, markB_length]
  have e5 : cellsB [UInt8.ofNat (k0 + k)] = [.int .u8 (((k0 : Int) + k) % 256)] := by rw [← e3]; rfl
  have e6 : cellsB (xs.drop k) = cellsB [xs[k]] ++ cellsB (xs.drop (k + 1)) := by rw [e2, ← cellsB_append]; rfl
  rw [e1, cellsB_append, cellsB_append, cellsB_append, e5, e6, List.set_append_right _ _ (by omega), e4, Nat.sub_self]
  simp [cellsB]

end Go.Proofs.Ytjpbjbnialehbaa
