/- Contracts over this seat's translation, laid together; conditions stand as hypotheses of each. -/
import Derived.Test.YthgbpofcfmnpdaaDoorTxA
import Derived.Deep.Slices
import Derived.Lib.BufferWrite
import Derived.Lib.UnsafeStr
import Derived.Lib.IfaceEq
import Derived.Lib.AtoiErrMem
import Derived.Lib.Walk
import Derived.Deep.RegionWith
import Derived.Laws.MakeOwn
import Derived.Laws.Closers25b
import Derived.Laws.Strings3
import Derived.BigGuard
import Derived.Laws.Tables
import Derived.OwnWalk
import Derived.Lib.Builder
import Derived.Lib.AppendStr
import Derived.Lib.FrozenHead
import Derived.Lib.OthersKept

namespace Go.Proofs.YthgbpofcfmnpdaaDoor
open Go.ChangeShapes Go.WideShapes Go.ChangeAt Go.RowKit
set_option linter.unusedVariables false
set_option maxRecDepth 8000

/-- What is known of a list that came in. -/
structure IsT (W : World) (a : Option Addr) (len : Nat) (ts : List Tk) : Prop where
  hlen : ts.length = len
  max : len ≤ 9223372036854775807
  each : ∀ i, i < len → (tAt ts i).s.size ≤ 9223372036854775807
  rd : RdT W a ts
section
variable {H : Type} {enc : TypeId × Value → H} {W : World} {b0 base : Nat} {spare : TypeId → Bool} {held : Bool}
end
theorem gDb : Tryd.prog.globalNamed "math/bits.deBruijn64tab" = some 8 := by kernel_rfl
theorem tDb : (Tryd.prog.globals[8]?).map (·.type) = some 179 := by kernel_rfl
def dbT : List Int := [0, 1, 56, 2, 57, 49, 28, 3, 61, 58, 42, 50, 38, 29, 17, 4, 62, 47, 59, 36, 45, 43, 51, 22, 53, 39, 33, 30, 24, 18, 12, 5, 63, 55, 48, 27, 60, 41, 37, 16, 46, 35, 44, 21, 52, 32, 23, 11, 54, 26, 40, 15, 34, 20, 31, 10, 25, 14, 19, 9, 13, 8, 7, 6]
theorem dbT_eq : (Rows.laid_math_bits_deBruijn64tab : DataW Unit) = Lib.tabData .u8 dbT := by kernel_rfl
theorem db_of {W : World} {rest : List (String × DataW Unit)} (h : laidMet Tryd.prog (("math/bits.deBruijn64tab", Rows.laid_math_bits_deBruijn64tab) :: rest) W) : W.cell? ⟨8, 7, none⟩ = some (.int .u8 3) := by
  rw [dbT_eq] at h
  have h2 := Lib.tabIs_of_head gDb tDb Tryd.underlying179 Tryd.underlying5 (by kernel_rfl) (by kernel_rfl) h
  exact h2.cell gDb 7 (by decide)
theorem db_of_three {W : World} (h : laidMetH Tryd.prog [("math/bits.deBruijn32tab", Rows.laid_math_bits_deBruijn32tab), ("math/bits.deBruijn64tab", Rows.laid_math_bits_deBruijn64tab), ("internal/strconv.uint64pow10", Rows.laid_internal_strconv_uint64pow10)] W) : W.cell? ⟨8, 7, none⟩ = some (.int .u8 3) := by
  rw [MakeChecks.laidMetH_plain _ _ _ (by kernel_rfl)] at h
  exact db_of h.tail
end Go.Proofs.YthgbpofcfmnpdaaDoor

namespace Go.Proofs.YthgbpofcfmnpdaaDoor
open Go.ChangeShapes Go.WideShapes Go.ChangeAt Go.RowKit
set_option linter.unusedVariables false
set_option maxRecDepth 8000

/-- The text of a token. -/
def tokL (t : Tk) : List UInt8 := if t.k = 2 then octD (t.n % 65536).toNat else t.s.data.toList
theorem octD_six (n : Int) : (octD (n % 65536).toNat).length ≤ 6 := octD_len _ 5 (by have := Int.emod_lt_of_pos n (show (0 : Int) < 65536 by omega); omega)
theorem tokL_len (t : Tk) : (tokL t).length ≤ t.s.size + 6 := by
  unfold tokL
  split
  · have := octD_six t.n; omega
  · rw [size_len]; omega
/-- The line of so many tokens. -/
def lineT (ts : List Tk) : Nat → List UInt8
  | 0 => []
  | k + 1 => lineT ts k ++ (if k = 0 then [] else [32]) ++ tokL (tAt ts k)
theorem lineT_len (ts : List Tk) : ∀ k, k ≤ ts.length → (lineT ts k).length ≤ szL (ts.take k) + 7 * k
  | 0, _ => by simp [lineT]
  | k + 1, h => by
    have h1 := lineT_len ts k (by omega)
    have h2 := tokL_len (tAt ts k)
    have h3 := szL_take ts k (by omega)
    have h4 : (if k = 0 then ([] : List UInt8) else [32]).length ≤ 1 := by split <;> simp
    simp only [lineT, List.length_append]
    omega
theorem szL_le (ts : List Tk) (k : Nat) : szL (ts.take k) ≤ szL ts := by
  induction ts generalizing k with
  | nil => simp
  | cons t r ih =>
    cases k with
    | zero => simp [szL]
    | succ k => simp only [List.take_succ_cons, szL]; have := ih k; omega
theorem szL_at (ts : List Tk) (k : Nat) (h : k < ts.length) : (tAt ts k).s.size ≤ szL ts := by
  have h1 := szL_take ts k h
  have h2 := szL_le ts (k + 1)
  omega
/-- What LineOf answers. -/
def lineOf (ts : List Tk) : List UInt8 := lineT ts ts.length
set_option maxHeartbeats 2000000 in
theorem lineS_any (a : Option Addr) (len cap : Nat) (ts : List Tk) (w : World) (hl : ts.length = len) (hm : len + szL ts ≤ 1048576) (hr : RdT w a ts) : Calls Tryd.prog 49 #[.slice a len cap] w fun e w' => e = .returned (.string (strOf (lineOf ts))) ∧ Below w.heap.size w w' := by
  unfold lineOf
  rw [hl]
  go_enter Tryd.func49, Tryd.ntmps49
  go_wp2
  go_loopw [3, 4] (fun s i wr => ∃ k : Nat, k ≤ len ∧ i = .int .i64 k ∧ s = .string (strOf (lineT ts k)) ∧ Below w.heap.size w wr) (fun _ i _ => len - (intOf i).toNat)
  case atStart => exact ⟨0, Nat.zero_le _, rfl, rfl, Below.refl _ _⟩
  case round =>
    obtain ⟨k, hk, rfl, rfl, hb⟩ := hrel
    by_cases hlt : k < len
    · rcases hr with h0 | ⟨b, off, rfl, hbl, hc⟩
      · rw [h0] at hl; simp at hl; omega
      obtain ⟨c0, c1, c2⟩ := hc k (by omega)
      have d0 : wr.cell? ⟨b, off + k * 3, none⟩ = _ := (hb.cell (p := ⟨b, _, none⟩) hbl).trans c0
      have d1 : wr.cell? ⟨b, off + k * 3 + 1, none⟩ = _ := (hb.cell (p := ⟨b, _, none⟩) hbl).trans c1
      have d2 : wr.cell? ⟨b, off + k * 3 + 2, none⟩ = _ := (hb.cell (p := ⟨b, _, none⟩) hbl).trans c2
      have OC := hide (octS_any (tAt ts k).n wr)
      have hz1 : (strOf (lineT ts k)).size ≤ 16777216 := by
        rw [strOf_size]
        have := lineT_len ts k (by omega)
        have := szL_le ts k
        omega
      have hz2 : (strOf (octD ((tAt ts k).n % 65536).toNat)).size ≤ 6 := by rw [strOf_size]; exact octD_six _
      have hz3 : (tAt ts k).s.size ≤ 1048576 := by have := szL_at ts k (by omega); omega
      have LT := hide (show strOf (lineT ts (k + 1)) = strOf (lineT ts k) ++ (if k = 0 then ⟨#[]⟩ else ⟨#[32]⟩) ++ strOf (tokL (tAt ts k)) by
        show strOf (lineT ts k ++ (if k = 0 then [] else [32]) ++ tokL (tAt ts k)) = _
        rw [← strOf_append, ← strOf_append]
        congr 2
        split <;> rfl)
      have TL := hide (show strOf (tokL (tAt ts k)) = if (tAt ts k).k = 2 then strOf (octD ((tAt ts k).n % 65536).toNat) else (tAt ts k).s by
        unfold tokL
        split
        · rfl
        · rw [strOf_of])
      rw [unhide TL] at LT
      clear c0 c1 c2 hc TL
      have HB := hide hb
      generalize strOf (lineT ts k) = S1 at hz1 LT ⊢
      generalize strOf (octD ((tAt ts k).n % 65536).toNat) = S2 at hz2 LT OC
      generalize (tAt ts k).s = ss at d2 LT hz3
      generalize (tAt ts k).k = kk at d0 LT
      generalize (tAt ts k).n = nn at d1 OC
      clear hb
      by_cases hk0 : k = 0
      · have LT0 := hide (show strOf (lineT ts (k + 1)) = S1 ++ (if kk = 2 then S2 else ss) by
          have := unhide LT
          rw [if_pos hk0] at this
          rw [this]
          congr 1
          apply ByteArray.ext
          rw [ByteArray.data_append]
          simp)
        have hg0 : decide (0 < k) = false := decide_eq_false (by omega)
        clear hk0
        by_cases hk2 : kk = 2
        · subst hk2
          have LT1 := hide (show strOf (lineT ts (k + 1)) = S1 ++ S2 from unhide LT0)
          clear LT LT0
          go_wp2_with (go_at_call 84; refine (unhide OC).mono ?_; rintro e w5 ⟨rfl, hb5⟩)
          go_roundw
          case rel => exact ⟨k + 1, by omega, by go_num, by rw [unhide LT1], (unhide HB).trans (hb5.mono (unhide HB).size)⟩
          case measure => simp [intOf]; omega
        · have LT1 := hide (show strOf (lineT ts (k + 1)) = S1 ++ ss from (unhide LT0).trans (by rw [if_neg hk2]))
          clear LT LT0 OC
          go_wp2
          go_roundw
          case rel => exact ⟨k + 1, by omega, by go_num, by rw [unhide LT1], unhide HB⟩
          case measure => simp [intOf]; omega
      · have hg0 : (0 : Int) < (k : Int) := by omega
        have LT0 := hide (show strOf (lineT ts (k + 1)) = S1 ++ ⟨#[32]⟩ ++ (if kk = 2 then S2 else ss) by have := unhide LT; rw [if_neg hk0] at this; exact this)
        by_cases hk2 : kk = 2
        · subst hk2
          have LT1 := hide (show strOf (lineT ts (k + 1)) = S1 ++ ⟨#[32]⟩ ++ S2 from unhide LT0)
          clear LT LT0
          go_wp2_with (go_at_call 84; refine (unhide OC).mono ?_; rintro e w5 ⟨rfl, hb5⟩)
          go_roundw
          case rel => exact ⟨k + 1, by omega, by go_num, by rw [unhide LT1], (unhide HB).trans (hb5.mono (unhide HB).size)⟩
          case measure => simp [intOf]; omega
        · have LT1 := hide (show strOf (lineT ts (k + 1)) = S1 ++ ⟨#[32]⟩ ++ ss from (unhide LT0).trans (by rw [if_neg hk2]))
          clear LT LT0 OC
          go_wp2
          go_roundw
          case rel => exact ⟨k + 1, by omega, by go_num, by rw [unhide LT1], unhide HB⟩
          case measure => simp [intOf]; omega
    · obtain rfl : k = len := by omega
      go_wp2
      go_ret
      exact ⟨rfl, hb⟩
end Go.Proofs.YthgbpofcfmnpdaaDoor

namespace Go.Proofs.YthgbpofcfmnpdaaDoor
open Go.ChangeShapes Go.WideShapes Go.ChangeAt Go.RowKit
set_option linter.unusedVariables false
theorem info5 : (Tryd.prog.info? 5).map (fun i => (i.zero, i.size, i.bytes)) = some (some (.int .u8 0), 1, 1) := by kernel_rfl

/-- A text copied into a new row of as many noughts: the row then holds its bytes. -/
theorem copy_text (w : World) (s : ByteArray) : ∃ C : Array Value, C.toList = Lib.byteCells s.data.toList ∧
    (Builtin.copy_ #[22, 9] 3 #[.slice (some ⟨w.heap.size, 0, none⟩) s.size s.size, .string s]).run Tryd.prog (w.alloc (.cells (madeCells #[.int .u8 0] s.size) 5)) = .ok (goInt s.size) ((w.alloc (.cells (madeCells #[.int .u8 0] s.size) 5)).setRow w.heap.size C) := by
  obtain ⟨i0, hi, _, h1, _⟩ := info_parts info5
  have hn : (madeCells #[Value.int .u8 0] s.size).toList.length = s.size := by rw [toList_madeCells_one, List.length_replicate]
  have h := Lib.run_copy_row_string (P := Tryd.prog) (w.alloc (.cells (madeCells #[.int .u8 0] s.size) 5)) 22 9 3 5 w.heap.size 0 s.size s.size s _ 5 Tryd.underlying22 (by rw [hi]; simp [h1]) (heap_alloc_new w _) (Nat.le_refl _) (by rw [← Array.length_toList, hn]; omega)
  refine ⟨_, ?_, h⟩
  rw [List.toList_toArray, List.take_zero, List.nil_append, List.drop_eq_nil_of_le (by rw [hn]; omega), List.append_nil]

/-- The text of a row that holds its bytes. -/
theorem text_of_row (W : World) (g : Nat) (C : Array Value) (s : ByteArray) (hC : C.toList = Lib.byteCells s.data.toList) (hg : W.heap[g]? = some (.cells C 5 (0, 0))) (h0 : s.size ≠ 0) (hlim : s.size ≤ 281474976710656) :
    (Builtin.unsafeString_ #[110, 3] 9 #[.pointer (some ⟨g, 0, none⟩), .int .i64 (s.size : Int)]).run Tryd.prog W = .ok (.string s) (W.freeze ⟨g, 0, none⟩ s.size) := by
  have hl : s.data.toList.length = s.size := Array.length_toList
  have hCl : C.size = s.size := by rw [← Array.length_toList, hC, Lib.byteCells_length, hl]
  have h := Lib.run_unsafeString_row (P := Tryd.prog) W 110 3 9 5 Tryd.underlying110 (by kernel_rfl) g C.size (by unfold World.shape?; rw [hg]) s.data.toList (fun e => h0 (by rw [← hl, e]; rfl)) (by omega) (by omega) (fun j x hx => by
    have hc := Lib.cells_of_row hg C.size j (.int .u8 x.toNat)
    rw [List.take_of_length_le (Nat.le_of_eq Array.length_toList), hC] at hc
    exact hc (by simp only [Lib.byteCells, List.getElem?_map, hx, Option.map_some]))
  rw [hl] at h
  exact h

theorem below_of_row (w : World) (s : ByteArray) (C : Array Value) : Below w.heap.size w ((w.alloc (.cells (madeCells #[.int .u8 0] s.size) 5)).setRow w.heap.size C) :=
  ((Below.refl _ w).alloc (Nat.le_refl _) _).trans ⟨rfl, rfl, rfl, by simp [World.setRow], fun k hk => setRow_other _ _ _ _ (by omega)⟩

set_option maxHeartbeats 1000000 in
set_option maxRecDepth 100000 in
theorem clone_any (s : ByteArray) (w : World) (hlim : s.size ≤ 281474976710656) :
    Calls Tryd.prog 80 #[.string s] w fun e w' => e = .returned (.string s) ∧ Below w.heap.size w w' := by
  by_cases h0 : s.size = 0
  · obtain rfl : s = ⟨#[]⟩ := by apply ByteArray.ext; exact Array.eq_empty_of_size_eq_zero h0
    go_enter Tryd.func80, Tryd.ntmps80
    go_wp2
    go_ret
    exact ⟨rfl, Below.refl _ _⟩
  · have hz : ((s.size : Int) == 0) = false := beq_eq_false_iff_ne.2 (by omega)
    have hp : (0 : Int) < (s.size : Int) := by omega
    have hmk := run_make_row' (P := Tryd.prog) 22 5 (.int .u8 0) 1 Tryd.underlying22 info5 rfl .i64 .i64 s.size (by omega) (by omega)
    obtain ⟨C, hC, hcp⟩ := copy_text w s
    have hrow := setRow_heap (w.alloc (.cells (madeCells #[.int .u8 0] s.size) 5)) w.heap.size _ C 5 (0, 0) (heap_alloc_new w _)
    have hus := text_of_row _ w.heap.size C s hC hrow h0 hlim
    have hB := hide (below_of_row w s C)
    clear hC hrow
    go_enter Tryd.func80, Tryd.ntmps80
    go_wp2
    go_ret
    exact ⟨rfl, Lib.below_freeze (unhide hB) (p := ⟨w.heap.size, 0, none⟩) (Nat.le_refl _) _⟩

set_option maxHeartbeats 1000000 in
set_option maxRecDepth 100000 in
theorem synErr_any (fn s : ByteArray) (te : TypeId) (pe : Value) (w : World) (hlim : s.size ≤ 281474976710656) (hv : w.cell? ⟨5, 0, none⟩ = some (.iface te pe)) :
    Calls Tryd.prog 118 #[.string fn, .string s] w fun e w' => ∃ v, e = .returned (.pointer (some v)) ∧ Below w.heap.size w w' := by
  have hG : 5 < w.heap.size := World.block_lt_of_cell? w _ hv
  have hvd : w.drew.cell? ⟨5, 0, none⟩ = some _ := hv
  go_enter Tryd.func118, Tryd.ntmps118
  go_wp2
  go_region_with (go_at_call 80; refine (clone_any s _ hlim).mono ?_; rintro e w2 ⟨rfl, hbel⟩; have hv2 : w2.cell? ⟨5, 0, none⟩ = some _ := (hbel.cell (show (⟨5, 0, none⟩ : Addr).block < w.drew.heap.size from hG)).trans hvd)
  all_goals
    go_wp2
    go_ret
    have hB : Below w.heap.size w w2 := (Below.refl w.heap.size w).drew.trans hbel
    exact ⟨_, rfl, hB.alloc hB.size _⟩

set_option maxHeartbeats 1000000 in
set_option maxRecDepth 100000 in
theorem rngErr_any (fn s : ByteArray) (te : TypeId) (pe : Value) (w : World) (hlim : s.size ≤ 281474976710656) (hv : w.cell? ⟨6, 0, none⟩ = some (.iface te pe)) :
    Calls Tryd.prog 119 #[.string fn, .string s] w fun e w' => ∃ v, e = .returned (.pointer (some v)) ∧ Below w.heap.size w w' := by
  have hG : 6 < w.heap.size := World.block_lt_of_cell? w _ hv
  have hvd : w.drew.cell? ⟨6, 0, none⟩ = some _ := hv
  go_enter Tryd.func119, Tryd.ntmps119
  go_wp2
  go_region_with (go_at_call 80; refine (clone_any s _ hlim).mono ?_; rintro e w2 ⟨rfl, hbel⟩; have hv2 : w2.cell? ⟨6, 0, none⟩ = some _ := (hbel.cell (show (⟨6, 0, none⟩ : Addr).block < w.drew.heap.size from hG)).trans hvd)
  all_goals
    go_wp2
    go_ret
    have hB : Below w.heap.size w w2 := (Below.refl w.heap.size w).drew.trans hbel
    exact ⟨_, rfl, hB.alloc hB.size _⟩

theorem eqlErr (a b : Int) (W : World) : (binOp .eql 62 (.iface 158 (.int .i64 a)) (.iface 158 (.int .i64 b))).run Tryd.prog W = .ok (.bool (a == b)) W :=
  Lib.run_eql_iface_int W a b Tryd.underlying62 (by kernel_rfl) Tryd.underlying158

set_option maxHeartbeats 1000000 in
set_option maxRecDepth 100000 in
theorem toErr_syn (fn s : ByteArray) (base bs : Int) (te : TypeId) (pe : Value) (w : World) (hlim : s.size ≤ 281474976710656) (hv : w.cell? ⟨5, 0, none⟩ = some (.iface te pe)) :
    Calls Tryd.prog 109 #[.string fn, .string s, .int .i64 base, .int .i64 bs, .iface 158 (.int .i64 2)] w fun e w' => ∃ t v, e = .returned (.iface t v) ∧ Below w.heap.size w w' := by
  have h22 := eqlErr 2 2
  have H := hide (synErr_any fn s te pe w hlim hv)
  clear hv
  go_enter Tryd.func109, Tryd.ntmps109
  go_wp2_with (go_at_call 118; refine (unhide H).mono ?_; rintro e w2 ⟨v, rfl, hb⟩)
  go_ret
  exact ⟨_, _, rfl, hb⟩

set_option maxHeartbeats 1000000 in
set_option maxRecDepth 100000 in
theorem toErr_rng (fn s : ByteArray) (base bs : Int) (te : TypeId) (pe : Value) (w : World) (hlim : s.size ≤ 281474976710656) (hv : w.cell? ⟨6, 0, none⟩ = some (.iface te pe)) :
    Calls Tryd.prog 109 #[.string fn, .string s, .int .i64 base, .int .i64 bs, .iface 158 (.int .i64 1)] w fun e w' => ∃ t v, e = .returned (.iface t v) ∧ Below w.heap.size w w' := by
  have h12 := eqlErr 1 2
  have h11 := eqlErr 1 1
  have H := hide (rngErr_any fn s te pe w hlim hv)
  clear hv
  go_enter Tryd.func109, Tryd.ntmps109
  go_wp2_with (go_at_call 119; refine (unhide H).mono ?_; rintro e w2 ⟨v, rfl, hb⟩)
  go_ret
  exact ⟨_, _, rfl, hb⟩
end Go.Proofs.YthgbpofcfmnpdaaDoor

namespace Go.Proofs.YthgbpofcfmnpdaaDoor
open Go.ChangeShapes Go.WideShapes Go.ChangeAt Go.RowKit
set_option linter.unusedVariables false

/-- What digits are worth, each byte less 48, to the base 8. -/
def ov (l : List UInt8) : Int := l.foldl (fun a c => a * 8 + ((c.toNat : Int) - 48)) 0
theorem ov_snoc (l : List UInt8) (c : UInt8) : ov (l ++ [c]) = ov l * 8 + ((c.toNat : Int) - 48) := by unfold ov; rw [List.foldl_append]; rfl
theorem ov_take (l : List UInt8) (k : Nat) (h : k < l.length) : ov (l.take (k + 1)) = ov (l.take k) * 8 + (bAt l k - 48) := by
  rw [List.take_succ_eq_append_getElem h, ov_snoc]
  unfold bAt
  rw [List.getD_eq_getElem?_getD, List.getElem?_eq_getElem h]
  rfl
/-- Some byte is no digit, or what is read is too great. -/
def Bad (l : List UInt8) : Prop := ∃ k, k < l.length ∧ (bAt l k < 48 ∨ 55 < bAt l k ∨ 65535 < ov (l.take (k + 1)))

/-- The call ends with an error of the inner package: 1 or 2. -/
def BadEnd (e : Ending) : Prop := ∃ y c, (c = 1 ∨ c = 2) ∧ e = .returned (.tuple #[.int .u64 y, .iface 158 (.int .i64 c)])

def lowV (c : Int) : Int := bits .or .u8 c 32
theorem lowV_bd (c : Int) : 0 ≤ lowV c ∧ lowV c ≤ 255 := ⟨bits_lo_u8 .or c 32, bits_hi_u8 .or c 32⟩
theorem lower_any (c : Int) (w : World) : Calls Tryd.prog 116 #[.int .u8 c] w fun e w' => e = .returned (.int .u8 (lowV c)) ∧ w' = w := by
  go_enter Tryd.func116, Tryd.ntmps116
  go_wp2
  go_ret
  exact ⟨rfl, rfl⟩

set_option maxHeartbeats 4000000 in
set_option maxRecDepth 100000 in
theorem pu_any (s : ByteArray) (hne : s.size ≠ 0) (hmax : s.size ≤ 1099511627776) (w : World) :
    Calls Tryd.prog 108 #[.string s, .int .i64 8, .int .i64 16] w fun e w' => Below w.heap.size w w' ∧
      ((0 ≤ ov s.data.toList ∧ ov s.data.toList ≤ 65535 ∧ e = .returned (.tuple #[.int .u64 (ov s.data.toList), .nilIface])) ∨
       (Bad s.data.toList ∧ BadEnd e)) := by
  have hemp : s.toList.isEmpty = false := by
    rw [← decide_eq_emptyBytes]
    exact decide_eq_false (fun h => hne (by rw [h]; rfl))
  have hcv := Lib.run_convert_string_bytes (P := Tryd.prog) w 9 22 5 s (u := .string) Tryd.underlying9 Tryd.underlying22 Tryd.underlying5
  have hB : ∀ j, j < s.size → (Lib.bytesWorld w 5 s).cell? ⟨w.heap.size, j, none⟩ = some (.int .u8 (bAt s.data.toList j)) := fun j hj => Lib.bytesWorld_cell w 5 s j hj
  have hbel := hide (Lib.bytesWorld_below w 5 s)
  obtain ⟨W1, hW1⟩ : ∃ W1, W1 = Lib.bytesWorld w 5 s := ⟨_, rfl⟩
  rw [← hW1] at hcv hB hbel
  clear hW1
  obtain ⟨bs, hL⟩ : ∃ bs, bs = s.data.toList := ⟨_, rfl⟩
  have hLn : bs.length = s.size := by rw [hL, Lib.size_eq]
  rw [← hL] at hB ⊢
  clear hL
  go_enter Tryd.func108, Tryd.ntmps108
  go_wp2
  clear hcv
  go_loop [12, 13, 101] (fun vu vn vi => ∃ (k : Nat) (a : Int), vu = .bool false ∧ vn = .int .u64 a ∧ vi = .int .i64 k ∧ k ≤ s.size ∧ 0 ≤ a ∧ a ≤ 65535 ∧ Hid (a = ov (bs.take k)))
    (fun _ _ vi => s.size - (intOf vi).toNat)
  case atStart => exact ⟨0, 0, rfl, rfl, rfl, by omega, by omega, by omega, rfl⟩
  case round =>
    obtain ⟨k, a, rfl, rfl, rfl, hk, a0, a1, ha⟩ := hrel
    by_cases hkn : k < s.size
    · have hc := hB k hkn
      have hbd := bAt_bd bs k
      have hT := ov_take bs k (by omega)
      rw [← ha.out] at hT
      have HT := hide hT
      clear hB hT
      obtain ⟨c, hcc⟩ : ∃ c, bAt bs k = c := ⟨_, rfl⟩
      rw [hcc] at hc hbd HT
      have HC := hide hcc
      clear hcc
      by_cases hdig : 48 ≤ c ∧ c ≤ 55
      · obtain ⟨hd0, hd1⟩ := hdig
        by_cases hov : 65535 < a * 8 + (c - 48)
        · have hbad := hide (show Bad bs from ⟨k, by omega, .inr (.inr (by rw [unhide HT]; exact hov))⟩)
          go_wp2
          go_ret2
          exact ⟨unhide hbel, .inr ⟨unhide hbad, _, 1, .inl rfl, rfl⟩⟩
        · go_wp2
          go_round
          case rel => exact ⟨k + 1, a * 8 + (c - 48), rfl, by go_num, by go_num, by omega, by omega, by omega, (unhide HT).symm⟩
          case measure => simp [intOf]; omega
      · have hbad := hide (show Bad bs from ⟨k, by omega, by rw [unhide HC]; omega⟩)
        by_cases h57 : 48 ≤ c ∧ c ≤ 57
        · obtain ⟨hd0, hd1⟩ := h57
          have hd8 : 8 ≤ c - 48 := by omega
          clear hdig
          go_wp2
          go_ret2
          exact ⟨unhide hbel, .inr ⟨unhide hbad, _, 2, .inr rfl, rfl⟩⟩
        · clear hdig
          have hv := lowV_bd c
          have hu := lowV_bd 95
          go_wp2_with (go_at_call 116; refine (lower_any _ _).mono ?_; rintro e w' ⟨rfl, hw'⟩; rw [hw']; clear hw' w')
          all_goals go_ret2
          all_goals exact ⟨unhide hbel, .inr ⟨unhide hbad, _, 2, .inr rfl, rfl⟩⟩
    · have hfin : a = ov bs := by rw [ha.out, List.take_of_length_le (by omega)]
      have HF := hide hfin
      clear hfin hB
      go_wp2
      go_ret2
      rw [← unhide HF]
      exact ⟨unhide hbel, .inl ⟨a0, a1, rfl⟩⟩
end Go.Proofs.YthgbpofcfmnpdaaDoor

namespace Go.Proofs.YthgbpofcfmnpdaaDoor
open Go.ChangeShapes Go.WideShapes Go.ChangeAt Go.RowKit
set_option linter.unusedVariables false

theorem octD_dig (m : Nat) : ∀ c ∈ octD m, 48 ≤ c.toNat ∧ c.toNat ≤ 55 := by
  induction m using Nat.strongRecOn with
  | ind m ih =>
    intro c hc
    by_cases h : m < 8
    · rw [octD_small m h] at hc
      simp only [List.mem_singleton] at hc
      subst hc
      have := dg_val m h
      omega
    · rw [octD_big m h, List.mem_append] at hc
      rcases hc with hc | hc
      · exact ih (m / 8) (by omega) c hc
      · simp only [List.mem_singleton] at hc
        subst hc
        have := dg_val (m % 8) (by omega)
        omega
theorem octD_ov (m : Nat) : ov (octD m) = m := by
  induction m using Nat.strongRecOn with
  | ind m ih =>
    by_cases h : m < 8
    · rw [octD_small m h]
      have := dg_val m h
      show 0 * 8 + (((dg m).toNat : Int) - 48) = m
      omega
    · rw [octD_big m h, ov_snoc, ih (m / 8) (by omega), dg_val (m % 8) (by omega)]
      omega
theorem octD_ne (m : Nat) : octD m ≠ [] := by
  rw [octD_split]
  simp
theorem ov_take_bd (l : List UInt8) (h : ∀ c ∈ l, 48 ≤ c.toNat) (k : Nat) : 0 ≤ ov (l.take k) ∧ ∀ j, k ≤ j → ov (l.take k) ≤ ov (l.take j) := by
  have step : ∀ k, 0 ≤ ov (l.take k) → ov (l.take k) ≤ ov (l.take (k + 1)) ∧ 0 ≤ ov (l.take (k + 1)) := by
    intro k h0
    by_cases hk : k < l.length
    · rw [ov_take l k hk]
      have : (48 : Int) ≤ bAt l k := by
        unfold bAt
        rw [List.getD_eq_getElem?_getD, List.getElem?_eq_getElem hk]
        have := h l[k] (List.getElem_mem _)
        simp
        omega
      omega
    · rw [List.take_of_length_le (by omega), List.take_of_length_le (by omega)] at *
      exact ⟨Int.le_refl _, h0⟩
  have nn : ∀ k, 0 ≤ ov (l.take k) := by
    intro k
    induction k with
    | zero => exact Int.le_refl _
    | succ k ih => exact (step k ih).2
  refine ⟨nn k, fun j hj => ?_⟩
  induction j with
  | zero => obtain rfl : k = 0 := by omega
            exact Int.le_refl _
  | succ j ih =>
    by_cases e : k = j + 1
    · subst e; exact Int.le_refl _
    · exact Int.le_trans (ih (by omega)) (step j (nn j)).1
theorem octD_good (m : Nat) (hm : m < 65536) : ¬ Bad (octD m) := by
  rintro ⟨k, hk, h⟩
  have hd := octD_dig m (octD m)[k] (List.getElem_mem _)
  have e : bAt (octD m) k = ((octD m)[k].toNat : Int) := by unfold bAt; rw [List.getD_eq_getElem?_getD, List.getElem?_eq_getElem hk]; rfl
  have h2 := (ov_take_bd (octD m) (fun c hc => (octD_dig m c hc).1) (k + 1)).2 (octD m).length (by omega)
  rw [List.take_of_length_le (Nat.le_refl _), octD_ov] at h2
  rw [e] at h
  omega


set_option maxHeartbeats 400000 in
set_option maxRecDepth 100000 in
theorem pu_empty (w : World) : Calls Tryd.prog 108 #[.string ⟨#[]⟩, .int .i64 8, .int .i64 16] w fun e w' => BadEnd e ∧ w' = w := by
  go_enter Tryd.func108, Tryd.ntmps108
  go_wp2
  go_ret2
  exact ⟨⟨_, 2, .inr rfl, rfl⟩, rfl⟩

/-- What strconv.ParseUint(s, 8, 16) ends with: the number and nil; or an error. -/
def PuEnd (l : List UInt8) (e : Ending) : Prop :=
  (0 ≤ ov l ∧ ov l ≤ 65535 ∧ e = .returned (.tuple #[.int .u64 (ov l), .nilIface])) ∨ ((l = [] ∨ Bad l) ∧ ∃ y t v, e = .returned (.tuple #[.int .u64 y, .iface t v]))

set_option maxHeartbeats 1000000 in
set_option maxRecDepth 100000 in
theorem puP_any (s : ByteArray) (hmax : s.size ≤ 1099511627776) (te1 te2 : TypeId) (pe1 pe2 : Value) (w : World) (hv1 : w.cell? ⟨5, 0, none⟩ = some (.iface te1 pe1)) (hv2 : w.cell? ⟨6, 0, none⟩ = some (.iface te2 pe2)) :
    Calls Tryd.prog 101 #[.string s, .int .i64 8, .int .i64 16] w fun e w' => PuEnd s.data.toList e ∧ Below w.heap.size w w' := by
  have g1 : 5 < w.heap.size := World.block_lt_of_cell? w _ hv1
  have g2 : 6 < w.heap.size := World.block_lt_of_cell? w _ hv2
  have V1 := hide hv1
  have V2 := hide hv2
  clear hv1 hv2
  have inner : Calls Tryd.prog 108 #[.string s, .int .i64 8, .int .i64 16] w fun e w' => Below w.heap.size w w' ∧
      ((0 ≤ ov s.data.toList ∧ ov s.data.toList ≤ 65535 ∧ e = .returned (.tuple #[.int .u64 (ov s.data.toList), .nilIface])) ∨ ((s.data.toList = [] ∨ Bad s.data.toList) ∧ BadEnd e)) := by
    by_cases h0 : s.size = 0
    · have hs : s = ⟨#[]⟩ := by
        apply ByteArray.ext
        exact Array.eq_empty_of_size_eq_zero h0
      subst hs
      exact (pu_empty w).mono fun e w' ⟨he, hw⟩ => by subst hw; exact ⟨Below.refl _ _, .inr ⟨.inl rfl, he⟩⟩
    · exact (pu_any s h0 hmax w).mono fun e w' ⟨hb, h⟩ => ⟨hb, h.elim .inl fun ⟨a, b⟩ => .inr ⟨.inr a, b⟩⟩
  have HI := hide inner
  clear inner
  go_enter Tryd.func101, Tryd.ntmps101
  go_wp2_with fail
  refine (unhide HI).mono ?_
  rintro e w1 ⟨hb, h⟩
  clear HI
  have c1 := hide ((hb.cell (p := ⟨5, 0, none⟩) g1).trans (unhide V1))
  have c2 := hide ((hb.cell (p := ⟨6, 0, none⟩) g2).trans (unhide V2))
  have s1 := hb.size
  rcases h with ⟨h0, h1, he⟩ | ⟨hbad, y, c, hc, he⟩
  · subst he
    go_wp2
    go_ret2
    exact ⟨.inl ⟨h0, h1, rfl⟩, hb⟩
  · subst he
    have HB := hide hbad
    clear hbad
    rcases hc with rfl | rfl
    · go_wp2_with fail
      refine (toErr_rng _ s 8 16 te2 pe2 w1 (by omega) (unhide c2)).mono ?_
      rintro e w2 ⟨t, v, rfl, hb2⟩
      go_wp2
      go_ret2
      exact ⟨.inr ⟨unhide HB, _, _, _, rfl⟩, hb.trans (hb2.mono s1)⟩
    · go_wp2_with fail
      refine (toErr_syn _ s 8 16 te1 pe1 w1 (by omega) (unhide c1)).mono ?_
      rintro e w2 ⟨t, v, rfl, hb2⟩
      go_wp2
      go_ret2
      exact ⟨.inr ⟨unhide HB, _, _, _, rfl⟩, hb.trans (hb2.mono s1)⟩


set_option maxHeartbeats 1000000 in
theorem poI_yes (m : Nat) (hm : m < 65536) (te1 te2 : TypeId) (pe1 pe2 : Value) (w : World) (hv1 : w.cell? ⟨5, 0, none⟩ = some (.iface te1 pe1)) (hv2 : w.cell? ⟨6, 0, none⟩ = some (.iface te2 pe2)) (hg : w.cell? ⟨8, 7, none⟩ = some (.int .u8 3)) :
    Calls Tryd.prog 79 #[.string (strOf (octD m))] w fun e w' => e = .returned (.tuple #[.int .i64 m, .bool true]) ∧ Below w.heap.size w w' := by
  have g4 : 8 < w.heap.size := World.block_lt_of_cell? w _ hg
  have hlen := octD_len m 5 (by omega)
  have H := hide (puP_any (strOf (octD m)) (by rw [strOf_size]; omega) te1 te2 pe1 pe2 w hv1 hv2)
  have V := hide hg
  clear hv1 hv2 hg
  go_enter Tryd.func79, Tryd.ntmps79
  go_wp2_with fail
  refine (unhide H).mono ?_
  rintro e w1 ⟨h, hb⟩
  have c4 := hide ((hb.cell (p := ⟨8, 7, none⟩) g4).trans (unhide V))
  rw [strOf_list] at h
  have s1 := hb.size
  rcases h with ⟨h0, h1, he⟩ | ⟨hbad, _⟩
  · rw [octD_ov] at he
    subst he
    clear h0 h1 H V hlen
    go_wp2_with fail
    refine (octI_any m w1 (unhide c4)).mono ?_
    rintro e w2 ⟨he, hb2⟩
    rw [show ((m : Int) % 65536).toNat = m by omega] at he
    subst he
    go_wp2
    go_ret2
    exact ⟨rfl, hb.trans (hb2.mono s1)⟩
  · exact absurd hbad (by
      rintro (h | h)
      · exact octD_ne m h
      · exact octD_good m hm h)

set_option maxHeartbeats 1000000 in
theorem poI_no (s : ByteArray) (hs : ∀ m, m < 65536 → s ≠ strOf (octD m)) (hmax : s.size ≤ 1099511627776) (te1 te2 : TypeId) (pe1 pe2 : Value) (w : World) (hv1 : w.cell? ⟨5, 0, none⟩ = some (.iface te1 pe1)) (hv2 : w.cell? ⟨6, 0, none⟩ = some (.iface te2 pe2)) (hg : w.cell? ⟨8, 7, none⟩ = some (.int .u8 3)) :
    Calls Tryd.prog 79 #[.string s] w fun e w' => e = .returned (.tuple #[.int .i64 0, .bool false]) ∧ Below w.heap.size w w' := by
  have g4 : 8 < w.heap.size := World.block_lt_of_cell? w _ hg
  have H := hide (puP_any s hmax te1 te2 pe1 pe2 w hv1 hv2)
  have V := hide hg
  have HS := hide hs
  clear hv1 hv2 hg hs
  go_enter Tryd.func79, Tryd.ntmps79
  go_wp2_with fail
  refine (unhide H).mono ?_
  rintro e w1 ⟨h, hb⟩
  have c4 := hide ((hb.cell (p := ⟨8, 7, none⟩) g4).trans (unhide V))
  have s1 := hb.size
  rcases h with ⟨h0, h1, he⟩ | ⟨_, y, t, v, he⟩
  · subst he
    obtain ⟨x, hx⟩ := Int.eq_ofNat_of_zero_le h0
    rw [hx] at h1 ⊢
    have hne := str_ne (unhide HS x (by omega)).symm
    clear H V hx h0
    go_wp2_with fail
    refine (octI_any x w1 (unhide c4)).mono ?_
    rintro e w2 ⟨he, hb2⟩
    rw [show ((x : Int) % 65536).toNat = x by omega] at he
    subst he
    go_wp2
    go_ret2
    exact ⟨rfl, hb.trans (hb2.mono s1)⟩
  · subst he
    clear H V
    go_wp2
    go_ret2
    exact ⟨rfl, hb⟩

theorem in_yes (x a b : Int) (w : World) (h1 : a ≤ x) (h2 : x ≤ b) : Calls Tryd.prog 62 #[.int .i64 x, .int .i64 a, .int .i64 b] w fun e w' => e = .returned (.bool true) ∧ w' = w := by
  go_enter Tryd.func62, Tryd.ntmps62
  go_wp2
  go_ret
  exact ⟨rfl, rfl⟩
theorem in_no (x a b : Int) (w : World) (h : x < a ∨ b < x) : Calls Tryd.prog 62 #[.int .i64 x, .int .i64 a, .int .i64 b] w fun e w' => e = .returned (.bool false) ∧ w' = w := by
  by_cases h1 : x < a
  · clear h
    go_enter Tryd.func62, Tryd.ntmps62
    go_wp2
    go_ret
    exact ⟨rfl, rfl⟩
  · have h2 : b < x := by omega
    have h3 : a ≤ x := by omega
    have h4 : decide (x ≤ b) = false := by simp; omega
    clear h h1
    go_enter Tryd.func62, Tryd.ntmps62
    go_wp2
    go_ret
    exact ⟨rfl, rfl⟩

def Digs (l : List UInt8) (k : Nat) : Prop := ∀ j, j < k → 48 ≤ bAt l j ∧ bAt l j ≤ 55
theorem ov_lt (l : List UInt8) (k : Nat) (hk : k ≤ l.length) (h : Digs l k) : 0 ≤ ov (l.take k) ∧ ov (l.take k) + 1 ≤ ((8 ^ k : Nat) : Int) := by
  induction k with
  | zero => exact ⟨Int.le_refl _, Int.le_refl _⟩
  | succ k ih =>
    have ih := ih (by omega) (fun j hj => h j (by omega))
    have hd := h k (by omega)
    rw [ov_take l k (by omega), Nat.pow_succ]
    omega
theorem ov_six (l : List UInt8) (k : Nat) (hk : k ≤ l.length) (h6 : k ≤ 6) (h : Digs l k) : 0 ≤ ov (l.take k) ∧ ov (l.take k) ≤ 262143 := by
  have h1 := ov_lt l k hk h
  have h2 : 8 ^ k ≤ 8 ^ 6 := Nat.pow_le_pow_right (by omega) h6
  have h3 : (8 : Nat) ^ 6 = 262144 := by decide
  omega

theorem no_dig (s : ByteArray) (k : Nat) (hk : k < s.size) (h : ¬ (48 ≤ bAt s.data.toList k ∧ bAt s.data.toList k ≤ 55)) : ∀ m, m < 65536 → s ≠ strOf (octD m) := by
  intro m _ e
  rw [e, strOf_list] at h
  have hk' : k < (octD m).length := by rw [e, strOf_size] at hk; exact hk
  have hd := octD_dig m (octD m)[k] (List.getElem_mem _)
  apply h
  unfold bAt
  rw [List.getD_eq_getElem?_getD, List.getElem?_eq_getElem hk']
  simp
  omega
theorem no_ov (s : ByteArray) (h : ov s.data.toList < 0 ∨ 65535 < ov s.data.toList ∨ s ≠ strOf (octD (ov s.data.toList).toNat)) : ∀ m, m < 65536 → s ≠ strOf (octD m) := by
  intro m hm e
  have h2 : ov s.data.toList = m := by rw [e, strOf_list, octD_ov]
  rw [h2, Int.toNat_natCast] at h
  rcases h with h | h | h
  · omega
  · omega
  · exact h e

set_option maxHeartbeats 1000000 in
set_option maxRecDepth 100000 in
theorem poS_any (s : ByteArray) (hmax : s.size ≤ 1099511627776) (w : World) :
    Calls Tryd.prog 90 #[.string s] w fun e w' => Below w.heap.size w w' ∧
      ((∃ m : Nat, m < 65536 ∧ s = strOf (octD m) ∧ e = .returned (.tuple #[.int .i64 m, .bool true])) ∨ ((∀ m, m < 65536 → s ≠ strOf (octD m)) ∧ e = .returned (.tuple #[.int .i64 0, .bool false]))) := by
  by_cases h6 : s.size ≤ 6
  · go_enter Tryd.func90, Tryd.ntmps90
    go_wp2
    go_loop [4, 5] (fun n i => ∃ (k : Nat) (a : Int), n = .int .i64 a ∧ i = .int .i64 k ∧ k ≤ s.size ∧ 0 ≤ a ∧ a ≤ 262143 ∧ Hid (a = ov (s.data.toList.take k)) ∧ Hid (Digs s.data.toList k)) (fun _ i => s.size - (intOf i).toNat)
    case atStart => exact ⟨0, 0, rfl, rfl, by omega, by omega, by omega, rfl, fun j hj => by omega⟩
    case round =>
      obtain ⟨k, a, rfl, rfl, hk, a0, a1, ha, hd⟩ := hrel
      have hsl : s.data.toList.length = s.size := by simp
      by_cases hlt : k < s.size
      · have he := sAt s k hlt
        have hbd := bAt_bd s.data.toList k
        have hT := ov_take s.data.toList k (by omega)
        rw [← ha.out] at hT
        have HT := hide hT
        clear hT
        by_cases hdig : 48 ≤ bAt s.data.toList k ∧ bAt s.data.toList k ≤ 55
        · have hd' : Digs s.data.toList (k + 1) := fun j hj => by
            by_cases e : j = k
            · subst e; exact hdig
            · exact hd.out j (by omega)
          have hb := ov_six s.data.toList (k + 1) (by omega) (by omega) hd'
          rw [unhide HT] at hb
          have HD := hide hd'
          have hdig0 := hdig.1
          have hdig1 := hdig.2
          clear hd' hdig hsl
          go_wp2_with (go_at_call 62; refine (in_yes _ _ _ _ (by omega) (by omega)).mono ?_; rintro e w' ⟨rfl, hw'⟩; rw [hw']; clear hw' w')
          go_round
          case rel => exact ⟨k + 1, a * 8 + (bAt s.data.toList k - 48), by go_num, by go_num, by omega, hb.1, hb.2, (unhide HT).symm, unhide HD⟩
          case measure => simp [intOf]; omega
        · have HN := hide (no_dig s k hlt hdig)
          have hor : bAt s.data.toList k < 48 ∨ 55 < bAt s.data.toList k := by omega
          have HO := hide hor
          clear hor hdig hsl
          go_wp2_with (go_at_call 62; refine (in_no _ _ _ _ (unhide HO)).mono ?_; rintro e w' ⟨rfl, hw'⟩; rw [hw']; clear hw' w')
          go_ret2
          exact ⟨Below.refl _ _, .inr ⟨unhide HN, rfl⟩⟩
      · have hfin : a = ov s.data.toList := by rw [ha.out, List.take_of_length_le (by omega)]
        have HF := hide hfin
        clear hfin ha hd hsl
        by_cases hgt : 65535 < a
        · have HN := hide (no_ov s (.inr (.inl (by rw [← unhide HF]; exact hgt))))
          go_wp2
          go_ret2
          exact ⟨Below.refl _ _, .inr ⟨unhide HN, rfl⟩⟩
        · obtain ⟨m, rfl⟩ := Int.eq_ofNat_of_zero_le a0
          have hm : m < 65536 := by omega
          by_cases heq : s = strOf (octD m)
          · have HE := hide heq
            clear heq
            go_wp2_with fail
            refine (octS_any m w).mono ?_
            rintro e w2 ⟨he, hb2⟩
            rw [show ((m : Int) % 65536).toNat = m by omega, ← unhide HE] at he
            subst he
            go_wp2
            go_ret2
            exact ⟨hb2, .inl ⟨m, hm, unhide HE, rfl⟩⟩
          · have hne := str_ne (fun e => heq (Eq.symm e))
            have HN := hide (no_ov s (.inr (.inr (by rw [← unhide HF, Int.toNat_natCast]; exact heq))))
            clear heq
            go_wp2_with fail
            refine (octS_any m w).mono ?_
            rintro e w2 ⟨he, hb2⟩
            rw [show ((m : Int) % 65536).toNat = m by omega] at he
            subst he
            go_wp2
            go_ret2
            exact ⟨hb2, .inr ⟨unhide HN, rfl⟩⟩
  · have HN := hide (show ∀ m, m < 65536 → s ≠ strOf (octD m) from fun m hm e => by
      have h1 := octD_len m 5 (by omega)
      have h2 := strOf_size (octD m)
      rw [← e] at h2
      omega)
    have hne := str_ne (a := strOf (octD 0)) (b := s) (fun e => unhide HN 0 (by omega) e.symm)
    have h7 : decide ((s.size : Int) ≤ 6) = false := by simp; omega
    go_enter Tryd.func90, Tryd.ntmps90
    go_wp2
    go_loop [4, 5] (fun n i => n = .int .i64 0 ∧ i = .int .i64 0) (fun _ _ => 0)
    case atStart => exact ⟨rfl, rfl⟩
    case round =>
      obtain ⟨rfl, rfl⟩ := hrel
      go_wp2_with fail
      refine (octS_any 0 w).mono ?_
      rintro e w2 ⟨he, hb2⟩
      rw [show ((0 : Int) % 65536).toNat = 0 by decide] at he
      subst he
      go_wp2
      go_ret2
      exact ⟨hb2, .inr ⟨unhide HN, rfl⟩⟩
end Go.Proofs.YthgbpofcfmnpdaaDoor

namespace Go.Proofs.YthgbpofcfmnpdaaDoor
open Go.ChangeShapes Go.WideShapes Go.ChangeAt Go.RowKit
set_option linter.unusedVariables false
set_option maxRecDepth 8000

/-- The place behind the bytes that go on from a place. -/
def runN (p : Int → Bool) (l : List UInt8) (at_ : Nat) : Nat := at_ + ((l.drop at_).takeWhile (fun c => p (c.toNat : Int))).length
theorem drop_bAt {l : List UInt8} {k : Nat} (h : k < l.length) : l.drop k = (l.getD k 0) :: l.drop (k + 1) := by
  rw [List.drop_eq_getElem_cons h, List.getD_eq_getElem?_getD, List.getElem?_eq_getElem h]
  rfl
theorem runN_yes {p : Int → Bool} {l : List UInt8} {k : Nat} (h : k < l.length) (hp : p (bAt l k) = true) : runN p l k = runN p l (k + 1) := by
  unfold runN
  rw [drop_bAt h, List.takeWhile_cons]
  unfold bAt at hp
  rw [hp]
  simp only [if_true, List.length_cons]
  omega
theorem runN_no {p : Int → Bool} {l : List UInt8} {k : Nat} (h : k < l.length) (hp : p (bAt l k) = false) : runN p l k = k := by
  unfold runN
  rw [drop_bAt h, List.takeWhile_cons]
  unfold bAt at hp
  rw [hp]
  rfl
theorem runN_end {p : Int → Bool} {l : List UInt8} {k : Nat} (h : l.length ≤ k) : runN p l k = k := by
  unfold runN
  rw [List.drop_eq_nil_of_le h]
  rfl
theorem runN_le {p : Int → Bool} {l : List UInt8} {k : Nat} (h : k ≤ l.length) : k ≤ runN p l k ∧ runN p l k ≤ l.length := by
  unfold runN
  have h1 := (List.takeWhile_prefix (l := l.drop k) (fun c => p (c.toNat : Int))).length_le
  rw [List.length_drop] at h1
  omega
/-- A number's digits, read, or none. -/
def numV (x : ByteArray) : Option Nat := if (decide ((ov x.data.toList).toNat < 65536) && eqS x (strOf (octD (ov x.data.toList).toNat))) = true then some (ov x.data.toList).toNat else none
theorem numV_yes {x : ByteArray} {m : Nat} (hm : m < 65536) (hx : x = strOf (octD m)) : numV x = some m := by
  have e : (ov x.data.toList).toNat = m := by rw [hx, strOf_list, octD_ov]; exact Int.toNat_natCast m
  unfold numV
  rw [e, decide_eq_true hm, (eqS_iff _ _).2 hx]
  rfl
theorem numV_no {x : ByteArray} (h : ∀ m, m < 65536 → x ≠ strOf (octD m)) : numV x = none := by
  unfold numV
  rw [if_neg]
  intro hc
  rw [Bool.and_eq_true, decide_eq_true_eq, eqS_iff] at hc
  exact h _ hc.1 hc.2
theorem numV_bd {x : ByteArray} {m : Nat} (h : numV x = some m) : m < 65536 ∧ x = strOf (octD m) := by
  unfold numV at h
  split at h
  · rename_i hc
    rw [Bool.and_eq_true, decide_eq_true_eq, eqS_iff] at hc
    cases h
    exact hc
  · cases h
def wordT (x : ByteArray) : Tk := if keptB x = true then ⟨5, 0, x⟩ else ⟨1, 0, x⟩
/-- A number's token; n: what stands there if the digits are none. -/
def numT (bad : Tk) (x : ByteArray) : Tk := match numV x with
  | some m => ⟨2, m, ⟨#[]⟩⟩
  | none => bad
def badS : Tk := ⟨2, -1, ⟨#[]⟩⟩
def badI : Tk := ⟨0, 0, ⟨#[]⟩⟩
theorem badS_ok : badS.ok = false := by decide
theorem badI_ok : badI.ok = false := by decide
/-- The place behind the token that begins at a place. -/
def oneE (s : ByteArray) (k : Nat) : Nat :=
  if smB (bAt s.data.toList k) = true then runN ldB s.data.toList k
  else if dgB (bAt s.data.toList k) = true then runN dgB s.data.toList k
  else if (bAt s.data.toList k == 46 && (decide (k + 1 < s.size) && smB (bAt s.data.toList (k + 1)))) = true then runN ldB s.data.toList (k + 1)
  else k + 1
/-- The token that begins at a place. -/
def oneT (bad : Tk) (s : ByteArray) (k : Nat) : Tk :=
  if smB (bAt s.data.toList k) = true then wordT (s.extract k (oneE s k))
  else if dgB (bAt s.data.toList k) = true then numT bad (s.extract k (oneE s k))
  else if (bAt s.data.toList k == 46 && (decide (k + 1 < s.size) && smB (bAt s.data.toList (k + 1)))) = true then ⟨3, 0, s.extract k (oneE s k)⟩
  else ⟨4, 0, s.extract k (oneE s k)⟩
theorem ld_of_sm {c : Int} (h : smB c = true) : ldB c = true := by unfold ldB; rw [h]; rfl
theorem oneE_bd (s : ByteArray) (k : Nat) (h : k < s.size) : k < oneE s k ∧ oneE s k ≤ s.size := by
  have hl := size_len s
  have hk : k < s.data.toList.length := by omega
  unfold oneE
  split
  · rename_i h1
    rw [runN_yes hk (ld_of_sm h1)]
    have := runN_le (p := ldB) (l := s.data.toList) (k := k + 1) (by omega)
    omega
  · split
    · rename_i h1
      rw [runN_yes hk h1]
      have := runN_le (p := dgB) (l := s.data.toList) (k := k + 1) (by omega)
      omega
    · split
      · have := runN_le (p := ldB) (l := s.data.toList) (k := k + 1) (by omega)
        omega
      · omega
theorem oneT_same (a b : Tk) (ha : a.ok = false) (hb : b.ok = false) (s : ByteArray) (k : Nat) : (oneT a s k).ok = (oneT b s k).ok ∧ ((oneT b s k).ok = true → oneT a s k = oneT b s k) := by
  unfold oneT
  split
  · exact ⟨rfl, fun _ => rfl⟩
  · split
    · unfold numT
      cases numV (s.extract k (oneE s k)) with
      | some m => exact ⟨rfl, fun _ => rfl⟩
      | none => exact ⟨ha.trans hb.symm, fun h => by rw [hb] at h; cases h⟩
    · exact ⟨rfl, fun _ => rfl⟩
/-- The same, by so many steps. -/
def lexG (s : ByteArray) : Nat → Nat → List Tk → List Tk × Bool
  | 0, _, acc => (acc, true)
  | n + 1, k, acc =>
    if k < s.size then
      if bAt s.data.toList k = 59 then (acc, true)
      else if blB (bAt s.data.toList k) = true then lexG s n (k + 1) acc
      else if ((!(oneT badS s k).ok) || acc.length == 800) = true then ([], false)
      else lexG s n (oneE s k) (acc ++ [oneT badS s k])
    else (acc, true)
/-- More steps than bytes are left change nothing. -/
theorem lexG_more (s : ByteArray) : ∀ (n m k : Nat) (acc : List Tk), s.size - k ≤ n → s.size - k ≤ m → lexG s n k acc = lexG s m k acc := by
  intro n
  induction n with
  | zero =>
    intro m k acc hn hm
    have hk : ¬ k < s.size := by omega
    cases m with
    | zero => rfl
    | succ m => simp only [lexG, if_neg hk]
  | succ n ih =>
    intro m k acc hn hm
    by_cases hk : k < s.size
    · cases m with
      | zero => omega
      | succ m =>
        have := oneE_bd s k hk
        simp only [lexG]
        rw [ih m (k + 1) acc (by omega) (by omega), ih m (oneE s k) (acc ++ [oneT badS s k]) (by omega) (by omega)]
    · cases m with
      | zero => simp only [lexG, if_neg hk]
      | succ m => simp only [lexG, if_neg hk]
/-- What Lex answers, from a place on, behind so many tokens. -/
def lexR (s : ByteArray) (k : Nat) (acc : List Tk) : List Tk × Bool := lexG s (s.size - k) k acc
theorem lexR_eq (s : ByteArray) (k : Nat) (acc : List Tk) : lexR s k acc = if k < s.size then if bAt s.data.toList k = 59 then (acc, true) else if blB (bAt s.data.toList k) = true then lexR s (k + 1) acc else if ((!(oneT badS s k).ok) || acc.length == 800) = true then ([], false) else lexR s (oneE s k) (acc ++ [oneT badS s k]) else (acc, true) := by
  by_cases hk : k < s.size
  · have hb := oneE_bd s k hk
    unfold lexR
    obtain ⟨n, hn⟩ : ∃ n, s.size - k = n + 1 := ⟨s.size - k - 1, by omega⟩
    rw [hn]
    simp only [lexG]
    rw [lexG_more s n (s.size - (k + 1)) (k + 1) acc (by omega) (by omega), lexG_more s n (s.size - oneE s k) (oneE s k) (acc ++ [oneT badS s k]) (by omega) (by omega)]
  · unfold lexR
    have e : s.size - k = 0 := by omega
    rw [e, if_neg hk]
    rfl
theorem lexR_end {s : ByteArray} {k : Nat} {acc : List Tk} (h : ¬ k < s.size) : lexR s k acc = (acc, true) := by rw [lexR_eq, if_neg h]
theorem lexR_semi {s : ByteArray} {k : Nat} {acc : List Tk} (h : k < s.size) (h1 : bAt s.data.toList k = 59) : lexR s k acc = (acc, true) := by rw [lexR_eq, if_pos h, if_pos h1]
theorem lexR_blank {s : ByteArray} {k : Nat} {acc : List Tk} (h : k < s.size) (h1 : bAt s.data.toList k ≠ 59) (h2 : blB (bAt s.data.toList k) = true) : lexR s k acc = lexR s (k + 1) acc := by rw [lexR_eq, if_pos h, if_neg h1, if_pos h2]
theorem lexR_bad {s : ByteArray} {k : Nat} {acc : List Tk} (h : k < s.size) (h1 : bAt s.data.toList k ≠ 59) (h2 : blB (bAt s.data.toList k) = false) (h3 : (oneT badS s k).ok = false ∨ acc.length = 800) : lexR s k acc = ([], false) := by
  rw [lexR_eq, if_pos h, if_neg h1, if_neg (by rw [h2]; decide), if_pos]
  rcases h3 with h | h
  · rw [h]; rfl
  · rw [h]; simp
theorem lexR_next {s : ByteArray} {k : Nat} {acc : List Tk} (h : k < s.size) (h1 : bAt s.data.toList k ≠ 59) (h2 : blB (bAt s.data.toList k) = false) (h3 : (oneT badS s k).ok = true) (h4 : acc.length ≠ 800) : lexR s k acc = lexR s (oneE s k) (acc ++ [oneT badS s k]) := by
  rw [lexR_eq, if_pos h, if_neg h1, if_neg (by rw [h2]; decide), if_neg]
  rw [h3]
  simp [h4]
end Go.Proofs.YthgbpofcfmnpdaaDoor

namespace Go.Proofs.YthgbpofcfmnpdaaDoor
open Go.ChangeShapes Go.WideShapes Go.ChangeAt Go.RowKit
set_option linter.unusedVariables false
set_option maxRecDepth 8000

set_option maxHeartbeats 1000000 in
theorem tok5 (s : ByteArray) (w : World) : Calls Tryd.prog 18 #[.agg (Tk.cs ⟨5, 0, s⟩)] w fun e w' => e = .returned (.bool (keptB s)) ∧ Below w.heap.size w w' := by
  have hB := hide (below_new w (.cells (Tk.cs ⟨5, 0, s⟩) 31))
  obtain ⟨c0, c1, c2⟩ := box3 w ⟨5, 0, s⟩ 31
  simp only at c0 c1 c2
  have HZ := hide (show w.heap.size < (w.alloc (.cells (Tk.cs ⟨5, 0, s⟩) 31)).heap.size by simp)
  generalize Tk.cs ⟨5, 0, s⟩ = cc at *
  have HY := hide (fun h => atV_yes (L := keptL) (s := s) h)
  have HNo := hide (fun h => atV_no (L := keptL) (s := s) h)
  have HA := hide (fun g w1 (hr : RdS w1 g keptL) => at_any keptL s g 31 31 w1 rfl (by omega) hr)
  unfold keptB
  generalize hasS keptL s = q at *
  generalize atV keptL s = v at *
  have E := hide (show (decide (0 ≤ v)) = q by
    cases q
    · rw [unhide HNo rfl]; rfl
    · have := unhide HY rfl
      simp
      omega)
  clear HY HNo
  go_enter Tryd.func18, Tryd.ntmps18
  go_wp2
  generalize w.alloc (Obj.cells cc 31) = W at *
  have c2d : W.drew.cell? ⟨w.heap.size, 2, none⟩ = some (.string s) := c2
  have C2 := hide (fun w1 (hb : Below W.drew.heap.size W.drew w1) => (hb.cell (p := ⟨w.heap.size, 2, none⟩) (unhide HZ)).trans c2d)
  have BB := hide (fun w1 (hb : Below W.drew.heap.size W.drew w1) => ((unhide hB).drew).trans (hb.mono (Nat.le_of_lt (unhide HZ))))
  clear c0 c1
  go_region_with (first | (go_at_call 67; refine (kept_any _).mono ?_; rintro e w1 ⟨rfl, hr1, hb1⟩; have c2e := unhide C2 w1 hb1; have B1 := hide (unhide BB w1 hb1); have R1 := hide hr1; clear hr1 hb1) | (go_at_call 66; refine (unhide HA _ _ (unhide R1)).mono ?_; rintro e w' ⟨rfl, hw'⟩; rw [hw']; clear hw' w'))
  all_goals
    go_wp2
    go_ret
    exact ⟨by rw [← unhide E]; rfl, unhide B1⟩
end Go.Proofs.YthgbpofcfmnpdaaDoor

namespace Go.Proofs.YthgbpofcfmnpdaaDoor
open Go.ChangeShapes Go.WideShapes Go.ChangeAt Go.RowKit
set_option linter.unusedVariables false
set_option maxRecDepth 8000

set_option maxHeartbeats 2000000 in
theorem tokS_any (t : Tk) (w : World) (hmax : t.s.size ≤ 1099511627776) : Calls Tryd.prog 18 #[t.v] w fun e w' => e = .returned (.bool t.ok) ∧ Below w.heap.size w w' := by
  have hB := hide (below_new w (.cells t.cs 31))
  obtain ⟨c0, c1, c2⟩ := box3 w t 31
  unfold Tk.v Tk.ok
  obtain ⟨k, n, s⟩ := t
  simp only at hmax c0 c1 c2 ⊢
  have HW := hide (fun w => in_any n 0 65535 w)
  have HN := hide (nameS_any s (w.alloc (.cells (Tk.cs ⟨k, n, s⟩) 31)) hmax)
  have HM := hide (fun w => mkrS_any s w)
  have T5 := hide (show k = 5 → n = 0 → Calls Tryd.prog 18 #[.agg (Tk.cs ⟨k, n, s⟩)] w fun e w' => e = .returned (.bool (keptB s)) ∧ Below w.heap.size w w' from by rintro rfl rfl; exact tok5 s w)
  generalize Tk.cs ⟨k, n, s⟩ = cc at *
  by_cases h2 : k = 2
  · subst h2
    rw [if_pos (by decide)]
    generalize inB n 0 65535 = q at *
    cases q
    · go_enter Tryd.func18, Tryd.ntmps18
      go_wp2_with (go_at_call 62; refine (unhide HW _).mono ?_; rintro e w' ⟨rfl, rfl⟩)
      go_ret
      exact ⟨rfl, unhide hB⟩
    · by_cases hz : s.size = 0
      · have he := emp_yes s hz
        rw [decide_eq_true hz]
        go_enter Tryd.func18, Tryd.ntmps18
        go_wp2_with (go_at_call 62; refine (unhide HW _).mono ?_; rintro e w' ⟨rfl, rfl⟩)
        go_ret
        exact ⟨rfl, unhide hB⟩
      · have he := emp_no s hz
        rw [decide_eq_false hz]
        go_enter Tryd.func18, Tryd.ntmps18
        go_wp2_with (go_at_call 62; refine (unhide HW _).mono ?_; rintro e w' ⟨rfl, rfl⟩)
        go_ret
        exact ⟨rfl, unhide hB⟩
  · have h2b : (k == 2) = false := beq_eq_false_iff_ne.2 h2
    rw [h2b, if_neg (by decide)]
    by_cases hn : n = 0
    · subst hn
      rw [if_neg (by decide)]
      by_cases h1 : k = 1
      · subst h1
        rw [if_pos (by decide)]
        generalize nameB s = q at *
        clear HW HM
        go_enter Tryd.func18, Tryd.ntmps18
        go_wp2_with (go_at_call 63; refine (unhide HN).mono ?_; rintro e w1 ⟨rfl, hb1⟩)
        go_ret
        exact ⟨rfl, (unhide hB).trans (hb1.mono (by simp))⟩
      · have h1b : (k == 1) = false := beq_eq_false_iff_ne.2 h1
        rw [h1b, if_neg (by decide)]
        by_cases h3 : k = 3
        · subst h3
          rw [if_pos (by decide)]
          clear HW HM HN
          by_cases hz1 : s.size ≤ 1
          · have hgt : decide ((1 : Int) < (s.size : Int)) = false := by simp; omega
            have E := hide (show dotB s.data.toList = false by
              by_cases hz : s.size = 0
              · rw [empty_of s hz]; rfl
              · rw [head_of s hz, dotB_cons]
                have : formB (s.data.toList.drop 1) = false := by
                  rw [List.drop_eq_nil_of_le (by rw [size_len]; omega)]; rfl
                rw [this, Bool.and_false])
            rw [unhide E]
            go_enter Tryd.func18, Tryd.ntmps18
            go_wp2
            go_ret
            exact ⟨rfl, unhide hB⟩
          · have hgt : (1 : Int) < (s.size : Int) := by omega
            have h0 : s.size ≠ 0 := by omega
            have he := sAt s 0 (by omega)
            have HF := hide (fun w => formS_any (s.extract 1 s.size) w (by rw [rest_size]; omega))
            have E := hide (show dotB s.data.toList = (bAt s.data.toList 0 == 46 && formB (s.extract 1 s.size).data.toList) by
              rw [rest_of]
              conv => lhs; rw [head_of s h0]
              rw [dotB_cons]
              congr 1
              rw [Bool.eq_iff_iff, beq_iff_eq, beq_iff_eq]
              unfold bAt
              constructor
              · intro e; rw [e]; rfl
              · intro e
                apply UInt8.toNat_inj.1
                show _ = 46
                omega)
            rw [unhide E]
            generalize formB (s.extract 1 s.size).data.toList = q at *
            generalize bAt s.data.toList 0 = c at *
            clear E
            cases hc : (c == 46)
            · go_enter Tryd.func18, Tryd.ntmps18
              go_wp2
              go_ret
              exact ⟨rfl, unhide hB⟩
            · go_enter Tryd.func18, Tryd.ntmps18
              go_wp2_with (go_at_call 64; refine (unhide HF _).mono ?_; rintro e w' ⟨rfl, rfl⟩)
              go_ret
              exact ⟨rfl, unhide hB⟩
        · have h3b : (k == 3) = false := beq_eq_false_iff_ne.2 h3
          rw [h3b, if_neg (by decide)]
          by_cases h4 : k = 4
          · subst h4
            rw [if_pos (by decide)]
            generalize markB s.data.toList = q at *
            clear HW HN
            go_enter Tryd.func18, Tryd.ntmps18
            go_wp2_with (go_at_call 65; refine (unhide HM _).mono ?_; rintro e w' ⟨rfl, rfl⟩)
            go_ret
            exact ⟨rfl, unhide hB⟩
          · have h4b : (k == 4) = false := beq_eq_false_iff_ne.2 h4
            rw [h4b, if_neg (by decide)]
            by_cases h5 : k = 5
            · subst h5
              rw [if_pos (by decide)]
              exact unhide T5 rfl rfl
            · have h5b : (k == 5) = false := beq_eq_false_iff_ne.2 h5
              rw [h5b, if_neg (by decide)]
              clear HW HN HM
              go_enter Tryd.func18, Tryd.ntmps18
              go_wp2
              go_ret
              exact ⟨rfl, unhide hB⟩
    · have hnb : (n != 0) = true := by simp [hn]
      rw [hnb, if_pos (by decide)]
      clear HW HN HM
      go_enter Tryd.func18, Tryd.ntmps18
      go_wp2
      go_ret
      exact ⟨rfl, unhide hB⟩
end Go.Proofs.YthgbpofcfmnpdaaDoor

namespace Go.Proofs.YthgbpofcfmnpdaaDoor
open Go.ChangeShapes Go.WideShapes Go.ChangeAt Go.RowKit
set_option linter.unusedVariables false
set_option maxRecDepth 8000

theorem results_row2 {P : Program} {fn : Func} {p u : Tmp} {ty : TypeId} (h : fn.results = #[.cell p ty, .tmp u]) (tmps : Array Value) (w : World) (g : Nat) (t : TypeId) (cs : Array Value) (fr : Nat × Nat) (d : TypeDesc)
    (hp : tmps.getD p undef = .pointer (some ⟨g, 0, none⟩)) (hg : w.heap[g]? = some (.cells cs t fr))
    (hu : P.underlying ty = some d) (hd : (match d with | .struct _ | .array _ _ => true | _ => false) = true) (hi : (P.info? ty).map (·.size) = some cs.size) :
    (results fn tmps).run P w = .ok (.tuple #[.agg cs, tmps.getD u undef]) w := by
  have hp' : tmps[p]?.getD undef = .pointer (some ⟨g, 0, none⟩) := by simpa using hp
  simp [results, h, hp', asAddr, run_loadVar_row w g t ty cs fr d hg hu hd hi]
theorem szK : (Tryd.prog.info? 31).map (·.size) = some 3 := by kernel_rfl
theorem tk_one (k n : Int) (x : ByteArray) : (#[Value.int .i64 k, .int .i64 n, .string x] : Array Value).all (·.oneCell') = true := by simp [Value.oneCell']
def T0c : Array Value := #[.int .i64 0, .int .i64 0, .string ⟨#[]⟩]
set_option maxHeartbeats 1000000 in
theorem runS_any (letters : Bool) (s : ByteArray) (k : Nat) (w : World) (hz : s.size ≤ 1099511627776) (hk : k ≤ s.size) : Calls Tryd.prog 87 #[.string s, .int .i64 k, .bool letters] w fun e w' => e = .returned (.int .i64 (runN (if letters then ldB else dgB) s.data.toList k : Nat)) ∧ w' = w := by
  have hl := size_len s
  obtain ⟨p, hp⟩ : ∃ p : Int → Bool, (if letters then ldB else dgB) = p := ⟨_, rfl⟩
  have PP := hide (show ∀ c, p c = (dgB c || (letters && smB c)) from fun c => by
    rw [← hp]
    cases letters
    · simp
    · show ldB c = _
      unfold ldB
      rw [Bool.true_and, Bool.or_comm])
  rw [hp]
  clear hp
  obtain ⟨R, hR⟩ : ∃ R, runN p s.data.toList k = R := ⟨_, rfl⟩
  have HR := hide hR
  rw [hR]
  clear hR
  go_enter Tryd.func87, Tryd.ntmps87
  go_wp2
  go_loop [1] (fun i => ∃ j : Nat, i = .int .i64 j ∧ j ≤ s.size ∧ Hid (runN p s.data.toList j = R)) (fun i => s.size - (intOf i).toNat)
  case atStart => exact ⟨k, rfl, hk, unhide HR⟩
  case round =>
    clear HR
    obtain ⟨j, rfl, hj, hd⟩ := hrel
    by_cases hlt : j < s.size
    · have he := sAt s j hlt
      have hbd := bAt_bd s.data.toList j
      have Y := hide (fun h => (runN_yes (p := p) (l := s.data.toList) (k := j) (by omega) h).symm.trans hd.out)
      have N := hide (fun h => (runN_no (p := p) (l := s.data.toList) (k := j) (by omega) h).symm.trans hd.out)
      have S1 := hide (fun w => smS_any (bAt s.data.toList j) w hbd.1 hbd.2)
      have D1 := hide (fun w => dgS_any (bAt s.data.toList j) w hbd.1 hbd.2)
      rw [unhide PP] at Y N
      generalize smB (bAt s.data.toList j) = a at S1 Y N
      generalize dgB (bAt s.data.toList j) = b at D1 Y N
      generalize bAt s.data.toList j = c at he hbd S1 D1
      clear hd PP
      cases b
      · cases letters
        · have E := hide (unhide N rfl)
          clear Y N
          go_wp2_with (first | (go_at_call 86; refine (unhide S1 _).mono ?_; rintro e w' ⟨rfl, rfl⟩) | (go_at_call 89; refine (unhide D1 _).mono ?_; rintro e w' ⟨rfl, rfl⟩))
          go_ret
          exact ⟨by rw [← unhide E]; rfl, rfl⟩
        · cases a
          · have E := hide (unhide N rfl)
            clear Y N
            go_wp2_with (first | (go_at_call 86; refine (unhide S1 _).mono ?_; rintro e w' ⟨rfl, rfl⟩) | (go_at_call 89; refine (unhide D1 _).mono ?_; rintro e w' ⟨rfl, rfl⟩))
            go_ret
            exact ⟨by rw [← unhide E]; rfl, rfl⟩
          · have E := hide (unhide Y rfl)
            clear Y N
            go_wp2_with (first | (go_at_call 86; refine (unhide S1 _).mono ?_; rintro e w' ⟨rfl, rfl⟩) | (go_at_call 89; refine (unhide D1 _).mono ?_; rintro e w' ⟨rfl, rfl⟩))
            go_round
            case rel => exact ⟨j + 1, by go_num, by omega, unhide E⟩
            case measure => simp [intOf]; omega
      · have E := hide (unhide Y rfl)
        clear Y N
        go_wp2_with (first | (go_at_call 86; refine (unhide S1 _).mono ?_; rintro e w' ⟨rfl, rfl⟩) | (go_at_call 89; refine (unhide D1 _).mono ?_; rintro e w' ⟨rfl, rfl⟩))
        go_round
        case rel => exact ⟨j + 1, by go_num, by omega, unhide E⟩
        case measure => simp [intOf]; omega
    · have E := hide ((runN_end (p := p) (l := s.data.toList) (k := j) (by omega)).symm.trans hd.out)
      clear hd
      go_wp2
      go_ret
      exact ⟨by rw [← unhide E]; rfl, rfl⟩
theorem wordT_v (x : ByteArray) : (keptB x = true → wordT x = ⟨5, 0, x⟩) ∧ (keptB x = false → wordT x = ⟨1, 0, x⟩) := by
  unfold wordT
  constructor
  · intro h; rw [h]; rfl
  · intro h; rw [h]; rfl
set_option maxHeartbeats 1000000 in
theorem wordS_any (x : ByteArray) (w : World) : Calls Tryd.prog 88 #[.string x] w fun e w' => e = .returned (wordT x).v ∧ Below w.heap.size w w' := by
  have HY := hide (fun h => atV_yes (L := keptL) (s := x) h)
  have HN := hide (fun h => atV_no (L := keptL) (s := x) h)
  have HA := hide (fun g w1 (hr : RdS w1 g keptL) => at_any keptL x g 31 31 w1 rfl (by omega) hr)
  have WT := hide (wordT_v x)
  have HK := hide kept_any
  have B0 := hide (below_new w (.cells T0c 31))
  have R0 := hide (heap_alloc_new w (.cells T0c 31))
  have Z0 := hide (show w.heap.size ≤ (w.alloc (.cells T0c 31)).heap.size by simp)
  unfold keptB at WT
  unfold T0c at B0 R0 Z0
  generalize hasS keptL x = q at *
  generalize atV keptL x = v at *
  cases q
  · have hv := unhide HN rfl
    have W1 := hide ((unhide WT).2 rfl)
    rw [unhide W1]
    unfold Tk.v Tk.cs
    simp only
    clear WT HY HN
    go_enter Tryd.func88, Tryd.ntmps88
    go_wp2_with fail
    generalize w.alloc (Obj.cells #[.int .i64 0, .int .i64 0, .string ⟨#[]⟩] 31) = W at *
    refine (unhide HK W).mono ?_
    rintro e w1 ⟨rfl, hr1, hb1⟩
    have R1 := hide ((hb1.block _ (Array.getElem?_eq_some_iff.1 (unhide R0)).1).trans (unhide R0))
    have B1 := hide ((unhide B0).trans (hb1.mono (unhide Z0)))
    have A1 := hide (unhide HA _ _ hr1)
    clear hr1 hb1 HK HA
    go_wp2_with (first | (go_at_call 66; refine (unhide A1).mono ?_; rintro e w' ⟨rfl, rfl⟩) | (refine wpList_store_row rfl 31 _ _ rfl w.heap.size #[.int .i64 1, .int .i64 0, .string x] rfl rfl 31 _ (unhide R1) szK rfl (tk_one _ _ _) ?_))
    refine bodyPost_ret (results_cell_row (P := Tryd.prog) rfl _ _ w.heap.size 31 #[.int .i64 1, .int .i64 0, .string x] (0, 0) _ rfl (setRow_heap _ _ _ _ _ _ (unhide R1)) Tryd.underlying31 rfl szK) rfl ?_
    exact ⟨rfl, (unhide B1).trans ⟨rfl, rfl, rfl, by simp [World.setRow], fun k hk => setRow_other _ _ _ _ (by omega)⟩⟩
  · have hv := unhide HY rfl
    have W1 := hide ((unhide WT).1 rfl)
    rw [unhide W1]
    unfold Tk.v Tk.cs
    simp only
    clear WT HY HN
    go_enter Tryd.func88, Tryd.ntmps88
    go_wp2_with fail
    generalize w.alloc (Obj.cells #[.int .i64 0, .int .i64 0, .string ⟨#[]⟩] 31) = W at *
    refine (unhide HK W).mono ?_
    rintro e w1 ⟨rfl, hr1, hb1⟩
    have R1 := hide ((hb1.block _ (Array.getElem?_eq_some_iff.1 (unhide R0)).1).trans (unhide R0))
    have B1 := hide ((unhide B0).trans (hb1.mono (unhide Z0)))
    have A1 := hide (unhide HA _ _ hr1)
    clear hr1 hb1 HK HA
    go_wp2_with (first | (go_at_call 66; refine (unhide A1).mono ?_; rintro e w' ⟨rfl, rfl⟩) | (refine wpList_store_row rfl 31 _ _ rfl w.heap.size #[.int .i64 5, .int .i64 0, .string x] rfl rfl 31 _ (unhide R1) szK rfl (tk_one _ _ _) ?_))
    refine bodyPost_ret (results_cell_row (P := Tryd.prog) rfl _ _ w.heap.size 31 #[.int .i64 5, .int .i64 0, .string x] (0, 0) _ rfl (setRow_heap _ _ _ _ _ _ (unhide R1)) Tryd.underlying31 rfl szK) rfl ?_
    exact ⟨rfl, (unhide B1).trans ⟨rfl, rfl, rfl, by simp [World.setRow], fun k hk => setRow_other _ _ _ _ (by omega)⟩⟩
end Go.Proofs.YthgbpofcfmnpdaaDoor

namespace Go.Proofs.YthgbpofcfmnpdaaDoor
open Go.ChangeShapes Go.WideShapes Go.ChangeAt Go.RowKit
set_option linter.unusedVariables false
set_option maxRecDepth 8000

theorem below_row {w w' : World} {cs : Array Value} (h : Below w.heap.size w w') : Below w.heap.size w (w'.setRow w.heap.size cs) :=
  h.trans ⟨rfl, rfl, rfl, by simp [World.setRow], fun k hk => setRow_other _ _ _ _ (by omega)⟩
theorem extract_size (s : ByteArray) (a b : Nat) : (s.extract a b).size ≤ s.size := by
  rw [ByteArray.size_extract]
  omega
theorem numT_some {bad : Tk} {x : ByteArray} {m : Nat} (hm : m < 65536) (hx : x = strOf (octD m)) : numT bad x = ⟨2, m, ⟨#[]⟩⟩ := by unfold numT; rw [numV_yes hm hx]
theorem numT_none {bad : Tk} {x : ByteArray} (h : ∀ m, m < 65536 → x ≠ strOf (octD m)) : numT bad x = bad := by unfold numT; rw [numV_no h]
theorem one_sm {s : ByteArray} {k : Nat} (bad : Tk) (h1 : smB (bAt s.data.toList k) = true) : oneE s k = runN ldB s.data.toList k ∧ oneT bad s k = wordT (s.extract k (oneE s k)) := by
  constructor
  · unfold oneE; rw [if_pos h1]
  · unfold oneT; rw [if_pos h1]
theorem one_dg {s : ByteArray} {k : Nat} (bad : Tk) (h1 : smB (bAt s.data.toList k) = false) (h2 : dgB (bAt s.data.toList k) = true) : oneE s k = runN dgB s.data.toList k ∧ oneT bad s k = numT bad (s.extract k (oneE s k)) := by
  have n1 : ¬ smB (bAt s.data.toList k) = true := by rw [h1]; decide
  constructor
  · unfold oneE; rw [if_neg n1, if_pos h2]
  · unfold oneT; rw [if_neg n1, if_pos h2]
theorem one_dot {s : ByteArray} {k : Nat} (bad : Tk) (h1 : smB (bAt s.data.toList k) = false) (h2 : dgB (bAt s.data.toList k) = false) (h3 : bAt s.data.toList k = 46) (h4 : k + 1 < s.size) (h5 : smB (bAt s.data.toList (k + 1)) = true) : oneE s k = runN ldB s.data.toList (k + 1) ∧ oneT bad s k = ⟨3, 0, s.extract k (oneE s k)⟩ := by
  have n1 : ¬ smB (bAt s.data.toList k) = true := by rw [h1]; decide
  have n2 : ¬ dgB (bAt s.data.toList k) = true := by rw [h2]; decide
  have n3 : (bAt s.data.toList k == 46 && (decide (k + 1 < s.size) && smB (bAt s.data.toList (k + 1)))) = true := by rw [h3, h5, decide_eq_true h4]; rfl
  constructor
  · unfold oneE; rw [if_neg n1, if_neg n2, if_pos n3]
  · unfold oneT; rw [if_neg n1, if_neg n2, if_pos n3]
theorem one_mk {s : ByteArray} {k : Nat} (bad : Tk) (h1 : smB (bAt s.data.toList k) = false) (h2 : dgB (bAt s.data.toList k) = false) (h3 : bAt s.data.toList k = 46 → k + 1 < s.size → smB (bAt s.data.toList (k + 1)) = false) : oneE s k = k + 1 ∧ oneT bad s k = ⟨4, 0, s.extract k (k + 1)⟩ := by
  have n1 : ¬ smB (bAt s.data.toList k) = true := by rw [h1]; decide
  have n2 : ¬ dgB (bAt s.data.toList k) = true := by rw [h2]; decide
  have n3 : ¬ (bAt s.data.toList k == 46 && (decide (k + 1 < s.size) && smB (bAt s.data.toList (k + 1)))) = true := by
    intro h
    rw [Bool.and_eq_true, Bool.and_eq_true, beq_iff_eq, decide_eq_true_eq] at h
    rw [h3 h.1 h.2.1] at h
    exact absurd h.2.2 (by decide)
  have e : oneE s k = k + 1 := by unfold oneE; rw [if_neg n1, if_neg n2, if_neg n3]
  refine ⟨e, ?_⟩
  unfold oneT
  rw [if_neg n1, if_neg n2, if_neg n3, e]
set_option maxHeartbeats 2000000 in
theorem oneS_any (s : ByteArray) (k : Nat) (w : World) (hz : s.size ≤ 1048576) (hk : k < s.size) : Calls Tryd.prog 53 #[.string s, .int .i64 k] w fun e w' => e = .returned (.tuple #[(oneT badS s k).v, .int .i64 (oneE s k : Nat)]) ∧ Below w.heap.size w w' := by
  have hl := size_len s
  have he := sAt s k hk
  have hbd := bAt_bd s.data.toList k
  have HE := hide (oneE_bd s k hk)
  have B0 := hide (below_new w (.cells T0c 31))
  have R0 := hide (heap_alloc_new w (.cells T0c 31))
  have Z0 := hide (show w.heap.size ≤ (w.alloc (.cells T0c 31)).heap.size by simp)
  unfold T0c at B0 R0 Z0
  have S1 := hide (fun w => smS_any (bAt s.data.toList k) w hbd.1 hbd.2)
  have D1 := hide (fun w => dgS_any (bAt s.data.toList k) w hbd.1 hbd.2)
  cases h1 : smB (bAt s.data.toList k)
  · cases h2 : dgB (bAt s.data.toList k)
    · by_cases h46 : bAt s.data.toList k = 46
      · by_cases hk1 : k + 1 < s.size
        · have he1 := sAt s (k + 1) hk1
          have hbd1 := bAt_bd s.data.toList (k + 1)
          have S2 := hide (fun w => smS_any (bAt s.data.toList (k + 1)) w hbd1.1 hbd1.2)
          cases h3 : smB (bAt s.data.toList (k + 1))
          · obtain ⟨e1, e2⟩ := one_mk badS h1 h2 (fun _ _ => h3)
            rw [e1, e2]
            rw [h2] at D1
            rw [h46] at he D1 h1
            clear S1 S2
            unfold Tk.v Tk.cs
            simp only
            generalize bAt s.data.toList (k + 1) = c1 at *
            clear e1 e2 h2 h46 hbd HE
            go_enter Tryd.func53, Tryd.ntmps53
            go_wp2_with (first | (go_at_call 86; refine (smS_any _ _ (by omega) (by omega)).mono ?_; rintro e w' ⟨rfl, rfl⟩) | (go_at_call 89; refine (unhide D1 _).mono ?_; rintro e w' ⟨rfl, rfl⟩) | (refine wpList_store_row rfl 31 _ _ rfl w.heap.size #[.int .i64 4, .int .i64 0, .string (s.extract k (k + 1))] rfl rfl 31 _ (unhide R0) szK rfl (tk_one _ _ _) ?_))
            refine bodyPost_ret (results_row2 (P := Tryd.prog) rfl _ _ w.heap.size 31 #[.int .i64 4, .int .i64 0, .string (s.extract k (k + 1))] (0, 0) _ rfl (setRow_heap _ _ _ _ _ _ (unhide R0)) Tryd.underlying31 rfl szK) rfl ?_
            exact ⟨rfl, below_row (unhide B0)⟩
          · obtain ⟨e1, e2⟩ := one_dot badS h1 h2 h46 hk1 h3
            have HE2 := hide (show k < oneE s k ∧ oneE s k ≤ s.size from unhide HE)
            have RN := hide (fun w => runS_any true s (k + 1) w (by omega) (by omega))
            have RN2 := hide (show ∀ w : World, Calls Tryd.prog 87 #[.string s, .int .i64 ((k + 1 : Nat) : Int), .bool true] w fun e w' => e = .returned (.int .i64 (oneE s k : Nat)) ∧ w' = w from fun w => by rw [e1]; exact unhide RN w)
            rw [e2]
            rw [h2] at D1
            rw [h46] at he D1 h1
            clear S1 S2
            unfold Tk.v Tk.cs
            simp only
            generalize oneE s k = E at *
            obtain ⟨b1, b2⟩ := unhide HE2
            generalize bAt s.data.toList (k + 1) = c1 at *
            clear e1 e2 h2 h46 hbd HE RN HE2
            go_enter Tryd.func53, Tryd.ntmps53
            go_wp2_with (first | (go_at_call 86; refine (smS_any _ _ (by omega) (by omega)).mono ?_; rintro e w' ⟨rfl, rfl⟩) | (go_at_call 89; refine (unhide D1 _).mono ?_; rintro e w' ⟨rfl, rfl⟩) | (go_at_call 87; refine (unhide RN2 _).mono ?_; rintro e w' ⟨rfl, rfl⟩) | (refine wpList_store_row rfl 31 _ _ rfl w.heap.size #[.int .i64 3, .int .i64 0, .string (s.extract k E)] rfl rfl 31 _ (unhide R0) szK rfl (tk_one _ _ _) ?_))
            refine bodyPost_ret (results_row2 (P := Tryd.prog) rfl _ _ w.heap.size 31 #[.int .i64 3, .int .i64 0, .string (s.extract k E)] (0, 0) _ rfl (setRow_heap _ _ _ _ _ _ (unhide R0)) Tryd.underlying31 rfl szK) rfl ?_
            exact ⟨rfl, below_row (unhide B0)⟩
        · obtain ⟨e1, e2⟩ := one_mk badS h1 h2 (fun _ h => absurd h hk1)
          have hk1d : decide ((k : Int) + 1 < (s.size : Int)) = false := by simp; omega
          rw [e1, e2]
          rw [h1] at S1
          rw [h2] at D1
          rw [h46] at he S1 D1
          unfold Tk.v Tk.cs
          simp only
          clear e1 e2 h1 h2 h46 hbd HE
          go_enter Tryd.func53, Tryd.ntmps53
          go_wp2_with (first | (go_at_call 86; refine (unhide S1 _).mono ?_; rintro e w' ⟨rfl, rfl⟩) | (go_at_call 89; refine (unhide D1 _).mono ?_; rintro e w' ⟨rfl, rfl⟩) | (refine wpList_store_row rfl 31 _ _ rfl w.heap.size #[.int .i64 4, .int .i64 0, .string (s.extract k (k + 1))] rfl rfl 31 _ (unhide R0) szK rfl (tk_one _ _ _) ?_))
          refine bodyPost_ret (results_row2 (P := Tryd.prog) rfl _ _ w.heap.size 31 #[.int .i64 4, .int .i64 0, .string (s.extract k (k + 1))] (0, 0) _ rfl (setRow_heap _ _ _ _ _ _ (unhide R0)) Tryd.underlying31 rfl szK) rfl ?_
          exact ⟨rfl, below_row (unhide B0)⟩
      · obtain ⟨e1, e2⟩ := one_mk badS h1 h2 (fun h => absurd h h46)
        rw [e1, e2]
        rw [h1] at S1
        rw [h2] at D1
        unfold Tk.v Tk.cs
        simp only
        generalize bAt s.data.toList k = c at *
        clear e1 e2 h1 h2 HE
        go_enter Tryd.func53, Tryd.ntmps53
        go_wp2_with (first | (go_at_call 86; refine (unhide S1 _).mono ?_; rintro e w' ⟨rfl, rfl⟩) | (go_at_call 89; refine (unhide D1 _).mono ?_; rintro e w' ⟨rfl, rfl⟩) | (refine wpList_store_row rfl 31 _ _ rfl w.heap.size #[.int .i64 4, .int .i64 0, .string (s.extract k (k + 1))] rfl rfl 31 _ (unhide R0) szK rfl (tk_one _ _ _) ?_))
        refine bodyPost_ret (results_row2 (P := Tryd.prog) rfl _ _ w.heap.size 31 #[.int .i64 4, .int .i64 0, .string (s.extract k (k + 1))] (0, 0) _ rfl (setRow_heap _ _ _ _ _ _ (unhide R0)) Tryd.underlying31 rfl szK) rfl ?_
        exact ⟨rfl, below_row (unhide B0)⟩
    · obtain ⟨e1, e2⟩ := one_dg badS h1 h2
      have RN := hide (show ∀ w : World, Calls Tryd.prog 87 #[.string s, .int .i64 (k : Int), .bool false] w fun e w' => e = .returned (.int .i64 (oneE s k : Nat)) ∧ w' = w from fun w => by rw [e1]; exact runS_any false s k w (by omega) (by omega))
      rw [e2]
      rw [h1] at S1
      rw [h2] at D1
      generalize oneE s k = E at *
      obtain ⟨b1, b2⟩ := unhide HE
      generalize bAt s.data.toList k = c at *
      have PO := hide (fun w => poS_any (s.extract k E) (by have := extract_size s k E; omega) w)
      have NS := hide (fun m hm hx => numT_some (bad := badS) (x := s.extract k E) (m := m) hm hx)
      have NN := hide (fun h => numT_none (bad := badS) (x := s.extract k E) h)
      generalize numT badS (s.extract k E) = T at *
      clear e1 e2 h1 h2 HE
      go_enter Tryd.func53, Tryd.ntmps53
      go_wp2_with (first | (go_at_call 86; refine (unhide S1 _).mono ?_; rintro e w' ⟨rfl, rfl⟩) | (go_at_call 89; refine (unhide D1 _).mono ?_; rintro e w' ⟨rfl, rfl⟩) | (go_at_call 87; refine (unhide RN _).mono ?_; rintro e w' ⟨rfl, rfl⟩))
      generalize w.alloc (Obj.cells #[.int .i64 0, .int .i64 0, .string ⟨#[]⟩] 31) = W at *
      refine (unhide PO _).mono ?_
      rintro e w1 ⟨hb1, h⟩
      have R1 := hide ((hb1.block _ (Array.getElem?_eq_some_iff.1 (unhide R0)).1).trans (unhide R0))
      have B1 := hide ((unhide B0).trans (hb1.mono (unhide Z0)))
      clear hb1
      rcases h with ⟨m, hm, hx, rfl⟩ | ⟨hno, rfl⟩
      · have ET := hide (unhide NS m hm hx)
        clear hx NS NN PO
        go_wp2_with (first | (refine wpList_store_row rfl 31 _ _ rfl w.heap.size #[.int .i64 2, .int .i64 m, .string ⟨#[]⟩] rfl rfl 31 _ (unhide R1) szK rfl (tk_one _ _ _) ?_))
        refine bodyPost_ret (results_row2 (P := Tryd.prog) rfl _ _ w.heap.size 31 #[.int .i64 2, .int .i64 m, .string ⟨#[]⟩] (0, 0) _ rfl (setRow_heap _ _ _ _ _ _ (unhide R1)) Tryd.underlying31 rfl szK) rfl ?_
        exact ⟨by rw [unhide ET]; rfl, below_row (unhide B1)⟩
      · have ET := hide (unhide NN hno)
        clear hno NS NN PO
        go_wp2_with (first | (refine wpList_store_row rfl 31 _ _ rfl w.heap.size #[.int .i64 2, .int .i64 (-1), .string ⟨#[]⟩] rfl rfl 31 _ (unhide R1) szK rfl (tk_one _ _ _) ?_))
        refine bodyPost_ret (results_row2 (P := Tryd.prog) rfl _ _ w.heap.size 31 #[.int .i64 2, .int .i64 (-1), .string ⟨#[]⟩] (0, 0) _ rfl (setRow_heap _ _ _ _ _ _ (unhide R1)) Tryd.underlying31 rfl szK) rfl ?_
        exact ⟨by rw [unhide ET]; rfl, below_row (unhide B1)⟩
  · obtain ⟨e1, e2⟩ := one_sm badS h1
    have RN := hide (show ∀ w : World, Calls Tryd.prog 87 #[.string s, .int .i64 (k : Int), .bool true] w fun e w' => e = .returned (.int .i64 (oneE s k : Nat)) ∧ w' = w from fun w => by rw [e1]; exact runS_any true s k w (by omega) (by omega))
    rw [e2]
    rw [h1] at S1
    generalize oneE s k = E at *
    obtain ⟨b1, b2⟩ := unhide HE
    generalize bAt s.data.toList k = c at *
    have WO := hide (fun w => wordS_any (s.extract k E) w)
    generalize hT : wordT (s.extract k E) = T at *
    obtain ⟨tk, tn, tx⟩ := T
    unfold Tk.v Tk.cs at *
    simp only at WO ⊢
    clear e1 e2 h1 HE hT D1
    go_enter Tryd.func53, Tryd.ntmps53
    go_wp2_with (first | (go_at_call 86; refine (unhide S1 _).mono ?_; rintro e w' ⟨rfl, rfl⟩) | (go_at_call 87; refine (unhide RN _).mono ?_; rintro e w' ⟨rfl, rfl⟩))
    generalize w.alloc (Obj.cells #[.int .i64 0, .int .i64 0, .string ⟨#[]⟩] 31) = W at *
    refine (unhide WO _).mono ?_
    rintro e w1 ⟨rfl, hb1⟩
    have R1 := hide ((hb1.block _ (Array.getElem?_eq_some_iff.1 (unhide R0)).1).trans (unhide R0))
    have B1 := hide ((unhide B0).trans (hb1.mono (unhide Z0)))
    clear hb1 WO
    go_wp2_with (first | (refine wpList_store_row rfl 31 _ _ rfl w.heap.size #[.int .i64 tk, .int .i64 tn, .string tx] rfl rfl 31 _ (unhide R1) szK rfl (tk_one _ _ _) ?_))
    refine bodyPost_ret (results_row2 (P := Tryd.prog) rfl _ _ w.heap.size 31 #[.int .i64 tk, .int .i64 tn, .string tx] (0, 0) _ rfl (setRow_heap _ _ _ _ _ _ (unhide R1)) Tryd.underlying31 rfl szK) rfl ?_
    exact ⟨rfl, below_row (unhide B1)⟩
end Go.Proofs.YthgbpofcfmnpdaaDoor

namespace Go.Proofs.YthgbpofcfmnpdaaDoor
open Go.ChangeShapes Go.WideShapes Go.ChangeAt Go.RowKit
set_option linter.unusedVariables false
set_option maxRecDepth 8000

theorem infoT : (Tryd.prog.info? 31).map (fun i => (i.zero, i.size, i.bytes)) = some (some (.agg #[.int .i64 0, .int .i64 0, .string ⟨#[]⟩]), 3, 32) := by kernel_rfl
theorem made_cells (n : Nat) : (madeCells #[.int .i64 0, .int .i64 0, .string ⟨#[]⟩] (n * 3)).toList = cellsT (List.replicate n T0) := by
  apply List.ext_getElem?
  intro j
  have hl : (cellsT (List.replicate n T0)).length = n * 3 := by rw [cellsT_len, List.length_replicate]
  by_cases hj : j < n * 3
  · have hT : ∀ i, i < n → tAt (List.replicate n T0) i = T0 := fun i hi => by
      unfold tAt
      rw [List.getD_eq_getElem?_getD, List.getElem?_replicate, if_pos hi]
      rfl
    have hg := cellsT_get (List.replicate n T0) (j / 3) (by rw [List.length_replicate]; omega)
    rw [hT (j / 3) (by omega)] at hg
    have hm : (madeCells #[.int .i64 0, .int .i64 0, .string ⟨#[]⟩] (n * 3)).toList[j]? = some ((#[Value.int .i64 0, .int .i64 0, .string ⟨#[]⟩] : Array Value)[j % 3]!) := by
      simp [madeCells, hj]
    rw [hm]
    have h3 : j % 3 = 0 ∨ j % 3 = 1 ∨ j % 3 = 2 := by omega
    rcases h3 with h | h | h
    · have e : j = j / 3 * 3 := by omega
      rw [h]; conv => rhs; rw [e]
      rw [hg.1]; rfl
    · have e : j = j / 3 * 3 + 1 := by omega
      rw [h]; conv => rhs; rw [e]
      rw [hg.2.1]; rfl
    · have e : j = j / 3 * 3 + 2 := by omega
      rw [h]; conv => rhs; rw [e]
      rw [hg.2.2]; rfl
  · rw [List.getElem?_eq_none (by rw [Array.length_toList, size_madeCells]; omega), List.getElem?_eq_none (by omega)]
theorem fill_step (ts : List Tk) (k n : Nat) (hn : ts.length = n) (hk : k < n) : (ts.take k ++ List.replicate (n - k) T0).set k (tAt ts k) = ts.take (k + 1) ++ List.replicate (n - (k + 1)) T0 := by
  have e1 : (ts.take k).length = k := by rw [List.length_take]; omega
  have e2 : n - k = (n - (k + 1)) + 1 := by omega
  rw [List.set_append_right _ _ (by omega), e1, Nat.sub_self, e2, List.replicate_succ, List.set_cons_zero]
  rw [show ts.take (k + 1) = ts.take k ++ [ts[k]'(by omega)] from List.take_succ_eq_append_getElem (by omega)]
  unfold tAt
  rw [List.getD_eq_getElem?_getD, List.getElem?_eq_getElem (by omega), List.append_assoc]
  rfl
set_option maxHeartbeats 1000000 in
theorem eqTok_same (t : Tk) (w : World) : Calls Tryd.prog 71 #[t.v, t.v] w fun e w' => e = .returned (.bool true) ∧ Below w.heap.size w w' := by
  obtain ⟨k, n, s⟩ := t
  unfold Tk.v Tk.cs
  simp only
  have hB : ∀ o1 o2, Below w.heap.size w ((w.alloc o1).alloc o2) := fun o1 o2 => ((Below.refl _ _).alloc (Nat.le_refl _) _).alloc (by simp) _
  have HB := hide hB
  clear hB
  go_enter Tryd.func71, Tryd.ntmps71
  go_wp2
  go_ret
  exact ⟨rfl, unhide HB _ _⟩
set_option maxHeartbeats 1000000 in
theorem eqTokS_same (a b : Option Addr) (len c1 c2 : Nat) (ts : List Tk) (w : World) (hl : ts.length = len) (hm : len ≤ 1048576) (h1 : RdT w a ts) (h2 : RdT w b ts) :
    Calls Tryd.prog 25 #[.slice a len c1, .slice b len c2] w fun e w' => e = .returned (.bool true) ∧ Below w.heap.size w w' := by
  go_enter Tryd.func25, Tryd.ntmps25
  go_wp2
  go_loopw [5] (fun i wr => ∃ (k : Nat) (y : Sub w.heap.size w), k ≤ len ∧ i = .int .i64 k ∧ wr = y.w) (fun i _ => len - (intOf i).toNat)
  case atStart => exact ⟨0, ⟨w, Below.refl _ _⟩, Nat.zero_le _, rfl, rfl⟩
  case round =>
    obtain ⟨k, x, hk, rfl, rfl⟩ := hrel
    by_cases hlt : k < len
    · rcases h1 with h0 | ⟨p, po, rfl, hp, hpc⟩
      · rw [h0] at hl; simp at hl; omega
      rcases h2 with h0 | ⟨q, qo, rfl, hq, hqc⟩
      · rw [h0] at hl; simp at hl; omega
      obtain ⟨e0, e1, e2⟩ := hpc k (by omega)
      obtain ⟨g0, g1, g2⟩ := hqc k (by omega)
      have d0 : ∀ y : Sub w.heap.size w, y.w.cell? ⟨p, po + k * 3, none⟩ = _ := fun y => (y.h.cell (p := ⟨p, _, none⟩) hp).trans e0
      have d1 : ∀ y : Sub w.heap.size w, y.w.cell? ⟨p, po + k * 3 + 1, none⟩ = _ := fun y => (y.h.cell (p := ⟨p, _, none⟩) hp).trans e1
      have d2 : ∀ y : Sub w.heap.size w, y.w.cell? ⟨p, po + k * 3 + 2, none⟩ = _ := fun y => (y.h.cell (p := ⟨p, _, none⟩) hp).trans e2
      have f0 : ∀ y : Sub w.heap.size w, y.w.cell? ⟨q, qo + k * 3, none⟩ = _ := fun y => (y.h.cell (p := ⟨q, _, none⟩) hq).trans g0
      have f1 : ∀ y : Sub w.heap.size w, y.w.cell? ⟨q, qo + k * 3 + 1, none⟩ = _ := fun y => (y.h.cell (p := ⟨q, _, none⟩) hq).trans g1
      have f2 : ∀ y : Sub w.heap.size w, y.w.cell? ⟨q, qo + k * 3 + 2, none⟩ = _ := fun y => (y.h.cell (p := ⟨q, _, none⟩) hq).trans g2
      have HE := hide (fun w => eqTok_same (tAt ts k) w)
      have ne := Sub.ne w.heap.size w
      have HZ := hide (Nat.le_refl w.heap.size)
      unfold Tk.v Tk.cs at HE
      generalize (tAt ts k).s = ss at *
      generalize (tAt ts k).k = kk at *
      generalize (tAt ts k).n = nn at *
      clear e0 e1 e2 g0 g1 g2 hpc hqc
      go_wp2_with fail
      refine wp_region_sub x (by kernel_rfl) (by kernel_rfl) ?_
      repeat (go_big_quiet_step (first | (go_at_call 71; exact Sub.call (unhide HZ) (unhide HE _))))
      refine wpQuiet_nil ?_
      intro y
      go_wp2
      go_roundw
      case rel => exact ⟨k + 1, y, by omega, by go_num, rfl⟩
      case measure => simp [intOf]; omega
    · go_wp2
      go_ret
      exact ⟨rfl, x.h⟩

set_option maxHeartbeats 1000000 in
theorem sameToks_same (a b : Option Addr) (len c1 c2 : Nat) (ts : List Tk) (w : World) (hl : ts.length = len) (hm : len ≤ 1048576) (h1 : RdT w a ts) (h2 : RdT w b ts) :
    Calls Tryd.prog 16 #[.slice a len c1, .slice b len c2] w fun e w' => e = .returned (.bool true) ∧ Below w.heap.size w w' := by
  go_enter Tryd.func16, Tryd.ntmps16
  go_wp2
  go_loopw [5] (fun i wr => ∃ (k : Nat) (y : Sub w.heap.size w), k ≤ len ∧ i = .int .i64 k ∧ wr = y.w) (fun i _ => len - (intOf i).toNat)
  case atStart => exact ⟨0, ⟨w, Below.refl _ _⟩, Nat.zero_le _, rfl, rfl⟩
  case round =>
    obtain ⟨k, x, hk, rfl, rfl⟩ := hrel
    by_cases hlt : k < len
    · rcases h1 with h0 | ⟨p, po, rfl, hp, hpc⟩
      · rw [h0] at hl; simp at hl; omega
      rcases h2 with h0 | ⟨q, qo, rfl, hq, hqc⟩
      · rw [h0] at hl; simp at hl; omega
      obtain ⟨e0, e1, e2⟩ := hpc k (by omega)
      obtain ⟨g0, g1, g2⟩ := hqc k (by omega)
      have d0 : ∀ y : Sub w.heap.size w, y.w.cell? ⟨p, po + k * 3, none⟩ = _ := fun y => (y.h.cell (p := ⟨p, _, none⟩) hp).trans e0
      have d1 : ∀ y : Sub w.heap.size w, y.w.cell? ⟨p, po + k * 3 + 1, none⟩ = _ := fun y => (y.h.cell (p := ⟨p, _, none⟩) hp).trans e1
      have d2 : ∀ y : Sub w.heap.size w, y.w.cell? ⟨p, po + k * 3 + 2, none⟩ = _ := fun y => (y.h.cell (p := ⟨p, _, none⟩) hp).trans e2
      have f0 : ∀ y : Sub w.heap.size w, y.w.cell? ⟨q, qo + k * 3, none⟩ = _ := fun y => (y.h.cell (p := ⟨q, _, none⟩) hq).trans g0
      have f1 : ∀ y : Sub w.heap.size w, y.w.cell? ⟨q, qo + k * 3 + 1, none⟩ = _ := fun y => (y.h.cell (p := ⟨q, _, none⟩) hq).trans g1
      have f2 : ∀ y : Sub w.heap.size w, y.w.cell? ⟨q, qo + k * 3 + 2, none⟩ = _ := fun y => (y.h.cell (p := ⟨q, _, none⟩) hq).trans g2
      have ne := Sub.ne w.heap.size w
      generalize (tAt ts k).s = ss at *
      generalize (tAt ts k).k = kk at *
      generalize (tAt ts k).n = nn at *
      clear e0 e1 e2 g0 g1 g2 hpc hqc
      go_wp2_with fail
      refine wp_region_sub x (by kernel_rfl) (by kernel_rfl) ?_
      repeat (go_big_quiet_step (first | fail))
      refine wpQuiet_nil ?_
      intro y
      go_wp2
      go_roundw
      case rel => exact ⟨k + 1, y, by omega, by go_num, rfl⟩
      case measure => simp [intOf]; omega
    · go_wp2
      go_ret
      exact ⟨rfl, x.h⟩
end Go.Proofs.YthgbpofcfmnpdaaDoor

namespace Go.Proofs.YthgbpofcfmnpdaaDoor
open Go.ChangeShapes Go.WideShapes Go.ChangeAt Go.RowKit
set_option linter.unusedVariables false
set_option maxRecDepth 8000

theorem info5b : (Tryd.prog.info? 5).map (fun i => (i.zero, i.size, i.bytes)) = some (some (.int .u8 0), 1, 1) := by kernel_rfl
theorem size48 : (Tryd.prog.info? 60).map (·.size) = some 2 := by kernel_rfl
theorem lies48 : liesAt Tryd.prog Tryd.prog.depth 60 (2 / Tryd.prog.cellsOf 60) 0 60 1 = true := by kernel_rfl
theorem cells5 : Tryd.prog.cellsOf 5 = 1 := by kernel_rfl

/-- A builder of the call's own in block b that holds the bytes bs. -/
def Bd (w : World) (B b : Nat) (bs : List UInt8) : Prop := Lib.IsBuilder 60 5 B b (cellsB bs) w

/-- Blocks that are no bytes and no builder stay. -/
def Kp (w w' : World) : Prop := ∀ (g : Nat) (c : Array Value) (t : TypeId) (fz : Nat × Nat), w.heap[g]? = some (Obj.cells c t fz) → t ≠ 5 → t ≠ 60 → w'.heap[g]? = w.heap[g]?
theorem Kp.refl (w : World) : Kp w w := fun _ _ _ _ _ _ _ => rfl
theorem Kp.trans {a b c : World} (h : Kp a b) (k : Kp b c) : Kp a c := fun g x t fz e h1 h2 => (k g x t fz ((h g x t fz e h1 h2).trans e) h1 h2).trans (h g x t fz e h1 h2)
theorem Kp.set {w : World} {b j : Nat} {c : Array Value} {fz : Nat × Nat} (hb : w.heap[b]? = some (.cells c 60 fz)) (u : Value) : Kp w (w.setCell ⟨b, j, none⟩ u) := fun g x t fz' e h1 h2 =>
  Below.heap_setCell _ _ _ _ (fun (hg : g = b) => by subst hg; rw [hb] at e; cases e; exact h2 rfl)
theorem Kp.below {w w' : World} (h : Below w.heap.size w w') : Kp w w' := fun g x t fz e _ _ => h.block g (Array.getElem?_eq_some_iff.1 e).1
theorem Kp.grown {w w1 w2 : World} {B n : Nat} {v : Value} {L : List Value} (h1 : Below w.heap.size w w1) (hown : w.ownsRow B 5 1 v n L) (hg : w1.grownBy w2 v.ownBlock) : Kp w w2 := fun g x t fz e h2 h3 => by
  have hl := (Array.getElem?_eq_some_iff.1 e).1
  refine (hg.block g (Nat.lt_of_lt_of_le hl h1.size) (fun he => ?_)).trans (h1.block g hl)
  obtain ⟨_, ⟨rfl, _⟩ | ⟨g', cap, cur, rfl, _, hh, _⟩⟩ := hown
  · simp [Value.ownBlock] at he
  · simp [Value.ownBlock] at he
    subst he
    rw [hh] at e
    cases e
    exact h2 rfl
set_option maxHeartbeats 1000000 in
set_option maxRecDepth 100000 in
theorem copyC (B b : Nat) (bs : List UInt8) (w : World) (h : Bd w B b bs) :
    Calls Tryd.prog 81 #[.pointer (some ⟨b, 0, none⟩)] w fun e w' => e = .returned (.tuple #[]) ∧ Lib.BuilderAt 60 5 B b (.pointer (some ⟨b, 0, none⟩)) (cellsB bs) w' ∧ Below B w w' ∧ Kp w w' := by
  obtain ⟨j, hj, hjs⟩ := Option.map_eq_some_iff.1 size48
  rcases h with h | h
  · have c0 := h.cell0
    have f0 := h.frozen0
    have E1 := Lib.run_to_unsafe (P := Tryd.prog) w ⟨b, 0, none⟩ Tryd.underlying58 Tryd.underlying139 hj (by rw [hjs]; decide) h.shape (Nat.zero_lt_succ 1)
    have E3 := Lib.run_from_unsafe (P := Tryd.prog) w ⟨b, 0, none⟩ Tryd.underlying139 Tryd.underlying58 hj h.shape lies48
    have E2 : (callFunc 102 #[.pointer (some ⟨b, 0, none⟩)]).run Tryd.prog w = .ok (.value (.pointer (some ⟨b, 0, none⟩))) w := by
      rw [run_callFunc_extern Tryd.func102 (by kernel_rfl) (by kernel_rfl) (by kernel_rfl) (e := Extern.AbiNoEscape.same) (by kernel_rfl), Lib.run_noEscape]
      rfl
    have HU := hide (h.used (.pointer (some ⟨b, 0, none⟩)))
    have HB := hide ((Below.refl B w).setCell (p := ⟨b, 0, none⟩) h.1 (.pointer (some ⟨b, 0, none⟩)))
    have HKP := hide (show Kp w (w.setCell ⟨b, 0, none⟩ (.pointer (some ⟨b, 0, none⟩))) from by obtain ⟨_, v, hbk, _⟩ := h; exact Kp.set hbk _)
    clear h
    go_enter Tryd.func81, Tryd.ntmps81
    go_wp2
    go_end0
    exact ⟨rfl, unhide HU, unhide HB, unhide HKP⟩
  · have c0 := h.cell0
    have E1 := Lib.run_neq_ptr_same (P := Tryd.prog) w ⟨b, 0, none⟩ Tryd.underlying58 hj
    have HU := hide h
    clear h
    go_enter Tryd.func81, Tryd.ntmps81
    go_wp2
    go_end0
    exact ⟨rfl, unhide HU, Below.refl _ _, Kp.refl _⟩

theorem ownsRow_slice {w : World} {B : Nat} {v : Value} {n : Nat} {L : List Value} (h : w.ownsRow B 5 1 v n L) : ∃ a cap, v = .slice a n cap := by
  obtain ⟨_, ⟨h1, h2⟩ | ⟨g, cap, cur, e, _⟩⟩ := h
  · exact ⟨none, 0, by rw [h1, h2]⟩
  · exact ⟨_, cap, e⟩
theorem ownsRow_other {w : World} {B b : Nat} {v : Value} {n : Nat} {L : List Value} {c : Array Value} {t : TypeId} {fz : Nat × Nat} (h : w.ownsRow B 5 1 v n L) (hb : w.heap[b]? = some (.cells c t fz)) (ht : t ≠ 5) : v.ownBlock ≠ some b := by
  intro e
  obtain ⟨_, ⟨rfl, _⟩ | ⟨g, cap, cur, rfl, _, hh, _⟩⟩ := h
  · simp [Value.ownBlock] at e
  · simp [Value.ownBlock] at e
    subst e
    rw [hh] at hb
    cases hb
    exact ht rfl
theorem ownsRow_keep {w w' : World} {B : Nat} {v : Value} {n : Nat} {L : List Value} (h : w.ownsRow B 5 1 v n L) (hs : ∀ g, v.ownBlock = some g → w'.heap[g]? = w.heap[g]?) : w'.ownsRow B 5 1 v n L := by
  obtain ⟨h1, h2 | ⟨g, cap, cur, rfl, hg, hh, r⟩⟩ := h
  · exact ⟨h1, .inl h2⟩
  · exact ⟨h1, .inr ⟨g, cap, cur, rfl, hg, (hs g rfl).trans hh, r⟩⟩

set_option maxHeartbeats 1000000 in
set_option maxRecDepth 100000 in
theorem writeB (B b : Nat) (bs : List UInt8) (c : UInt8) (w : World) (h : Bd w B b bs) (hlen : bs.length ≤ 16777216) (hBw : B ≤ w.heap.size) :
    Calls Tryd.prog 45 #[.pointer (some ⟨b, 0, none⟩), .int .u8 (c.toNat : Int)] w fun e w' => e = .returned .nilIface ∧ Bd w' B b (bs ++ [c]) ∧ Below B w w' ∧ Kp w w' := by
  obtain ⟨i0, hi, hz0, hz1, hz2⟩ := info_parts info5b
  obtain ⟨y, hy⟩ : ∃ y : Int, (c.toNat : Int) = y := ⟨_, rfl⟩
  have HC := hide (show cellsB bs ++ [Value.int .u8 y] = cellsB (bs ++ [c]) by rw [← hy]; simp [cellsB])
  rw [hy]
  clear hy
  go_enter Tryd.func45, Tryd.ntmps45
  go_wp2_with fail
  refine (copyC B b bs w h).mono ?_
  rintro e w1 ⟨rfl, ⟨hB, v, hbk, hown, hne⟩, hb1, hkp1⟩
  have KP1 := hide hkp1
  rw [cellsB_length] at hown
  have c1 : w1.cell? ⟨b, 1, none⟩ = some v := by rw [Lib.cell_of_heap hbk]; rfl
  have s1 := hb1.size
  have HO := hide hown
  have HK := hide hbk
  have HB1 := hide hb1
  have HNE := hide hne
  have hbl : b < w1.heap.size := (Array.getElem?_eq_some_iff.1 hbk).1
  have K1 := hide (cell_one_new w1 (Value.int .u8 y) 5)
  clear h hown hbk hb1 hne hkp1
  go_wp2_with (at_builtin; go_must (refine wpList_append_own _ rfl (.tmp 11) (.tmp 13) 22 rfl B 5 i0 (.int .u8 0) 1 1 Tryd.underlying22 hi hz0 hz1 hz2 rfl (by decide) v bs.length (cellsB bs) rfl ((unhide HO).alloc _) ⟨w1.heap.size, 0, none⟩ 1 1 [Value.int .u8 y] rfl rfl (unhide K1) (by intro u hu; simp at hu; subst hu; rfl) (by unfold maxLen; omega) (by omega) (by simp; omega) ?_; intro v2 w2 hown2 hgrow2 _; obtain ⟨a2, cp2, hv2⟩ := ownsRow_slice hown2; subst hv2; have hbk2 : w2.heap[b]? = some (.cells #[.pointer (some ⟨b, 0, none⟩), v] 60 (0, 0)) := (hgrow2.block b (by simp; omega) (fun e => (unhide HNE) e.symm)).trans ((((Below.refl w1.heap.size w1).alloc (Nat.le_refl _) (Obj.cells #[Value.int .u8 y] 5)).block b hbl).trans (unhide HK)); have c2 : w2.cell? ⟨b, 1, none⟩ = some v := (by rw [Lib.cell_of_heap hbk2]; rfl); have f2 : w2.frozen? ⟨b, 1, none⟩ = false := (by simp [World.frozen?, hbk2])))
  rw [unhide HC] at hown2
  have hB2 : Below B w w2 := (((unhide HB1).alloc (by omega) _)).grown hgrow2 (by simp; omega) (fun k h => ((unhide HO).lt k h).1)
  go_ret
  refine ⟨rfl, .inr ⟨hB, .slice a2 (bs.length + 1) cp2, ?_, ?_, ?_⟩, hB2.setCell (p := ⟨b, 1, none⟩) hB _, (unhide KP1).trans ((Kp.grown ((Below.refl w1.heap.size w1).alloc (Nat.le_refl _) _) (unhide HO) hgrow2).trans (Kp.set hbk2 _))⟩
  · simp [World.setCell, Array.getElem?_modify, hbk2]
  · rw [cellsB_length, List.length_append]
    exact ownsRow_keep hown2 fun g hg => Below.heap_setCell _ _ _ _ (fun e => ownsRow_other hown2 hbk2 (by decide) (by rw [hg, e]))
  · exact ownsRow_other hown2 hbk2 (by decide)
set_option maxHeartbeats 1000000 in
set_option maxRecDepth 100000 in
theorem strB (B b : Nat) (bs : List UInt8) (w : World) (h : Bd w B b bs) (h0 : bs ≠ []) :
    Calls Tryd.prog 48 #[.pointer (some ⟨b, 0, none⟩)] w fun e w' => e = .returned (.string (strOf bs)) ∧ Below B w w' := by
  obtain ⟨p, hB, v, hbk, hown, hne⟩ : ∃ p, Lib.BuilderAt 60 5 B b p (cellsB bs) w := h.elim (fun x => ⟨_, x⟩) (fun x => ⟨_, x⟩)
  rw [cellsB_length] at hown
  have hl0 : bs.length ≠ 0 := by simpa using h0
  have hO : OwnB w B v bs := hown
  obtain ⟨_, ⟨_, hz⟩ | ⟨g, cap, cur, rfl, hbg, hg, hnc, hcm, hcs, htake⟩⟩ := hown
  · exact absurd hz hl0
  unfold maxLen at hcm
  have c1 : w.drew.cell? ⟨b, 1, none⟩ = some (.slice (some ⟨g, 0, none⟩) bs.length cap) := by
    have : w.drew.heap[b]? = some (.cells #[p, .slice (some ⟨g, 0, none⟩) bs.length cap] 60 (0, 0)) := hbk
    rw [Lib.cell_of_heap this]; rfl
  have hSD : (Builtin.unsafeSliceData_ #[22] 110 #[.slice (some ⟨g, 0, none⟩) bs.length cap]).run Tryd.prog w.drew = .ok (.pointer (some ⟨g, 0, none⟩)) w.drew := Lib.run_unsafeSliceData_row _ _ _ _ _ _ (by omega)
  have hUS : (Builtin.unsafeString_ #[110, 3] 9 #[.pointer (some ⟨g, 0, none⟩), .int .i64 bs.length]).run Tryd.prog w.drew = .ok (.string (strOf bs)) (w.drew.freeze ⟨g, 0, none⟩ bs.length) := by
    refine Lib.run_unsafeString_row w.drew 110 3 9 5 Tryd.underlying110 cells5 g cur.size (by have hg' : w.drew.heap[g]? = some (.cells cur 5 (0, 0)) := hg; simp [World.shape?, hg']) bs h0 (by omega) (by omega) ?_
    intro j x hx
    exact rd_cells hO.rd1 j (.int .u8 x.toNat) (by simp [cellsB, hx])
  have HB := hide (Lib.below_freeze (Below.drew (Below.refl B w)) (p := ⟨g, 0, none⟩) hbg bs.length)
  clear hbk hg htake hO h
  go_enter Tryd.func48, Tryd.ntmps48
  go_wp2
  go_region
  all_goals go_wp2
  all_goals go_ret
  all_goals exact ⟨rfl, unhide HB⟩


set_option maxHeartbeats 1000000 in
set_option maxRecDepth 100000 in
theorem writeS (B b : Nat) (bs ts : List UInt8) (w : World) (h : Bd w B b bs) (hlen : bs.length ≤ 16777216) (htl : ts.length ≤ 16777216) (hBw : B ≤ w.heap.size) :
    Calls Tryd.prog 46 #[.pointer (some ⟨b, 0, none⟩), .string (strOf ts)] w fun e w' => (∃ v, e = .returned v) ∧ Bd w' B b (bs ++ ts) ∧ Below B w w' ∧ Kp w w' := by
  obtain ⟨i0, hi, hz0, hz1, hz2⟩ := info_parts info5b
  obtain ⟨s, hs⟩ : ∃ s, s = strOf ts := ⟨_, rfl⟩
  have hz : s.size = ts.length := by rw [hs, strOf_size]
  have HC := hide (show cellsB bs ++ Lib.strCells s = cellsB (bs ++ ts) by rw [cellsB_append, hs]; rfl)
  rw [← hs]
  clear hs
  go_enter Tryd.func46, Tryd.ntmps46
  go_wp2_with fail
  refine (copyC B b bs w h).mono ?_
  rintro e w1 ⟨rfl, ⟨hB, v, hbk, hown, hne⟩, hb1, hkp1⟩
  have KP1 := hide hkp1
  rw [cellsB_length] at hown
  have c1 : w1.cell? ⟨b, 1, none⟩ = some v := by rw [Lib.cell_of_heap hbk]; rfl
  have s1 := hb1.size
  have HO := hide hown
  have HK := hide hbk
  have HB1 := hide hb1
  have HNE := hide hne
  have hbl : b < w1.heap.size := (Array.getElem?_eq_some_iff.1 hbk).1
  clear h hown hbk hb1 hne hkp1
  go_wp2_with (at_builtin; go_must (refine Lib.wpList_append_own_string _ rfl _ _ 22 9 rfl B 5 i0 Tryd.underlying22 Tryd.underlying9 hi hz0 hz1 hz2 v bs.length (cellsB bs) rfl (unhide HO) s rfl (by unfold maxLen; omega) (by omega) (by omega) ?_; intro v2 w2 hown2 hgrow2 _; obtain ⟨a2, cp2, hv2⟩ := ownsRow_slice hown2; subst hv2; have hbk2 : w2.heap[b]? = some (.cells #[.pointer (some ⟨b, 0, none⟩), v] 60 (0, 0)) := (hgrow2.block b hbl (fun e => (unhide HNE) e.symm)).trans (unhide HK); have c2 : w2.cell? ⟨b, 1, none⟩ = some v := (by rw [Lib.cell_of_heap hbk2]; rfl); have f2 : w2.frozen? ⟨b, 1, none⟩ = false := (by simp [World.frozen?, hbk2])))
  rw [unhide HC] at hown2
  have hB2 : Below B w w2 := (unhide HB1).grown hgrow2 (by omega) (fun k h => ((unhide HO).lt k h).1)
  go_ret2
  refine ⟨⟨_, rfl⟩, .inr ⟨hB, .slice a2 (bs.length + s.size) cp2, ?_, ?_, ?_⟩, hB2.setCell (p := ⟨b, 1, none⟩) hB _, (unhide KP1).trans ((Kp.grown (Below.refl _ _) (unhide HO) hgrow2).trans (Kp.set hbk2 _))⟩
  · simp [World.setCell, Array.getElem?_modify, hbk2]
    exact hz.symm
  · rw [cellsB_length, List.length_append, ← hz]
    exact ownsRow_keep hown2 fun g hg => Below.heap_setCell _ _ _ _ (fun e => ownsRow_other hown2 hbk2 (by decide) (by rw [hg, e]))
  · exact ownsRow_other hown2 hbk2 (by decide)


theorem row_ltT {w : World} {g : Nat} {o : Obj} (h : w.heap[g]? = some o) : g < w.heap.size := (Array.getElem?_eq_some_iff.1 h).1
theorem row_latT {w w' : World} {g : Nat} {o : Obj} (h : w.heap[g]? = some o) (hb : Below w.heap.size w w') : w'.heap[g]? = some o := (hb.block g (row_ltT h)).trans h
theorem bd_later {w w' : World} {B b : Nat} {bs : List UInt8} (h : Bd w B b bs) (hb : Below w.heap.size w w') : Bd w' B b bs := by
  have key : ∀ p, Lib.BuilderAt 60 5 B b p (cellsB bs) w → Lib.BuilderAt 60 5 B b p (cellsB bs) w' := fun p ⟨h1, v, h2, h3, h4⟩ =>
    ⟨h1, v, row_latT h2 hb, ownsRow_keep h3 fun g hg => hb.block g ((h3.lt g hg).2), h4⟩
  exact h.elim (fun x => .inl (key _ x)) (fun x => .inr (key _ x))
theorem bd_new (w : World) (B : Nat) (hB : B ≤ w.heap.size) : Bd (w.alloc (.cells #[.pointer none, .slice none 0 0] 60)) B w.heap.size [] :=
  .inl ⟨hB, .slice none 0 0, heap_alloc_new w _, ⟨rfl, .inl ⟨rfl, rfl⟩⟩, by simp [Value.ownBlock]⟩
set_option maxHeartbeats 1000000 in
set_option maxRecDepth 100000 in
theorem strB0 (B b : Nat) (w : World) (h : Bd w B b []) (hBw : B ≤ w.heap.size) :
    Calls Tryd.prog 48 #[.pointer (some ⟨b, 0, none⟩)] w fun e w' => e = .returned (.string (strOf [])) ∧ Below B w w' := by
  obtain ⟨p, hB, v, hbk, hown, hne⟩ : ∃ p, Lib.BuilderAt 60 5 B b p (cellsB []) w := h.elim (fun x => ⟨_, x⟩) (fun x => ⟨_, x⟩)
  have hUS : ∀ q W, (Builtin.unsafeString_ #[110, 3] 9 #[.pointer q, .int .i64 0]).run Tryd.prog W = .ok (.string (strOf [])) W := fun q W => Lib.run_unsafeString_none W 110 3 9 q
  have HB := hide (Below.drew (Below.refl B w))
  obtain ⟨_, ⟨rfl, _⟩ | ⟨g, cap, cur, rfl, hbg, hg, hnc, hcm, hcs, htake⟩⟩ := hown
  · have c1 : w.drew.cell? ⟨b, 1, none⟩ = some (.slice none 0 0) := by
      have : w.drew.heap[b]? = some (.cells #[p, .slice none 0 0] 60 (0, 0)) := hbk
      rw [Lib.cell_of_heap this]; rfl
    have hSD : (Builtin.unsafeSliceData_ #[22] 110 #[.slice none 0 0]).run Tryd.prog w.drew = .ok (.pointer none) w.drew := rfl
    have hUS' := hUS none w.drew
    generalize strOf [] = S0 at *
    clear hbk h hUS
    go_enter Tryd.func48, Tryd.ntmps48
    go_wp2
    go_region
    all_goals go_wp2
    all_goals go_ret
    all_goals exact ⟨rfl, unhide HB⟩
  · have c1 : w.drew.cell? ⟨b, 1, none⟩ = some (.slice (some ⟨g, 0, none⟩) 0 cap) := by
      have : w.drew.heap[b]? = some (.cells #[p, .slice (some ⟨g, 0, none⟩) 0 cap] 60 (0, 0)) := hbk
      rw [Lib.cell_of_heap this]; rfl
    by_cases hc0 : cap = 0
    · subst hc0
      have hSD : (Builtin.unsafeSliceData_ #[22] 110 #[.slice (some ⟨g, 0, none⟩) 0 0]).run Tryd.prog w.drew = .ok (.pointer (some ⟨w.drew.heap.size, 0, none⟩)) (w.drew.alloc (.view ⟨g, 0, none⟩ 5)) := Lib.run_unsafeSliceData_zero w.drew #[22] 110 5 Tryd.underlying110 ⟨g, 0, none⟩ 0 (5, cur.size) (by have hg' : w.drew.heap[g]? = some (.cells cur 5 (0, 0)) := hg; simp [World.shape?, hg'])
      have hUS' := hUS (some ⟨w.heap.size, 0, none⟩) (w.alloc (.view ⟨g, 0, none⟩ 5)).drew
      have c1b : (w.alloc (.view ⟨g, 0, none⟩ 5)).cell? ⟨b, 1, none⟩ = some (.slice (some ⟨g, 0, none⟩) 0 0) := by
        rw [World.cell?_alloc_past _ _ _ (row_ltT hbk)]; exact c1
      have HB2 := hide (((Below.refl B w).alloc hBw (.view ⟨g, 0, none⟩ 5)).drew)
      generalize strOf [] = S0 at *
      clear hbk h hUS hg
      go_enter Tryd.func48, Tryd.ntmps48
      go_wp2
      go_region
      all_goals go_wp2
      all_goals go_ret
      all_goals exact ⟨rfl, unhide HB2⟩
    · have hSD : (Builtin.unsafeSliceData_ #[22] 110 #[.slice (some ⟨g, 0, none⟩) 0 cap]).run Tryd.prog w.drew = .ok (.pointer (some ⟨g, 0, none⟩)) w.drew := Lib.run_unsafeSliceData_row _ _ _ _ _ _ hc0
      have hUS' := hUS (some ⟨g, 0, none⟩) w.drew
      generalize strOf [] = S0 at *
      clear hbk h hUS hg
      go_enter Tryd.func48, Tryd.ntmps48
      go_wp2
      go_region
      all_goals go_wp2
      all_goals go_ret
      all_goals exact ⟨rfl, unhide HB⟩
theorem strAny (B b : Nat) (bs : List UInt8) (w : World) (h : Bd w B b bs) (hBw : B ≤ w.heap.size) :
    Calls Tryd.prog 48 #[.pointer (some ⟨b, 0, none⟩)] w fun e w' => e = .returned (.string (strOf bs)) ∧ Below B w w' := by
  by_cases h0 : bs = []
  · subst h0; exact strB0 B b w h hBw
  · exact strB B b bs w h h0
end Go.Proofs.YthgbpofcfmnpdaaDoor

namespace Go.Proofs.YthgbpofcfmnpdaaDoor
open Go.ChangeShapes Go.WideShapes Go.ChangeAt Go.RowKit
set_option linter.unusedVariables false
set_option maxRecDepth 8000

/-- What stands while the program's LineOf goes on. -/
structure Lo (w wr : World) (bs : List UInt8) : Prop where
  bel : Below w.heap.size w wr
  bd : Bd wr w.heap.size w.heap.size bs
  sz : w.heap.size ≤ wr.heap.size
section
variable {w wr w' : World} {bs cs : List UInt8}
theorem Lo.next (h : Lo w wr bs) (hb : Below w.heap.size wr w') (k : Bd w' w.heap.size w.heap.size cs) : Lo w w' cs := ⟨h.bel.trans hb, k, Nat.le_trans h.sz hb.size⟩
theorem Lo.later (h : Lo w wr bs) (hb : Below wr.heap.size wr w') : Lo w w' bs := h.next (hb.mono h.sz) (bd_later h.bd hb)
end
theorem lo_new (w : World) : Lo w (w.alloc (.cells #[.pointer none, .slice none 0 0] 60)) [] :=
  ⟨below_new w _, bd_new w w.heap.size (Nat.le_refl _), by simp⟩
theorem tri_cells {W : World} {g : Nat} {t : Tk} {ty : TypeId} (h : W.heap[g]? = some (.cells t.cs ty (0, 0))) : W.cell? ⟨g, 0, none⟩ = some (.int .i64 t.k) ∧ W.cell? ⟨g, 1, none⟩ = some (.int .i64 t.n) ∧ W.cell? ⟨g, 2, none⟩ = some (.string t.s) :=
  ⟨Lib.cell_of_heap h 0, Lib.cell_of_heap h 1, Lib.cell_of_heap h 2⟩
set_option maxHeartbeats 2000000 in
theorem lineI_any (a : Option Addr) (len cap : Nat) (ts : List Tk) (w : World) (hl : ts.length = len) (hm : len + szL ts ≤ 1048576) (hr : RdT w a ts) (hg : w.cell? ⟨8, 7, none⟩ = some (.int .u8 3)) : Calls Tryd.prog 12 #[.slice a len cap] w fun e w' => e = .returned (.string (strOf (lineOf ts))) ∧ Below w.heap.size w w' := by
  unfold lineOf
  rw [hl]
  have O0 := hide (lo_new w)
  have gl : 8 < w.heap.size := World.block_lt_of_cell? w _ hg
  have TB := hide (fun wr (h : Below w.heap.size w wr) => (h.cell (p := ⟨8, 7, none⟩) gl).trans hg)
  clear hg gl
  go_enter Tryd.func12, Tryd.ntmps12
  go_wp2
  go_loopw [8] (fun i wr => ∃ k : Nat, k ≤ len ∧ i = .int .i64 k ∧ Lo w wr (lineT ts k)) (fun i _ => len - (intOf i).toNat)
  case atStart => exact ⟨0, Nat.zero_le _, rfl, unhide O0⟩
  case round =>
    clear O0
    obtain ⟨k, hk, rfl, ho⟩ := hrel
    have O1 := hide ho
    by_cases hlt : k < len
    · rcases hr with h0 | ⟨b, off, rfl, hbl, hc⟩
      · rw [h0] at hl; simp at hl; omega
      obtain ⟨c0, c1, c2⟩ := hc k (by omega)
      have d0 : wr.cell? ⟨b, off + k * 3, none⟩ = _ := (ho.bel.cell (p := ⟨b, _, none⟩) hbl).trans c0
      have d1 : wr.cell? ⟨b, off + k * 3 + 1, none⟩ = _ := (ho.bel.cell (p := ⟨b, _, none⟩) hbl).trans c1
      have d2 : wr.cell? ⟨b, off + k * 3 + 2, none⟩ = _ := (ho.bel.cell (p := ⟨b, _, none⟩) hbl).trans c2
      have LB := hide (show (lineT ts k).length ≤ 8388608 by
        have := lineT_len ts k (by omega)
        have := szL_le ts k
        omega)
      have hz3 : (tAt ts k).s.size ≤ 1048576 := by have := szL_at ts k (by omega); omega
      have LT := hide (show lineT ts (k + 1) = lineT ts k ++ (if k = 0 then [] else [32]) ++ tokL (tAt ts k) from rfl)
      have TL := hide (show tokL (tAt ts k) = if (tAt ts k).k = 2 then octD ((tAt ts k).n % 65536).toNat else (tAt ts k).s.data.toList from rfl)
      have O6 := hide (octD_six (tAt ts k).n)
      rw [unhide TL] at LT
      -- the box
      have O2 := hide (ho.later (below_new wr (.cells (tAt ts k).cs 31)))
      have R2 := hide (heap_alloc_new wr (.cells (tAt ts k).cs 31))
      have OC := hide (fun w2 (h : Below w.heap.size w w2) => octI_any (tAt ts k).n w2 (unhide TB w2 h))
      generalize lineT ts k = bs at *
      generalize hts : tAt ts k = t at *
      obtain ⟨kk, nn, ss⟩ := t
      unfold Tk.cs at O2 R2
      simp only at d0 d1 d2 hz3 LT O2 R2 OC O6
      generalize octD (nn % 65536).toNat = ds at *
      clear c0 c1 c2 hc ho TL hts
      by_cases hk0 : k = 0
      · have hg0 : decide (0 < k) = false := decide_eq_false (by omega)
        have LT0 := hide (show lineT ts (k + 1) = bs ++ (if kk = 2 then ds else ss.data.toList) by have := unhide LT; rw [if_pos hk0, List.append_nil] at this; exact this)
        clear hk0 LT
        by_cases hk2 : kk = 2
        · subst hk2
          have LT1 := hide (show lineT ts (k + 1) = bs ++ ds from unhide LT0)
          clear LT0
          have OC1 := hide (unhide OC _ (unhide O2).bel)
          go_wp2_with fail
          refine (unhide OC1).mono ?_
          rintro e w5 ⟨rfl, hb5⟩
          have O5 := hide ((unhide O2).later hb5)
          have WS := hide (writeS w.heap.size w.heap.size bs ds w5 (unhide O5).bd (by have := unhide LB; omega) (by have := unhide O6; omega) (unhide O5).sz)
          clear hb5 OC1
          go_wp2_with fail
          refine (unhide WS).mono ?_
          rintro e w6 ⟨⟨v6, rfl⟩, k6, hb6, _⟩
          have O7 := hide ((unhide O5).next hb6 k6)
          rw [← unhide LT1] at O7
          clear hb6 k6 WS O5
          go_wp2
          go_roundw
          case rel => exact ⟨k + 1, by omega, by go_num, unhide O7⟩
          case measure => simp [intOf]; omega
        · have LT1 := hide (show lineT ts (k + 1) = bs ++ ss.data.toList from (unhide LT0).trans (by rw [if_neg hk2]))
          clear LT0 OC
          have WS := hide (writeS w.heap.size w.heap.size bs ss.data.toList (wr.alloc (.cells #[.int .i64 kk, .int .i64 nn, .string ss] 31)) (unhide O2).bd (by have := unhide LB; omega) (by rw [size_len]; omega) (unhide O2).sz)
          rw [strOf_of] at WS
          go_wp2_with fail
          refine (unhide WS).mono ?_
          rintro e w6 ⟨⟨v6, rfl⟩, k6, hb6, _⟩
          have O7 := hide ((unhide O2).next hb6 k6)
          rw [← unhide LT1] at O7
          clear hb6 k6 WS
          go_wp2
          go_roundw
          case rel => exact ⟨k + 1, by omega, by go_num, unhide O7⟩
          case measure => simp [intOf]; omega
      · have hg0 : (0 : Int) < (k : Int) := by omega
        have LT0 := hide (show lineT ts (k + 1) = (bs ++ [32]) ++ (if kk = 2 then ds else ss.data.toList) by have := unhide LT; rw [if_neg hk0] at this; exact this)
        clear hk0 LT
        have WB := hide (writeB w.heap.size w.heap.size bs 32 (wr.alloc (.cells #[.int .i64 kk, .int .i64 nn, .string ss] 31)) (unhide O2).bd (by have := unhide LB; omega) (unhide O2).sz)
        go_wp2_with fail
        refine (unhide WB).mono ?_
        rintro e w3 ⟨rfl, k3, hb3, kp3⟩
        have R3 := (kp3 _ _ _ _ (unhide R2) (by decide) (by decide)).trans (unhide R2)
        obtain ⟨c0, c1, c2⟩ := tri_cells (t := ⟨kk, nn, ss⟩) R3
        simp only at c0 c1 c2
        have O3 := hide ((unhide O2).next hb3 k3)
        clear hb3 k3 kp3 R3 R2 O2 WB d0 d1 d2
        by_cases hk2 : kk = 2
        · subst hk2
          have LT1 := hide (show lineT ts (k + 1) = (bs ++ [32]) ++ ds from unhide LT0)
          clear LT0
          have OC1 := hide (unhide OC _ (unhide O3).bel)
          go_wp2_with fail
          refine (unhide OC1).mono ?_
          rintro e w5 ⟨rfl, hb5⟩
          have O5 := hide ((unhide O3).later hb5)
          have WS := hide (writeS w.heap.size w.heap.size (bs ++ [32]) ds w5 (unhide O5).bd (by have := unhide LB; rw [List.length_append]; have h1 : [(32 : UInt8)].length = 1 := rfl; omega) (by have := unhide O6; omega) (unhide O5).sz)
          clear hb5 OC1
          go_wp2_with fail
          refine (unhide WS).mono ?_
          rintro e w6 ⟨⟨v6, rfl⟩, k6, hb6, _⟩
          have O7 := hide ((unhide O5).next hb6 k6)
          rw [← unhide LT1] at O7
          clear hb6 k6 WS O5
          go_wp2
          go_roundw
          case rel => exact ⟨k + 1, by omega, by go_num, unhide O7⟩
          case measure => simp [intOf]; omega
        · have LT1 := hide (show lineT ts (k + 1) = (bs ++ [32]) ++ ss.data.toList from (unhide LT0).trans (by rw [if_neg hk2]))
          clear LT0 OC
          have WS := hide (writeS w.heap.size w.heap.size (bs ++ [32]) ss.data.toList w3 (unhide O3).bd (by have := unhide LB; rw [List.length_append]; have h1 : [(32 : UInt8)].length = 1 := rfl; omega) (by rw [size_len]; omega) (unhide O3).sz)
          rw [strOf_of] at WS
          go_wp2_with fail
          refine (unhide WS).mono ?_
          rintro e w6 ⟨⟨v6, rfl⟩, k6, hb6, _⟩
          have O7 := hide ((unhide O3).next hb6 k6)
          rw [← unhide LT1] at O7
          clear hb6 k6 WS
          go_wp2
          go_roundw
          case rel => exact ⟨k + 1, by omega, by go_num, unhide O7⟩
          case measure => simp [intOf]; omega
    · obtain rfl : k = len := by omega
      have SB := hide (strAny w.heap.size w.heap.size (lineT ts k) wr (unhide O1).bd (unhide O1).sz)
      go_wp2_with fail
      refine (unhide SB).mono ?_
      rintro e w4 ⟨rfl, hb4⟩
      have HB := hide ((unhide O1).bel.trans hb4)
      clear hb4 SB
      go_wp2
      go_ret
      exact ⟨rfl, unhide HB⟩
end Go.Proofs.YthgbpofcfmnpdaaDoor
