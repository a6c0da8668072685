/- Contracts over this seat's translation, laid together; conditions stand as hypotheses of each. -/
import Derived.Test.YthgbpofcfmnpdaaGreatDoorTyA
import Derived.Lib.BufferWrite
import Derived.Lib.UnsafeStr
import Derived.Lib.IfaceEq
import Derived.Lib.AtoiErrMem
import Derived.Lib.Walk
import Derived.Deep.RegionWith
import Derived.Laws.MakeOwn
import Derived.Laws.Closers25b
import Derived.Laws.Strings3
import Derived.BigGuard
import Derived.Laws.Tables
import Derived.Test.YthgbpofcfmnpdaaGreatDoorProg
import Derived.Deep.Slices
import Derived.Lib.SmallJoins

namespace Go.Proofs.YthgbpofcfmnpdaaGreatDoor
open Go.ChangeShapes Go.WideShapes Go.ChangeAt Go.RowKit
set_option linter.unusedVariables false
set_option maxRecDepth 8000

/-- The text of a token. -/
def tokL (t : Tk) : List UInt8 := if t.k = 2 then octD (t.n % 65536).toNat else t.s.data.toList
theorem octD_six (n : Int) : (octD (n % 65536).toNat).length ≤ 6 := octD_len _ 5 (by have := Int.emod_lt_of_pos n (show (0 : Int) < 65536 by omega); omega)
theorem tokL_len (t : Tk) : (tokL t).length ≤ t.s.size + 6 := by
  unfold tokL
  split
  · have := octD_six t.n; omega
  · rw [size_len]; omega
/-- The line of so many tokens. -/
def lineT (ts : List Tk) : Nat → List UInt8
  | 0 => []
  | k + 1 => lineT ts k ++ (if k = 0 then [] else [32]) ++ tokL (tAt ts k)
theorem lineT_len (ts : List Tk) : ∀ k, k ≤ ts.length → (lineT ts k).length ≤ szL (ts.take k) + 7 * k
  | 0, _ => by simp [lineT]
  | k + 1, h => by
    have h1 := lineT_len ts k (by omega)
    have h2 := tokL_len (tAt ts k)
    have h3 := szL_take ts k (by omega)
    have h4 : (if k = 0 then ([] : List UInt8) else [32]).length ≤ 1 := by split <;> simp
    simp only [lineT, List.length_append]
    omega
theorem szL_le (ts : List Tk) (k : Nat) : szL (ts.take k) ≤ szL ts := by
  induction ts generalizing k with
  | nil => simp
  | cons t r ih =>
    cases k with
    | zero => simp [szL]
    | succ k => simp only [List.take_succ_cons, szL]; have := ih k; omega
theorem szL_at (ts : List Tk) (k : Nat) (h : k < ts.length) : (tAt ts k).s.size ≤ szL ts := by
  have h1 := szL_take ts k h
  have h2 := szL_le ts (k + 1)
  omega
/-- What LineOf answers. -/
def lineOf (ts : List Tk) : List UInt8 := lineT ts ts.length
set_option maxHeartbeats 2000000 in
theorem lineS_any (a : Option Addr) (len cap : Nat) (ts : List Tk) (w : World) (hl : ts.length = len) (hm : len + szL ts ≤ 1048576) (hr : RdT w a ts) : Calls Tryz.prog 56 #[.slice a len cap] w fun e w' => e = .returned (.string (strOf (lineOf ts))) ∧ Below w.heap.size w w' := by
  unfold lineOf
  rw [hl]
  go_enter Tryz.func56, Tryz.ntmps56
  go_wp2
  go_loopw [3, 4] (fun s i wr => ∃ k : Nat, k ≤ len ∧ i = .int .i64 k ∧ s = .string (strOf (lineT ts k)) ∧ Below w.heap.size w wr) (fun _ i _ => len - (intOf i).toNat)
  case atStart => exact ⟨0, Nat.zero_le _, rfl, rfl, Below.refl _ _⟩
  case round =>
    obtain ⟨k, hk, rfl, rfl, hb⟩ := hrel
    by_cases hlt : k < len
    · rcases hr with h0 | ⟨b, off, rfl, hbl, hc⟩
      · rw [h0] at hl; simp at hl; omega
      obtain ⟨c0, c1, c2⟩ := hc k (by omega)
      have d0 : wr.cell? ⟨b, off + k * 3, none⟩ = _ := (hb.cell (p := ⟨b, _, none⟩) hbl).trans c0
      have d1 : wr.cell? ⟨b, off + k * 3 + 1, none⟩ = _ := (hb.cell (p := ⟨b, _, none⟩) hbl).trans c1
      have d2 : wr.cell? ⟨b, off + k * 3 + 2, none⟩ = _ := (hb.cell (p := ⟨b, _, none⟩) hbl).trans c2
      have OC := hide (octS_any (tAt ts k).n wr)
      have hz1 : (strOf (lineT ts k)).size ≤ 16777216 := by
        rw [strOf_size]
        have := lineT_len ts k (by omega)
        have := szL_le ts k
        omega
      have hz2 : (strOf (octD ((tAt ts k).n % 65536).toNat)).size ≤ 6 := by rw [strOf_size]; exact octD_six _
      have hz3 : (tAt ts k).s.size ≤ 1048576 := by have := szL_at ts k (by omega); omega
      have LT := hide (show strOf (lineT ts (k + 1)) = strOf (lineT ts k) ++ (if k = 0 then ⟨#[]⟩ else ⟨#[32]⟩) ++ strOf (tokL (tAt ts k)) by
        show strOf (lineT ts k ++ (if k = 0 then [] else [32]) ++ tokL (tAt ts k)) = _
        rw [← strOf_append, ← strOf_append]
        congr 2
        split <;> rfl)
      have TL := hide (show strOf (tokL (tAt ts k)) = if (tAt ts k).k = 2 then strOf (octD ((tAt ts k).n % 65536).toNat) else (tAt ts k).s by
        unfold tokL
        split
        · rfl
        · rw [strOf_of])
      rw [unhide TL] at LT
      clear c0 c1 c2 hc TL
      have HB := hide hb
      generalize strOf (lineT ts k) = S1 at hz1 LT ⊢
      generalize strOf (octD ((tAt ts k).n % 65536).toNat) = S2 at hz2 LT OC
      generalize (tAt ts k).s = ss at d2 LT hz3
      generalize (tAt ts k).k = kk at d0 LT
      generalize (tAt ts k).n = nn at d1 OC
      clear hb
      by_cases hk0 : k = 0
      · have LT0 := hide (show strOf (lineT ts (k + 1)) = S1 ++ (if kk = 2 then S2 else ss) by
          have := unhide LT
          rw [if_pos hk0] at this
          rw [this]
          congr 1
          apply ByteArray.ext
          rw [ByteArray.data_append]
          simp)
        have hg0 : decide (0 < k) = false := decide_eq_false (by omega)
        clear hk0
        by_cases hk2 : kk = 2
        · subst hk2
          have LT1 := hide (show strOf (lineT ts (k + 1)) = S1 ++ S2 from unhide LT0)
          clear LT LT0
          go_wp2_with (go_at_call 78; refine (unhide OC).mono ?_; rintro e w5 ⟨rfl, hb5⟩)
          go_roundw
          case rel => exact ⟨k + 1, by omega, by go_num, by rw [unhide LT1], (unhide HB).trans (hb5.mono (unhide HB).size)⟩
          case measure => simp [intOf]; omega
        · have LT1 := hide (show strOf (lineT ts (k + 1)) = S1 ++ ss from (unhide LT0).trans (by rw [if_neg hk2]))
          clear LT LT0 OC
          go_wp2
          go_roundw
          case rel => exact ⟨k + 1, by omega, by go_num, by rw [unhide LT1], unhide HB⟩
          case measure => simp [intOf]; omega
      · have hg0 : (0 : Int) < (k : Int) := by omega
        have LT0 := hide (show strOf (lineT ts (k + 1)) = S1 ++ ⟨#[32]⟩ ++ (if kk = 2 then S2 else ss) by have := unhide LT; rw [if_neg hk0] at this; exact this)
        by_cases hk2 : kk = 2
        · subst hk2
          have LT1 := hide (show strOf (lineT ts (k + 1)) = S1 ++ ⟨#[32]⟩ ++ S2 from unhide LT0)
          clear LT LT0
          go_wp2_with (go_at_call 78; refine (unhide OC).mono ?_; rintro e w5 ⟨rfl, hb5⟩)
          go_roundw
          case rel => exact ⟨k + 1, by omega, by go_num, by rw [unhide LT1], (unhide HB).trans (hb5.mono (unhide HB).size)⟩
          case measure => simp [intOf]; omega
        · have LT1 := hide (show strOf (lineT ts (k + 1)) = S1 ++ ⟨#[32]⟩ ++ ss from (unhide LT0).trans (by rw [if_neg hk2]))
          clear LT LT0 OC
          go_wp2
          go_roundw
          case rel => exact ⟨k + 1, by omega, by go_num, by rw [unhide LT1], unhide HB⟩
          case measure => simp [intOf]; omega
    · obtain rfl : k = len := by omega
      go_wp2
      go_ret
      exact ⟨rfl, hb⟩
end Go.Proofs.YthgbpofcfmnpdaaGreatDoor

namespace Go.Proofs.YthgbpofcfmnpdaaGreatDoor
open Go.ChangeShapes Go.WideShapes Go.ChangeAt Go.RowKit
set_option linter.unusedVariables false
theorem info5 : (Tryz.prog.info? 5).map (fun i => (i.zero, i.size, i.bytes)) = some (some (.int .u8 0), 1, 1) := by kernel_rfl

/-- A text copied into a new row of as many noughts: the row then holds its bytes. -/
theorem copy_text (w : World) (s : ByteArray) : ∃ C : Array Value, C.toList = Lib.byteCells s.data.toList ∧
    (Builtin.copy_ #[22, 9] 3 #[.slice (some ⟨w.heap.size, 0, none⟩) s.size s.size, .string s]).run Tryz.prog (w.alloc (.cells (madeCells #[.int .u8 0] s.size) 5)) = .ok (goInt s.size) ((w.alloc (.cells (madeCells #[.int .u8 0] s.size) 5)).setRow w.heap.size C) := by
  obtain ⟨i0, hi, _, h1, _⟩ := info_parts info5
  have hn : (madeCells #[Value.int .u8 0] s.size).toList.length = s.size := by rw [toList_madeCells_one, List.length_replicate]
  have h := Lib.run_copy_row_string (P := Tryz.prog) (w.alloc (.cells (madeCells #[.int .u8 0] s.size) 5)) 22 9 3 5 w.heap.size 0 s.size s.size s _ 5 Tryz.underlying22 (by rw [hi]; simp [h1]) (heap_alloc_new w _) (Nat.le_refl _) (by rw [← Array.length_toList, hn]; omega)
  refine ⟨_, ?_, h⟩
  rw [List.toList_toArray, List.take_zero, List.nil_append, List.drop_eq_nil_of_le (by rw [hn]; omega), List.append_nil]

/-- The text of a row that holds its bytes. -/
theorem text_of_row (W : World) (g : Nat) (C : Array Value) (s : ByteArray) (hC : C.toList = Lib.byteCells s.data.toList) (hg : W.heap[g]? = some (.cells C 5 (0, 0))) (h0 : s.size ≠ 0) (hlim : s.size ≤ 281474976710656) :
    (Builtin.unsafeString_ #[132, 3] 9 #[.pointer (some ⟨g, 0, none⟩), .int .i64 (s.size : Int)]).run Tryz.prog W = .ok (.string s) (W.freeze ⟨g, 0, none⟩ s.size) := by
  have hl : s.data.toList.length = s.size := Array.length_toList
  have hCl : C.size = s.size := by rw [← Array.length_toList, hC, Lib.byteCells_length, hl]
  have h := Lib.run_unsafeString_row (P := Tryz.prog) W 132 3 9 5 Tryz.underlying132 (by kernel_rfl) g C.size (by unfold World.shape?; rw [hg]) s.data.toList (fun e => h0 (by rw [← hl, e]; rfl)) (by omega) (by omega) (fun j x hx => by
    have hc := Lib.cells_of_row hg C.size j (.int .u8 x.toNat)
    rw [List.take_of_length_le (Nat.le_of_eq Array.length_toList), hC] at hc
    exact hc (by simp only [Lib.byteCells, List.getElem?_map, hx, Option.map_some]))
  rw [hl] at h
  exact h

theorem below_of_row (w : World) (s : ByteArray) (C : Array Value) : Below w.heap.size w ((w.alloc (.cells (madeCells #[.int .u8 0] s.size) 5)).setRow w.heap.size C) :=
  ((Below.refl _ w).alloc (Nat.le_refl _) _).trans ⟨rfl, rfl, rfl, by simp [World.setRow], fun k hk => setRow_other _ _ _ _ (by omega)⟩

set_option maxHeartbeats 1000000 in
set_option maxRecDepth 100000 in
theorem clone_any (s : ByteArray) (w : World) (hlim : s.size ≤ 281474976710656) :
    Calls Tryz.prog 72 #[.string s] w fun e w' => e = .returned (.string s) ∧ Below w.heap.size w w' := by
  by_cases h0 : s.size = 0
  · obtain rfl : s = ⟨#[]⟩ := by apply ByteArray.ext; exact Array.eq_empty_of_size_eq_zero h0
    go_enter Tryz.func72, Tryz.ntmps72
    go_wp2
    go_ret
    exact ⟨rfl, Below.refl _ _⟩
  · have hz : ((s.size : Int) == 0) = false := beq_eq_false_iff_ne.2 (by omega)
    have hp : (0 : Int) < (s.size : Int) := by omega
    have hmk := run_make_row' (P := Tryz.prog) 22 5 (.int .u8 0) 1 Tryz.underlying22 info5 rfl .i64 .i64 s.size (by omega) (by omega)
    obtain ⟨C, hC, hcp⟩ := copy_text w s
    have hrow := setRow_heap (w.alloc (.cells (madeCells #[.int .u8 0] s.size) 5)) w.heap.size _ C 5 (0, 0) (heap_alloc_new w _)
    have hus := text_of_row _ w.heap.size C s hC hrow h0 hlim
    have hB := hide (below_of_row w s C)
    clear hC hrow
    go_enter Tryz.func72, Tryz.ntmps72
    go_wp2
    go_ret
    exact ⟨rfl, Lib.below_freeze (unhide hB) (p := ⟨w.heap.size, 0, none⟩) (Nat.le_refl _) _⟩

set_option maxHeartbeats 1000000 in
set_option maxRecDepth 100000 in
theorem synErr_any (fn s : ByteArray) (te : TypeId) (pe : Value) (w : World) (hlim : s.size ≤ 281474976710656) (hv : w.cell? ⟨4, 0, none⟩ = some (.iface te pe)) :
    Calls Tryz.prog 114 #[.string fn, .string s] w fun e w' => ∃ v, e = .returned (.pointer (some v)) ∧ Below w.heap.size w w' := by
  have hG : 4 < w.heap.size := World.block_lt_of_cell? w _ hv
  have hvd : w.drew.cell? ⟨4, 0, none⟩ = some _ := hv
  go_enter Tryz.func114, Tryz.ntmps114
  go_wp2
  go_region_with (go_at_call 72; refine (clone_any s _ hlim).mono ?_; rintro e w2 ⟨rfl, hbel⟩; have hv2 : w2.cell? ⟨4, 0, none⟩ = some _ := (hbel.cell (show (⟨4, 0, none⟩ : Addr).block < w.drew.heap.size from hG)).trans hvd)
  all_goals
    go_wp2
    go_ret
    have hB : Below w.heap.size w w2 := (Below.refl w.heap.size w).drew.trans hbel
    exact ⟨_, rfl, hB.alloc hB.size _⟩

set_option maxHeartbeats 1000000 in
set_option maxRecDepth 100000 in
theorem rngErr_any (fn s : ByteArray) (te : TypeId) (pe : Value) (w : World) (hlim : s.size ≤ 281474976710656) (hv : w.cell? ⟨5, 0, none⟩ = some (.iface te pe)) :
    Calls Tryz.prog 115 #[.string fn, .string s] w fun e w' => ∃ v, e = .returned (.pointer (some v)) ∧ Below w.heap.size w w' := by
  have hG : 5 < w.heap.size := World.block_lt_of_cell? w _ hv
  have hvd : w.drew.cell? ⟨5, 0, none⟩ = some _ := hv
  go_enter Tryz.func115, Tryz.ntmps115
  go_wp2
  go_region_with (go_at_call 72; refine (clone_any s _ hlim).mono ?_; rintro e w2 ⟨rfl, hbel⟩; have hv2 : w2.cell? ⟨5, 0, none⟩ = some _ := (hbel.cell (show (⟨5, 0, none⟩ : Addr).block < w.drew.heap.size from hG)).trans hvd)
  all_goals
    go_wp2
    go_ret
    have hB : Below w.heap.size w w2 := (Below.refl w.heap.size w).drew.trans hbel
    exact ⟨_, rfl, hB.alloc hB.size _⟩

theorem eqlErr (a b : Int) (W : World) : (binOp .eql 100 (.iface 157 (.int .i64 a)) (.iface 157 (.int .i64 b))).run Tryz.prog W = .ok (.bool (a == b)) W :=
  Lib.run_eql_iface_int W a b Tryz.underlying100 (by kernel_rfl) Tryz.underlying157

set_option maxHeartbeats 1000000 in
set_option maxRecDepth 100000 in
theorem toErr_syn (fn s : ByteArray) (base bs : Int) (te : TypeId) (pe : Value) (w : World) (hlim : s.size ≤ 281474976710656) (hv : w.cell? ⟨4, 0, none⟩ = some (.iface te pe)) :
    Calls Tryz.prog 104 #[.string fn, .string s, .int .i64 base, .int .i64 bs, .iface 157 (.int .i64 2)] w fun e w' => ∃ t v, e = .returned (.iface t v) ∧ Below w.heap.size w w' := by
  have h22 := eqlErr 2 2
  have H := hide (synErr_any fn s te pe w hlim hv)
  clear hv
  go_enter Tryz.func104, Tryz.ntmps104
  go_wp2_with (go_at_call 114; refine (unhide H).mono ?_; rintro e w2 ⟨v, rfl, hb⟩)
  go_ret
  exact ⟨_, _, rfl, hb⟩

set_option maxHeartbeats 1000000 in
set_option maxRecDepth 100000 in
theorem toErr_rng (fn s : ByteArray) (base bs : Int) (te : TypeId) (pe : Value) (w : World) (hlim : s.size ≤ 281474976710656) (hv : w.cell? ⟨5, 0, none⟩ = some (.iface te pe)) :
    Calls Tryz.prog 104 #[.string fn, .string s, .int .i64 base, .int .i64 bs, .iface 157 (.int .i64 1)] w fun e w' => ∃ t v, e = .returned (.iface t v) ∧ Below w.heap.size w w' := by
  have h12 := eqlErr 1 2
  have h11 := eqlErr 1 1
  have H := hide (rngErr_any fn s te pe w hlim hv)
  clear hv
  go_enter Tryz.func104, Tryz.ntmps104
  go_wp2_with (go_at_call 115; refine (unhide H).mono ?_; rintro e w2 ⟨v, rfl, hb⟩)
  go_ret
  exact ⟨_, _, rfl, hb⟩
end Go.Proofs.YthgbpofcfmnpdaaGreatDoor

namespace Go.Proofs.YthgbpofcfmnpdaaGreatDoor
open Go.ChangeShapes Go.WideShapes Go.ChangeAt Go.RowKit
set_option linter.unusedVariables false

/-- What digits are worth, each byte less 48, to the base 8. -/
def ov (l : List UInt8) : Int := l.foldl (fun a c => a * 8 + ((c.toNat : Int) - 48)) 0
theorem ov_snoc (l : List UInt8) (c : UInt8) : ov (l ++ [c]) = ov l * 8 + ((c.toNat : Int) - 48) := by unfold ov; rw [List.foldl_append]; rfl
theorem ov_take (l : List UInt8) (k : Nat) (h : k < l.length) : ov (l.take (k + 1)) = ov (l.take k) * 8 + (bAt l k - 48) := by
  rw [List.take_succ_eq_append_getElem h, ov_snoc]
  unfold bAt
  rw [List.getD_eq_getElem?_getD, List.getElem?_eq_getElem h]
  rfl
/-- Some byte is no digit, or what is read is too great. -/
def Bad (l : List UInt8) : Prop := ∃ k, k < l.length ∧ (bAt l k < 48 ∨ 55 < bAt l k ∨ 65535 < ov (l.take (k + 1)))

/-- The call ends with an error of the inner package: 1 or 2. -/
def BadEnd (e : Ending) : Prop := ∃ y c, (c = 1 ∨ c = 2) ∧ e = .returned (.tuple #[.int .u64 y, .iface 157 (.int .i64 c)])

def lowV (c : Int) : Int := bits .or .u8 c 32
theorem lowV_bd (c : Int) : 0 ≤ lowV c ∧ lowV c ≤ 255 := ⟨bits_lo_u8 .or c 32, bits_hi_u8 .or c 32⟩
theorem lower_any (c : Int) (w : World) : Calls Tryz.prog 112 #[.int .u8 c] w fun e w' => e = .returned (.int .u8 (lowV c)) ∧ w' = w := by
  go_enter Tryz.func112, Tryz.ntmps112
  go_wp2
  go_ret
  exact ⟨rfl, rfl⟩

set_option maxHeartbeats 4000000 in
set_option maxRecDepth 100000 in
theorem pu_any (s : ByteArray) (hne : s.size ≠ 0) (hmax : s.size ≤ 1099511627776) (w : World) :
    Calls Tryz.prog 103 #[.string s, .int .i64 8, .int .i64 16] w fun e w' => Below w.heap.size w w' ∧
      ((0 ≤ ov s.data.toList ∧ ov s.data.toList ≤ 65535 ∧ e = .returned (.tuple #[.int .u64 (ov s.data.toList), .nilIface])) ∨
       (Bad s.data.toList ∧ BadEnd e)) := by
  have hemp : s.toList.isEmpty = false := by
    rw [← decide_eq_emptyBytes]
    exact decide_eq_false (fun h => hne (by rw [h]; rfl))
  have hcv := Lib.run_convert_string_bytes (P := Tryz.prog) w 9 22 5 s (u := .string) Tryz.underlying9 Tryz.underlying22 Tryz.underlying5
  have hB : ∀ j, j < s.size → (Lib.bytesWorld w 5 s).cell? ⟨w.heap.size, j, none⟩ = some (.int .u8 (bAt s.data.toList j)) := fun j hj => Lib.bytesWorld_cell w 5 s j hj
  have hbel := hide (Lib.bytesWorld_below w 5 s)
  obtain ⟨W1, hW1⟩ : ∃ W1, W1 = Lib.bytesWorld w 5 s := ⟨_, rfl⟩
  rw [← hW1] at hcv hB hbel
  clear hW1
  obtain ⟨bs, hL⟩ : ∃ bs, bs = s.data.toList := ⟨_, rfl⟩
  have hLn : bs.length = s.size := by rw [hL, Lib.size_eq]
  rw [← hL] at hB ⊢
  clear hL
  go_enter Tryz.func103, Tryz.ntmps103
  go_wp2
  clear hcv
  go_loop [12, 13, 101] (fun vu vn vi => ∃ (k : Nat) (a : Int), vu = .bool false ∧ vn = .int .u64 a ∧ vi = .int .i64 k ∧ k ≤ s.size ∧ 0 ≤ a ∧ a ≤ 65535 ∧ Hid (a = ov (bs.take k)))
    (fun _ _ vi => s.size - (intOf vi).toNat)
  case atStart => exact ⟨0, 0, rfl, rfl, rfl, by omega, by omega, by omega, rfl⟩
  case round =>
    obtain ⟨k, a, rfl, rfl, rfl, hk, a0, a1, ha⟩ := hrel
    by_cases hkn : k < s.size
    · have hc := hB k hkn
      have hbd := bAt_bd bs k
      have hT := ov_take bs k (by omega)
      rw [← ha.out] at hT
      have HT := hide hT
      clear hB hT
      obtain ⟨c, hcc⟩ : ∃ c, bAt bs k = c := ⟨_, rfl⟩
      rw [hcc] at hc hbd HT
      have HC := hide hcc
      clear hcc
      by_cases hdig : 48 ≤ c ∧ c ≤ 55
      · obtain ⟨hd0, hd1⟩ := hdig
        by_cases hov : 65535 < a * 8 + (c - 48)
        · have hbad := hide (show Bad bs from ⟨k, by omega, .inr (.inr (by rw [unhide HT]; exact hov))⟩)
          go_wp2
          go_ret2
          exact ⟨unhide hbel, .inr ⟨unhide hbad, _, 1, .inl rfl, rfl⟩⟩
        · go_wp2
          go_round
          case rel => exact ⟨k + 1, a * 8 + (c - 48), rfl, by go_num, by go_num, by omega, by omega, by omega, (unhide HT).symm⟩
          case measure => simp [intOf]; omega
      · have hbad := hide (show Bad bs from ⟨k, by omega, by rw [unhide HC]; omega⟩)
        by_cases h57 : 48 ≤ c ∧ c ≤ 57
        · obtain ⟨hd0, hd1⟩ := h57
          have hd8 : 8 ≤ c - 48 := by omega
          clear hdig
          go_wp2
          go_ret2
          exact ⟨unhide hbel, .inr ⟨unhide hbad, _, 2, .inr rfl, rfl⟩⟩
        · clear hdig
          have hv := lowV_bd c
          have hu := lowV_bd 95
          go_wp2_with (go_at_call 112; refine (lower_any _ _).mono ?_; rintro e w' ⟨rfl, hw'⟩; rw [hw']; clear hw' w')
          all_goals go_ret2
          all_goals exact ⟨unhide hbel, .inr ⟨unhide hbad, _, 2, .inr rfl, rfl⟩⟩
    · have hfin : a = ov bs := by rw [ha.out, List.take_of_length_le (by omega)]
      have HF := hide hfin
      clear hfin hB
      go_wp2
      go_ret2
      rw [← unhide HF]
      exact ⟨unhide hbel, .inl ⟨a0, a1, rfl⟩⟩
end Go.Proofs.YthgbpofcfmnpdaaGreatDoor

namespace Go.Proofs.YthgbpofcfmnpdaaGreatDoor
open Go.ChangeShapes Go.WideShapes Go.ChangeAt Go.RowKit
set_option linter.unusedVariables false

theorem octD_dig (m : Nat) : ∀ c ∈ octD m, 48 ≤ c.toNat ∧ c.toNat ≤ 55 := by
  induction m using Nat.strongRecOn with
  | ind m ih =>
    intro c hc
    by_cases h : m < 8
    · rw [octD_small m h] at hc
      simp only [List.mem_singleton] at hc
      subst hc
      have := dg_val m h
      omega
    · rw [octD_big m h, List.mem_append] at hc
      rcases hc with hc | hc
      · exact ih (m / 8) (by omega) c hc
      · simp only [List.mem_singleton] at hc
        subst hc
        have := dg_val (m % 8) (by omega)
        omega
theorem octD_ov (m : Nat) : ov (octD m) = m := by
  induction m using Nat.strongRecOn with
  | ind m ih =>
    by_cases h : m < 8
    · rw [octD_small m h]
      have := dg_val m h
      show 0 * 8 + (((dg m).toNat : Int) - 48) = m
      omega
    · rw [octD_big m h, ov_snoc, ih (m / 8) (by omega), dg_val (m % 8) (by omega)]
      omega
theorem octD_ne (m : Nat) : octD m ≠ [] := by
  rw [octD_split]
  simp
theorem ov_take_bd (l : List UInt8) (h : ∀ c ∈ l, 48 ≤ c.toNat) (k : Nat) : 0 ≤ ov (l.take k) ∧ ∀ j, k ≤ j → ov (l.take k) ≤ ov (l.take j) := by
  have step : ∀ k, 0 ≤ ov (l.take k) → ov (l.take k) ≤ ov (l.take (k + 1)) ∧ 0 ≤ ov (l.take (k + 1)) := by
    intro k h0
    by_cases hk : k < l.length
    · rw [ov_take l k hk]
      have : (48 : Int) ≤ bAt l k := by
        unfold bAt
        rw [List.getD_eq_getElem?_getD, List.getElem?_eq_getElem hk]
        have := h l[k] (List.getElem_mem _)
        simp
        omega
      omega
    · rw [List.take_of_length_le (by omega), List.take_of_length_le (by omega)] at *
      exact ⟨Int.le_refl _, h0⟩
  have nn : ∀ k, 0 ≤ ov (l.take k) := by
    intro k
    induction k with
    | zero => exact Int.le_refl _
    | succ k ih => exact (step k ih).2
  refine ⟨nn k, fun j hj => ?_⟩
  induction j with
  | zero => obtain rfl : k = 0 := by omega
            exact Int.le_refl _
  | succ j ih =>
    by_cases e : k = j + 1
    · subst e; exact Int.le_refl _
    · exact Int.le_trans (ih (by omega)) (step j (nn j)).1
theorem octD_good (m : Nat) (hm : m < 65536) : ¬ Bad (octD m) := by
  rintro ⟨k, hk, h⟩
  have hd := octD_dig m (octD m)[k] (List.getElem_mem _)
  have e : bAt (octD m) k = ((octD m)[k].toNat : Int) := by unfold bAt; rw [List.getD_eq_getElem?_getD, List.getElem?_eq_getElem hk]; rfl
  have h2 := (ov_take_bd (octD m) (fun c hc => (octD_dig m c hc).1) (k + 1)).2 (octD m).length (by omega)
  rw [List.take_of_length_le (Nat.le_refl _), octD_ov] at h2
  rw [e] at h
  omega


set_option maxHeartbeats 400000 in
set_option maxRecDepth 100000 in
theorem pu_empty (w : World) : Calls Tryz.prog 103 #[.string ⟨#[]⟩, .int .i64 8, .int .i64 16] w fun e w' => BadEnd e ∧ w' = w := by
  go_enter Tryz.func103, Tryz.ntmps103
  go_wp2
  go_ret2
  exact ⟨⟨_, 2, .inr rfl, rfl⟩, rfl⟩

/-- What strconv.ParseUint(s, 8, 16) ends with: the number and nil; or an error. -/
def PuEnd (l : List UInt8) (e : Ending) : Prop :=
  (0 ≤ ov l ∧ ov l ≤ 65535 ∧ e = .returned (.tuple #[.int .u64 (ov l), .nilIface])) ∨ ((l = [] ∨ Bad l) ∧ ∃ y t v, e = .returned (.tuple #[.int .u64 y, .iface t v]))

set_option maxHeartbeats 1000000 in
set_option maxRecDepth 100000 in
theorem puP_any (s : ByteArray) (hmax : s.size ≤ 1099511627776) (te1 te2 : TypeId) (pe1 pe2 : Value) (w : World) (hv1 : w.cell? ⟨4, 0, none⟩ = some (.iface te1 pe1)) (hv2 : w.cell? ⟨5, 0, none⟩ = some (.iface te2 pe2)) :
    Calls Tryz.prog 96 #[.string s, .int .i64 8, .int .i64 16] w fun e w' => PuEnd s.data.toList e ∧ Below w.heap.size w w' := by
  have g1 : 4 < w.heap.size := World.block_lt_of_cell? w _ hv1
  have g2 : 5 < w.heap.size := World.block_lt_of_cell? w _ hv2
  have V1 := hide hv1
  have V2 := hide hv2
  clear hv1 hv2
  have inner : Calls Tryz.prog 103 #[.string s, .int .i64 8, .int .i64 16] w fun e w' => Below w.heap.size w w' ∧
      ((0 ≤ ov s.data.toList ∧ ov s.data.toList ≤ 65535 ∧ e = .returned (.tuple #[.int .u64 (ov s.data.toList), .nilIface])) ∨ ((s.data.toList = [] ∨ Bad s.data.toList) ∧ BadEnd e)) := by
    by_cases h0 : s.size = 0
    · have hs : s = ⟨#[]⟩ := by
        apply ByteArray.ext
        exact Array.eq_empty_of_size_eq_zero h0
      subst hs
      exact (pu_empty w).mono fun e w' ⟨he, hw⟩ => by subst hw; exact ⟨Below.refl _ _, .inr ⟨.inl rfl, he⟩⟩
    · exact (pu_any s h0 hmax w).mono fun e w' ⟨hb, h⟩ => ⟨hb, h.elim .inl fun ⟨a, b⟩ => .inr ⟨.inr a, b⟩⟩
  have HI := hide inner
  clear inner
  go_enter Tryz.func96, Tryz.ntmps96
  go_wp2_with fail
  refine (unhide HI).mono ?_
  rintro e w1 ⟨hb, h⟩
  clear HI
  have c1 := hide ((hb.cell (p := ⟨4, 0, none⟩) g1).trans (unhide V1))
  have c2 := hide ((hb.cell (p := ⟨5, 0, none⟩) g2).trans (unhide V2))
  have s1 := hb.size
  rcases h with ⟨h0, h1, he⟩ | ⟨hbad, y, c, hc, he⟩
  · subst he
    go_wp2
    go_ret2
    exact ⟨.inl ⟨h0, h1, rfl⟩, hb⟩
  · subst he
    have HB := hide hbad
    clear hbad
    rcases hc with rfl | rfl
    · go_wp2_with fail
      refine (toErr_rng _ s 8 16 te2 pe2 w1 (by omega) (unhide c2)).mono ?_
      rintro e w2 ⟨t, v, rfl, hb2⟩
      go_wp2
      go_ret2
      exact ⟨.inr ⟨unhide HB, _, _, _, rfl⟩, hb.trans (hb2.mono s1)⟩
    · go_wp2_with fail
      refine (toErr_syn _ s 8 16 te1 pe1 w1 (by omega) (unhide c1)).mono ?_
      rintro e w2 ⟨t, v, rfl, hb2⟩
      go_wp2
      go_ret2
      exact ⟨.inr ⟨unhide HB, _, _, _, rfl⟩, hb.trans (hb2.mono s1)⟩


set_option maxHeartbeats 1000000 in
theorem poI_yes (m : Nat) (hm : m < 65536) (te1 te2 : TypeId) (pe1 pe2 : Value) (w : World) (hv1 : w.cell? ⟨4, 0, none⟩ = some (.iface te1 pe1)) (hv2 : w.cell? ⟨5, 0, none⟩ = some (.iface te2 pe2)) (hg : w.cell? ⟨8, 7, none⟩ = some (.int .u8 3)) :
    Calls Tryz.prog 66 #[.string (strOf (octD m))] w fun e w' => e = .returned (.tuple #[.int .i64 m, .bool true]) ∧ Below w.heap.size w w' := by
  have g4 : 8 < w.heap.size := World.block_lt_of_cell? w _ hg
  have hlen := octD_len m 5 (by omega)
  have H := hide (puP_any (strOf (octD m)) (by rw [strOf_size]; omega) te1 te2 pe1 pe2 w hv1 hv2)
  have V := hide hg
  clear hv1 hv2 hg
  go_enter Tryz.func66, Tryz.ntmps66
  go_wp2_with fail
  refine (unhide H).mono ?_
  rintro e w1 ⟨h, hb⟩
  have c4 := hide ((hb.cell (p := ⟨8, 7, none⟩) g4).trans (unhide V))
  rw [strOf_list] at h
  have s1 := hb.size
  rcases h with ⟨h0, h1, he⟩ | ⟨hbad, _⟩
  · rw [octD_ov] at he
    subst he
    clear h0 h1 H V hlen
    go_wp2_with fail
    refine (octI_any m w1 (unhide c4)).mono ?_
    rintro e w2 ⟨he, hb2⟩
    rw [show ((m : Int) % 65536).toNat = m by omega] at he
    subst he
    go_wp2
    go_ret2
    exact ⟨rfl, hb.trans (hb2.mono s1)⟩
  · exact absurd hbad (by
      rintro (h | h)
      · exact octD_ne m h
      · exact octD_good m hm h)

set_option maxHeartbeats 1000000 in
theorem poI_no (s : ByteArray) (hs : ∀ m, m < 65536 → s ≠ strOf (octD m)) (hmax : s.size ≤ 1099511627776) (te1 te2 : TypeId) (pe1 pe2 : Value) (w : World) (hv1 : w.cell? ⟨4, 0, none⟩ = some (.iface te1 pe1)) (hv2 : w.cell? ⟨5, 0, none⟩ = some (.iface te2 pe2)) (hg : w.cell? ⟨8, 7, none⟩ = some (.int .u8 3)) :
    Calls Tryz.prog 66 #[.string s] w fun e w' => e = .returned (.tuple #[.int .i64 0, .bool false]) ∧ Below w.heap.size w w' := by
  have g4 : 8 < w.heap.size := World.block_lt_of_cell? w _ hg
  have H := hide (puP_any s hmax te1 te2 pe1 pe2 w hv1 hv2)
  have V := hide hg
  have HS := hide hs
  clear hv1 hv2 hg hs
  go_enter Tryz.func66, Tryz.ntmps66
  go_wp2_with fail
  refine (unhide H).mono ?_
  rintro e w1 ⟨h, hb⟩
  have c4 := hide ((hb.cell (p := ⟨8, 7, none⟩) g4).trans (unhide V))
  have s1 := hb.size
  rcases h with ⟨h0, h1, he⟩ | ⟨_, y, t, v, he⟩
  · subst he
    obtain ⟨x, hx⟩ := Int.eq_ofNat_of_zero_le h0
    rw [hx] at h1 ⊢
    have hne := str_ne (unhide HS x (by omega)).symm
    clear H V hx h0
    go_wp2_with fail
    refine (octI_any x w1 (unhide c4)).mono ?_
    rintro e w2 ⟨he, hb2⟩
    rw [show ((x : Int) % 65536).toNat = x by omega] at he
    subst he
    go_wp2
    go_ret2
    exact ⟨rfl, hb.trans (hb2.mono s1)⟩
  · subst he
    clear H V
    go_wp2
    go_ret2
    exact ⟨rfl, hb⟩

theorem in_yes (x a b : Int) (w : World) (h1 : a ≤ x) (h2 : x ≤ b) : Calls Tryz.prog 89 #[.int .i64 x, .int .i64 a, .int .i64 b] w fun e w' => e = .returned (.bool true) ∧ w' = w := by
  go_enter Tryz.func89, Tryz.ntmps89
  go_wp2
  go_ret
  exact ⟨rfl, rfl⟩
theorem in_no (x a b : Int) (w : World) (h : x < a ∨ b < x) : Calls Tryz.prog 89 #[.int .i64 x, .int .i64 a, .int .i64 b] w fun e w' => e = .returned (.bool false) ∧ w' = w := by
  by_cases h1 : x < a
  · clear h
    go_enter Tryz.func89, Tryz.ntmps89
    go_wp2
    go_ret
    exact ⟨rfl, rfl⟩
  · have h2 : b < x := by omega
    have h3 : a ≤ x := by omega
    have h4 : decide (x ≤ b) = false := by simp; omega
    clear h h1
    go_enter Tryz.func89, Tryz.ntmps89
    go_wp2
    go_ret
    exact ⟨rfl, rfl⟩

def Digs (l : List UInt8) (k : Nat) : Prop := ∀ j, j < k → 48 ≤ bAt l j ∧ bAt l j ≤ 55
theorem ov_lt (l : List UInt8) (k : Nat) (hk : k ≤ l.length) (h : Digs l k) : 0 ≤ ov (l.take k) ∧ ov (l.take k) + 1 ≤ ((8 ^ k : Nat) : Int) := by
  induction k with
  | zero => exact ⟨Int.le_refl _, Int.le_refl _⟩
  | succ k ih =>
    have ih := ih (by omega) (fun j hj => h j (by omega))
    have hd := h k (by omega)
    rw [ov_take l k (by omega), Nat.pow_succ]
    omega
theorem ov_six (l : List UInt8) (k : Nat) (hk : k ≤ l.length) (h6 : k ≤ 6) (h : Digs l k) : 0 ≤ ov (l.take k) ∧ ov (l.take k) ≤ 262143 := by
  have h1 := ov_lt l k hk h
  have h2 : 8 ^ k ≤ 8 ^ 6 := Nat.pow_le_pow_right (by omega) h6
  have h3 : (8 : Nat) ^ 6 = 262144 := by decide
  omega

theorem no_dig (s : ByteArray) (k : Nat) (hk : k < s.size) (h : ¬ (48 ≤ bAt s.data.toList k ∧ bAt s.data.toList k ≤ 55)) : ∀ m, m < 65536 → s ≠ strOf (octD m) := by
  intro m _ e
  rw [e, strOf_list] at h
  have hk' : k < (octD m).length := by rw [e, strOf_size] at hk; exact hk
  have hd := octD_dig m (octD m)[k] (List.getElem_mem _)
  apply h
  unfold bAt
  rw [List.getD_eq_getElem?_getD, List.getElem?_eq_getElem hk']
  simp
  omega
theorem no_ov (s : ByteArray) (h : ov s.data.toList < 0 ∨ 65535 < ov s.data.toList ∨ s ≠ strOf (octD (ov s.data.toList).toNat)) : ∀ m, m < 65536 → s ≠ strOf (octD m) := by
  intro m hm e
  have h2 : ov s.data.toList = m := by rw [e, strOf_list, octD_ov]
  rw [h2, Int.toNat_natCast] at h
  rcases h with h | h | h
  · omega
  · omega
  · exact h e

set_option maxHeartbeats 1000000 in
set_option maxRecDepth 100000 in
theorem poS_any (s : ByteArray) (hmax : s.size ≤ 1099511627776) (w : World) :
    Calls Tryz.prog 88 #[.string s] w fun e w' => Below w.heap.size w w' ∧
      ((∃ m : Nat, m < 65536 ∧ s = strOf (octD m) ∧ e = .returned (.tuple #[.int .i64 m, .bool true])) ∨ ((∀ m, m < 65536 → s ≠ strOf (octD m)) ∧ e = .returned (.tuple #[.int .i64 0, .bool false]))) := by
  by_cases h6 : s.size ≤ 6
  · go_enter Tryz.func88, Tryz.ntmps88
    go_wp2
    go_loop [4, 5] (fun n i => ∃ (k : Nat) (a : Int), n = .int .i64 a ∧ i = .int .i64 k ∧ k ≤ s.size ∧ 0 ≤ a ∧ a ≤ 262143 ∧ Hid (a = ov (s.data.toList.take k)) ∧ Hid (Digs s.data.toList k)) (fun _ i => s.size - (intOf i).toNat)
    case atStart => exact ⟨0, 0, rfl, rfl, by omega, by omega, by omega, rfl, fun j hj => by omega⟩
    case round =>
      obtain ⟨k, a, rfl, rfl, hk, a0, a1, ha, hd⟩ := hrel
      have hsl : s.data.toList.length = s.size := by simp
      by_cases hlt : k < s.size
      · have he := sAt s k hlt
        have hbd := bAt_bd s.data.toList k
        have hT := ov_take s.data.toList k (by omega)
        rw [← ha.out] at hT
        have HT := hide hT
        clear hT
        by_cases hdig : 48 ≤ bAt s.data.toList k ∧ bAt s.data.toList k ≤ 55
        · have hd' : Digs s.data.toList (k + 1) := fun j hj => by
            by_cases e : j = k
            · subst e; exact hdig
            · exact hd.out j (by omega)
          have hb := ov_six s.data.toList (k + 1) (by omega) (by omega) hd'
          rw [unhide HT] at hb
          have HD := hide hd'
          have hdig0 := hdig.1
          have hdig1 := hdig.2
          clear hd' hdig hsl
          go_wp2_with (go_at_call 89; refine (in_yes _ _ _ _ (by omega) (by omega)).mono ?_; rintro e w' ⟨rfl, hw'⟩; rw [hw']; clear hw' w')
          go_round
          case rel => exact ⟨k + 1, a * 8 + (bAt s.data.toList k - 48), by go_num, by go_num, by omega, hb.1, hb.2, (unhide HT).symm, unhide HD⟩
          case measure => simp [intOf]; omega
        · have HN := hide (no_dig s k hlt hdig)
          have hor : bAt s.data.toList k < 48 ∨ 55 < bAt s.data.toList k := by omega
          have HO := hide hor
          clear hor hdig hsl
          go_wp2_with (go_at_call 89; refine (in_no _ _ _ _ (unhide HO)).mono ?_; rintro e w' ⟨rfl, hw'⟩; rw [hw']; clear hw' w')
          go_ret2
          exact ⟨Below.refl _ _, .inr ⟨unhide HN, rfl⟩⟩
      · have hfin : a = ov s.data.toList := by rw [ha.out, List.take_of_length_le (by omega)]
        have HF := hide hfin
        clear hfin ha hd hsl
        by_cases hgt : 65535 < a
        · have HN := hide (no_ov s (.inr (.inl (by rw [← unhide HF]; exact hgt))))
          go_wp2
          go_ret2
          exact ⟨Below.refl _ _, .inr ⟨unhide HN, rfl⟩⟩
        · obtain ⟨m, rfl⟩ := Int.eq_ofNat_of_zero_le a0
          have hm : m < 65536 := by omega
          by_cases heq : s = strOf (octD m)
          · have HE := hide heq
            clear heq
            go_wp2_with fail
            refine (octS_any m w).mono ?_
            rintro e w2 ⟨he, hb2⟩
            rw [show ((m : Int) % 65536).toNat = m by omega, ← unhide HE] at he
            subst he
            go_wp2
            go_ret2
            exact ⟨hb2, .inl ⟨m, hm, unhide HE, rfl⟩⟩
          · have hne := str_ne (fun e => heq (Eq.symm e))
            have HN := hide (no_ov s (.inr (.inr (by rw [← unhide HF, Int.toNat_natCast]; exact heq))))
            clear heq
            go_wp2_with fail
            refine (octS_any m w).mono ?_
            rintro e w2 ⟨he, hb2⟩
            rw [show ((m : Int) % 65536).toNat = m by omega] at he
            subst he
            go_wp2
            go_ret2
            exact ⟨hb2, .inr ⟨unhide HN, rfl⟩⟩
  · have HN := hide (show ∀ m, m < 65536 → s ≠ strOf (octD m) from fun m hm e => by
      have h1 := octD_len m 5 (by omega)
      have h2 := strOf_size (octD m)
      rw [← e] at h2
      omega)
    have hne := str_ne (a := strOf (octD 0)) (b := s) (fun e => unhide HN 0 (by omega) e.symm)
    have h7 : decide ((s.size : Int) ≤ 6) = false := by simp; omega
    go_enter Tryz.func88, Tryz.ntmps88
    go_wp2
    go_loop [4, 5] (fun n i => n = .int .i64 0 ∧ i = .int .i64 0) (fun _ _ => 0)
    case atStart => exact ⟨rfl, rfl⟩
    case round =>
      obtain ⟨rfl, rfl⟩ := hrel
      go_wp2_with fail
      refine (octS_any 0 w).mono ?_
      rintro e w2 ⟨he, hb2⟩
      rw [show ((0 : Int) % 65536).toNat = 0 by decide] at he
      subst he
      go_wp2
      go_ret2
      exact ⟨hb2, .inr ⟨unhide HN, rfl⟩⟩
end Go.Proofs.YthgbpofcfmnpdaaGreatDoor

namespace Go.Proofs.YthgbpofcfmnpdaaGreatDoor
open Go.ChangeShapes Go.WideShapes Go.ChangeAt Go.RowKit
set_option linter.unusedVariables false
set_option maxRecDepth 8000

/-- The place behind the bytes that go on from a place. -/
def runN (p : Int → Bool) (l : List UInt8) (at_ : Nat) : Nat := at_ + ((l.drop at_).takeWhile (fun c => p (c.toNat : Int))).length
theorem drop_bAt {l : List UInt8} {k : Nat} (h : k < l.length) : l.drop k = (l.getD k 0) :: l.drop (k + 1) := by
  rw [List.drop_eq_getElem_cons h, List.getD_eq_getElem?_getD, List.getElem?_eq_getElem h]
  rfl
theorem runN_yes {p : Int → Bool} {l : List UInt8} {k : Nat} (h : k < l.length) (hp : p (bAt l k) = true) : runN p l k = runN p l (k + 1) := by
  unfold runN
  rw [drop_bAt h, List.takeWhile_cons]
  unfold bAt at hp
  rw [hp]
  simp only [if_true, List.length_cons]
  omega
theorem runN_no {p : Int → Bool} {l : List UInt8} {k : Nat} (h : k < l.length) (hp : p (bAt l k) = false) : runN p l k = k := by
  unfold runN
  rw [drop_bAt h, List.takeWhile_cons]
  unfold bAt at hp
  rw [hp]
  rfl
theorem runN_end {p : Int → Bool} {l : List UInt8} {k : Nat} (h : l.length ≤ k) : runN p l k = k := by
  unfold runN
  rw [List.drop_eq_nil_of_le h]
  rfl
theorem runN_le {p : Int → Bool} {l : List UInt8} {k : Nat} (h : k ≤ l.length) : k ≤ runN p l k ∧ runN p l k ≤ l.length := by
  unfold runN
  have h1 := (List.takeWhile_prefix (l := l.drop k) (fun c => p (c.toNat : Int))).length_le
  rw [List.length_drop] at h1
  omega
/-- A number's digits, read, or none. -/
def numV (x : ByteArray) : Option Nat := if (decide ((ov x.data.toList).toNat < 65536) && eqS x (strOf (octD (ov x.data.toList).toNat))) = true then some (ov x.data.toList).toNat else none
theorem numV_yes {x : ByteArray} {m : Nat} (hm : m < 65536) (hx : x = strOf (octD m)) : numV x = some m := by
  have e : (ov x.data.toList).toNat = m := by rw [hx, strOf_list, octD_ov]; exact Int.toNat_natCast m
  unfold numV
  rw [e, decide_eq_true hm, (eqS_iff _ _).2 hx]
  rfl
theorem numV_no {x : ByteArray} (h : ∀ m, m < 65536 → x ≠ strOf (octD m)) : numV x = none := by
  unfold numV
  rw [if_neg]
  intro hc
  rw [Bool.and_eq_true, decide_eq_true_eq, eqS_iff] at hc
  exact h _ hc.1 hc.2
theorem numV_bd {x : ByteArray} {m : Nat} (h : numV x = some m) : m < 65536 ∧ x = strOf (octD m) := by
  unfold numV at h
  split at h
  · rename_i hc
    rw [Bool.and_eq_true, decide_eq_true_eq, eqS_iff] at hc
    cases h
    exact hc
  · cases h
def wordT (x : ByteArray) : Tk := if keptB x = true then ⟨5, 0, x⟩ else ⟨1, 0, x⟩
/-- A number's token; n: what stands there if the digits are none. -/
def numT (bad : Tk) (x : ByteArray) : Tk := match numV x with
  | some m => ⟨2, m, ⟨#[]⟩⟩
  | none => bad
def badS : Tk := ⟨2, -1, ⟨#[]⟩⟩
def badI : Tk := ⟨0, 0, ⟨#[]⟩⟩
theorem badS_ok : badS.ok = false := by decide
theorem badI_ok : badI.ok = false := by decide
/-- The place behind the token that begins at a place. -/
def oneE (s : ByteArray) (k : Nat) : Nat :=
  if smB (bAt s.data.toList k) = true then runN ldB s.data.toList k
  else if dgB (bAt s.data.toList k) = true then runN dgB s.data.toList k
  else if (bAt s.data.toList k == 46 && (decide (k + 1 < s.size) && smB (bAt s.data.toList (k + 1)))) = true then runN ldB s.data.toList (k + 1)
  else k + 1
/-- The token that begins at a place. -/
def oneT (bad : Tk) (s : ByteArray) (k : Nat) : Tk :=
  if smB (bAt s.data.toList k) = true then wordT (s.extract k (oneE s k))
  else if dgB (bAt s.data.toList k) = true then numT bad (s.extract k (oneE s k))
  else if (bAt s.data.toList k == 46 && (decide (k + 1 < s.size) && smB (bAt s.data.toList (k + 1)))) = true then ⟨3, 0, s.extract k (oneE s k)⟩
  else ⟨4, 0, s.extract k (oneE s k)⟩
theorem ld_of_sm {c : Int} (h : smB c = true) : ldB c = true := by unfold ldB; rw [h]; rfl
theorem oneE_bd (s : ByteArray) (k : Nat) (h : k < s.size) : k < oneE s k ∧ oneE s k ≤ s.size := by
  have hl := size_len s
  have hk : k < s.data.toList.length := by omega
  unfold oneE
  split
  · rename_i h1
    rw [runN_yes hk (ld_of_sm h1)]
    have := runN_le (p := ldB) (l := s.data.toList) (k := k + 1) (by omega)
    omega
  · split
    · rename_i h1
      rw [runN_yes hk h1]
      have := runN_le (p := dgB) (l := s.data.toList) (k := k + 1) (by omega)
      omega
    · split
      · have := runN_le (p := ldB) (l := s.data.toList) (k := k + 1) (by omega)
        omega
      · omega
theorem oneT_same (a b : Tk) (ha : a.ok = false) (hb : b.ok = false) (s : ByteArray) (k : Nat) : (oneT a s k).ok = (oneT b s k).ok ∧ ((oneT b s k).ok = true → oneT a s k = oneT b s k) := by
  unfold oneT
  split
  · exact ⟨rfl, fun _ => rfl⟩
  · split
    · unfold numT
      cases numV (s.extract k (oneE s k)) with
      | some m => exact ⟨rfl, fun _ => rfl⟩
      | none => exact ⟨ha.trans hb.symm, fun h => by rw [hb] at h; cases h⟩
    · exact ⟨rfl, fun _ => rfl⟩
/-- The same, by so many steps. -/
def lexG (s : ByteArray) : Nat → Nat → List Tk → List Tk × Bool
  | 0, _, acc => (acc, true)
  | n + 1, k, acc =>
    if k < s.size then
      if bAt s.data.toList k = 59 then (acc, true)
      else if blB (bAt s.data.toList k) = true then lexG s n (k + 1) acc
      else if ((!(oneT badS s k).ok) || acc.length == 800) = true then ([], false)
      else lexG s n (oneE s k) (acc ++ [oneT badS s k])
    else (acc, true)
/-- More steps than bytes are left change nothing. -/
theorem lexG_more (s : ByteArray) : ∀ (n m k : Nat) (acc : List Tk), s.size - k ≤ n → s.size - k ≤ m → lexG s n k acc = lexG s m k acc := by
  intro n
  induction n with
  | zero =>
    intro m k acc hn hm
    have hk : ¬ k < s.size := by omega
    cases m with
    | zero => rfl
    | succ m => simp only [lexG, if_neg hk]
  | succ n ih =>
    intro m k acc hn hm
    by_cases hk : k < s.size
    · cases m with
      | zero => omega
      | succ m =>
        have := oneE_bd s k hk
        simp only [lexG]
        rw [ih m (k + 1) acc (by omega) (by omega), ih m (oneE s k) (acc ++ [oneT badS s k]) (by omega) (by omega)]
    · cases m with
      | zero => simp only [lexG, if_neg hk]
      | succ m => simp only [lexG, if_neg hk]
/-- What Lex answers, from a place on, behind so many tokens. -/
def lexR (s : ByteArray) (k : Nat) (acc : List Tk) : List Tk × Bool := lexG s (s.size - k) k acc
theorem lexR_eq (s : ByteArray) (k : Nat) (acc : List Tk) : lexR s k acc = if k < s.size then if bAt s.data.toList k = 59 then (acc, true) else if blB (bAt s.data.toList k) = true then lexR s (k + 1) acc else if ((!(oneT badS s k).ok) || acc.length == 800) = true then ([], false) else lexR s (oneE s k) (acc ++ [oneT badS s k]) else (acc, true) := by
  by_cases hk : k < s.size
  · have hb := oneE_bd s k hk
    unfold lexR
    obtain ⟨n, hn⟩ : ∃ n, s.size - k = n + 1 := ⟨s.size - k - 1, by omega⟩
    rw [hn]
    simp only [lexG]
    rw [lexG_more s n (s.size - (k + 1)) (k + 1) acc (by omega) (by omega), lexG_more s n (s.size - oneE s k) (oneE s k) (acc ++ [oneT badS s k]) (by omega) (by omega)]
  · unfold lexR
    have e : s.size - k = 0 := by omega
    rw [e, if_neg hk]
    rfl
theorem lexR_end {s : ByteArray} {k : Nat} {acc : List Tk} (h : ¬ k < s.size) : lexR s k acc = (acc, true) := by rw [lexR_eq, if_neg h]
theorem lexR_semi {s : ByteArray} {k : Nat} {acc : List Tk} (h : k < s.size) (h1 : bAt s.data.toList k = 59) : lexR s k acc = (acc, true) := by rw [lexR_eq, if_pos h, if_pos h1]
theorem lexR_blank {s : ByteArray} {k : Nat} {acc : List Tk} (h : k < s.size) (h1 : bAt s.data.toList k ≠ 59) (h2 : blB (bAt s.data.toList k) = true) : lexR s k acc = lexR s (k + 1) acc := by rw [lexR_eq, if_pos h, if_neg h1, if_pos h2]
theorem lexR_bad {s : ByteArray} {k : Nat} {acc : List Tk} (h : k < s.size) (h1 : bAt s.data.toList k ≠ 59) (h2 : blB (bAt s.data.toList k) = false) (h3 : (oneT badS s k).ok = false ∨ acc.length = 800) : lexR s k acc = ([], false) := by
  rw [lexR_eq, if_pos h, if_neg h1, if_neg (by rw [h2]; decide), if_pos]
  rcases h3 with h | h
  · rw [h]; rfl
  · rw [h]; simp
theorem lexR_next {s : ByteArray} {k : Nat} {acc : List Tk} (h : k < s.size) (h1 : bAt s.data.toList k ≠ 59) (h2 : blB (bAt s.data.toList k) = false) (h3 : (oneT badS s k).ok = true) (h4 : acc.length ≠ 800) : lexR s k acc = lexR s (oneE s k) (acc ++ [oneT badS s k]) := by
  rw [lexR_eq, if_pos h, if_neg h1, if_neg (by rw [h2]; decide), if_neg]
  rw [h3]
  simp [h4]
end Go.Proofs.YthgbpofcfmnpdaaGreatDoor

namespace Go.Proofs.YthgbpofcfmnpdaaGreatDoor
open Go.ChangeShapes Go.WideShapes Go.ChangeAt Go.RowKit
set_option linter.unusedVariables false
set_option maxRecDepth 8000

set_option maxHeartbeats 1000000 in
theorem tok5 (s : ByteArray) (w : World) : Calls Tryz.prog 62 #[.agg (Tk.cs ⟨5, 0, s⟩)] w fun e w' => e = .returned (.bool (keptB s)) ∧ Below w.heap.size w w' := by
  have hB := hide (below_new w (.cells (Tk.cs ⟨5, 0, s⟩) 62))
  obtain ⟨c0, c1, c2⟩ := box3 w ⟨5, 0, s⟩ 62
  simp only at c0 c1 c2
  have HZ := hide (show w.heap.size < (w.alloc (.cells (Tk.cs ⟨5, 0, s⟩) 62)).heap.size by simp)
  generalize Tk.cs ⟨5, 0, s⟩ = cc at *
  have HY := hide (fun h => atV_yes (L := keptL) (s := s) h)
  have HNo := hide (fun h => atV_no (L := keptL) (s := s) h)
  have HA := hide (fun g w1 (hr : RdS w1 g keptL) => at_any keptL s g 31 31 w1 rfl (by omega) hr)
  unfold keptB
  generalize hasS keptL s = q at *
  generalize atV keptL s = v at *
  have E := hide (show (decide (0 ≤ v)) = q by
    cases q
    · rw [unhide HNo rfl]; rfl
    · have := unhide HY rfl
      simp
      omega)
  clear HY HNo
  go_enter Tryz.func62, Tryz.ntmps62
  go_wp2
  generalize w.alloc (Obj.cells cc 62) = W at *
  have c2d : W.drew.cell? ⟨w.heap.size, 2, none⟩ = some (.string s) := c2
  have C2 := hide (fun w1 (hb : Below W.drew.heap.size W.drew w1) => (hb.cell (p := ⟨w.heap.size, 2, none⟩) (unhide HZ)).trans c2d)
  have BB := hide (fun w1 (hb : Below W.drew.heap.size W.drew w1) => ((unhide hB).drew).trans (hb.mono (Nat.le_of_lt (unhide HZ))))
  clear c0 c1
  go_region_with (first | (go_at_call 94; refine (kept_any _).mono ?_; rintro e w1 ⟨rfl, hr1, hb1⟩; have c2e := unhide C2 w1 hb1; have B1 := hide (unhide BB w1 hb1); have R1 := hide hr1; clear hr1 hb1) | (go_at_call 93; refine (unhide HA _ _ (unhide R1)).mono ?_; rintro e w' ⟨rfl, hw'⟩; rw [hw']; clear hw' w'))
  all_goals
    go_wp2
    go_ret
    exact ⟨by rw [← unhide E]; rfl, unhide B1⟩
end Go.Proofs.YthgbpofcfmnpdaaGreatDoor

namespace Go.Proofs.YthgbpofcfmnpdaaGreatDoor
open Go.ChangeShapes Go.WideShapes Go.ChangeAt Go.RowKit
set_option linter.unusedVariables false
set_option maxRecDepth 8000

set_option maxHeartbeats 2000000 in
theorem tokS_any (t : Tk) (w : World) (hmax : t.s.size ≤ 1099511627776) : Calls Tryz.prog 62 #[t.v] w fun e w' => e = .returned (.bool t.ok) ∧ Below w.heap.size w w' := by
  have hB := hide (below_new w (.cells t.cs 62))
  obtain ⟨c0, c1, c2⟩ := box3 w t 62
  unfold Tk.v Tk.ok
  obtain ⟨k, n, s⟩ := t
  simp only at hmax c0 c1 c2 ⊢
  have HW := hide (fun w => in_any n 0 65535 w)
  have HN := hide (nameS_any s (w.alloc (.cells (Tk.cs ⟨k, n, s⟩) 62)) hmax)
  have HM := hide (fun w => mkrS_any s w)
  have T5 := hide (show k = 5 → n = 0 → Calls Tryz.prog 62 #[.agg (Tk.cs ⟨k, n, s⟩)] w fun e w' => e = .returned (.bool (keptB s)) ∧ Below w.heap.size w w' from by rintro rfl rfl; exact tok5 s w)
  generalize Tk.cs ⟨k, n, s⟩ = cc at *
  by_cases h2 : k = 2
  · subst h2
    rw [if_pos (by decide)]
    generalize inB n 0 65535 = q at *
    cases q
    · go_enter Tryz.func62, Tryz.ntmps62
      go_wp2_with (go_at_call 89; refine (unhide HW _).mono ?_; rintro e w' ⟨rfl, rfl⟩)
      go_ret
      exact ⟨rfl, unhide hB⟩
    · by_cases hz : s.size = 0
      · have he := emp_yes s hz
        rw [decide_eq_true hz]
        go_enter Tryz.func62, Tryz.ntmps62
        go_wp2_with (go_at_call 89; refine (unhide HW _).mono ?_; rintro e w' ⟨rfl, rfl⟩)
        go_ret
        exact ⟨rfl, unhide hB⟩
      · have he := emp_no s hz
        rw [decide_eq_false hz]
        go_enter Tryz.func62, Tryz.ntmps62
        go_wp2_with (go_at_call 89; refine (unhide HW _).mono ?_; rintro e w' ⟨rfl, rfl⟩)
        go_ret
        exact ⟨rfl, unhide hB⟩
  · have h2b : (k == 2) = false := beq_eq_false_iff_ne.2 h2
    rw [h2b, if_neg (by decide)]
    by_cases hn : n = 0
    · subst hn
      rw [if_neg (by decide)]
      by_cases h1 : k = 1
      · subst h1
        rw [if_pos (by decide)]
        generalize nameB s = q at *
        clear HW HM
        go_enter Tryz.func62, Tryz.ntmps62
        go_wp2_with (go_at_call 90; refine (unhide HN).mono ?_; rintro e w1 ⟨rfl, hb1⟩)
        go_ret
        exact ⟨rfl, (unhide hB).trans (hb1.mono (by simp))⟩
      · have h1b : (k == 1) = false := beq_eq_false_iff_ne.2 h1
        rw [h1b, if_neg (by decide)]
        by_cases h3 : k = 3
        · subst h3
          rw [if_pos (by decide)]
          clear HW HM HN
          by_cases hz1 : s.size ≤ 1
          · have hgt : decide ((1 : Int) < (s.size : Int)) = false := by simp; omega
            have E := hide (show dotB s.data.toList = false by
              by_cases hz : s.size = 0
              · rw [empty_of s hz]; rfl
              · rw [head_of s hz, dotB_cons]
                have : formB (s.data.toList.drop 1) = false := by
                  rw [List.drop_eq_nil_of_le (by rw [size_len]; omega)]; rfl
                rw [this, Bool.and_false])
            rw [unhide E]
            go_enter Tryz.func62, Tryz.ntmps62
            go_wp2
            go_ret
            exact ⟨rfl, unhide hB⟩
          · have hgt : (1 : Int) < (s.size : Int) := by omega
            have h0 : s.size ≠ 0 := by omega
            have he := sAt s 0 (by omega)
            have HF := hide (fun w => formS_any (s.extract 1 s.size) w (by rw [rest_size]; omega))
            have E := hide (show dotB s.data.toList = (bAt s.data.toList 0 == 46 && formB (s.extract 1 s.size).data.toList) by
              rw [rest_of]
              conv => lhs; rw [head_of s h0]
              rw [dotB_cons]
              congr 1
              rw [Bool.eq_iff_iff, beq_iff_eq, beq_iff_eq]
              unfold bAt
              constructor
              · intro e; rw [e]; rfl
              · intro e
                apply UInt8.toNat_inj.1
                show _ = 46
                omega)
            rw [unhide E]
            generalize formB (s.extract 1 s.size).data.toList = q at *
            generalize bAt s.data.toList 0 = c at *
            clear E
            cases hc : (c == 46)
            · go_enter Tryz.func62, Tryz.ntmps62
              go_wp2
              go_ret
              exact ⟨rfl, unhide hB⟩
            · go_enter Tryz.func62, Tryz.ntmps62
              go_wp2_with (go_at_call 91; refine (unhide HF _).mono ?_; rintro e w' ⟨rfl, rfl⟩)
              go_ret
              exact ⟨rfl, unhide hB⟩
        · have h3b : (k == 3) = false := beq_eq_false_iff_ne.2 h3
          rw [h3b, if_neg (by decide)]
          by_cases h4 : k = 4
          · subst h4
            rw [if_pos (by decide)]
            generalize markB s.data.toList = q at *
            clear HW HN
            go_enter Tryz.func62, Tryz.ntmps62
            go_wp2_with (go_at_call 92; refine (unhide HM _).mono ?_; rintro e w' ⟨rfl, rfl⟩)
            go_ret
            exact ⟨rfl, unhide hB⟩
          · have h4b : (k == 4) = false := beq_eq_false_iff_ne.2 h4
            rw [h4b, if_neg (by decide)]
            by_cases h5 : k = 5
            · subst h5
              rw [if_pos (by decide)]
              exact unhide T5 rfl rfl
            · have h5b : (k == 5) = false := beq_eq_false_iff_ne.2 h5
              rw [h5b, if_neg (by decide)]
              clear HW HN HM
              go_enter Tryz.func62, Tryz.ntmps62
              go_wp2
              go_ret
              exact ⟨rfl, unhide hB⟩
    · have hnb : (n != 0) = true := by simp [hn]
      rw [hnb, if_pos (by decide)]
      clear HW HN HM
      go_enter Tryz.func62, Tryz.ntmps62
      go_wp2
      go_ret
      exact ⟨rfl, unhide hB⟩
end Go.Proofs.YthgbpofcfmnpdaaGreatDoor

namespace Go.Proofs.YthgbpofcfmnpdaaGreatDoor
open Go.ChangeShapes Go.WideShapes Go.ChangeAt Go.RowKit
set_option linter.unusedVariables false
set_option maxRecDepth 8000

theorem results_row2 {P : Program} {fn : Func} {p u : Tmp} {ty : TypeId} (h : fn.results = #[.cell p ty, .tmp u]) (tmps : Array Value) (w : World) (g : Nat) (t : TypeId) (cs : Array Value) (fr : Nat × Nat) (d : TypeDesc)
    (hp : tmps.getD p undef = .pointer (some ⟨g, 0, none⟩)) (hg : w.heap[g]? = some (.cells cs t fr))
    (hu : P.underlying ty = some d) (hd : (match d with | .struct _ | .array _ _ => true | _ => false) = true) (hi : (P.info? ty).map (·.size) = some cs.size) :
    (results fn tmps).run P w = .ok (.tuple #[.agg cs, tmps.getD u undef]) w := by
  have hp' : tmps[p]?.getD undef = .pointer (some ⟨g, 0, none⟩) := by simpa using hp
  simp [results, h, hp', asAddr, run_loadVar_row w g t ty cs fr d hg hu hd hi]
theorem szK : (Tryz.prog.info? 62).map (·.size) = some 3 := by kernel_rfl
theorem tk_one (k n : Int) (x : ByteArray) : (#[Value.int .i64 k, .int .i64 n, .string x] : Array Value).all (·.oneCell') = true := by simp [Value.oneCell']
def T0c : Array Value := #[.int .i64 0, .int .i64 0, .string ⟨#[]⟩]
set_option maxHeartbeats 1000000 in
theorem runS_any (letters : Bool) (s : ByteArray) (k : Nat) (w : World) (hz : s.size ≤ 1099511627776) (hk : k ≤ s.size) : Calls Tryz.prog 85 #[.string s, .int .i64 k, .bool letters] w fun e w' => e = .returned (.int .i64 (runN (if letters then ldB else dgB) s.data.toList k : Nat)) ∧ w' = w := by
  have hl := size_len s
  obtain ⟨p, hp⟩ : ∃ p : Int → Bool, (if letters then ldB else dgB) = p := ⟨_, rfl⟩
  have PP := hide (show ∀ c, p c = (dgB c || (letters && smB c)) from fun c => by
    rw [← hp]
    cases letters
    · simp
    · show ldB c = _
      unfold ldB
      rw [Bool.true_and, Bool.or_comm])
  rw [hp]
  clear hp
  obtain ⟨R, hR⟩ : ∃ R, runN p s.data.toList k = R := ⟨_, rfl⟩
  have HR := hide hR
  rw [hR]
  clear hR
  go_enter Tryz.func85, Tryz.ntmps85
  go_wp2
  go_loop [1] (fun i => ∃ j : Nat, i = .int .i64 j ∧ j ≤ s.size ∧ Hid (runN p s.data.toList j = R)) (fun i => s.size - (intOf i).toNat)
  case atStart => exact ⟨k, rfl, hk, unhide HR⟩
  case round =>
    clear HR
    obtain ⟨j, rfl, hj, hd⟩ := hrel
    by_cases hlt : j < s.size
    · have he := sAt s j hlt
      have hbd := bAt_bd s.data.toList j
      have Y := hide (fun h => (runN_yes (p := p) (l := s.data.toList) (k := j) (by omega) h).symm.trans hd.out)
      have N := hide (fun h => (runN_no (p := p) (l := s.data.toList) (k := j) (by omega) h).symm.trans hd.out)
      have S1 := hide (fun w => smS_any (bAt s.data.toList j) w hbd.1 hbd.2)
      have D1 := hide (fun w => dgS_any (bAt s.data.toList j) w hbd.1 hbd.2)
      rw [unhide PP] at Y N
      generalize smB (bAt s.data.toList j) = a at S1 Y N
      generalize dgB (bAt s.data.toList j) = b at D1 Y N
      generalize bAt s.data.toList j = c at he hbd S1 D1
      clear hd PP
      cases b
      · cases letters
        · have E := hide (unhide N rfl)
          clear Y N
          go_wp2_with (first | (go_at_call 84; refine (unhide S1 _).mono ?_; rintro e w' ⟨rfl, rfl⟩) | (go_at_call 87; refine (unhide D1 _).mono ?_; rintro e w' ⟨rfl, rfl⟩))
          go_ret
          exact ⟨by rw [← unhide E]; rfl, rfl⟩
        · cases a
          · have E := hide (unhide N rfl)
            clear Y N
            go_wp2_with (first | (go_at_call 84; refine (unhide S1 _).mono ?_; rintro e w' ⟨rfl, rfl⟩) | (go_at_call 87; refine (unhide D1 _).mono ?_; rintro e w' ⟨rfl, rfl⟩))
            go_ret
            exact ⟨by rw [← unhide E]; rfl, rfl⟩
          · have E := hide (unhide Y rfl)
            clear Y N
            go_wp2_with (first | (go_at_call 84; refine (unhide S1 _).mono ?_; rintro e w' ⟨rfl, rfl⟩) | (go_at_call 87; refine (unhide D1 _).mono ?_; rintro e w' ⟨rfl, rfl⟩))
            go_round
            case rel => exact ⟨j + 1, by go_num, by omega, unhide E⟩
            case measure => simp [intOf]; omega
      · have E := hide (unhide Y rfl)
        clear Y N
        go_wp2_with (first | (go_at_call 84; refine (unhide S1 _).mono ?_; rintro e w' ⟨rfl, rfl⟩) | (go_at_call 87; refine (unhide D1 _).mono ?_; rintro e w' ⟨rfl, rfl⟩))
        go_round
        case rel => exact ⟨j + 1, by go_num, by omega, unhide E⟩
        case measure => simp [intOf]; omega
    · have E := hide ((runN_end (p := p) (l := s.data.toList) (k := j) (by omega)).symm.trans hd.out)
      clear hd
      go_wp2
      go_ret
      exact ⟨by rw [← unhide E]; rfl, rfl⟩
theorem wordT_v (x : ByteArray) : (keptB x = true → wordT x = ⟨5, 0, x⟩) ∧ (keptB x = false → wordT x = ⟨1, 0, x⟩) := by
  unfold wordT
  constructor
  · intro h; rw [h]; rfl
  · intro h; rw [h]; rfl
set_option maxHeartbeats 1000000 in
theorem wordS_any (x : ByteArray) (w : World) : Calls Tryz.prog 86 #[.string x] w fun e w' => e = .returned (wordT x).v ∧ Below w.heap.size w w' := by
  have HY := hide (fun h => atV_yes (L := keptL) (s := x) h)
  have HN := hide (fun h => atV_no (L := keptL) (s := x) h)
  have HA := hide (fun g w1 (hr : RdS w1 g keptL) => at_any keptL x g 31 31 w1 rfl (by omega) hr)
  have WT := hide (wordT_v x)
  have HK := hide kept_any
  have B0 := hide (below_new w (.cells T0c 62))
  have R0 := hide (heap_alloc_new w (.cells T0c 62))
  have Z0 := hide (show w.heap.size ≤ (w.alloc (.cells T0c 62)).heap.size by simp)
  unfold keptB at WT
  unfold T0c at B0 R0 Z0
  generalize hasS keptL x = q at *
  generalize atV keptL x = v at *
  cases q
  · have hv := unhide HN rfl
    have W1 := hide ((unhide WT).2 rfl)
    rw [unhide W1]
    unfold Tk.v Tk.cs
    simp only
    clear WT HY HN
    go_enter Tryz.func86, Tryz.ntmps86
    go_wp2_with fail
    generalize w.alloc (Obj.cells #[.int .i64 0, .int .i64 0, .string ⟨#[]⟩] 62) = W at *
    refine (unhide HK W).mono ?_
    rintro e w1 ⟨rfl, hr1, hb1⟩
    have R1 := hide ((hb1.block _ (Array.getElem?_eq_some_iff.1 (unhide R0)).1).trans (unhide R0))
    have B1 := hide ((unhide B0).trans (hb1.mono (unhide Z0)))
    have A1 := hide (unhide HA _ _ hr1)
    clear hr1 hb1 HK HA
    go_wp2_with (first | (go_at_call 93; refine (unhide A1).mono ?_; rintro e w' ⟨rfl, rfl⟩) | (refine wpList_store_row rfl 62 _ _ rfl w.heap.size #[.int .i64 1, .int .i64 0, .string x] rfl rfl 62 _ (unhide R1) szK rfl (tk_one _ _ _) ?_))
    refine bodyPost_ret (results_cell_row (P := Tryz.prog) rfl _ _ w.heap.size 62 #[.int .i64 1, .int .i64 0, .string x] (0, 0) _ rfl (setRow_heap _ _ _ _ _ _ (unhide R1)) Tryz.underlying62 rfl szK) rfl ?_
    exact ⟨rfl, (unhide B1).trans ⟨rfl, rfl, rfl, by simp [World.setRow], fun k hk => setRow_other _ _ _ _ (by omega)⟩⟩
  · have hv := unhide HY rfl
    have W1 := hide ((unhide WT).1 rfl)
    rw [unhide W1]
    unfold Tk.v Tk.cs
    simp only
    clear WT HY HN
    go_enter Tryz.func86, Tryz.ntmps86
    go_wp2_with fail
    generalize w.alloc (Obj.cells #[.int .i64 0, .int .i64 0, .string ⟨#[]⟩] 62) = W at *
    refine (unhide HK W).mono ?_
    rintro e w1 ⟨rfl, hr1, hb1⟩
    have R1 := hide ((hb1.block _ (Array.getElem?_eq_some_iff.1 (unhide R0)).1).trans (unhide R0))
    have B1 := hide ((unhide B0).trans (hb1.mono (unhide Z0)))
    have A1 := hide (unhide HA _ _ hr1)
    clear hr1 hb1 HK HA
    go_wp2_with (first | (go_at_call 93; refine (unhide A1).mono ?_; rintro e w' ⟨rfl, rfl⟩) | (refine wpList_store_row rfl 62 _ _ rfl w.heap.size #[.int .i64 5, .int .i64 0, .string x] rfl rfl 62 _ (unhide R1) szK rfl (tk_one _ _ _) ?_))
    refine bodyPost_ret (results_cell_row (P := Tryz.prog) rfl _ _ w.heap.size 62 #[.int .i64 5, .int .i64 0, .string x] (0, 0) _ rfl (setRow_heap _ _ _ _ _ _ (unhide R1)) Tryz.underlying62 rfl szK) rfl ?_
    exact ⟨rfl, (unhide B1).trans ⟨rfl, rfl, rfl, by simp [World.setRow], fun k hk => setRow_other _ _ _ _ (by omega)⟩⟩
end Go.Proofs.YthgbpofcfmnpdaaGreatDoor

namespace Go.Proofs.YthgbpofcfmnpdaaGreatDoor
open Go.ChangeShapes Go.WideShapes Go.ChangeAt Go.RowKit
set_option linter.unusedVariables false
set_option maxRecDepth 8000

theorem below_row {w w' : World} {cs : Array Value} (h : Below w.heap.size w w') : Below w.heap.size w (w'.setRow w.heap.size cs) :=
  h.trans ⟨rfl, rfl, rfl, by simp [World.setRow], fun k hk => setRow_other _ _ _ _ (by omega)⟩
theorem extract_size (s : ByteArray) (a b : Nat) : (s.extract a b).size ≤ s.size := by
  rw [ByteArray.size_extract]
  omega
theorem numT_some {bad : Tk} {x : ByteArray} {m : Nat} (hm : m < 65536) (hx : x = strOf (octD m)) : numT bad x = ⟨2, m, ⟨#[]⟩⟩ := by unfold numT; rw [numV_yes hm hx]
theorem numT_none {bad : Tk} {x : ByteArray} (h : ∀ m, m < 65536 → x ≠ strOf (octD m)) : numT bad x = bad := by unfold numT; rw [numV_no h]
theorem one_sm {s : ByteArray} {k : Nat} (bad : Tk) (h1 : smB (bAt s.data.toList k) = true) : oneE s k = runN ldB s.data.toList k ∧ oneT bad s k = wordT (s.extract k (oneE s k)) := by
  constructor
  · unfold oneE; rw [if_pos h1]
  · unfold oneT; rw [if_pos h1]
theorem one_dg {s : ByteArray} {k : Nat} (bad : Tk) (h1 : smB (bAt s.data.toList k) = false) (h2 : dgB (bAt s.data.toList k) = true) : oneE s k = runN dgB s.data.toList k ∧ oneT bad s k = numT bad (s.extract k (oneE s k)) := by
  have n1 : ¬ smB (bAt s.data.toList k) = true := by rw [h1]; decide
  constructor
  · unfold oneE; rw [if_neg n1, if_pos h2]
  · unfold oneT; rw [if_neg n1, if_pos h2]
theorem one_dot {s : ByteArray} {k : Nat} (bad : Tk) (h1 : smB (bAt s.data.toList k) = false) (h2 : dgB (bAt s.data.toList k) = false) (h3 : bAt s.data.toList k = 46) (h4 : k + 1 < s.size) (h5 : smB (bAt s.data.toList (k + 1)) = true) : oneE s k = runN ldB s.data.toList (k + 1) ∧ oneT bad s k = ⟨3, 0, s.extract k (oneE s k)⟩ := by
  have n1 : ¬ smB (bAt s.data.toList k) = true := by rw [h1]; decide
  have n2 : ¬ dgB (bAt s.data.toList k) = true := by rw [h2]; decide
  have n3 : (bAt s.data.toList k == 46 && (decide (k + 1 < s.size) && smB (bAt s.data.toList (k + 1)))) = true := by rw [h3, h5, decide_eq_true h4]; rfl
  constructor
  · unfold oneE; rw [if_neg n1, if_neg n2, if_pos n3]
  · unfold oneT; rw [if_neg n1, if_neg n2, if_pos n3]
theorem one_mk {s : ByteArray} {k : Nat} (bad : Tk) (h1 : smB (bAt s.data.toList k) = false) (h2 : dgB (bAt s.data.toList k) = false) (h3 : bAt s.data.toList k = 46 → k + 1 < s.size → smB (bAt s.data.toList (k + 1)) = false) : oneE s k = k + 1 ∧ oneT bad s k = ⟨4, 0, s.extract k (k + 1)⟩ := by
  have n1 : ¬ smB (bAt s.data.toList k) = true := by rw [h1]; decide
  have n2 : ¬ dgB (bAt s.data.toList k) = true := by rw [h2]; decide
  have n3 : ¬ (bAt s.data.toList k == 46 && (decide (k + 1 < s.size) && smB (bAt s.data.toList (k + 1)))) = true := by
    intro h
    rw [Bool.and_eq_true, Bool.and_eq_true, beq_iff_eq, decide_eq_true_eq] at h
    rw [h3 h.1 h.2.1] at h
    exact absurd h.2.2 (by decide)
  have e : oneE s k = k + 1 := by unfold oneE; rw [if_neg n1, if_neg n2, if_neg n3]
  refine ⟨e, ?_⟩
  unfold oneT
  rw [if_neg n1, if_neg n2, if_neg n3, e]
set_option maxHeartbeats 2000000 in
theorem oneS_any (s : ByteArray) (k : Nat) (w : World) (hz : s.size ≤ 1048576) (hk : k < s.size) : Calls Tryz.prog 61 #[.string s, .int .i64 k] w fun e w' => e = .returned (.tuple #[(oneT badS s k).v, .int .i64 (oneE s k : Nat)]) ∧ Below w.heap.size w w' := by
  have hl := size_len s
  have he := sAt s k hk
  have hbd := bAt_bd s.data.toList k
  have HE := hide (oneE_bd s k hk)
  have B0 := hide (below_new w (.cells T0c 62))
  have R0 := hide (heap_alloc_new w (.cells T0c 62))
  have Z0 := hide (show w.heap.size ≤ (w.alloc (.cells T0c 62)).heap.size by simp)
  unfold T0c at B0 R0 Z0
  have S1 := hide (fun w => smS_any (bAt s.data.toList k) w hbd.1 hbd.2)
  have D1 := hide (fun w => dgS_any (bAt s.data.toList k) w hbd.1 hbd.2)
  cases h1 : smB (bAt s.data.toList k)
  · cases h2 : dgB (bAt s.data.toList k)
    · by_cases h46 : bAt s.data.toList k = 46
      · by_cases hk1 : k + 1 < s.size
        · have he1 := sAt s (k + 1) hk1
          have hbd1 := bAt_bd s.data.toList (k + 1)
          have S2 := hide (fun w => smS_any (bAt s.data.toList (k + 1)) w hbd1.1 hbd1.2)
          cases h3 : smB (bAt s.data.toList (k + 1))
          · obtain ⟨e1, e2⟩ := one_mk badS h1 h2 (fun _ _ => h3)
            rw [e1, e2]
            rw [h2] at D1
            rw [h46] at he D1 h1
            clear S1 S2
            unfold Tk.v Tk.cs
            simp only
            generalize bAt s.data.toList (k + 1) = c1 at *
            clear e1 e2 h2 h46 hbd HE
            go_enter Tryz.func61, Tryz.ntmps61
            go_wp2_with (first | (go_at_call 84; refine (smS_any _ _ (by omega) (by omega)).mono ?_; rintro e w' ⟨rfl, rfl⟩) | (go_at_call 87; refine (unhide D1 _).mono ?_; rintro e w' ⟨rfl, rfl⟩) | (refine wpList_store_row rfl 62 _ _ rfl w.heap.size #[.int .i64 4, .int .i64 0, .string (s.extract k (k + 1))] rfl rfl 62 _ (unhide R0) szK rfl (tk_one _ _ _) ?_))
            refine bodyPost_ret (results_row2 (P := Tryz.prog) rfl _ _ w.heap.size 62 #[.int .i64 4, .int .i64 0, .string (s.extract k (k + 1))] (0, 0) _ rfl (setRow_heap _ _ _ _ _ _ (unhide R0)) Tryz.underlying62 rfl szK) rfl ?_
            exact ⟨rfl, below_row (unhide B0)⟩
          · obtain ⟨e1, e2⟩ := one_dot badS h1 h2 h46 hk1 h3
            have HE2 := hide (show k < oneE s k ∧ oneE s k ≤ s.size from unhide HE)
            have RN := hide (fun w => runS_any true s (k + 1) w (by omega) (by omega))
            have RN2 := hide (show ∀ w : World, Calls Tryz.prog 85 #[.string s, .int .i64 ((k + 1 : Nat) : Int), .bool true] w fun e w' => e = .returned (.int .i64 (oneE s k : Nat)) ∧ w' = w from fun w => by rw [e1]; exact unhide RN w)
            rw [e2]
            rw [h2] at D1
            rw [h46] at he D1 h1
            clear S1 S2
            unfold Tk.v Tk.cs
            simp only
            generalize oneE s k = E at *
            obtain ⟨b1, b2⟩ := unhide HE2
            generalize bAt s.data.toList (k + 1) = c1 at *
            clear e1 e2 h2 h46 hbd HE RN HE2
            go_enter Tryz.func61, Tryz.ntmps61
            go_wp2_with (first | (go_at_call 84; refine (smS_any _ _ (by omega) (by omega)).mono ?_; rintro e w' ⟨rfl, rfl⟩) | (go_at_call 87; refine (unhide D1 _).mono ?_; rintro e w' ⟨rfl, rfl⟩) | (go_at_call 85; refine (unhide RN2 _).mono ?_; rintro e w' ⟨rfl, rfl⟩) | (refine wpList_store_row rfl 62 _ _ rfl w.heap.size #[.int .i64 3, .int .i64 0, .string (s.extract k E)] rfl rfl 62 _ (unhide R0) szK rfl (tk_one _ _ _) ?_))
            refine bodyPost_ret (results_row2 (P := Tryz.prog) rfl _ _ w.heap.size 62 #[.int .i64 3, .int .i64 0, .string (s.extract k E)] (0, 0) _ rfl (setRow_heap _ _ _ _ _ _ (unhide R0)) Tryz.underlying62 rfl szK) rfl ?_
            exact ⟨rfl, below_row (unhide B0)⟩
        · obtain ⟨e1, e2⟩ := one_mk badS h1 h2 (fun _ h => absurd h hk1)
          have hk1d : decide ((k : Int) + 1 < (s.size : Int)) = false := by simp; omega
          rw [e1, e2]
          rw [h1] at S1
          rw [h2] at D1
          rw [h46] at he S1 D1
          unfold Tk.v Tk.cs
          simp only
          clear e1 e2 h1 h2 h46 hbd HE
          go_enter Tryz.func61, Tryz.ntmps61
          go_wp2_with (first | (go_at_call 84; refine (unhide S1 _).mono ?_; rintro e w' ⟨rfl, rfl⟩) | (go_at_call 87; refine (unhide D1 _).mono ?_; rintro e w' ⟨rfl, rfl⟩) | (refine wpList_store_row rfl 62 _ _ rfl w.heap.size #[.int .i64 4, .int .i64 0, .string (s.extract k (k + 1))] rfl rfl 62 _ (unhide R0) szK rfl (tk_one _ _ _) ?_))
          refine bodyPost_ret (results_row2 (P := Tryz.prog) rfl _ _ w.heap.size 62 #[.int .i64 4, .int .i64 0, .string (s.extract k (k + 1))] (0, 0) _ rfl (setRow_heap _ _ _ _ _ _ (unhide R0)) Tryz.underlying62 rfl szK) rfl ?_
          exact ⟨rfl, below_row (unhide B0)⟩
      · obtain ⟨e1, e2⟩ := one_mk badS h1 h2 (fun h => absurd h h46)
        rw [e1, e2]
        rw [h1] at S1
        rw [h2] at D1
        unfold Tk.v Tk.cs
        simp only
        generalize bAt s.data.toList k = c at *
        clear e1 e2 h1 h2 HE
        go_enter Tryz.func61, Tryz.ntmps61
        go_wp2_with (first | (go_at_call 84; refine (unhide S1 _).mono ?_; rintro e w' ⟨rfl, rfl⟩) | (go_at_call 87; refine (unhide D1 _).mono ?_; rintro e w' ⟨rfl, rfl⟩) | (refine wpList_store_row rfl 62 _ _ rfl w.heap.size #[.int .i64 4, .int .i64 0, .string (s.extract k (k + 1))] rfl rfl 62 _ (unhide R0) szK rfl (tk_one _ _ _) ?_))
        refine bodyPost_ret (results_row2 (P := Tryz.prog) rfl _ _ w.heap.size 62 #[.int .i64 4, .int .i64 0, .string (s.extract k (k + 1))] (0, 0) _ rfl (setRow_heap _ _ _ _ _ _ (unhide R0)) Tryz.underlying62 rfl szK) rfl ?_
        exact ⟨rfl, below_row (unhide B0)⟩
    · obtain ⟨e1, e2⟩ := one_dg badS h1 h2
      have RN := hide (show ∀ w : World, Calls Tryz.prog 85 #[.string s, .int .i64 (k : Int), .bool false] w fun e w' => e = .returned (.int .i64 (oneE s k : Nat)) ∧ w' = w from fun w => by rw [e1]; exact runS_any false s k w (by omega) (by omega))
      rw [e2]
      rw [h1] at S1
      rw [h2] at D1
      generalize oneE s k = E at *
      obtain ⟨b1, b2⟩ := unhide HE
      generalize bAt s.data.toList k = c at *
      have PO := hide (fun w => poS_any (s.extract k E) (by have := extract_size s k E; omega) w)
      have NS := hide (fun m hm hx => numT_some (bad := badS) (x := s.extract k E) (m := m) hm hx)
      have NN := hide (fun h => numT_none (bad := badS) (x := s.extract k E) h)
      generalize numT badS (s.extract k E) = T at *
      clear e1 e2 h1 h2 HE
      go_enter Tryz.func61, Tryz.ntmps61
      go_wp2_with (first | (go_at_call 84; refine (unhide S1 _).mono ?_; rintro e w' ⟨rfl, rfl⟩) | (go_at_call 87; refine (unhide D1 _).mono ?_; rintro e w' ⟨rfl, rfl⟩) | (go_at_call 85; refine (unhide RN _).mono ?_; rintro e w' ⟨rfl, rfl⟩))
      generalize w.alloc (Obj.cells #[.int .i64 0, .int .i64 0, .string ⟨#[]⟩] 62) = W at *
      refine (unhide PO _).mono ?_
      rintro e w1 ⟨hb1, h⟩
      have R1 := hide ((hb1.block _ (Array.getElem?_eq_some_iff.1 (unhide R0)).1).trans (unhide R0))
      have B1 := hide ((unhide B0).trans (hb1.mono (unhide Z0)))
      clear hb1
      rcases h with ⟨m, hm, hx, rfl⟩ | ⟨hno, rfl⟩
      · have ET := hide (unhide NS m hm hx)
        clear hx NS NN PO
        go_wp2_with (first | (refine wpList_store_row rfl 62 _ _ rfl w.heap.size #[.int .i64 2, .int .i64 m, .string ⟨#[]⟩] rfl rfl 62 _ (unhide R1) szK rfl (tk_one _ _ _) ?_))
        refine bodyPost_ret (results_row2 (P := Tryz.prog) rfl _ _ w.heap.size 62 #[.int .i64 2, .int .i64 m, .string ⟨#[]⟩] (0, 0) _ rfl (setRow_heap _ _ _ _ _ _ (unhide R1)) Tryz.underlying62 rfl szK) rfl ?_
        exact ⟨by rw [unhide ET]; rfl, below_row (unhide B1)⟩
      · have ET := hide (unhide NN hno)
        clear hno NS NN PO
        go_wp2_with (first | (refine wpList_store_row rfl 62 _ _ rfl w.heap.size #[.int .i64 2, .int .i64 (-1), .string ⟨#[]⟩] rfl rfl 62 _ (unhide R1) szK rfl (tk_one _ _ _) ?_))
        refine bodyPost_ret (results_row2 (P := Tryz.prog) rfl _ _ w.heap.size 62 #[.int .i64 2, .int .i64 (-1), .string ⟨#[]⟩] (0, 0) _ rfl (setRow_heap _ _ _ _ _ _ (unhide R1)) Tryz.underlying62 rfl szK) rfl ?_
        exact ⟨by rw [unhide ET]; rfl, below_row (unhide B1)⟩
  · obtain ⟨e1, e2⟩ := one_sm badS h1
    have RN := hide (show ∀ w : World, Calls Tryz.prog 85 #[.string s, .int .i64 (k : Int), .bool true] w fun e w' => e = .returned (.int .i64 (oneE s k : Nat)) ∧ w' = w from fun w => by rw [e1]; exact runS_any true s k w (by omega) (by omega))
    rw [e2]
    rw [h1] at S1
    generalize oneE s k = E at *
    obtain ⟨b1, b2⟩ := unhide HE
    generalize bAt s.data.toList k = c at *
    have WO := hide (fun w => wordS_any (s.extract k E) w)
    generalize hT : wordT (s.extract k E) = T at *
    obtain ⟨tk, tn, tx⟩ := T
    unfold Tk.v Tk.cs at *
    simp only at WO ⊢
    clear e1 e2 h1 HE hT D1
    go_enter Tryz.func61, Tryz.ntmps61
    go_wp2_with (first | (go_at_call 84; refine (unhide S1 _).mono ?_; rintro e w' ⟨rfl, rfl⟩) | (go_at_call 85; refine (unhide RN _).mono ?_; rintro e w' ⟨rfl, rfl⟩))
    generalize w.alloc (Obj.cells #[.int .i64 0, .int .i64 0, .string ⟨#[]⟩] 62) = W at *
    refine (unhide WO _).mono ?_
    rintro e w1 ⟨rfl, hb1⟩
    have R1 := hide ((hb1.block _ (Array.getElem?_eq_some_iff.1 (unhide R0)).1).trans (unhide R0))
    have B1 := hide ((unhide B0).trans (hb1.mono (unhide Z0)))
    clear hb1 WO
    go_wp2_with (first | (refine wpList_store_row rfl 62 _ _ rfl w.heap.size #[.int .i64 tk, .int .i64 tn, .string tx] rfl rfl 62 _ (unhide R1) szK rfl (tk_one _ _ _) ?_))
    refine bodyPost_ret (results_row2 (P := Tryz.prog) rfl _ _ w.heap.size 62 #[.int .i64 tk, .int .i64 tn, .string tx] (0, 0) _ rfl (setRow_heap _ _ _ _ _ _ (unhide R1)) Tryz.underlying62 rfl szK) rfl ?_
    exact ⟨rfl, below_row (unhide B1)⟩
end Go.Proofs.YthgbpofcfmnpdaaGreatDoor

namespace Go.Proofs.YthgbpofcfmnpdaaGreatDoor
open Go.ChangeShapes Go.WideShapes Go.ChangeAt Go.RowKit
set_option linter.unusedVariables false
set_option maxRecDepth 8000

theorem head_bAt {l : List UInt8} {k : Nat} {c : UInt8} {r : List UInt8} (h : l.drop k = c :: r) : k < l.length ∧ bAt l k = (c.toNat : Int) ∧ l.drop (k + 1) = r := by
  have hk : k < l.length := by
    by_cases hk : k < l.length
    · exact hk
    · rw [List.drop_eq_nil_of_le (by omega)] at h; cases h
  refine ⟨hk, ?_, ?_⟩
  · rw [drop_bAt hk] at h
    have e := (List.cons.inj h).1
    unfold bAt
    rw [e]
  · rw [drop_bAt hk] at h
    exact (List.cons.inj h).2
/-- What follows a token: nothing, or a blank. -/
def Gap (r : List UInt8) : Prop := r = [] ∨ ∃ q, r = 32 :: q
theorem runN_all {p : Int → Bool} {l x r : List UInt8} {k : Nat} (h : l.drop k = x ++ r) (hx : ∀ c ∈ x, p (c.toNat : Int) = true) (hr : Gap r) (h32 : p 32 = false) : runN p l k = k + x.length := by
  unfold runN
  rw [h, List.takeWhile_append_of_pos hx]
  have : r.takeWhile (fun c => p (c.toNat : Int)) = [] := by
    rcases hr with rfl | ⟨q, rfl⟩
    · rfl
    · rw [List.takeWhile_cons]
      have e : p ((32 : UInt8).toNat : Int) = false := h32
      rw [e]
      rfl
  rw [this, List.append_nil]
theorem ext_of {s : ByteArray} {x r : List UInt8} {k : Nat} (h : s.data.toList.drop k = x ++ r) : s.extract k (k + x.length) = strOf x := by
  apply bytes_inj
  rw [ByteArray.data_extract, Array.toList_extract, List.extract_eq_take_drop, h, strOf_list, Nat.add_sub_cancel_left, List.take_left]
/-- A name's form, opened. -/
theorem form_open {l : List UInt8} (h : formB l = true) : ∃ c r, l = c :: r ∧ smB (c.toNat : Int) = true ∧ (∀ x ∈ l, ldB (x.toNat : Int) = true) ∧ l.length ≤ 6 := by
  unfold formB at h
  rw [Bool.and_eq_true, inB_iff, List.all_eq_true] at h
  obtain ⟨h1, h2, h3⟩ := h
  match l, h2 with
  | c :: r, _ =>
    refine ⟨c, r, rfl, ?_, ?_, by omega⟩
    · have := h1 0 (List.mem_range.2 (by simp))
      unfold okAt at this
      rw [show decide (0 < 0) = false from rfl, Bool.false_and, Bool.or_false] at this
      exact this
    · intro x hx
      obtain ⟨i, hi, rfl⟩ := List.getElem_of_mem hx
      have := h1 i (List.mem_range.2 hi)
      unfold okAt bAt at this
      rw [List.getD_eq_getElem?_getD, List.getElem?_eq_getElem hi] at this
      simp only [Option.getD_some] at this
      unfold ldB
      rw [Bool.or_eq_true] at this ⊢
      rcases this with h | h
      · exact .inl h
      · rw [Bool.and_eq_true] at h; exact .inr h.2
theorem kept_form : ∀ x ∈ keptL, formB x.data.toList = true := by decide +kernel
theorem ld_32 : ldB 32 = false := by decide
theorem dg_32 : dgB 32 = false := by decide
theorem sm_bd {c : Int} (h : smB c = true) : 97 ≤ c ∧ c ≤ 122 := (inB_iff _ _ _).1 h
theorem dg_bd {c : Int} (h : dgB c = true) : 48 ≤ c ∧ c ≤ 57 := (inB_iff _ _ _).1 h
theorem bl_no {c : Int} (h : c ≠ 32) (h2 : c ≠ 9) : blB c = false := by unfold blB; rw [beq_eq_false_iff_ne.2 h, beq_eq_false_iff_ne.2 h2]; rfl
/-- How a token is read again. -/
def Again (s : ByteArray) (k : Nat) (t : Tk) : Prop := k < s.size ∧ bAt s.data.toList k ≠ 59 ∧ blB (bAt s.data.toList k) = false ∧ oneE s k = k + (tokL t).length ∧ oneT badS s k = t
theorem again_word {s : ByteArray} {k : Nat} {x : ByteArray} {r : List UInt8} {t : Tk} (hf : formB x.data.toList = true) (h : s.data.toList.drop k = x.data.toList ++ r) (hr : Gap r) (ht : tokL t = x.data.toList) (hw : wordT x = t) : Again s k t := by
  obtain ⟨c, q, e, hc, hall, _⟩ := form_open hf
  have h0 : s.data.toList.drop k = c :: (q ++ r) := by rw [h, e]; rfl
  obtain ⟨hk, hb, _⟩ := head_bAt h0
  have hs1 : smB (bAt s.data.toList k) = true := by rw [hb]; exact hc
  have hbd := sm_bd hs1
  obtain ⟨e1, e2⟩ := one_sm badS hs1
  have hrun := runN_all (p := ldB) h hall hr ld_32
  refine ⟨by rw [← size_len]; exact hk, by omega, bl_no (by omega) (by omega), ?_, ?_⟩
  · rw [e1, hrun, ht]
  · rw [e2, e1, hrun, ext_of h, strOf_of, hw]
theorem again_any {s : ByteArray} {k : Nat} {t : Tk} {r : List UInt8} (hok : t.ok = true) (h : s.data.toList.drop k = tokL t ++ r) (hr : Gap r) : Again s k t := by
  obtain ⟨tk, tn, tx⟩ := t
  have hok' := hok
  unfold Tk.ok at hok
  simp only at hok
  by_cases h2 : tk = 2
  · subst h2
    rw [if_pos (by decide), Bool.and_eq_true, inB_iff, decide_eq_true_eq] at hok
    obtain ⟨⟨n0, n1⟩, hz⟩ := hok
    obtain rfl := empty_of tx hz
    obtain ⟨m, rfl⟩ := Int.eq_ofNat_of_zero_le n0
    have hm : ((m : Int) % 65536).toNat = m := by omega
    have hT : tokL ⟨2, (m : Int), ⟨#[]⟩⟩ = octD m := by unfold tokL; rw [if_pos rfl]; simp only [hm]
    rw [hT] at h
    have hne := octD_ne m
    have hd := octD_dig m
    have hall : ∀ c ∈ octD m, dgB (c.toNat : Int) = true := fun c hc => inB_t _ _ _ (by have := (hd c hc).1; omega) (by have := (hd c hc).2; omega)
    match hl : octD m, hne with
    | c :: q, _ =>
      have h0 : s.data.toList.drop k = c :: (q ++ r) := by rw [h, hl]; rfl
      obtain ⟨hk, hb, _⟩ := head_bAt h0
      have hc := hd c (by rw [hl]; exact List.mem_cons_self)
      have hs1 : smB (bAt s.data.toList k) = false := by rw [hb]; exact inB_f _ _ _ (by omega)
      have hs2 : dgB (bAt s.data.toList k) = true := by rw [hb]; exact inB_t _ _ _ (by omega) (by omega)
      obtain ⟨e1, e2⟩ := one_dg badS hs1 hs2
      have hrun := runN_all (p := dgB) h hall hr dg_32
      refine ⟨by rw [← size_len]; exact hk, by omega, bl_no (by omega) (by omega), ?_, ?_⟩
      · rw [e1, hrun, hT]
      · rw [e2, e1, hrun, ext_of h, numT_some (by omega) rfl]
  · have h2b : (tk == 2) = false := beq_eq_false_iff_ne.2 h2
    rw [h2b, if_neg (by decide)] at hok
    have hT : tokL ⟨tk, tn, tx⟩ = tx.data.toList := by unfold tokL; rw [if_neg h2]
    rw [hT] at h
    by_cases hn : tn = 0
    · subst hn
      rw [if_neg (by decide)] at hok
      by_cases h1 : tk = 1
      · subst h1
        rw [if_pos (by decide)] at hok
        unfold nameB at hok
        rw [Bool.and_eq_true, Bool.not_eq_true'] at hok
        exact again_word hok.1 h hr hT ((wordT_v tx).2 hok.2)
      · have h1b : (tk == 1) = false := beq_eq_false_iff_ne.2 h1
        rw [h1b, if_neg (by decide)] at hok
        by_cases h3 : tk = 3
        · subst h3
          rw [if_pos (by decide)] at hok
          match hl : tx.data.toList with
          | [] => rw [hl] at hok; cases hok
          | c0 :: q =>
            rw [hl, dotB_cons, Bool.and_eq_true, beq_iff_eq] at hok
            obtain ⟨rfl, hf⟩ := hok
            obtain ⟨c, q2, e, hc, hall, _⟩ := form_open hf
            have h0 : s.data.toList.drop k = 46 :: (q ++ r) := by rw [h, hl]; rfl
            obtain ⟨hk, hb, hd1⟩ := head_bAt h0
            have h1' : s.data.toList.drop (k + 1) = c :: (q2 ++ r) := by rw [hd1, e]; rfl
            obtain ⟨hk1, hb1, _⟩ := head_bAt h1'
            have hb46 : bAt s.data.toList k = 46 := hb
            have s1 : smB (bAt s.data.toList k) = false := by rw [hb46]; decide
            have s2 : dgB (bAt s.data.toList k) = false := by rw [hb46]; decide
            have s3 : smB (bAt s.data.toList (k + 1)) = true := by rw [hb1]; exact hc
            have hl2 := size_len s
            obtain ⟨e1, e2⟩ := one_dot badS s1 s2 hb46 (by omega) s3
            have hrun := runN_all (p := ldB) hd1 hall hr ld_32
            have hend : oneE s k = k + tx.data.toList.length := by rw [e1, hrun, hl, List.length_cons]; omega
            refine ⟨by omega, by omega, bl_no (by omega) (by omega), ?_, ?_⟩
            · rw [hend, hT]
            · rw [e2, hend, ext_of h, strOf_of]
        · have h3b : (tk == 3) = false := beq_eq_false_iff_ne.2 h3
          rw [h3b, if_neg (by decide)] at hok
          by_cases h4 : tk = 4
          · subst h4
            rw [if_pos (by decide)] at hok
            match hl : tx.data.toList, hok with
            | [c], hok =>
              have hm : mkL.contains c = true := hok
              have h0 : s.data.toList.drop k = c :: r := by rw [h, hl]; rfl
              obtain ⟨hk, hb, hd1⟩ := head_bAt h0
              have fin : ∀ i : Fin 256, mkL.contains (UInt8.ofNat i.val) = true → smB (i.val : Int) = false ∧ dgB (i.val : Int) = false ∧ (i.val : Int) ≠ 59 ∧ blB (i.val : Int) = false := by decide +kernel
              have hf := fin ⟨c.toNat, c.toNat_lt⟩ (by show mkL.contains (UInt8.ofNat c.toNat) = true; rw [UInt8.ofNat_toNat]; exact hm)
              simp only at hf
              rw [← hb] at hf
              have hl2 := size_len s
              obtain ⟨e1, e2⟩ := one_mk badS hf.1 hf.2.1 (fun _ hk1 => by
                rcases hr with rfl | ⟨q, rfl⟩
                · have : s.data.toList.length ≤ k + 1 := by
                    have := congrArg List.length hd1
                    rw [List.length_drop] at this
                    simp at this
                    omega
                  omega
                · obtain ⟨_, hb1, _⟩ := head_bAt hd1
                  rw [hb1]; decide)
              refine ⟨by omega, hf.2.2.1, hf.2.2.2, ?_, ?_⟩
              · rw [e1, hT, hl]; rfl
              · have hx := ext_of h
                rw [hl] at hx
                have hx' : s.extract k (k + 1) = strOf [c] := hx
                rw [e2, hx', ← hl, strOf_of]
          · have h4b : (tk == 4) = false := beq_eq_false_iff_ne.2 h4
            rw [h4b, if_neg (by decide)] at hok
            by_cases h5 : tk = 5
            · subst h5
              rw [if_pos (by decide)] at hok
              have hin : tx ∈ keptL := hasS_iff.1 hok
              exact again_word (kept_form tx hin) h hr hT ((wordT_v tx).1 hok)
            · have h5b : (tk == 5) = false := beq_eq_false_iff_ne.2 h5
              rw [h5b, if_neg (by decide)] at hok
              cases hok
    · have hnb : (tn != 0) = true := by simp [hn]
      rw [hnb, if_pos (by decide)] at hok
      cases hok
end Go.Proofs.YthgbpofcfmnpdaaGreatDoor

namespace Go.Proofs.YthgbpofcfmnpdaaGreatDoor
open Go.ChangeShapes Go.WideShapes Go.ChangeAt Go.RowKit
set_option linter.unusedVariables false
set_option maxRecDepth 8000

def AllOk (ts : List Tk) : Prop := ∀ t ∈ ts, t.ok = true
theorem AllOk.at {ts : List Tk} (h : AllOk ts) {i : Nat} (hi : i < ts.length) : (tAt ts i).ok = true := by
  unfold tAt
  rw [List.getD_eq_getElem?_getD, List.getElem?_eq_getElem hi]
  exact h _ (List.getElem_mem _)
theorem AllOk.snoc {ts : List Tk} {t : Tk} (h : AllOk ts) (ht : t.ok = true) : AllOk (ts ++ [t]) := fun x hx => by
  rcases List.mem_append.1 hx with h1 | h1
  · exact h x h1
  · rw [List.mem_singleton] at h1; rw [h1]; exact ht
theorem kept_small : ∀ x ∈ keptL, x.size ≤ 7 := by decide +kernel
theorem ok_size {t : Tk} (h : t.ok = true) : t.s.size ≤ 7 := by
  obtain ⟨tk, tn, tx⟩ := t
  unfold Tk.ok at h
  simp only at h ⊢
  have hl := size_len tx
  split at h
  · rw [Bool.and_eq_true, decide_eq_true_eq] at h; omega
  · split at h
    · cases h
    · split at h
      · unfold nameB at h
        rw [Bool.and_eq_true] at h
        obtain ⟨_, _, _, _, _, h6⟩ := form_open h.1
        omega
      · split at h
        · match hx : tx.data.toList with
          | [] => rw [hx] at h; cases h
          | c0 :: q =>
            rw [hx, dotB_cons, Bool.and_eq_true] at h
            obtain ⟨_, _, _, _, _, h6⟩ := form_open h.2
            rw [hx, List.length_cons] at hl
            omega
        · split at h
          · match hx : tx.data.toList, h with
            | [c], _ => rw [hx] at hl; simp at hl; omega
          · split at h
            · exact kept_small tx (hasS_iff.1 h)
            · cases h
theorem ok_szL {ts : List Tk} (h : AllOk ts) : szL ts ≤ 7 * ts.length := by
  induction ts with
  | nil => simp [szL]
  | cons t r ih =>
    have h1 := ok_size (h t List.mem_cons_self)
    have h2 := ih (fun x hx => h x (List.mem_cons_of_mem _ hx))
    simp only [szL, List.length_cons]
    omega
/-- What Lex answers is right. -/
theorem lexR_ok (s : ByteArray) : ∀ (n k : Nat) (acc : List Tk), s.size - k ≤ n → AllOk acc → AllOk (lexR s k acc).1 := by
  intro n
  induction n with
  | zero =>
    intro k acc hn h8
    rw [lexR_end (by omega)]
    exact h8
  | succ n ih =>
    intro k acc hn h8
    by_cases hlt : k < s.size
    · by_cases h59 : bAt s.data.toList k = 59
      · rw [lexR_semi hlt h59]; exact h8
      · cases hbl : blB (bAt s.data.toList k)
        · cases hok : (oneT badS s k).ok
          · rw [lexR_bad hlt h59 hbl (.inl hok)]; intro x hx; cases hx
          · by_cases h800 : acc.length = 800
            · rw [lexR_bad hlt h59 hbl (.inr h800)]; intro x hx; cases hx
            · rw [lexR_next hlt h59 hbl hok h800]
              have := oneE_bd s k hlt
              exact ih _ _ (by omega) (h8.snoc hok)
        · rw [lexR_blank hlt h59 hbl]
          exact ih _ _ (by omega) h8
    · rw [lexR_end hlt]; exact h8
theorem lex_ok (s : ByteArray) : AllOk (lexR s 0 []).1 := lexR_ok s s.size 0 [] (by omega) (fun x hx => by cases hx)
theorem line_pre (ts : List Tk) (i : Nat) : ∀ d, ∃ r, lineT ts (i + d) = lineT ts i ++ r
  | 0 => ⟨[], by simp⟩
  | d + 1 => by
    obtain ⟨r, hr⟩ := line_pre ts i d
    refine ⟨r ++ (if i + d = 0 then [] else [32]) ++ tokL (tAt ts (i + d)), ?_⟩
    show lineT ts (i + d) ++ (if i + d = 0 then [] else [32]) ++ tokL (tAt ts (i + d)) = _
    rw [hr]
    simp [List.append_assoc]
theorem line_drop (ts : List Tk) (n i : Nat) (h : i < n) : (lineT ts n).drop (lineT ts i).length = (if i = 0 then [] else [32]) ++ (tokL (tAt ts i) ++ (lineT ts n).drop (lineT ts (i + 1)).length) := by
  obtain ⟨r, hr⟩ := line_pre ts (i + 1) (n - (i + 1))
  have e : i + 1 + (n - (i + 1)) = n := by omega
  rw [e] at hr
  have h1 : (lineT ts n).drop (lineT ts (i + 1)).length = r := by rw [hr, List.drop_left]
  rw [h1, hr]
  show (lineT ts i ++ (if i = 0 then [] else [32]) ++ tokL (tAt ts i) ++ r).drop (lineT ts i).length = _
  rw [List.append_assoc, List.append_assoc, List.drop_left]
theorem gap_at (ts : List Tk) (n i : Nat) (h : i ≤ n) (h0 : 0 < i) : Gap ((lineT ts n).drop (lineT ts i).length) := by
  by_cases e : i = n
  · subst e
    left
    rw [List.drop_length]
  · right
    rw [line_drop ts n i (by omega), if_neg (by omega)]
    exact ⟨_, rfl⟩
/-- The line of right tokens is read as these tokens. -/
theorem lex_from (ts : List Tk) (hok : AllOk ts) (h8 : ts.length ≤ 800) : ∀ d i, i + d = ts.length → lexR (strOf (lineOf ts)) (lineT ts i).length (ts.take i) = (ts, true) := by
  intro d
  induction d with
  | zero =>
    intro i hi
    obtain rfl : i = ts.length := by omega
    rw [List.take_length, lexR_end (by rw [strOf_size]; unfold lineOf; omega)]
  | succ d ih =>
    intro i hi
    have hlt : i < ts.length := by omega
    have hd := line_drop ts ts.length i hlt
    have hg := gap_at ts ts.length (i + 1) (by omega) (by omega)
    have hst : (strOf (lineOf ts)).data.toList = lineT ts ts.length := strOf_list _
    have step : ∀ k, (strOf (lineOf ts)).data.toList.drop k = tokL (tAt ts i) ++ (lineT ts ts.length).drop (lineT ts (i + 1)).length → k + (tokL (tAt ts i)).length = (lineT ts (i + 1)).length → lexR (strOf (lineOf ts)) k (ts.take i) = (ts, true) := by
      intro k hk hlen
      obtain ⟨a1, a2, a3, a4, a5⟩ := again_any (hok.at hlt) hk hg
      have hlen2 : (ts.take i).length = i := by rw [List.length_take]; omega
      rw [lexR_next a1 a2 a3 (by rw [a5]; exact hok.at hlt) (by omega), a4, a5, hlen]
      have et : ts.take i ++ [tAt ts i] = ts.take (i + 1) := by
        rw [List.take_succ_eq_append_getElem hlt]
        unfold tAt
        rw [List.getD_eq_getElem?_getD, List.getElem?_eq_getElem hlt]
        rfl
      rw [et]
      exact ih (i + 1) (by omega)
    have hsz : (lineT ts (i + 1)).length = (lineT ts i).length + (if i = 0 then ([] : List UInt8) else [32]).length + (tokL (tAt ts i)).length := by
      show (lineT ts i ++ (if i = 0 then [] else [32]) ++ tokL (tAt ts i)).length = _
      rw [List.length_append, List.length_append]
    by_cases h0 : i = 0
    · rw [if_pos h0, List.nil_append] at hd
      rw [if_pos h0] at hsz
      exact step _ (by rw [hst]; exact hd) (by rw [hsz]; simp)
    · rw [if_neg h0] at hd hsz
      have hd' : (lineT ts ts.length).drop (lineT ts i).length = 32 :: (tokL (tAt ts i) ++ (lineT ts ts.length).drop (lineT ts (i + 1)).length) := hd
      obtain ⟨hk, hb, hd1⟩ := head_bAt hd'
      have hb32 : bAt (strOf (lineOf ts)).data.toList (lineT ts i).length = 32 := by rw [hst]; exact hb
      have hls : (lineT ts i).length < (strOf (lineOf ts)).size := by rw [← size_len, hst]; exact hk
      rw [lexR_blank hls (by rw [hb32]; decide) (by rw [hb32]; decide)]
      exact step _ (by rw [hst]; exact hd1) (by rw [hsz]; simp)
theorem lex_line (ts : List Tk) (hok : AllOk ts) (h8 : ts.length ≤ 800) : lexR (strOf (lineOf ts)) 0 [] = (ts, true) := lex_from ts hok h8 ts.length 0 (by omega)
theorem line_small {ts : List Tk} (hok : AllOk ts) (h8 : ts.length ≤ 800) : (strOf (lineOf ts)).size ≤ 1048576 ∧ ts.length + szL ts ≤ 1048576 := by
  have h1 := lineT_len ts ts.length (Nat.le_refl _)
  rw [List.take_length] at h1
  have h2 := ok_szL hok
  rw [strOf_size]
  unfold lineOf
  omega
end Go.Proofs.YthgbpofcfmnpdaaGreatDoor

namespace Go.Proofs.YthgbpofcfmnpdaaGreatDoor
open Go.ChangeShapes Go.WideShapes Go.ChangeAt Go.RowKit
set_option linter.unusedVariables false
set_option maxRecDepth 8000

/-- A term. -/
structure Ex where
  k : Int
  n : Int
  s : ByteArray
  l : List Ex
theorem Ex.ind {p : Ex → Prop} (h : ∀ k n s l, (∀ e ∈ l, p e) → p ⟨k, n, s, l⟩) (e : Ex) : p e := by
  obtain ⟨k, n, s, l⟩ := e
  exact h k n s l (fun e he => Ex.ind h e)
/-- How much a term holds. -/
def Ex.sz : Ex → Nat
  | ⟨_, _, s, l⟩ => s.size + l.length + (l.map Ex.sz).sum
theorem Ex.sz_eq (k n : Int) (s : ByteArray) (l : List Ex) : (Ex.mk k n s l).sz = s.size + l.length + (l.map Ex.sz).sum := by rw [Ex.sz]
/-- How deep a term is. -/
def Ex.dp : Ex → Nat
  | ⟨_, _, _, l⟩ => 1 + (l.map Ex.dp).foldr max 0
theorem Ex.dp_lt (k n : Int) (s : ByteArray) (l : List Ex) (e : Ex) (h : e ∈ l) : e.dp < (Ex.mk k n s l).dp := by
  rw [Ex.dp]
  have : ∀ l : List Ex, e ∈ l → e.dp ≤ (l.map Ex.dp).foldr max 0 := by
    intro l
    induction l with
    | nil => intro h; cases h
    | cons a l ih =>
      intro h
      rw [List.map_cons, List.foldr_cons]
      rcases List.mem_cons.1 h with rfl | h
      · exact Nat.le_max_left _ _
      · exact Nat.le_trans (ih h) (Nat.le_max_right _ _)
  have := this l h
  omega
def X0 : Ex := ⟨0, 0, ⟨#[]⟩, []⟩
def xAt (l : List Ex) (i : Nat) : Ex := l.getD i X0
/-- The parts of a term lie at a: every block of them from B on. -/
def RdX (w : World) (B : Nat) : Ex → Option Addr → Prop
  | ⟨_, _, _, l⟩, a => l = [] ∨ ∃ b off, a = some ⟨b, off, none⟩ ∧ B ≤ b ∧ b < w.heap.size ∧ ∀ x ∈ l, ∀ i, l[i]? = some x → w.cell? ⟨b, off + i * 4, none⟩ = some (.int .i64 x.k) ∧ w.cell? ⟨b, off + i * 4 + 1, none⟩ = some (.int .i64 x.n) ∧ w.cell? ⟨b, off + i * 4 + 2, none⟩ = some (.string x.s) ∧ ∃ c cap, w.cell? ⟨b, off + i * 4 + 3, none⟩ = some (.slice c x.l.length cap) ∧ RdX w B x c
/-- One part, as it lies. -/
def OneX (w : World) (B b at_ : Nat) (x : Ex) : Prop := w.cell? ⟨b, at_, none⟩ = some (.int .i64 x.k) ∧ w.cell? ⟨b, at_ + 1, none⟩ = some (.int .i64 x.n) ∧ w.cell? ⟨b, at_ + 2, none⟩ = some (.string x.s) ∧ ∃ c cap, w.cell? ⟨b, at_ + 3, none⟩ = some (.slice c x.l.length cap) ∧ RdX w B x c
theorem xAt_get {l : List Ex} {i : Nat} (h : i < l.length) : xAt l i = l[i] := by
  unfold xAt
  rw [List.getD_eq_getElem?_getD, List.getElem?_eq_getElem h]
  rfl
theorem xAt_mem {l : List Ex} {i : Nat} (h : i < l.length) : xAt l i ∈ l := by rw [xAt_get h]; exact List.getElem_mem _
theorem RdX_eq (w : World) (B : Nat) (e : Ex) (a : Option Addr) : RdX w B e a ↔ (e.l = [] ∨ ∃ b off, a = some ⟨b, off, none⟩ ∧ B ≤ b ∧ b < w.heap.size ∧ ∀ i, i < e.l.length → OneX w B b (off + i * 4) (xAt e.l i)) := by
  obtain ⟨k, n, s, l⟩ := e
  rw [RdX]
  refine or_congr Iff.rfl (exists_congr fun b => exists_congr fun off => and_congr Iff.rfl (and_congr Iff.rfl (and_congr Iff.rfl ⟨fun h i hi => ?_, fun h x hx i hi => ?_⟩)))
  · exact h _ (xAt_mem hi) i (by rw [xAt_get hi]; exact List.getElem?_eq_getElem hi)
  · obtain ⟨hl, e⟩ := List.getElem?_eq_some_iff.1 hi
    have := h i hl
    rw [xAt_get hl, e] at this
    exact this
/-- What is kept of the blocks from B on keeps what is read there. -/
theorem RdX.keep {w w' : World} {B : Nat} (hs : w.heap.size ≤ w'.heap.size) (hc : ∀ b o v, B ≤ b → b < w.heap.size → w.cell? ⟨b, o, none⟩ = some v → w'.cell? ⟨b, o, none⟩ = some v) (e : Ex) : ∀ a, RdX w B e a → RdX w' B e a := by
  induction e using Ex.ind with
  | h k n s l ih =>
    intro a h
    rw [RdX_eq] at h ⊢
    rcases h with h | ⟨b, off, ha, h1, h2, h3⟩
    · exact .inl h
    · refine .inr ⟨b, off, ha, h1, Nat.lt_of_lt_of_le h2 hs, fun i hi => ?_⟩
      obtain ⟨c1, c2, c3, c, cap, c4, c5⟩ := h3 i hi
      exact ⟨hc _ _ _ h1 h2 c1, hc _ _ _ h1 h2 c2, hc _ _ _ h1 h2 c3, c, cap, hc _ _ _ h1 h2 c4, ih _ (xAt_mem hi) _ c5⟩
theorem RdX.later {w w' : World} {B : Nat} {e : Ex} {a : Option Addr} (h : RdX w B e a) (hb : Below w.heap.size w w') : RdX w' B e a :=
  RdX.keep hb.size (fun b o v _ hlt hc => (hb.cell (p := ⟨b, o, none⟩) hlt).trans hc) e a h
theorem RdX.lower {w : World} {B C : Nat} (hC : C ≤ B) (e : Ex) : ∀ a, RdX w B e a → RdX w C e a := by
  induction e using Ex.ind with
  | h k n s l ih =>
    intro a h
    rw [RdX_eq] at h ⊢
    rcases h with h | ⟨b, off, ha, h1, h2, h3⟩
    · exact .inl h
    · refine .inr ⟨b, off, ha, Nat.le_trans hC h1, h2, fun i hi => ?_⟩
      obtain ⟨c1, c2, c3, c, cap, c4, c5⟩ := h3 i hi
      exact ⟨c1, c2, c3, c, cap, c4, ih _ (xAt_mem hi) _ c5⟩
/-- What all parts hold. -/
def szX (l : List Ex) : Nat := (l.map Ex.sz).sum
theorem szX_take (l : List Ex) (k : Nat) (h : k < l.length) : szX (l.take (k + 1)) = szX (l.take k) + (xAt l k).sz := by
  unfold szX
  rw [List.take_succ_eq_append_getElem h, List.map_append, List.sum_append, xAt_get h]
  simp
theorem szX_le (l : List Ex) (k : Nat) : szX (l.take k) ≤ szX l := by
  induction l generalizing k with
  | nil => simp [szX]
  | cons a r ih =>
    cases k with
    | zero => simp [szX]
    | succ k =>
      have := ih k
      unfold szX at this ⊢
      simp only [List.take_succ_cons, List.map_cons, List.sum_cons]
      omega
theorem sz_is (e : Ex) : e.sz = e.s.size + e.l.length + szX e.l := by obtain ⟨k, n, s, l⟩ := e; exact Ex.sz_eq k n s l
/-- Every text and list within can be counted. -/
def Fit : Ex → Prop
  | ⟨_, _, s, l⟩ => s.size ≤ 9223372036854775807 ∧ l.length ≤ 9223372036854775807 ∧ ∀ x ∈ l, Fit x
theorem Fit_eq (e : Ex) : Fit e ↔ (e.s.size ≤ 9223372036854775807 ∧ e.l.length ≤ 9223372036854775807 ∧ ∀ i, i < e.l.length → Fit (xAt e.l i)) := by
  obtain ⟨k, n, s, l⟩ := e
  rw [Fit]
  refine and_congr Iff.rfl (and_congr Iff.rfl ⟨fun h i hi => h _ (xAt_mem hi), fun h x hx => ?_⟩)
  obtain ⟨i, hi, rfl⟩ := List.getElem_of_mem hx
  have := h i hi
  rw [xAt_get hi] at this
  exact this
end Go.Proofs.YthgbpofcfmnpdaaGreatDoor

namespace Go.Proofs.YthgbpofcfmnpdaaGreatDoor
open Go.ChangeShapes Go.WideShapes Go.ChangeAt Go.RowKit
set_option linter.unusedVariables false
set_option maxRecDepth 8000

/-- Is a term right, but for its parts? -/
def Ex.here (e : Ex) : Bool :=
  if ((e.k != 1 && (e.k != 11 && e.n != 0)) || (e.k != 2 && (e.k != 12 && !eqS e.s E0))) = true then false
  else if e.k = 1 then inB e.n 0 65535 && e.l.length == 0
  else if e.k = 2 ∨ e.k = 12 then nameB e.s && e.l.length == 0
  else if e.k = 3 then e.l.length == 0
  else if e.k = 4 then e.l.length == 1
  else if 5 ≤ e.k ∧ e.k ≤ 10 then e.l.length == 2
  else if e.k = 11 then inB e.n 0 9 && e.l.length == 0
  else false
/-- Is a term right, so deep at most? -/
def okF : Nat → Bool → Ex → Bool
  | 0, _, _ => false
  | d + 1, p, e => e.here && (!(p && (e.k == 11 || e.k == 12)) && e.l.all (okF d p))
def mkS (c : UInt8) : ByteArray := ⟨#[c]⟩
def mkT (c : UInt8) : Tk := ⟨4, 0, mkS c⟩
def sgnC (k : Int) : UInt8 := if k = 5 then 43 else if k = 6 then 45 else if k = 7 then 42 else if k = 8 then 47 else if k = 9 then 38 else 124
def sgnK (s : ByteArray) : Option Int :=
  if eqS (mkS 43) s = true then some 5 else if eqS (mkS 45) s = true then some 6 else if eqS (mkS 42) s = true then some 7
  else if eqS (mkS 47) s = true then some 8 else if eqS (mkS 38) s = true then some 9 else if eqS (mkS 124) s = true then some 10 else none
/-- The tokens of a plain term. -/
def toksF : Nat → Ex → List Tk
  | 0, _ => []
  | d + 1, e => if e.k = 1 then [⟨2, e.n, E0⟩] else if e.k = 2 then [⟨1, 0, e.s⟩] else if e.k = 3 then [mkT 46]
    else if e.k = 4 then mkT 45 :: toksF d (xAt e.l 0)
    else mkT 60 :: (toksF d (xAt e.l 0) ++ (mkT (sgnC e.k) :: (toksF d (xAt e.l 1) ++ [mkT 62])))
/-- Tokens read: a term and what is left. -/
def readF : Nat → List Tk → Option (Ex × List Tk)
  | 0, _ => none
  | _ + 1, [] => none
  | d + 1, t :: r =>
    if t.k = 2 then some (⟨1, t.n, E0, []⟩, r) else if t.k = 1 then some (⟨2, 0, t.s, []⟩, r)
    else if eqS t.s (mkS 46) = true then some (⟨3, 0, E0, []⟩, r)
    else if eqS t.s (mkS 45) = true then
      match readF d r with
      | none => none
      | some (a, q) => some (⟨4, 0, E0, [a]⟩, q)
    else if eqS t.s (mkS 60) = true then
      match readF d r with
      | none => none
      | some (a, []) => none
      | some (a, t1 :: q1) =>
        match readF d q1 with
        | none => none
        | some (b, []) => none
        | some (b, t2 :: q2) => if eqS t2.s (mkS 62) = true then (match sgnK t1.s with | none => none | some k => some (⟨k, 0, E0, [a, b]⟩, q2)) else none
    else none
theorem sgn_back {k : Int} (h : 5 ≤ k ∧ k ≤ 10) : sgnK (mkS (sgnC k)) = some k := by
  have : k = 5 ∨ k = 6 ∨ k = 7 ∨ k = 8 ∨ k = 9 ∨ k = 10 := by omega
  rcases this with rfl | rfl | rfl | rfl | rfl | rfl <;> decide +kernel
theorem sgnK_some {s : ByteArray} {k : Int} (h : sgnK s = some k) : (5 ≤ k ∧ k ≤ 10) ∧ s = mkS (sgnC k) := by
  unfold sgnK at h
  repeat' (split at h)
  all_goals first
    | (cases h; done)
    | (rename_i he; rw [eqS_iff] at he; cases h; exact ⟨by omega, he.symm⟩)
/-- The forms of a plain term. -/
theorem plain_cases {d : Nat} {e : Ex} (h : okF (d + 1) true e = true) : (∃ n : Int, (0 ≤ n ∧ n ≤ 65535) ∧ e = ⟨1, n, E0, []⟩) ∨ (∃ s, nameB s = true ∧ e = ⟨2, 0, s, []⟩) ∨ e = ⟨3, 0, E0, []⟩ ∨ (∃ a, okF d true a = true ∧ e = ⟨4, 0, E0, [a]⟩) ∨ (∃ k a b, (5 ≤ k ∧ k ≤ 10) ∧ okF d true a = true ∧ okF d true b = true ∧ e = ⟨k, 0, E0, [a, b]⟩) := by
  obtain ⟨k, n, s, l⟩ := e
  simp only [okF, Bool.and_eq_true, Bool.true_and, Bool.not_eq_true', Bool.or_eq_false_iff, beq_eq_false_iff_ne] at h
  obtain ⟨h1, ⟨h11, h12⟩, hall⟩ := h
  unfold Ex.here at h1
  simp only at h1
  split at h1
  · cases h1
  · rename_i hg
    have hg : ((k != 1 && (k != 11 && n != 0)) || (k != 2 && (k != 12 && !eqS s E0))) = false := by simpa using hg
    rw [Bool.or_eq_false_iff] at hg
    have hn : k ≠ 1 → n = 0 := fun hk => by have := hg.1; simpa [hk, h11] using this
    have hs : k ≠ 2 → s = E0 := fun hk => by
      have := hg.2
      have h3 : eqS s E0 = true := by simpa [hk, h12] using this
      exact (eqS_iff _ _).1 h3
    split at h1
    · rename_i e; subst e
      rw [Bool.and_eq_true, beq_iff_eq, List.length_eq_zero_iff] at h1
      obtain ⟨hi, rfl⟩ := h1
      exact .inl ⟨n, (inB_iff _ _ _).1 hi, by rw [hs (by decide)]⟩
    · rename_i k1
      split at h1
      · rename_i e
        obtain rfl : k = 2 := by rcases e with e | e; exact e; exact absurd e h12
        rw [Bool.and_eq_true, beq_iff_eq, List.length_eq_zero_iff] at h1
        obtain ⟨hi, rfl⟩ := h1
        exact .inr (.inl ⟨s, hi, by rw [hn (by decide)]⟩)
      · rename_i k2
        have k2 : k ≠ 2 := fun e => k2 (.inl e)
        obtain rfl := hn k1
        obtain rfl := hs k2
        split at h1
        · rename_i e; subst e
          rw [beq_iff_eq, List.length_eq_zero_iff] at h1
          subst h1
          exact .inr (.inr (.inl rfl))
        · split at h1
          · rename_i e; subst e
            rw [beq_iff_eq] at h1
            match l, h1 with
            | [a], _ => exact .inr (.inr (.inr (.inl ⟨a, by simpa using hall, rfl⟩)))
          · split at h1
            · rename_i e
              rw [beq_iff_eq] at h1
              match l, h1 with
              | [a, b], _ =>
                have : okF d true a = true ∧ okF d true b = true := by simpa using hall
                exact .inr (.inr (.inr (.inr ⟨k, a, b, e, this.1, this.2, rfl⟩)))
            · cases h1
theorem plain_num {d : Nat} {n : Int} (h : 0 ≤ n ∧ n ≤ 65535) : okF (d + 1) true ⟨1, n, E0, []⟩ = true := by
  have : inB n 0 65535 = true := (inB_iff _ _ _).2 h
  simp [okF, Ex.here, this, show eqS E0 E0 = true from (eqS_iff _ _).2 rfl]
theorem plain_sym {d : Nat} {s : ByteArray} (h : nameB s = true) : okF (d + 1) true ⟨2, 0, s, []⟩ = true := by
  simp [okF, Ex.here, h]
theorem plain_here (d : Nat) : okF (d + 1) true ⟨3, 0, E0, []⟩ = true := by
  simp [okF, Ex.here, show eqS E0 E0 = true from (eqS_iff _ _).2 rfl]
theorem plain_neg {d : Nat} {a : Ex} (h : okF d true a = true) : okF (d + 1) true ⟨4, 0, E0, [a]⟩ = true := by
  simp [okF, Ex.here, h, show eqS E0 E0 = true from (eqS_iff _ _).2 rfl]
theorem plain_two {d : Nat} {k : Int} {a b : Ex} (hk : 5 ≤ k ∧ k ≤ 10) (ha : okF d true a = true) (hb : okF d true b = true) : okF (d + 1) true ⟨k, 0, E0, [a, b]⟩ = true := by
  have : k = 5 ∨ k = 6 ∨ k = 7 ∨ k = 8 ∨ k = 9 ∨ k = 10 := by omega
  rcases this with rfl | rfl | rfl | rfl | rfl | rfl <;> simp [okF, Ex.here, ha, hb, show eqS E0 E0 = true from (eqS_iff _ _).2 rfl]
theorem toks_num (d : Nat) (n : Int) : toksF (d + 1) ⟨1, n, E0, []⟩ = [⟨2, n, E0⟩] := rfl
theorem toks_sym (d : Nat) (s : ByteArray) : toksF (d + 1) ⟨2, 0, s, []⟩ = [⟨1, 0, s⟩] := rfl
theorem toks_here (d : Nat) : toksF (d + 1) ⟨3, 0, E0, []⟩ = [mkT 46] := rfl
theorem toks_neg (d : Nat) (a : Ex) : toksF (d + 1) ⟨4, 0, E0, [a]⟩ = mkT 45 :: toksF d a := rfl
theorem toks_two (d : Nat) {k : Int} (hk : 5 ≤ k ∧ k ≤ 10) (a b : Ex) : toksF (d + 1) ⟨k, 0, E0, [a, b]⟩ = mkT 60 :: (toksF d a ++ (mkT (sgnC k) :: (toksF d b ++ [mkT 62]))) := by
  have : k = 5 ∨ k = 6 ∨ k = 7 ∨ k = 8 ∨ k = 9 ∨ k = 10 := by omega
  rcases this with rfl | rfl | rfl | rfl | rfl | rfl <;> rfl
/-- A plain term comes back of its tokens. -/
theorem read_toks : ∀ (d : Nat) (e : Ex) (r : List Tk), okF d true e = true → readF d (toksF d e ++ r) = some (e, r) := by
  intro d
  induction d with
  | zero => intro e r h; cases h
  | succ d ih =>
    intro e r h
    rcases plain_cases h with ⟨n, hn, rfl⟩ | ⟨s, hs, rfl⟩ | rfl | ⟨a, ha, rfl⟩ | ⟨k, a, b, hk, ha, hb, rfl⟩
    · rw [toks_num]; rfl
    · rw [toks_sym]; rfl
    · rw [toks_here, List.cons_append]
      simp only [readF]
      rw [if_neg (by decide +kernel), if_neg (by decide +kernel), if_pos (by decide +kernel)]
      rfl
    · rw [toks_neg, List.cons_append]
      simp only [readF]
      rw [if_neg (by decide +kernel), if_neg (by decide +kernel), if_neg (by decide +kernel), if_pos (by decide +kernel), ih a r ha]
    · rw [toks_two d hk, List.cons_append, List.append_assoc, List.cons_append, List.append_assoc]
      simp only [readF]
      rw [if_neg (by decide +kernel), if_neg (by decide +kernel), if_neg (by decide +kernel), if_neg (by decide +kernel), if_pos (by decide +kernel), ih a _ ha]
      simp only
      rw [ih b _ hb]
      simp only [List.cons_append, List.nil_append]
      rw [if_pos (by decide +kernel), show (mkT (sgnC k)).s = mkS (sgnC k) from rfl, sgn_back hk]
theorem mark_of {t : Tk} (h : t.ok = true) (h2 : t.k ≠ 2) (h1 : t.k ≠ 1) {c : UInt8} (hs : t.s = mkS c) (hc : smB (c.toNat : Int) = false) (hm : formB [] = false) : t = mkT c := by
  obtain ⟨k, n, s⟩ := t
  simp only at h2 h1 hs
  subst hs
  unfold Tk.ok at h
  simp only at h
  rw [if_neg (by simpa using h2)] at h
  split at h
  · cases h
  · rename_i hn
    have hn : n = 0 := by simpa using hn
    subst hn
    rw [if_neg (by simpa using h1)] at h
    split at h
    · have e : dotB [c] = true := h
      rw [dotB_cons, hm, Bool.and_false] at e
      cases e
    · split at h
      · rename_i e
        have e : k = 4 := by simpa using e
        rw [e]; rfl
      · split at h
        · have hk := kept_form _ (hasS_iff.1 h)
          obtain ⟨c0, r, e, h3, _⟩ := form_open hk
          have e2 : [c] = c0 :: r := e
          cases e2
          rw [hc] at h3; cases h3
        · cases h
theorem num_of {t : Tk} (h : t.ok = true) (h2 : t.k = 2) : (0 ≤ t.n ∧ t.n ≤ 65535) ∧ t = ⟨2, t.n, E0⟩ := by
  obtain ⟨k, n, s⟩ := t
  simp only at h2
  subst h2
  unfold Tk.ok at h
  simp only [beq_self_eq_true, if_true, Bool.and_eq_true, decide_eq_true_eq] at h
  refine ⟨(inB_iff _ _ _).1 h.1, ?_⟩
  have e : s = E0 := by
    have hl := size_len s
    rw [h.2, List.length_eq_zero_iff] at hl
    exact bytes_inj (by rw [hl]; rfl)
  rw [e]
theorem sym_of {t : Tk} (h : t.ok = true) (h1 : t.k = 1) : nameB t.s = true ∧ t = ⟨1, 0, t.s⟩ := by
  obtain ⟨k, n, s⟩ := t
  simp only at h1
  subst h1
  unfold Tk.ok at h
  simp only at h
  rw [if_neg (by decide)] at h
  split at h
  · cases h
  · rename_i hn
    have hn : n = 0 := by simpa using hn
    rw [if_pos (by decide)] at h
    exact ⟨h, by rw [hn]⟩
theorem name_one {c : UInt8} (hc : smB (c.toNat : Int) = false) : formB [c] = false := by
  cases h : formB [c] with
  | false => rfl
  | true =>
    obtain ⟨c0, r, e, h3, _⟩ := form_open h
    cases e
    rw [hc] at h3; cases h3
/-- A right token whose text is one sign that is no letter is that mark. -/
theorem one_mark {t : Tk} (h : t.ok = true) {c : UInt8} (hs : t.s = mkS c) (hc : smB (c.toNat : Int) = false) : t = mkT c := by
  by_cases h2 : t.k = 2
  · obtain ⟨_, e⟩ := num_of h h2
    rw [e] at hs
    have : (0 : Nat) = 1 := congrArg ByteArray.size hs
    cases this
  · by_cases h1 : t.k = 1
    · obtain ⟨hn, _⟩ := sym_of h h1
      rw [hs] at hn
      have e : nameB (mkS c) = (formB [c] && !keptB (mkS c)) := rfl
      rw [e, name_one hc] at hn
      cases hn
    · exact mark_of h h2 h1 hs hc (by decide)
theorem sgn_small {k : Int} (h : 5 ≤ k ∧ k ≤ 10) : smB ((sgnC k).toNat : Int) = false := by
  have : k = 5 ∨ k = 6 ∨ k = 7 ∨ k = 8 ∨ k = 9 ∨ k = 10 := by omega
  rcases this with rfl | rfl | rfl | rfl | rfl | rfl <;> decide
end Go.Proofs.YthgbpofcfmnpdaaGreatDoor

namespace Go.Proofs.YthgbpofcfmnpdaaGreatDoor
open Go.ChangeShapes Go.WideShapes Go.ChangeAt Go.RowKit
set_option linter.unusedVariables false
set_option maxRecDepth 8000

/-- A term's value, its parts lying at b. -/
def Ex.cs (e : Ex) (b : Option Addr) (cap : Nat) : Array Value := #[.int .i64 e.k, .int .i64 e.n, .string e.s, .slice b e.l.length cap]
section
variable {H : Type} {enc : TypeId × Value → H} {W : World} {b0 base : Nat} {spare : TypeId → Bool} {held : Bool}
theorem trod_four {P : Program} {t : TypeId} {f0 f1 f2 f3 : Field} {fuel : Nat} {cs : List Value} {x : DataW H × List MemPlace} (ht : P.underlying t = some (.struct #[f0, f1, f2, f3])) (h : DataW.trod enc P W base spare held fuel t cs = some x) :
    ∃ y0 y1 y2 y3 n, fuel = n + 1 ∧ cs.length = P.cellsOf t ∧ DataW.trod enc P W base spare held n f0.type ((cs.drop f0.offset).take (P.cellsOf f0.type)) = some y0 ∧ DataW.trod enc P W base spare held n f1.type ((cs.drop f1.offset).take (P.cellsOf f1.type)) = some y1 ∧ DataW.trod enc P W base spare held n f2.type ((cs.drop f2.offset).take (P.cellsOf f2.type)) = some y2 ∧ DataW.trod enc P W base spare held n f3.type ((cs.drop f3.offset).take (P.cellsOf f3.type)) = some y3 := by
  obtain ⟨xs, n, hf, rfl, hl, hlen, hfs⟩ := DataW.trod_struct ht h
  match xs, hlen with
  | [y0, y1, y2, y3], _ => exact ⟨y0, y1, y2, y3, n, hf, hl, by simpa using hfs 0 f0 rfl, by simpa using hfs 1 f1 rfl, by simpa using hfs 2 f2 rfl, by simpa using hfs 3 f3 rfl⟩
end
end Go.Proofs.YthgbpofcfmnpdaaGreatDoor
