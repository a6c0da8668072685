/- Contracts over this seat's translation, laid together; conditions stand as hypotheses of each. -/
import Derived.Deep.RegionHeld
import Derived.Deep.WholeRow
import Derived.Deep.RegionWith
import Derived.Laws.CopyOwn
import Derived.Deep.DeepMust
import Derived.WalkKit
import Derived.ProofKit
import Derived.OpenShut
import Derived.ShutString
import Derived.ChangeOld
import Derived.Below
import Derived.Deep.OwnRows
import Derived.WalkSpells
import Derived.Laws.AppendOwnNone
import Derived.Laws.OwnMore
import Derived.BigQuiet
import Derived.Laws.BitsLemmas
import Derived.WalkLawsBesides
import Derived.Laws.ResultCell
import Derived.Laws.Rows
import Derived.Test.YtboedaofbchdkaaDoorProg
import GoSem.Claim
import Derived.JoinedTies
import Derived.KernelRfl

namespace Go.Proofs.YtboedaofbchdkaaDoor
open Go.ChangeShapes Go.WideShapes Go.ChangeAt Go.RowKit
set_option linter.unusedVariables false
set_option maxRecDepth 8000
theorem hide {p : Prop} (h : p) : Hid p := h
theorem unhide {p : Prop} (h : Hid p) : p := h
/-- An operand: mode, register, word. -/
structure Od where
  m : Int
  r : Int
  x : Int
/-- An instruction. -/
structure Is where
  op : Int
  s : Od
  d : Od
  n : Int
def Od.v (o : Od) : Value := .agg #[.int .i64 o.m, .int .i64 o.r, .int .i64 o.x]
def Is.v (i : Is) : Value := .agg #[.int .i64 i.op, .int .i64 i.s.m, .int .i64 i.s.r, .int .i64 i.s.x, .int .i64 i.d.m, .int .i64 i.d.r, .int .i64 i.d.x, .int .i64 i.n]
def inB (x a b : Int) : Bool := decide (a ≤ x) && decide (x ≤ b)
def Od.hasX (o : Od) : Bool := (o.m == 6 || o.m == 7) || (o.r == 7 && (o.m == 2 || o.m == 3))
def Od.ok (o : Od) : Bool := ((inB o.m 0 7 && inB o.r 0 7) && inB o.x 0 65535) && (o.hasX || o.x == 0)
def Od.zero (o : Od) : Bool := o.m == 0 && (o.r == 0 && o.x == 0)
def Is.ok (i : Is) : Bool :=
  if inB i.op 1 6 = true then (i.s.ok && i.d.ok) && i.n == 0
  else if inB i.op 7 14 = true then (i.s.zero && i.d.ok) && i.n == 0
  else if i.op == 15 then (i.s.zero && i.d.ok) && inB i.n 0 7
  else if (!i.s.zero || !i.d.zero) = true then false
  else if i.op == 16 then inB i.n 0 7
  else if inB i.op 17 21 = true then inB i.n (-128) 127
  else if i.op == 22 then i.n == 0
  else if i.op == 23 then inB i.n 0 255
  else false
def Is.words (i : Is) : Int := 1 + (if (inB i.op 1 6 && i.s.hasX) = true then 1 else 0) + (if (inB i.op 1 15 && i.d.hasX) = true then 1 else 0)
end Go.Proofs.YtboedaofbchdkaaDoor

namespace Go.Proofs.YtboedaofbchdkaaDoor
open Go.ChangeShapes Go.WideShapes Go.ChangeAt Go.RowKit
set_option linter.unusedVariables false
set_option maxRecDepth 8000
set_option linter.unusedSimpArgs false
theorem box_cells (w : World) (cs : Array Value) (t : TypeId) : ∀ w', Below (w.heap.size + 1) (w.alloc (Obj.cells cs t)) w' → ∀ j v, cs[j]? = some v → w'.cell? ⟨w.heap.size, j, none⟩ = some v := fun w' hb j v hv =>
  (hb.cell (p := ⟨w.heap.size, j, none⟩) (by simp)).trans (by rw [World.cell?_alloc_at _ _ _ _ rfl]; exact hv)
theorem box_below (w : World) (o : Obj) : ∀ w', Below (w.heap.size + 1) (w.alloc o) w' → Below w.heap.size w w' := fun w' hb =>
  ((Below.refl _ _).alloc (Nat.le_refl _) _).trans (hb.mono (by omega))
end Go.Proofs.YtboedaofbchdkaaDoor

namespace Go.Proofs.YtboedaofbchdkaaDoor
open Go.ChangeShapes Go.WideShapes Go.ChangeAt Go.RowKit
set_option linter.unusedVariables false
set_option maxRecDepth 8000
def c8 (l : List Int) (j : Nat) : Value := .int .i64 (l.getD j 0)
def cs8 (l : List Int) : Array Value := #[c8 l 0, c8 l 1, c8 l 2, c8 l 3, c8 l 4, c8 l 5, c8 l 6, c8 l 7]
theorem row8 (w : World) (l : List Int) (t : TypeId) : (w.alloc (Obj.cells (cs8 l) t)).rowIs w.heap.size t 8 (c8 l) :=
  ⟨_, Array.getElem?_push_size, rfl, fun i hi => by
    obtain rfl | rfl | rfl | rfl | rfl | rfl | rfl | rfl : i = 0 ∨ i = 1 ∨ i = 2 ∨ i = 3 ∨ i = 4 ∨ i = 5 ∨ i = 6 ∨ i = 7 := by omega
    all_goals rfl⟩
theorem row8_heap {w : World} {b t : Nat} {l : List Int} (h : w.rowIs b t 8 (c8 l)) : w.heap[b]? = some (.cells (cs8 l) t (0, 0)) := by
  obtain ⟨c, hc, hs, hv⟩ := h
  rw [hc]
  congr 2
  apply Array.ext'
  apply List.ext_getElem?
  intro i
  by_cases hi : i < 8
  · rw [Array.getElem?_toList, hv i hi]
    obtain rfl | rfl | rfl | rfl | rfl | rfl | rfl | rfl : i = 0 ∨ i = 1 ∨ i = 2 ∨ i = 3 ∨ i = 4 ∨ i = 5 ∨ i = 6 ∨ i = 7 := by omega
    all_goals rfl
  · rw [List.getElem?_eq_none (by simp; omega), List.getElem?_eq_none (by simp [cs8]; omega)]
/-- A store into the row. -/
theorem row8_set {w : World} {b t : Nat} {l l' : List Int} (h : w.rowIs b t 8 (c8 l)) (k : Nat) (x : Int) (he : ∀ j, j < 8 → (if j = k then Value.int .i64 x else c8 l j) = c8 l' j) : (w.setCell ⟨b, k, none⟩ (.int .i64 x)).rowIs b t 8 (c8 l') := (h.set k _).congr he
section
variable {w wr w' : World} {tb ti : TypeId} {l r o : List Int}
end
end Go.Proofs.YtboedaofbchdkaaDoor

namespace Go.Proofs.YtboedaofbchdkaaDoor
open Go.ChangeShapes Go.WideShapes Go.ChangeAt Go.RowKit
set_option linter.unusedVariables false
set_option maxRecDepth 8000
theorem info3 : (Tryd.prog.info? 3).map (fun i => (i.zero, i.size, i.bytes)) = some (some (.int .i64 0), 1, 8) := by kernel_rfl
/-- The i-th byte as a number. -/
def bAt (xs : List UInt8) (i : Nat) : Int := ((xs.getD i 0).toNat : Int)
theorem bAt_bd (xs : List UInt8) (i : Nat) : 0 ≤ bAt xs i ∧ bAt xs i ≤ 255 := by
  unfold bAt
  have := (xs.getD i 0).toNat_lt
  omega
def nAt (ns : List Int) (i : Nat) : Int := ns.getD i 0
theorem take_nAt (ns : List Int) (k : Nat) (h : k < ns.length) : ns.take (k + 1) = ns.take k ++ [nAt ns k] := by
  rw [List.take_succ_eq_append_getElem h]; simp [nAt, List.getElem?_eq_getElem h]
/-- A slice of ints with address a reads as ns. -/
def RdN (w : World) (a : Option Addr) (ns : List Int) : Prop :=
  ns = [] ∨ ∃ b off, a = some ⟨b, off, none⟩ ∧ b < w.heap.size ∧ ∀ i, i < ns.length → w.cell? ⟨b, off + i, none⟩ = some (.int .i64 (nAt ns i))
theorem RdN.later {w w' : World} {a : Option Addr} {xs : List Int} (h : RdN w a xs) (hb : Below w.heap.size w w') : RdN w' a xs := by
  rcases h with h | ⟨b, off, ha, hlt, hc⟩
  · exact .inl h
  · exact .inr ⟨b, off, ha, Nat.lt_of_lt_of_le hlt hb.size, fun i hi => (hb.cell (p := ⟨b, off + i, none⟩) hlt).trans (hc i hi)⟩
def cellsN (ns : List Int) : List Value := ns.map fun n => .int .i64 n
theorem cellsN_length (ys : List Int) : (cellsN ys).length = ys.length := by simp [cellsN]
theorem cellsN_append (a b : List Int) : cellsN (a ++ b) = cellsN a ++ cellsN b := by simp [cellsN]
theorem cellsN_one (ys : List Int) : ∀ u ∈ cellsN ys, u.oneCell' = true := by
  intro u hu
  simp only [cellsN, List.mem_map] at hu
  obtain ⟨y, _, rfl⟩ := hu
  rfl
/-- v is a slice of the call's own (blocks from B on) that holds the ints ns. -/
def OwnN (w : World) (B : Nat) (v : Value) (ns : List Int) : Prop := w.ownsRow B 3 1 v ns.length (cellsN ns)
theorem ownN_none (w : World) (B : Nat) : OwnN w B (.slice none 0 0) [] := ⟨rfl, .inl ⟨rfl, rfl⟩⟩
theorem ownN_empty (w : World) : OwnN (w.alloc (Obj.cells #[] 3)) w.heap.size (.slice (some ⟨w.heap.size, 0, none⟩) 0 0) [] :=
  World.ownsRow_lit w #[] 0 (Nat.le_refl _) (by decide) rfl
theorem OwnN.rd {w : World} {B : Nat} {v : Value} {ys : List Int} (h : OwnN w B v ys) : ∃ a cap, v = .slice a ys.length cap ∧ ys.length ≤ cap ∧ cap ≤ maxLen ∧ RdN w a ys ∧ (∀ ad, a = some ad → B ≤ ad.block) ∧ (a = none → cap = 0) := by
  obtain ⟨_, ⟨rfl, h0⟩ | ⟨g, cap, cur, rfl, hg, hh, hn, hm, hs, ht⟩⟩ := id h
  · obtain rfl : ys = [] := List.eq_nil_of_length_eq_zero h0
    exact ⟨none, 0, rfl, Nat.le_refl _, Nat.zero_le _, .inl rfl, (fun _ h => by cases h), fun _ => rfl⟩
  · refine ⟨_, cap, rfl, hn, hm, .inr ⟨g, 0, rfl, (Array.getElem?_eq_some_iff.1 hh).1, fun i hi => ?_⟩, (fun ad h => by cases h; exact hg), fun h => by cases h⟩
    have h2 := World.ownsRow.cellAt h i (by omega)
    rw [Nat.zero_add, h2]
    simp only [cellsN, List.getElem?_map, List.getElem?_eq_getElem hi, Option.map_some]
    unfold nAt
    rw [List.getD_eq_getElem?_getD, List.getElem?_eq_getElem hi]
    rfl
theorem OwnN.rd1 {w : World} {B : Nat} {a : Option Addr} {n cap : Nat} {ys : List Int} (h : OwnN w B (.slice a n cap) ys) : RdN w a ys := by
  obtain ⟨a', cap', e, _, _, hr, _⟩ := h.rd
  cases e
  exact hr
theorem OwnN.keep {w w' : World} {B : Nat} {v : Value} {ys : List Int} (h : OwnN w B v ys) (hs : ∀ g, v.ownBlock = some g → g < w.heap.size → w'.heap[g]? = w.heap[g]?) : OwnN w' B v ys := by
  obtain ⟨h1, h2 | ⟨g, cap, cur, rfl, hg, hh, r⟩⟩ := h
  · exact ⟨h1, .inl h2⟩
  · exact ⟨h1, .inr ⟨g, cap, cur, rfl, hg, (hs g rfl (Array.getElem?_eq_some_iff.1 hh).1).trans hh, r⟩⟩
theorem OwnN.later {w w' : World} {B : Nat} {v : Value} {ys : List Int} (h : OwnN w B v ys) (hb : Below w.heap.size w w') : OwnN w' B v ys := h.keep fun g _ hg => hb.block g hg
theorem OwnN.lt {w : World} {B : Nat} {v : Value} {ys : List Int} (h : OwnN w B v ys) {g : Nat} (hg : v.ownBlock = some g) : B ≤ g ∧ g < w.heap.size := World.ownsRow.lt h g hg
theorem OwnN.base {w : World} {B B' : Nat} {v : Value} {ys : List Int} (h : OwnN w B v ys) (hB : B' ≤ B) : OwnN w B' v ys := by
  obtain ⟨h1, h2 | ⟨g, cap, cur, e, hg, r⟩⟩ := h
  · exact ⟨h1, .inl h2⟩
  · exact ⟨h1, .inr ⟨g, cap, cur, e, Nat.le_trans hB hg, r⟩⟩
/-- An owned slice, written out: none, or in a block of its own. -/
theorem OwnN.form {w : World} {B : Nat} {v : Value} {ys : List Int} (h : OwnN w B v ys) : (v = .slice none 0 0 ∧ ys = []) ∨ ∃ g cap, v = .slice (some ⟨g, 0, none⟩) ys.length cap ∧ B ≤ g ∧ g < w.heap.size ∧ ys.length ≤ cap ∧ cap ≤ maxLen := by
  obtain ⟨_, ⟨h1, h2⟩ | ⟨g, cap, cur, rfl, hg, hh, hn, hm, r⟩⟩ := h
  · exact .inl ⟨h1, List.eq_nil_of_length_eq_zero h2⟩
  · exact .inr ⟨g, cap, rfl, hg, (Array.getElem?_eq_some_iff.1 hh).1, hn, hm⟩
theorem grownBy_trans {a b c : World} {r : Option Nat} (h : a.grownBy b r) (k : b.grownBy c r) : a.grownBy c r :=
  ⟨k.os.trans h.os, k.tape.trans h.tape, k.output.trans h.output, Nat.le_trans h.size k.size, fun j hj hn => (k.block j (Nat.lt_of_lt_of_le hj h.size) hn).trans (h.block j hj hn)⟩
theorem below_drewN {B : Nat} {a w : World} (h : Below B a w) (n : Nat) : Below B a (w.drewN n) := h.trans ⟨rfl, rfl, rfl, Nat.le_refl _, fun _ _ => rfl⟩
end Go.Proofs.YtboedaofbchdkaaDoor

namespace Go.Proofs.YtboedaofbchdkaaDoor
open Go.ChangeShapes Go.WideShapes Go.ChangeAt Go.RowKit
set_option linter.unusedVariables false
set_option maxRecDepth 8000
def IsRow (k : IntKind) (w : World) (a : Option Addr) (len cap : Nat) (zs : List Int) : Prop :=
  (a = none ∧ len = 0 ∧ cap = 0 ∧ zs = []) ∨
  ∃ x, a = some x ∧ len ≤ cap ∧ cap ≤ maxLen ∧ zs.length = cap ∧ (∀ i, i < zs.length → w.cell? (x.add i) = some (.int k (zs.getD i 0))) ∧ ∀ n ∈ zs, (Lit.int k n).wf = true
/-- A slice with address a reads as the bytes xs in the world w. -/
def Rd (w : World) (a : Option Addr) (xs : List UInt8) : Prop :=
  xs = [] ∨ ∃ b off, a = some ⟨b, off, none⟩ ∧ b < w.heap.size ∧ ∀ i, i < xs.length → w.cell? ⟨b, off + i, none⟩ = some (.int .u8 (bAt xs i))
theorem bytes_of_ints (zs : List Int) (h : ∀ n ∈ zs, (Lit.int .u8 n).wf = true) : ∃ xs : List UInt8, xs.length = zs.length ∧ ∀ i, i < zs.length → zs.getD i 0 = bAt xs i := by
  refine ⟨zs.map fun z => UInt8.ofNat z.toNat, by simp, fun i hi => ?_⟩
  have hb := bounds_u8 (h (zs.getD i 0) (by rw [List.getD_eq_getElem?_getD, List.getElem?_eq_getElem hi]; exact List.getElem_mem _))
  unfold bAt
  rw [List.getD_eq_getElem?_getD, List.getD_eq_getElem?_getD, List.getElem?_map, List.getElem?_eq_getElem hi] at *
  simp at hb ⊢
  omega
theorem rd_of_row {w : World} {a : Option Addr} {len cap : Nat} {zs : List Int} (h : IsRow .u8 w a len cap zs) :
    ∃ xs : List UInt8, xs.length = len ∧ len ≤ cap ∧ cap ≤ maxLen ∧ Rd w a xs := by
  rcases h with ⟨rfl, rfl, rfl, rfl⟩ | ⟨x, rfl, hl, hm, hz, hcell, hwz⟩
  · exact ⟨[], rfl, Nat.le_refl _, by unfold maxLen; omega, .inl rfl⟩
  · obtain ⟨ys, hy, hv⟩ := bytes_of_ints zs hwz
    refine ⟨ys.take len, by simp; omega, hl, hm, ?_⟩
    by_cases h0 : len = 0
    · left; simp [h0]
    · right
      obtain ⟨b, off, spot⟩ := x
      have h00 := hcell 0 (by omega)
      have hspot : spot = none := by simpa [Addr.add] using World.cell?_spot h00
      subst hspot
      refine ⟨b, off, rfl, World.block_lt_of_cell? w _ h00, fun i hi => ?_⟩
      have hi' : i < len := by simp at hi; omega
      have := hcell i (by omega)
      rw [hv i (by omega)] at this
      have e : bAt (ys.take len) i = bAt ys i := by
        unfold bAt
        rw [List.getD_eq_getElem?_getD, List.getD_eq_getElem?_getD, List.getElem?_take, if_pos hi']
      rw [e]
      exact (show w.cell? ⟨b, off + i, none⟩ = _ by have h2 := this; unfold Addr.add at h2; by_cases hi0 : i = 0 <;> simpa [hi0] using h2)
theorem i64_and255 (n : Int) : bits .and .i64 n 255 = n % 256 := by
  have h127 : (BitVec.ofInt 64 255).toNat = 2 ^ 8 - 1 := by decide
  have key : (BitVec.ofInt 64 n &&& BitVec.ofInt 64 255).toNat = (n % ((2 ^ 64 : Nat) : Int)).toNat % 2 ^ 8 := by
    rw [BitVec.toNat_and, BitVec.toNat_ofInt, h127, Nat.and_two_pow_sub_one_eq_mod]
  show IntKind.i64.wrap ((BitVec.ofInt 64 n &&& BitVec.ofInt 64 255).toNat : Nat) = n % 256
  rw [key, IntKind.wrap_i64]
  omega
theorem grownBy_set {w : World} {b o : Nat} (v : Value) : w.grownBy (w.setCell ⟨b, o, none⟩ v) (some b) :=
  ⟨rfl, rfl, rfl, by simp, fun k _ hk => Below.heap_setCell w ⟨b, o, none⟩ v k (fun e => hk (by simp [e]))⟩
theorem grownBy_below {w w' : World} {r : Option Nat} (hb : Below w.heap.size w w') : w.grownBy w' r := ⟨hb.os, hb.tape, hb.output, hb.size, fun k hk _ => hb.block k hk⟩
theorem grownBy_own {w w1 w2 : World} {r row : Option Nat} (h : w.grownBy w1 r) (k : w1.grownBy w2 row) (hr : ∀ g, row = some g → w.heap.size ≤ g) : w.grownBy w2 r :=
  ⟨k.os.trans h.os, k.tape.trans h.tape, k.output.trans h.output, Nat.le_trans h.size k.size, fun j hj hn => (k.block j (Nat.lt_of_lt_of_le hj h.size) (fun e => by have := hr j e.symm; omega)).trans (h.block j hj hn)⟩
theorem RdN.past {w w' : World} {a : Option Addr} {ns : List Int} {b : Nat} (h : RdN w a ns) (hb : w.grownBy w' (some b)) (hne : ∀ ad, a = some ad → ad.block ≠ b) : RdN w' a ns := by
  rcases h with h | ⟨c, off, rfl, hlt, hc⟩
  · exact .inl h
  · exact .inr ⟨c, off, rfl, Nat.lt_of_lt_of_le hlt hb.size, fun i hi => (World.cell?_of_block (w := w) (hb.block c hlt (by have := hne _ rfl; simpa using this))).trans (hc i hi)⟩
theorem big_any (a : Option Addr) (len cap : Nat) (w : World) (hm : len ≤ 9223372036854775807) : Calls Tryd.prog 6 #[.slice a len cap] w fun e w' => e = .returned (.bool (decide ((1048576 : Int) < (len : Int)))) ∧ w' = w := by
  go_enter Tryd.func6, Tryd.ntmps6
  go_wp2
  go_ret
  exact ⟨rfl, rfl⟩
end Go.Proofs.YtboedaofbchdkaaDoor

namespace Go.Proofs.YtboedaofbchdkaaDoor
open Go.ChangeShapes Go.WideShapes Go.ChangeAt Go.RowKit
set_option linter.unusedVariables false
set_option maxRecDepth 8000
def Bds (ns : List Int) : Prop := ∀ i, i < ns.length → -9223372036854775808 ≤ nAt ns i ∧ nAt ns i ≤ 9223372036854775807
end Go.Proofs.YtboedaofbchdkaaDoor

namespace Go.Proofs.YtboedaofbchdkaaDoor
open Go.ChangeShapes Go.WideShapes Go.ChangeAt Go.RowKit
set_option linter.unusedVariables false
set_option maxRecDepth 8000
/-- A world that keeps what w0 has below B. -/
structure Sub (B : Nat) (w0 : World) where
  w : World
  h : Below B w0 w
theorem Sub.ne (B : Nat) (w0 : World) : Nonempty (Sub B w0) := ⟨⟨w0, Below.refl _ _⟩⟩
section
variable {B : Nat} {w0 : World} {P : Program}
theorem Sub.call {f : FuncId} {args : Array Value} {x : Sub B w0} {v : Value} (hB : B ≤ w0.heap.size) (h : Calls P f args x.w fun e w' => e = .returned v ∧ Below x.w.heap.size x.w w') : Calls P f args x.w fun e w' => e = .returned v ∧ ∃ y : Sub B w0, w' = y.w :=
  h.mono fun e w' ⟨he, hb⟩ => ⟨he, ⟨w', x.h.trans (hb.mono (Nat.le_trans hB x.h.size))⟩, rfl⟩
theorem Sub.same {f : FuncId} {args : Array Value} {x : Sub B w0} {v : Value} (h : Calls P f args x.w fun e w' => e = .returned v ∧ w' = x.w) : Calls P f args x.w fun e w' => e = .returned v ∧ ∃ y : Sub B w0, w' = y.w :=
  h.mono fun e w' ⟨he, hb⟩ => ⟨he, x, hb⟩
def Sub.top (o : World) (b : Obj) : Sub (o.heap.size + 1) (o.alloc b) := ⟨_, Below.refl _ _⟩
theorem Sub.cells {o : World} {cs : Array Value} {t : TypeId} (y : Sub (o.heap.size + 1) (o.alloc (Obj.cells cs t))) (j : Nat) (v : Value) (h : cs[j]? = some v) : y.w.cell? ⟨o.heap.size, j, none⟩ = some v :=
  box_cells o cs t y.w y.h j v h
theorem wp_region_sub {id : Nat} {Q : Exit → Act → World → Prop} {a : Act} (x : Sub B w0) {l : List Oper} (hm : P.follows .mixedOrders = true) (hB : Region.lexB .any l.toArray = true)
    (h : wpQuiet P l.toArray (fun w' => ∃ y : Sub B w0, w' = y.w) (fun a' => ∀ y : Sub B w0, Q .normal a' y.w) l a) : (Code.region id l.toArray true).wp P Q a x.w :=
  wp_region_quiet (C := fun w' => ∃ y : Sub B w0, w' = y.w) hm hB ⟨⟨_, x.h.drew⟩, rfl⟩ (by
    have e : (fun a' => ∀ w', (∃ y : Sub B w0, w' = y.w) → Q .normal a' w') = (fun a' => ∀ y : Sub B w0, Q .normal a' y.w) := by
      funext a'
      apply propext
      constructor
      · intro h y; exact h _ ⟨y, rfl⟩
      · rintro h _ ⟨y, rfl⟩; exact h y
    rw [e]
    simpa using h)
end
end Go.Proofs.YtboedaofbchdkaaDoor

namespace Go.Proofs.YtboedaofbchdkaaDoor
open Go.ChangeShapes Go.WideShapes Go.ChangeAt Go.RowKit
set_option linter.unusedVariables false
set_option maxRecDepth 8000
set_option linter.unusedSimpArgs false
/-- A slice: address, length, room. -/
structure Sl where
  a : Option Addr
  n : Nat
  c : Nat
/-- A machine as a value. -/
structure Mv where
  m : Sl
  r : Sl
  n : Bool
  z : Bool
  v : Bool
  c : Bool
  i : Sl
  o : Sl
  st : Int
def Mv.cs (x : Mv) : Array Value := #[.slice x.m.a x.m.n x.m.c, .slice x.r.a x.r.n x.r.c, .bool x.n, .bool x.z, .bool x.v, .bool x.c, .slice x.i.a x.i.n x.i.c, .slice x.o.a x.o.n x.o.c, .int .i64 x.st]
theorem Mv.cs_one (x : Mv) : x.cs.all (·.oneCell') = true := by simp [Mv.cs, Value.oneCell']
section
variable {w : World} {g : Nat} {x : Mv} {t : TypeId}
theorem row_m (h : w.heap[g]? = some (.cells x.cs t (0, 0))) : w.cell? ⟨g, 0, none⟩ = some (.slice x.m.a x.m.n x.m.c) := (cell_of_row w g 0 _ t _ h).trans rfl
theorem row_r (h : w.heap[g]? = some (.cells x.cs t (0, 0))) : w.cell? ⟨g, 1, none⟩ = some (.slice x.r.a x.r.n x.r.c) := (cell_of_row w g 1 _ t _ h).trans rfl
theorem row_n (h : w.heap[g]? = some (.cells x.cs t (0, 0))) : w.cell? ⟨g, 2, none⟩ = some (.bool x.n) := (cell_of_row w g 2 _ t _ h).trans rfl
theorem row_z (h : w.heap[g]? = some (.cells x.cs t (0, 0))) : w.cell? ⟨g, 3, none⟩ = some (.bool x.z) := (cell_of_row w g 3 _ t _ h).trans rfl
theorem row_i (h : w.heap[g]? = some (.cells x.cs t (0, 0))) : w.cell? ⟨g, 6, none⟩ = some (.slice x.i.a x.i.n x.i.c) := (cell_of_row w g 6 _ t _ h).trans rfl
theorem row_o (h : w.heap[g]? = some (.cells x.cs t (0, 0))) : w.cell? ⟨g, 7, none⟩ = some (.slice x.o.a x.o.n x.o.c) := (cell_of_row w g 7 _ t _ h).trans rfl
theorem row_st (h : w.heap[g]? = some (.cells x.cs t (0, 0))) : w.cell? ⟨g, 8, none⟩ = some (.int .i64 x.st) := (cell_of_row w g 8 _ t _ h).trans rfl
theorem row_fz (h : w.heap[g]? = some (.cells x.cs t (0, 0))) (j : Nat) : w.frozen? ⟨g, j, none⟩ = false := by simp [World.frozen?, h]
end
def Mv.small (x : Mv) : Prop := x.m.n ≤ 1048576 ∧ x.r.n ≤ 1048576 ∧ x.i.n ≤ 1048576 ∧ x.o.n ≤ 1048576
end Go.Proofs.YtboedaofbchdkaaDoor

namespace Go.Proofs.YtboedaofbchdkaaDoor
open Go.ChangeShapes Go.WideShapes Go.ChangeAt Go.RowKit
set_option linter.unusedVariables false
set_option maxRecDepth 8000
set_option linter.unusedSimpArgs false
/-- What the four lists of a machine hold. -/
structure Md where
  m : List Int
  r : List Int
  i : List Int
  o : List Int
def Sl.v (s : Sl) : Value := .slice s.a s.n s.c
/-- The flags, and how it stands. -/
def Mv.fl (x : Mv) : Bool × Bool × Bool × Bool × Int := (x.n, x.z, x.v, x.c, x.st)
/-- The machine x reads as d. -/
structure RdM (w : World) (x : Mv) (d : Md) : Prop where
  m : RdN w x.m.a d.m
  r : RdN w x.r.a d.r
  i : RdN w x.i.a d.i
  o : RdN w x.o.a d.o
  ml : d.m.length = x.m.n
  rl : d.r.length = x.r.n
  il : d.i.length = x.i.n
  ol : d.o.length = x.o.n
/-- Two slices in no block together. -/
def Ap (s t : Sl) : Prop := ∀ g, s.v.ownBlock = some g → t.v.ownBlock = some g → False
/-- The machine x is of blocks from B on, each list in a block of its own, and holds d. -/
structure OwnM (w : World) (B : Nat) (x : Mv) (d : Md) : Prop where
  m : OwnN w B x.m.v d.m
  r : OwnN w B x.r.v d.r
  i : OwnN w B x.i.v d.i
  o : OwnN w B x.o.v d.o
  mr : Ap x.m x.r
  mi : Ap x.m x.i
  mo : Ap x.m x.o
  ri : Ap x.r x.i
  ro : Ap x.r x.o
  io : Ap x.i x.o
theorem OwnN.len {w : World} {B : Nat} {s : Sl} {ns : List Int} (h : OwnN w B s.v ns) : ns.length = s.n := by
  obtain ⟨a, c, e, _⟩ := h.rd
  obtain ⟨sa, sn, sc⟩ := s
  unfold Sl.v at e
  simp at e
  exact e.2.1.symm
theorem OwnN.rdS {w : World} {B : Nat} {s : Sl} {ns : List Int} (h : OwnN w B s.v ns) : RdN w s.a ns := OwnN.rd1 (n := s.n) (cap := s.c) h
section
variable {w w' : World} {B C : Nat} {x y : Mv} {d e : Md}
theorem OwnM.rd (h : OwnM w B x d) : RdM w x d := ⟨h.m.rdS, h.r.rdS, h.i.rdS, h.o.rdS, h.m.len, h.r.len, h.i.len, h.o.len⟩
theorem RdM.later (h : RdM w x d) (hb : Below w.heap.size w w') : RdM w' x d := ⟨h.m.later hb, h.r.later hb, h.i.later hb, h.o.later hb, h.ml, h.rl, h.il, h.ol⟩
theorem OwnM.later (h : OwnM w B x d) (hb : Below w.heap.size w w') : OwnM w' B x d := { h with m := h.m.later hb, r := h.r.later hb, i := h.i.later hb, o := h.o.later hb }
theorem OwnM.keep (h : OwnM w B x d) (hs : ∀ g, B ≤ g → g < w.heap.size → w'.heap[g]? = w.heap[g]?) : OwnM w' B x d :=
  { h with m := h.m.keep fun g hv hg => hs g (h.m.lt hv).1 hg, r := h.r.keep fun g hv hg => hs g (h.r.lt hv).1 hg, i := h.i.keep fun g hv hg => hs g (h.i.lt hv).1 hg, o := h.o.keep fun g hv hg => hs g (h.o.lt hv).1 hg }
theorem OwnM.base (h : OwnM w B x d) (hB : C ≤ B) : OwnM w C x d := { h with m := h.m.base hB, r := h.r.base hB, i := h.i.base hB, o := h.o.base hB }
theorem Below.drop {B : Nat} {a w : World} {b j : Nat} {v : Value} (h : Below B a w) (hb : B ≤ b) : Below B a (w.setCell ⟨b, j, none⟩ v) := h.setCell (p := ⟨b, j, none⟩) hb v
theorem OwnN.put {w : World} {B b j : Nat} {v u : Value} {ns : List Int} (h : OwnN w B v ns) (hb : b < B) : OwnN (w.setCell ⟨b, j, none⟩ u) B v ns :=
  h.keep fun g hv hg => Below.heap_setCell w ⟨b, j, none⟩ u g (by have := (h.lt hv).1; show g ≠ b; omega)
end
/-- Blocks of two slices that are parted by a bound. -/
theorem ap_of {w w' : World} {B C : Nat} {s t : Sl} {ns ms : List Int} (h : OwnN w B s.v ns) (k : OwnN w' C t.v ms) (hC : w.heap.size ≤ C) : Ap s t := fun g a b => by
  have := (h.lt a).2
  have := (k.lt b).1
  omega
def zMv : Mv := ⟨⟨none, 0, 0⟩, ⟨none, 0, 0⟩, false, false, false, false, ⟨none, 0, 0⟩, ⟨none, 0, 0⟩, 0⟩
theorem row_put {w : World} {g : Nat} {x : Mv} {t : TypeId} (h : w.heap[g]? = some (.cells x.cs t (0, 0))) (j : Nat) (v : Value) (x' : Mv) (he : x.cs.setIfInBounds j v = x'.cs) : (w.setCell ⟨g, j, none⟩ v).heap[g]? = some (.cells x'.cs t (0, 0)) := by
  rw [setCell_eq_setRow w g j x.cs t (0, 0) v h, he]
  exact setRow_heap w g x.cs _ t _ h
theorem row_keep {w : World} {g b j : Nat} {u : Value} {o : Obj} (h : w.heap[g]? = some o) (hne : g ≠ b) : (w.setCell ⟨b, j, none⟩ u).heap[g]? = some o := (Below.heap_setCell w ⟨b, j, none⟩ u g hne).trans h
theorem row_lt {w : World} {g : Nat} {o : Obj} (h : w.heap[g]? = some o) : g < w.heap.size := (Array.getElem?_eq_some_iff.1 h).1
theorem row_lat {w w' : World} {g : Nat} {o : Obj} (h : w.heap[g]? = some o) (hb : Below w.heap.size w w') : w'.heap[g]? = some o := (hb.block g (row_lt h)).trans h
section
variable {w wr w' : World} {tb : TypeId} {x o : Mv}
end
theorem RdN.put {w : World} {a : Option Addr} {ns : List Int} (h : RdN w a ns) {b j : Nat} {v : Value} (hne : ns = [] ∨ ∀ ad, a = some ad → ad.block ≠ b) : RdN (w.setCell ⟨b, j, none⟩ v) a ns := by
  rcases hne with h0 | hne
  · exact .inl h0
  · exact h.past (grownBy_set v) hne
theorem setRow_size (w : World) (g : Nat) (cs : Array Value) : (w.setRow g cs).heap.size = w.heap.size := by simp [World.setRow]
/-- What stands when a copy is laid into the answer's place. -/
structure Cd (w wr : World) (o : Mv) : Prop where
  re : wr.heap[w.heap.size + 1]? = some (.cells o.cs 32 (0, 0))
  bel : Below w.heap.size w wr
theorem OwnN.row {w : World} {B g : Nat} {v : Value} {ns : List Int} (h : OwnN w B v ns) (hb : g < B) (cs : Array Value) : OwnN (w.setRow g cs) B v ns :=
  h.keep fun j hv hj => setRow_other w g j cs (by have := (h.lt hv).1; omega)
end Go.Proofs.YtboedaofbchdkaaDoor

namespace Go.Proofs.YtboedaofbchdkaaDoor
open Go.ChangeShapes Go.WideShapes Go.ChangeAt Go.RowKit
set_option linter.unusedVariables false
set_option maxRecDepth 8000
set_option linter.unusedSimpArgs false
theorem i64_and65535 (n : Int) : bits .and .i64 n 65535 = n % 65536 := by
  have h127 : (BitVec.ofInt 64 65535).toNat = 2 ^ 16 - 1 := by decide
  have key : (BitVec.ofInt 64 n &&& BitVec.ofInt 64 65535).toNat = (n % ((2 ^ 64 : Nat) : Int)).toNat % 2 ^ 16 := by
    rw [BitVec.toNat_and, BitVec.toNat_ofInt, h127, Nat.and_two_pow_sub_one_eq_mod]
  show IntKind.i64.wrap ((BitVec.ofInt 64 n &&& BitVec.ofInt 64 65535).toNat : Nat) = n % 65536
  rw [key, IntKind.wrap_i64]
  omega
theorem ret_int {k : IntKind} {a b : Int} (h : a = b) : Ending.returned (.int k a) = .returned (.int k b) := by rw [h]
theorem ret_bool {a b : Bool} (h : a = b) : Ending.returned (.bool a) = .returned (.bool b) := by rw [h]
theorem wrapI_any (n : Int) (w : World) : Calls Tryd.prog 48 #[.int .i64 n] w fun e w' => e = .returned (.int .i64 (n % 65536)) ∧ w' = w := by
  go_enter Tryd.func48, Tryd.ntmps48
  go_wp2
  go_ret
  exact ⟨ret_int (i64_and65535 n), rfl⟩
theorem isWord_eq (n : Int) : (n == n % 65536) = inB n 0 65535 := by
  unfold inB
  rw [Bool.eq_iff_iff]
  simp
  omega
theorem isWord_any (n : Int) (w : World) : Calls Tryd.prog 24 #[.int .i64 n] w fun e w' => e = .returned (.bool (inB n 0 65535)) ∧ w' = w := by
  rw [← isWord_eq]
  obtain ⟨q, hq⟩ : ∃ q, n % 65536 = q := ⟨_, rfl⟩
  have W := hide (fun w => hq ▸ wrapI_any n w)
  rw [hq]
  clear hq
  go_enter Tryd.func24, Tryd.ntmps24
  go_wp2_with (go_at_call 48; refine (unhide W _).mono ?_; rintro e w' ⟨rfl, rfl⟩)
  go_ret
  exact ⟨rfl, rfl⟩
/-- Are these words? -/
def wdB (ns : List Int) : Bool := ns.all fun x => inB x 0 65535
theorem wdB_snoc (ns : List Int) (k : Nat) (h : k < ns.length) : wdB (ns.take (k + 1)) = (wdB (ns.take k) && inB (nAt ns k) 0 65535) := by
  rw [take_nAt ns k h]; simp [wdB]
theorem wdB_no (ns : List Int) (k : Nat) (h : k < ns.length) (hb : inB (nAt ns k) 0 65535 = false) : wdB ns = false := by
  unfold wdB
  rw [List.all_eq_false]
  refine ⟨nAt ns k, ?_, by simp [hb]⟩
  unfold nAt
  rw [List.getD_eq_getElem?_getD, List.getElem?_eq_getElem h]
  exact List.getElem_mem _
theorem wdB_at {ns : List Int} (h : wdB ns = true) {k : Nat} (hk : k < ns.length) : 0 ≤ nAt ns k ∧ nAt ns k ≤ 65535 := by
  cases hb : inB (nAt ns k) 0 65535
  · rw [wdB_no ns k hk hb] at h; cases h
  · unfold inB at hb; simp at hb; exact hb
set_option maxHeartbeats 400000 in
theorem wordsI_any (a : Option Addr) (len cap : Nat) (ns : List Int) (w : World) (hl : ns.length = len) (hm : len ≤ 1099511627776) (hr : RdN w a ns) :
    Calls Tryd.prog 23 #[.slice a len cap] w fun e w' => e = .returned (.bool (wdB ns)) ∧ w' = w := by
  go_enter Tryd.func23, Tryd.ntmps23
  go_wp2
  go_loop [4, 7] (fun _ i => ∃ k : Nat, k ≤ len ∧ wdB (ns.take k) = true ∧ i = .int .i64 k) (fun _ i => len - (intOf i).toNat)
  case atStart => exact ⟨0, Nat.zero_le _, rfl, rfl⟩
  case round =>
    obtain ⟨k, hk, hw, rfl⟩ := hrel
    by_cases hlt : k < len
    · rcases hr with rfl | ⟨b, off, rfl, hb, hc⟩
      · simp at hl; omega
      have hcx := hc k (by omega)
      have HW := hide (wdB_snoc ns k (by omega))
      have HN := hide (wdB_no ns k (by omega))
      have HK := hide hw
      clear hc hw
      generalize nAt ns k = x at hcx HW HN ⊢
      have I1 := hide (fun w => isWord_any x w)
      obtain ⟨q, hq⟩ : ∃ q, inB x 0 65535 = q := ⟨_, rfl⟩
      rw [hq] at HW HN I1
      clear hq
      cases q
      · go_wp2_with (go_at_call 24; refine (unhide I1 _).mono ?_; rintro e w' ⟨rfl, hw'⟩; rw [hw']; clear hw' w')
        go_ret
        exact ⟨ret_bool (unhide HN (by trivial)).symm, rfl⟩
      · go_wp2_with (go_at_call 24; refine (unhide I1 _).mono ?_; rintro e w' ⟨rfl, hw'⟩; rw [hw']; clear hw' w')
        go_round
        case rel => exact ⟨k + 1, by omega, by rw [unhide HW, unhide HK]; rfl, by go_num⟩
        case measure => simp [intOf]; omega
    · have HK := hide hw
      clear hw
      go_wp2
      go_ret
      have := unhide HK
      rw [List.take_of_length_le (by omega)] at this
      exact ⟨ret_bool this.symm, rfl⟩
end Go.Proofs.YtboedaofbchdkaaDoor

namespace Go.Proofs.YtboedaofbchdkaaDoor
open Go.ChangeShapes Go.WideShapes Go.ChangeAt Go.RowKit
set_option linter.unusedVariables false
set_option maxRecDepth 8000
set_option linter.unusedSimpArgs false
/-- Is the machine right? -/
def Md.ok (d : Md) (st : Int) : Bool :=
  ((d.m.length : Int) == 256) && (wdB d.m && (((d.r.length : Int) == 8) && (wdB d.r && (decide ((d.i.length : Int) ≤ 50) && (wdB d.i && (decide ((d.o.length : Int) ≤ 50) && (wdB d.o && inB st 0 2)))))))
end Go.Proofs.YtboedaofbchdkaaDoor

namespace Go.Proofs.YtboedaofbchdkaaDoor
open Go.ChangeShapes Go.WideShapes Go.ChangeAt Go.RowKit
set_option linter.unusedVariables false
set_option maxRecDepth 8000
set_option linter.unusedSimpArgs false
set_option maxHeartbeats 4000000 in
theorem okI_any (x : Mv) (d : Md) (w : World) (hs : x.small) (hx : RdM w x d) : Calls Tryd.prog 30 #[.agg x.cs] w fun e w' => e = .returned (.bool (d.ok x.st)) ∧ Below w.heap.size w w' := by
  have HB := hide ((Below.refl w.heap.size w).alloc (Nat.le_refl _) (.cells x.cs 32))
  have X := hide (hx.later (unhide HB))
  have W0 := hide (wordsI_any x.m.a x.m.n x.m.c d.m _ hx.ml (by have := hs.1; omega) (unhide X).m)
  have W1 := hide (wordsI_any x.r.a x.r.n x.r.c d.r _ hx.rl (by have := hs.2.1; omega) (unhide X).r)
  have W2 := hide (wordsI_any x.i.a x.i.n x.i.c d.i _ hx.il (by have := hs.2.2.1; omega) (unhide X).i)
  have W3 := hide (wordsI_any x.o.a x.o.n x.o.c d.o _ hx.ol (by have := hs.2.2.2; omega) (unhide X).o)
  have c0 : x.cs[0]? = some (.slice x.m.a x.m.n x.m.c) := rfl
  have c1 : x.cs[1]? = some (.slice x.r.a x.r.n x.r.c) := rfl
  have c6 : x.cs[6]? = some (.slice x.i.a x.i.n x.i.c) := rfl
  have c7 : x.cs[7]? = some (.slice x.o.a x.o.n x.o.c) := rfl
  have c8 : x.cs[8]? = some (.int .i64 x.st) := rfl
  unfold Md.ok
  rw [hx.ml, hx.rl, hx.il, hx.ol]
  clear hx hs X
  generalize wdB d.m = b0 at W0 ⊢
  generalize wdB d.r = b1 at W1 ⊢
  generalize wdB d.i = b2 at W2 ⊢
  generalize wdB d.o = b3 at W3 ⊢
  by_cases h1 : (x.m.n : Int) = 256
  rotate_left
  · rw [show ((x.m.n : Int) == 256) = false by simpa using h1]
    go_enter Tryd.func30, Tryd.ntmps30
    go_wp2
    go_ret
    exact ⟨ret_bool (by simp), unhide HB⟩
  rw [show ((x.m.n : Int) == 256) = true by simpa using h1]
  have g1 : 256 ≤ x.m.n ∧ x.m.n ≤ 256 := by omega
  obtain ⟨g1a, g1b⟩ := g1
  clear h1
  by_cases h2 : (x.r.n : Int) = 8
  rotate_left
  · rw [show ((x.r.n : Int) == 8) = false by simpa using h2]
    go_enter Tryd.func30, Tryd.ntmps30
    go_wp2
    go_ret
    exact ⟨ret_bool (by simp), unhide HB⟩
  rw [show ((x.r.n : Int) == 8) = true by simpa using h2]
  have g2 : 8 ≤ x.r.n ∧ x.r.n ≤ 8 := by omega
  obtain ⟨g2a, g2b⟩ := g2
  clear h2
  by_cases h3 : (x.i.n : Int) ≤ 50
  rotate_left
  · rw [decide_eq_false h3]
    go_enter Tryd.func30, Tryd.ntmps30
    go_wp2
    go_ret
    exact ⟨ret_bool (by simp), unhide HB⟩
  rw [decide_eq_true h3]
  by_cases h4 : (x.o.n : Int) ≤ 50
  rotate_left
  · rw [decide_eq_false h4]
    go_enter Tryd.func30, Tryd.ntmps30
    go_wp2
    go_ret
    exact ⟨ret_bool (by simp), unhide HB⟩
  rw [decide_eq_true h4]
  obtain ⟨B, hB⟩ : ∃ B : Nat → Bool, B = fun j => if j = 0 then b0 else if j = 1 then b1 else if j = 2 then b2 else b3 := ⟨_, rfl⟩
  have HBB := hide hB
  clear hB
  have ix0 : ∀ w, (Instr.index 92 (.agg #[Value.slice x.m.a x.m.n x.m.c, Value.slice x.r.a x.r.n x.r.c, Value.slice x.i.a x.i.n x.i.c, Value.slice x.o.a x.o.n x.o.c]) (.int .i64 0)).run Tryd.prog w = .ok (.slice x.m.a x.m.n x.m.c) w := fun w => by kernel_rfl
  have ix1 : ∀ w, (Instr.index 92 (.agg #[Value.slice x.m.a x.m.n x.m.c, Value.slice x.r.a x.r.n x.r.c, Value.slice x.i.a x.i.n x.i.c, Value.slice x.o.a x.o.n x.o.c]) (.int .i64 1)).run Tryd.prog w = .ok (.slice x.r.a x.r.n x.r.c) w := fun w => by kernel_rfl
  have ix2 : ∀ w, (Instr.index 92 (.agg #[Value.slice x.m.a x.m.n x.m.c, Value.slice x.r.a x.r.n x.r.c, Value.slice x.i.a x.i.n x.i.c, Value.slice x.o.a x.o.n x.o.c]) (.int .i64 2)).run Tryd.prog w = .ok (.slice x.i.a x.i.n x.i.c) w := fun w => by kernel_rfl
  have ix3 : ∀ w, (Instr.index 92 (.agg #[Value.slice x.m.a x.m.n x.m.c, Value.slice x.r.a x.r.n x.r.c, Value.slice x.i.a x.i.n x.i.c, Value.slice x.o.a x.o.n x.o.c]) (.int .i64 3)).run Tryd.prog w = .ok (.slice x.o.a x.o.n x.o.c) w := fun w => by kernel_rfl
  go_enter Tryd.func30, Tryd.ntmps30
  go_wp2
  go_loop [4, 36] (fun _ i => ∃ k : Nat, k ≤ 4 ∧ i = .int .i64 k ∧ ∀ j, j < k → B j = true) (fun _ i => 4 - (intOf i).toNat)
  case atStart => exact ⟨0, by omega, rfl, fun j h => by omega⟩
  case round =>
    obtain ⟨k, hk, rfl, hall⟩ := hrel
    by_cases hlt : k < 4
    · have HA := hide hall
      clear hall
      obtain rfl | rfl | rfl | rfl : k = 0 ∨ k = 1 ∨ k = 2 ∨ k = 3 := by omega
      · have hBk : Hid (B 0 = b0) := by rw [show B = _ from unhide HBB]; rfl
        cases b0
        · go_wp2_with (go_at_call 23; refine (unhide W0).mono ?_; rintro e w' ⟨rfl, rfl⟩)
          go_ret
          exact ⟨ret_bool (by simp), unhide HB⟩
        · go_wp2_with (go_at_call 23; refine (unhide W0).mono ?_; rintro e w' ⟨rfl, rfl⟩)
          go_round
          case rel => exact ⟨1, by omega, by go_num, fun j hj => by
            by_cases e : j = 0
            · rw [e]; exact unhide hBk
            · exact unhide HA j (by omega)⟩
          case measure => simp [intOf]
      · have hBk : Hid (B 1 = b1) := by rw [show B = _ from unhide HBB]; rfl
        cases b1
        · go_wp2_with (go_at_call 23; refine (unhide W1).mono ?_; rintro e w' ⟨rfl, rfl⟩)
          go_ret
          exact ⟨ret_bool (by simp), unhide HB⟩
        · go_wp2_with (go_at_call 23; refine (unhide W1).mono ?_; rintro e w' ⟨rfl, rfl⟩)
          go_round
          case rel => exact ⟨2, by omega, by go_num, fun j hj => by
            by_cases e : j = 1
            · rw [e]; exact unhide hBk
            · exact unhide HA j (by omega)⟩
          case measure => simp [intOf]
      · have hBk : Hid (B 2 = b2) := by rw [show B = _ from unhide HBB]; rfl
        cases b2
        · go_wp2_with (go_at_call 23; refine (unhide W2).mono ?_; rintro e w' ⟨rfl, rfl⟩)
          go_ret
          exact ⟨ret_bool (by simp), unhide HB⟩
        · go_wp2_with (go_at_call 23; refine (unhide W2).mono ?_; rintro e w' ⟨rfl, rfl⟩)
          go_round
          case rel => exact ⟨3, by omega, by go_num, fun j hj => by
            by_cases e : j = 2
            · rw [e]; exact unhide hBk
            · exact unhide HA j (by omega)⟩
          case measure => simp [intOf]
      · have hBk : Hid (B 3 = b3) := by rw [show B = _ from unhide HBB]; rfl
        cases b3
        · go_wp2_with (go_at_call 23; refine (unhide W3).mono ?_; rintro e w' ⟨rfl, rfl⟩)
          go_ret
          exact ⟨ret_bool (by simp), unhide HB⟩
        · go_wp2_with (go_at_call 23; refine (unhide W3).mono ?_; rintro e w' ⟨rfl, rfl⟩)
          go_round
          case rel => exact ⟨4, by omega, by go_num, fun j hj => by
            by_cases e : j = 3
            · rw [e]; exact unhide hBk
            · exact unhide HA j (by omega)⟩
          case measure => simp [intOf]
    · obtain rfl : k = 4 := by omega
      have e := unhide HBB
      have a0 := hall 0 (by omega)
      have a1 := hall 1 (by omega)
      have a2 := hall 2 (by omega)
      have a3 := hall 3 (by omega)
      rw [show B = _ from e] at a0 a1 a2 a3
      simp only [↓reduceIte, Nat.reduceEqDiff, Nat.one_ne_zero] at a0 a1 a2 a3
      subst a0 a1 a2 a3
      clear e hall HBB
      by_cases s0 : x.st = 0
      · have e0 : (x.st == 0) = true := by simpa using s0
        have F : inB x.st 0 2 = true := by unfold inB; simp; omega
        have HF := hide F
        clear F s0
        go_wp2
        go_ret
        exact ⟨ret_bool (by simp [unhide HF]), unhide HB⟩
      have e0 : (x.st == 0) = false := by simpa using s0
      by_cases s1 : x.st = 1
      · have e1 : (x.st == 1) = true := by simpa using s1
        have F : inB x.st 0 2 = true := by unfold inB; simp; omega
        have HF := hide F
        clear F s0 s1
        go_wp2
        go_ret
        exact ⟨ret_bool (by simp [unhide HF]), unhide HB⟩
      have e1 : (x.st == 1) = false := by simpa using s1
      have F : inB x.st 0 2 = (x.st == 2) := by unfold inB; rw [Bool.eq_iff_iff]; simp; omega
      cases e2 : (x.st == 2)
      all_goals rw [e2] at F
      all_goals have HF := hide F
      all_goals clear F s0 s1
      · go_wp2
        go_ret
        exact ⟨ret_bool (by simp [unhide HF]), unhide HB⟩
      · go_wp2
        go_ret
        exact ⟨ret_bool (by simp [unhide HF]), unhide HB⟩
end Go.Proofs.YtboedaofbchdkaaDoor

namespace Go.Proofs.YtboedaofbchdkaaDoor
open Go.ChangeShapes Go.WideShapes Go.ChangeAt Go.RowKit
set_option linter.unusedVariables false
set_option maxRecDepth 8000
set_option linter.unusedSimpArgs false
theorem below_new (w : World) (o : Obj) : Below w.heap.size w (w.alloc o) := (Below.refl _ _).alloc (Nat.le_refl _) _
theorem below_drew {w : World} : Below w.heap.size w w.drew := ⟨rfl, rfl, rfl, Nat.le_refl _, fun _ _ => rfl⟩
theorem wpList_store_new {P : Program} {ops : Array Oper} {rest : List Oper} {o : Oper} {a : Act} {w : World} {Q : Exit → Act → World → Prop} (hgd : o.guard = none) (ty : TypeId) (x y : Operand) (ho : o.op = .store ty x y)
    (cells : Array Value) (hx : a.eval x = .pointer (some ⟨w.heap.size, 0, none⟩)) (hy : a.eval y = .agg cells) (old : Array Value) (hi : (P.info? ty).map (·.size) = some cells.size)
    (hold : old.size = cells.size) (h1 : cells.all (·.oneCell') = true) (h : wpList P ops Q rest (a.put o.dst undef) (w.alloc (.cells cells ty))) : wpList P ops Q (o :: rest) a (w.alloc (.cells old ty)) :=
  wpList_store_row hgd ty x y ho w.heap.size cells hx hy ty old (heap_alloc_last w _) hi hold h1 (by rw [World.setRow_alloc_new]; exact h)
end Go.Proofs.YtboedaofbchdkaaDoor

namespace Go.Proofs.YtboedaofbchdkaaDoor
open Go.ChangeShapes Go.WideShapes Go.ChangeAt Go.RowKit
set_option linter.unusedVariables false
set_option maxRecDepth 8000
set_option linter.unusedSimpArgs false
theorem info_parts {P : Program} {t : TypeId} {z : Option Value} {s b : Nat} (h : (P.info? t).map (fun i => (i.zero, i.size, i.bytes)) = some (z, s, b)) : ∃ i, P.info? t = some i ∧ i.zero = z ∧ i.size = s ∧ i.bytes = b := by
  cases hq : P.info? t with
  | none => simp [hq] at h
  | some i => simp [hq] at h; exact ⟨i, rfl, h⟩
/-- No address, no room. -/
def Sl.nz (s : Sl) : Prop := s.a = none → s.c = 0
def Mv.nz (x : Mv) : Prop := x.m.nz ∧ x.r.nz ∧ x.i.nz ∧ x.o.nz
theorem OwnN.nz {w : World} {B : Nat} {s : Sl} {ns : List Int} (h : OwnN w B s.v ns) : s.nz := by
  obtain ⟨a, c, e, _, _, _, _, h0⟩ := h.rd
  obtain ⟨sa, sn, sc⟩ := s
  unfold Sl.v at e
  simp at e
  obtain ⟨rfl, _, rfl⟩ := e
  exact h0
theorem OwnM.nz {w : World} {B : Nat} {x : Mv} {d : Md} (h : OwnM w B x d) : x.nz := ⟨h.m.nz, h.r.nz, h.i.nz, h.o.nz⟩
theorem rdN_cells {w : World} {ad : Addr} {ns : List Int} (h : RdN w (some ad) ns) : ∀ j u, (cellsN ns)[j]? = some u → w.cell? (ad.add j) = some u := by
  intro j u hu
  simp only [cellsN, List.getElem?_map, Option.map_eq_some_iff] at hu
  obtain ⟨y, hy, rfl⟩ := hu
  have hj := (List.getElem?_eq_some_iff.1 hy).1
  rcases h with rfl | ⟨b, off, ha, hb, hc⟩
  · simp at hj
  · cases ha
    have := hc j hj
    have e : nAt ns j = y := by unfold nAt; rw [List.getD_eq_getElem?_getD, hy]; rfl
    rw [e] at this
    unfold Addr.add
    by_cases h0 : j = 0
    · subst h0; simpa using this
    · simpa [h0] using this
/-- 'append(v, s...)', v owned, s whatever is read: as one law for the walk. -/
theorem wpList_app {w : World} {ops : Array Oper} {rest : List Oper} {o : Oper} {a : Act} {Q : Exit → Act → World → Prop} (hgd : o.guard = none) (p q : Operand) (ho : o.op = .call { callee := .builtin .append, args := #[p, q], argTypes := #[25, 25] })
    (B : Nat) (v : Value) (xs : List Int) (hs : a.eval p = v) (hown : OwnN w B v xs) (s : Sl) (ns : List Int) (hx : a.eval q = .slice s.a s.n s.c) (hr : RdN w s.a ns) (hl : ns.length = s.n) (hz : s.nz) (hm : xs.length + s.n ≤ 4194304) (hB : B ≤ w.heap.size)
    (h : ∀ v' w', OwnN w' B v' (xs ++ ns) → w.grownBy w' v.ownBlock → wpList Tryd.prog ops Q rest (a.put o.dst v') w') : wpList Tryd.prog ops Q (o :: rest) a w := by
  obtain ⟨i0, hi, hz0, hz1, hz2⟩ := info_parts info3
  obtain ⟨sa, sn, sc⟩ := s
  simp only at hx hr hl hm
  cases sa with
  | none =>
    have h0 : ns = [] := by
      rcases hr with h0 | ⟨_, _, e, _⟩
      · exact h0
      · cases e
    subst h0
    have hn : sn = 0 := by simp at hl; omega
    have hc : sc = 0 := hz rfl
    subst hn hc
    refine wpList_append_own_none hgd p q 25 ho B 3 i0 1 Tryd.underlying25 hi v xs.length (cellsN xs) hs hown hx ?_
    exact h v w (by rw [List.append_nil]; exact hown) (World.grownBy.refl _ _)
  | some ad =>
    refine wpList_append_own _ hgd p q 25 ho B 3 i0 (.int .i64 0) 1 8 Tryd.underlying25 hi hz0 hz1 hz2 rfl (by decide) v xs.length (cellsN xs) hs hown ad sn sc (cellsN ns) hx (by rw [cellsN_length]; omega) (rdN_cells hr) (cellsN_one _) (by unfold maxLen; omega) (by omega) hB ?_
    intro v' w' ho' hg _
    refine h v' w' ?_ hg
    unfold OwnN
    rw [cellsN_append, List.length_append, hl]
    exact ho'
theorem below_grown {w w' : World} (hg : w.grownBy w' none) : Below w.heap.size w w' := ⟨hg.os, hg.tape, hg.output, hg.size, fun k hk => hg.block k hk (by simp)⟩
set_option maxHeartbeats 1000000 in
theorem copyN_any (s : Sl) (ns : List Int) (w : World) (hr : RdN w s.a ns) (hl : ns.length = s.n) (hz : s.nz) (hm : s.n ≤ 1048576) :
    Calls Tryd.prog 50 #[.slice s.a s.n s.c] w fun e w' => ∃ v, e = .returned v ∧ OwnN w' w.heap.size v ns ∧ Below w.heap.size w w' := by
  go_enter Tryd.func50, Tryd.ntmps50
  go_wp2_with (at_builtin; refine wpList_app rfl _ _ rfl w.heap.size (.slice none 0 0) [] rfl (ownN_none _ _) s ns rfl hr hl hz (by simp; omega) (Nat.le_refl _) ?_; intro v' w' ho hg; have HO := hide ho; have HG := hide hg; clear ho hg)
  go_ret
  exact ⟨_, rfl, unhide HO, below_grown (unhide HG)⟩
/-- While the program copies a machine: its box, the answer's place. -/
structure Cc (w wr : World) (x : Mv) : Prop where
  bx : wr.heap[w.heap.size]? = some (.cells x.cs 32 (0, 0))
  re : wr.heap[w.heap.size + 1]? = some (.cells zMv.cs 32 (0, 0))
  bel : Below w.heap.size w wr
  sz : w.heap.size + 2 ≤ wr.heap.size
section
variable {w wr w' : World} {x : Mv}
theorem Cc.later (h : Cc w wr x) (hb : Below wr.heap.size wr w') : Cc w w' x :=
  ⟨row_lat h.bx hb, row_lat h.re hb, h.bel.trans (hb.mono (by have := h.bel.size; omega)), Nat.le_trans h.sz hb.size⟩
theorem Cc.put (h : Cc w wr x) (j : Nat) (v : Value) (x' : Mv) (he : x.cs.setIfInBounds j v = x'.cs) : Cc w (wr.setCell ⟨w.heap.size, j, none⟩ v) x' :=
  ⟨row_put h.bx j v x' he, row_keep h.re (by omega), Below.drop h.bel (by omega), by simpa using h.sz⟩
theorem cc_new0 (w : World) (x : Mv) : Cc w ((w.alloc (.cells x.cs 32)).alloc (.cells zMv.cs 32)) x := by
  have z1 : (w.alloc (.cells x.cs 32)).heap.size = w.heap.size + 1 := by simp
  have a1 := row_lat (heap_alloc_last w (.cells x.cs 32)) (below_new _ (.cells zMv.cs 32))
  have a2 := heap_alloc_last (w.alloc (.cells x.cs 32)) (.cells zMv.cs 32)
  rw [z1] at a2
  exact ⟨a1, a2, ((Below.refl _ _).alloc (Nat.le_refl _) _).alloc (by omega) _, by simp⟩
theorem cc_new (w : World) (x : Mv) : Cc w ((w.alloc (.cells x.cs 32)).alloc (.cells #[Value.slice none 0 0, Value.slice none 0 0, Value.bool false, Value.bool false, Value.bool false, Value.bool false, Value.slice none 0 0, Value.slice none 0 0, Value.int .i64 0] 32)) x := cc_new0 w x
theorem Cc.done {x : Mv} (h : Cc w wr x) : Cd w (wr.setRow (w.heap.size + 1) x.cs) x :=
  ⟨setRow_heap wr _ zMv.cs _ 32 _ h.re, below_setRow h.bel (by omega) _⟩
theorem RdM.setB {x : Mv} {d : Md} {b : Nat} (h : RdM wr x d) (hw : RdM w x d) (hb : w.heap.size ≤ b) (j : Nat) (v : Value) : RdM (wr.setCell ⟨b, j, none⟩ v) x d := by
  have key : ∀ {a : Option Addr} {ns : List Int}, RdN w a ns → ns = [] ∨ ∀ ad, a = some ad → ad.block ≠ b := fun hr => by
    rcases hr with h0 | ⟨b', off, rfl, hb', _⟩
    · exact .inl h0
    · exact .inr fun ad e => by cases e; show b' ≠ b; omega
  exact ⟨h.m.put (key hw.m), h.r.put (key hw.r), h.i.put (key hw.i), h.o.put (key hw.o), h.ml, h.rl, h.il, h.ol⟩
end
set_option maxHeartbeats 4000000 in
theorem copyM_any (x : Mv) (d : Md) (w : World) (hs : x.small) (hz : x.nz) (hr : RdM w x d) : Calls Tryd.prog 31 #[.agg x.cs] w fun e w' => ∃ y : Mv, e = .returned (.agg y.cs) ∧ y.fl = x.fl ∧ OwnM w' (w.heap.size + 2) y d ∧ Below w.heap.size w w' := by
  obtain ⟨s0, s1, s2, s3⟩ := hs
  have NZ := hide hz
  have C := hide (cc_new w x)
  have HR := hide hr
  have R := hide (hr.later (unhide C).bel)
  have q0 : x.cs[0]? = some (.slice x.m.a x.m.n x.m.c) := rfl
  have T := hide (copyN_any x.m d.m _ (unhide R).m hr.ml hz.1 s0)
  clear hr hz
  go_enter Tryd.func31, Tryd.ntmps31
  go_wp2_with fail
  refine (unhide T).mono ?_
  rintro e w0 ⟨v, rfl, own, bel⟩
  obtain ⟨a0, n0, c0, rfl⟩ : ∃ a n c, v = .slice a n c := by obtain ⟨a, c, e, _⟩ := own.rd; exact ⟨_, _, _, e⟩
  have Cn := hide ((unhide C).later bel)
  have Rn := hide ((unhide R).later bel)
  have O0 := hide (OwnN.base own (B' := w.heap.size + 2) (unhide C).sz)
  clear own bel T C R q0
  have o0 := row_m (unhide Cn).bx
  have f0 := row_fz (unhide Cn).bx 0
  have b1 := row_r (unhide Cn).bx
  have C := hide ((unhide Cn).put 0 (.slice a0 n0 c0) (⟨⟨a0, n0, c0⟩, x.r, x.n, x.z, x.v, x.c, x.i, x.o, x.st⟩ : Mv) rfl)
  have R := hide ((unhide Rn).setB (unhide HR) (Nat.le_refl _) 0 (.slice a0 n0 c0))
  have On := hide ((unhide O0).put (b := w.heap.size) (j := 0) (u := .slice a0 n0 c0) (by omega))
  clear O0
  have O0 := hide (unhide On)
  clear On
  have T := hide (copyN_any x.r d.r _ (unhide R).r (unhide R).rl (unhide NZ).2.1 s1)
  clear Cn Rn
  go_wp2_with fail
  refine (unhide T).mono ?_
  rintro e w1 ⟨v, rfl, own, bel⟩
  obtain ⟨a1, n1, c1, rfl⟩ : ∃ a n c, v = .slice a n c := by obtain ⟨a, c, e, _⟩ := own.rd; exact ⟨_, _, _, e⟩
  have Cn := hide ((unhide C).later bel)
  have Rn := hide ((unhide R).later bel)
  have O1 := hide (OwnN.base own (B' := w.heap.size + 2) (unhide C).sz)
  have On := hide ((unhide O0).later bel)
  have A01 : Hid (Ap ⟨a0, n0, c0⟩ ⟨a1, n1, c1⟩) := hide (ap_of (unhide O0) own (Nat.le_refl _))
  clear O0
  have O0 := hide (unhide On)
  clear On
  clear own bel T C R
  have o1 := row_r (unhide Cn).bx
  have f1 := row_fz (unhide Cn).bx 1
  have b6 := row_i (unhide Cn).bx
  have C := hide ((unhide Cn).put 1 (.slice a1 n1 c1) (⟨⟨a0, n0, c0⟩, ⟨a1, n1, c1⟩, x.n, x.z, x.v, x.c, x.i, x.o, x.st⟩ : Mv) rfl)
  have R := hide ((unhide Rn).setB (unhide HR) (Nat.le_refl _) 1 (.slice a1 n1 c1))
  have On := hide ((unhide O0).put (b := w.heap.size) (j := 1) (u := .slice a1 n1 c1) (by omega))
  clear O0
  have O0 := hide (unhide On)
  clear On
  have On := hide ((unhide O1).put (b := w.heap.size) (j := 1) (u := .slice a1 n1 c1) (by omega))
  clear O1
  have O1 := hide (unhide On)
  clear On
  have T := hide (copyN_any x.i d.i _ (unhide R).i (unhide R).il (unhide NZ).2.2.1 s2)
  clear Cn Rn
  go_wp2_with fail
  refine (unhide T).mono ?_
  rintro e w2 ⟨v, rfl, own, bel⟩
  obtain ⟨a2, n2, c2, rfl⟩ : ∃ a n c, v = .slice a n c := by obtain ⟨a, c, e, _⟩ := own.rd; exact ⟨_, _, _, e⟩
  have Cn := hide ((unhide C).later bel)
  have Rn := hide ((unhide R).later bel)
  have O2 := hide (OwnN.base own (B' := w.heap.size + 2) (unhide C).sz)
  have On := hide ((unhide O0).later bel)
  have A02 : Hid (Ap ⟨a0, n0, c0⟩ ⟨a2, n2, c2⟩) := hide (ap_of (unhide O0) own (Nat.le_refl _))
  clear O0
  have O0 := hide (unhide On)
  clear On
  have On := hide ((unhide O1).later bel)
  have A12 : Hid (Ap ⟨a1, n1, c1⟩ ⟨a2, n2, c2⟩) := hide (ap_of (unhide O1) own (Nat.le_refl _))
  clear O1
  have O1 := hide (unhide On)
  clear On
  clear own bel T C R
  have o6 := row_i (unhide Cn).bx
  have f6 := row_fz (unhide Cn).bx 6
  have b7 := row_o (unhide Cn).bx
  have C := hide ((unhide Cn).put 6 (.slice a2 n2 c2) (⟨⟨a0, n0, c0⟩, ⟨a1, n1, c1⟩, x.n, x.z, x.v, x.c, ⟨a2, n2, c2⟩, x.o, x.st⟩ : Mv) rfl)
  have R := hide ((unhide Rn).setB (unhide HR) (Nat.le_refl _) 6 (.slice a2 n2 c2))
  have On := hide ((unhide O0).put (b := w.heap.size) (j := 6) (u := .slice a2 n2 c2) (by omega))
  clear O0
  have O0 := hide (unhide On)
  clear On
  have On := hide ((unhide O1).put (b := w.heap.size) (j := 6) (u := .slice a2 n2 c2) (by omega))
  clear O1
  have O1 := hide (unhide On)
  clear On
  have On := hide ((unhide O2).put (b := w.heap.size) (j := 6) (u := .slice a2 n2 c2) (by omega))
  clear O2
  have O2 := hide (unhide On)
  clear On
  have T := hide (copyN_any x.o d.o _ (unhide R).o (unhide R).ol (unhide NZ).2.2.2 s3)
  clear Cn Rn
  go_wp2_with fail
  refine (unhide T).mono ?_
  rintro e w3 ⟨v, rfl, own, bel⟩
  obtain ⟨a3, n3, c3, rfl⟩ : ∃ a n c, v = .slice a n c := by obtain ⟨a, c, e, _⟩ := own.rd; exact ⟨_, _, _, e⟩
  have Cn := hide ((unhide C).later bel)
  have Rn := hide ((unhide R).later bel)
  have O3 := hide (OwnN.base own (B' := w.heap.size + 2) (unhide C).sz)
  have On := hide ((unhide O0).later bel)
  have A03 : Hid (Ap ⟨a0, n0, c0⟩ ⟨a3, n3, c3⟩) := hide (ap_of (unhide O0) own (Nat.le_refl _))
  clear O0
  have O0 := hide (unhide On)
  clear On
  have On := hide ((unhide O1).later bel)
  have A13 : Hid (Ap ⟨a1, n1, c1⟩ ⟨a3, n3, c3⟩) := hide (ap_of (unhide O1) own (Nat.le_refl _))
  clear O1
  have O1 := hide (unhide On)
  clear On
  have On := hide ((unhide O2).later bel)
  have A23 : Hid (Ap ⟨a2, n2, c2⟩ ⟨a3, n3, c3⟩) := hide (ap_of (unhide O2) own (Nat.le_refl _))
  clear O2
  have O2 := hide (unhide On)
  clear On
  clear own bel T C R
  have o7 := row_o (unhide Cn).bx
  have f7 := row_fz (unhide Cn).bx 7
  have C := hide ((unhide Cn).put 7 (.slice a3 n3 c3) (⟨⟨a0, n0, c0⟩, ⟨a1, n1, c1⟩, x.n, x.z, x.v, x.c, ⟨a2, n2, c2⟩, ⟨a3, n3, c3⟩, x.st⟩ : Mv) rfl)
  have On := hide ((unhide O0).put (b := w.heap.size) (j := 7) (u := .slice a3 n3 c3) (by omega))
  clear O0
  have O0 := hide (unhide On)
  clear On
  have On := hide ((unhide O1).put (b := w.heap.size) (j := 7) (u := .slice a3 n3 c3) (by omega))
  clear O1
  have O1 := hide (unhide On)
  clear On
  have On := hide ((unhide O2).put (b := w.heap.size) (j := 7) (u := .slice a3 n3 c3) (by omega))
  clear O2
  have O2 := hide (unhide On)
  clear On
  have On := hide ((unhide O3).put (b := w.heap.size) (j := 7) (u := .slice a3 n3 c3) (by omega))
  clear O3
  have O3 := hide (unhide On)
  clear On
  clear Cn Rn
  go_wp2_with (first | (refine wpList_load_row rfl 32 _ rfl w.heap.size rfl 32 (Mv.cs (⟨⟨a0, n0, c0⟩, ⟨a1, n1, c1⟩, x.n, x.z, x.v, x.c, ⟨a2, n2, c2⟩, ⟨a3, n3, c3⟩, x.st⟩ : Mv)) (0, 0) _ (unhide C).bx Tryd.underlying32 rfl (by kernel_rfl) ?_) | (refine wpList_store_row rfl 32 _ _ rfl (w.heap.size + 1) (Mv.cs (⟨⟨a0, n0, c0⟩, ⟨a1, n1, c1⟩, x.n, x.z, x.v, x.c, ⟨a2, n2, c2⟩, ⟨a3, n3, c3⟩, x.st⟩ : Mv)) rfl rfl 32 zMv.cs (unhide C).re (by kernel_rfl) rfl (Mv.cs_one _) ?_))
  refine bodyPost_ret (results_cell_row (P := Tryd.prog) rfl _ _ (w.heap.size + 1) 32 (Mv.cs (⟨⟨a0, n0, c0⟩, ⟨a1, n1, c1⟩, x.n, x.z, x.v, x.c, ⟨a2, n2, c2⟩, ⟨a3, n3, c3⟩, x.st⟩ : Mv)) (0, 0) _ rfl (unhide C).done.re Tryd.underlying32 rfl (by kernel_rfl)) rfl ?_
  exact ⟨(⟨⟨a0, n0, c0⟩, ⟨a1, n1, c1⟩, x.n, x.z, x.v, x.c, ⟨a2, n2, c2⟩, ⟨a3, n3, c3⟩, x.st⟩ : Mv), rfl, rfl, ⟨(unhide O0).row (by omega) _, (unhide O1).row (by omega) _, (unhide O2).row (by omega) _, (unhide O3).row (by omega) _, unhide A01, unhide A02, unhide A03, unhide A12, unhide A13, unhide A23⟩, (unhide C).done.bel⟩
end Go.Proofs.YtboedaofbchdkaaDoor
