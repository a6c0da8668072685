/- Contracts over this seat's translation, laid together; conditions stand as hypotheses of each. -/
import Derived.Test.YtkolflcjkofleaaDoorTxA
import Derived.Laws.CopyOwn
import Derived.Deep.DeepMust
import Derived.OwnWalk
import Derived.Laws.MakeOwn
import Derived.Deep.RegionWith
import Derived.Lib.BufferWrite
import Derived.Lib.UnsafeStr
import Derived.Lib.IfaceEq
import Derived.Lib.AtoiErrMem
import Derived.Lib.Walk
import Derived.Laws.Closers25b
import Derived.Laws.Strings3
import Derived.BigGuard
import Derived.Laws.Tables

namespace Go.Proofs.YtkolflcjkofleaaDoor
open Go.ChangeShapes Go.WideShapes Go.ChangeAt Go.RowKit
set_option linter.unusedVariables false
set_option maxRecDepth 8000

def IsRow (k : IntKind) (w : World) (a : Option Addr) (len cap : Nat) (zs : List Int) : Prop :=
  (a = none ∧ len = 0 ∧ cap = 0 ∧ zs = []) ∨
  ∃ x, a = some x ∧ len ≤ cap ∧ cap ≤ maxLen ∧ zs.length = cap ∧ (∀ i, i < zs.length → w.cell? (x.add i) = some (.int k (zs.getD i 0))) ∧ ∀ n ∈ zs, (Lit.int k n).wf = true

def bVal (xs : List UInt8) (i : Nat) : Value := .int .u8 (bAt xs i)

/-- A slice with address a reads as the bytes xs in the world w. -/
def Rd (w : World) (a : Option Addr) (xs : List UInt8) : Prop :=
  xs = [] ∨ ∃ b off, a = some ⟨b, off, none⟩ ∧ b < w.heap.size ∧ ∀ i, i < xs.length → w.cell? ⟨b, off + i, none⟩ = some (.int .u8 (bAt xs i))

theorem Rd.later {w w' : World} {a : Option Addr} {xs : List UInt8} (h : Rd w a xs) (hb : Below w.heap.size w w') : Rd w' a xs := by
  rcases h with h | ⟨b, off, ha, hlt, hc⟩
  · exact .inl h
  · exact .inr ⟨b, off, ha, Nat.lt_of_lt_of_le hlt hb.size, fun i hi => (hb.cell (p := ⟨b, off + i, none⟩) hlt).trans (hc i hi)⟩

theorem Rd.of_row {w : World} {b n : Nat} {xs : List UInt8} (h : w.rowIs b 5 n (bVal xs)) (hn : xs.length ≤ n) : Rd w (some ⟨b, 0, none⟩) xs :=
  .inr ⟨b, 0, rfl, h.lt, fun i hi => by simpa [bVal] using h.cell (i := i) (by omega)⟩

theorem bytes_of_ints (zs : List Int) (h : ∀ n ∈ zs, (Lit.int .u8 n).wf = true) : ∃ xs : List UInt8, xs.length = zs.length ∧ ∀ i, i < zs.length → zs.getD i 0 = bAt xs i := by
  refine ⟨zs.map fun z => UInt8.ofNat z.toNat, by simp, fun i hi => ?_⟩
  have hb := bounds_u8 (h (zs.getD i 0) (by rw [List.getD_eq_getElem?_getD, List.getElem?_eq_getElem hi]; exact List.getElem_mem _))
  unfold bAt
  rw [List.getD_eq_getElem?_getD, List.getD_eq_getElem?_getD, List.getElem?_map, List.getElem?_eq_getElem hi] at *
  simp at hb ⊢
  omega

theorem rd_of_row {w : World} {a : Option Addr} {len cap : Nat} {zs : List Int} (h : IsRow .u8 w a len cap zs) :
    ∃ xs : List UInt8, xs.length = len ∧ len ≤ cap ∧ cap ≤ maxLen ∧ Rd w a xs := by
  rcases h with ⟨rfl, rfl, rfl, rfl⟩ | ⟨x, rfl, hl, hm, hz, hcell, hwz⟩
  · exact ⟨[], rfl, Nat.le_refl _, by unfold maxLen; omega, .inl rfl⟩
  · obtain ⟨ys, hy, hv⟩ := bytes_of_ints zs hwz
    refine ⟨ys.take len, by simp; omega, hl, hm, ?_⟩
    by_cases h0 : len = 0
    · left; simp [h0]
    · right
      obtain ⟨b, off, spot⟩ := x
      have h00 := hcell 0 (by omega)
      have hspot : spot = none := by simpa [Addr.add] using World.cell?_spot h00
      subst hspot
      refine ⟨b, off, rfl, World.block_lt_of_cell? w _ h00, fun i hi => ?_⟩
      have hi' : i < len := by simp at hi; omega
      have := hcell i (by omega)
      rw [hv i (by omega)] at this
      have e : bAt (ys.take len) i = bAt ys i := by
        unfold bAt
        rw [List.getD_eq_getElem?_getD, List.getD_eq_getElem?_getD, List.getElem?_take, if_pos hi']
      rw [e]
      exact (show w.cell? ⟨b, off + i, none⟩ = _ by have h2 := this; unfold Addr.add at h2; by_cases hi0 : i = 0 <;> simpa [hi0] using h2)

def cellsB (ys : List UInt8) : List Value := ys.map fun y => .int .u8 (y.toNat : Int)

theorem cellsB_length (ys : List UInt8) : (cellsB ys).length = ys.length := by simp [cellsB]

theorem cellsB_append (a b : List UInt8) : cellsB (a ++ b) = cellsB a ++ cellsB b := by simp [cellsB]

theorem cellsB_one (ys : List UInt8) : ∀ u ∈ cellsB ys, u.oneCell' = true := by
  intro u hu
  simp only [cellsB, List.mem_map] at hu
  obtain ⟨y, _, rfl⟩ := hu
  rfl

theorem cellsB_get {ys : List UInt8} {j : Nat} {u : Value} (h : (cellsB ys)[j]? = some u) : j < ys.length ∧ u = .int .u8 (bAt ys j) := by
  simp only [cellsB, List.getElem?_map, Option.map_eq_some_iff] at h
  obtain ⟨y, hy, rfl⟩ := h
  have := (List.getElem?_eq_some_iff.1 hy).1
  exact ⟨this, by unfold bAt; rw [List.getD_eq_getElem?_getD, hy]; rfl⟩

/-- v is a slice of the call's own (blocks from B on) that holds the bytes ys. -/
def OwnB (w : World) (B : Nat) (v : Value) (ys : List UInt8) : Prop := w.ownsRow B 5 1 v ys.length (cellsB ys)

theorem rd_cells {w : World} {ad : Addr} {xs : List UInt8} (h : Rd w (some ad) xs) : ∀ j u, (cellsB xs)[j]? = some u → w.cell? (ad.add j) = some u := by
  intro j u hu
  obtain ⟨hj, rfl⟩ := cellsB_get hu
  rcases h with rfl | ⟨b, off, ha, hb, hc⟩
  · simp at hj
  · cases ha
    have := hc j hj
    unfold Addr.add
    by_cases h0 : j = 0
    · subst h0; simpa using this
    · simpa [h0] using this

theorem Rd.alloc {w : World} {a : Option Addr} {xs : List UInt8} (h : Rd w a xs) (o : Obj) : Rd (w.alloc o) a xs := h.later ((Below.refl _ _).alloc (Nat.le_refl _) _)

theorem ownB_empty (w : World) : (w.alloc (Obj.cells #[] 5)).ownsRow w.heap.size 5 1 (.slice (some ⟨w.heap.size, 0, none⟩) 0 0) 0 [] :=
  World.ownsRow_lit w #[] 0 (Nat.le_refl _) (by decide) rfl

theorem OwnB.rd {w : World} {B : Nat} {v : Value} {ys : List UInt8} (h : OwnB w B v ys) : ∃ a cap, v = .slice a ys.length cap ∧ ys.length ≤ cap ∧ cap ≤ maxLen ∧ Rd w a ys ∧ (∀ ad, a = some ad → B ≤ ad.block) ∧ (a = none → cap = 0) := by
  obtain ⟨_, ⟨rfl, h0⟩ | ⟨g, cap, cur, rfl, hg, hh, hn, hm, hs, ht⟩⟩ := id h
  · obtain rfl : ys = [] := List.eq_nil_of_length_eq_zero h0
    exact ⟨none, 0, rfl, Nat.le_refl _, Nat.zero_le _, .inl rfl, (fun _ h => by cases h), fun _ => rfl⟩
  · refine ⟨_, cap, rfl, hn, hm, .inr ⟨g, 0, rfl, (Array.getElem?_eq_some_iff.1 hh).1, fun i hi => ?_⟩, (fun ad h => by cases h; exact hg), fun h => by cases h⟩
    have h2 := World.ownsRow.cellAt h i (by omega)
    rw [Nat.zero_add, h2]
    simp only [cellsB, List.getElem?_map, List.getElem?_eq_getElem hi, Option.map_some]
    unfold bAt
    rw [List.getD_eq_getElem?_getD, List.getElem?_eq_getElem hi]
    rfl

theorem OwnB.rd1 {w : World} {B : Nat} {a : Option Addr} {n cap : Nat} {ys : List UInt8} (h : OwnB w B (.slice a n cap) ys) : Rd w a ys := by
  obtain ⟨a', cap', e, _, _, hr, _⟩ := h.rd
  cases e
  exact hr

theorem OwnB.keep {w w' : World} {B : Nat} {v : Value} {ys : List UInt8} (h : OwnB w B v ys) (hs : ∀ g, v.ownBlock = some g → g < w.heap.size → w'.heap[g]? = w.heap[g]?) : OwnB w' B v ys := by
  obtain ⟨h1, h2 | ⟨g, cap, cur, rfl, hg, hh, r⟩⟩ := h
  · exact ⟨h1, .inl h2⟩
  · exact ⟨h1, .inr ⟨g, cap, cur, rfl, hg, (hs g rfl (Array.getElem?_eq_some_iff.1 hh).1).trans hh, r⟩⟩

theorem OwnB.later {w w' : World} {B : Nat} {v : Value} {ys : List UInt8} (h : OwnB w B v ys) (hb : Below w.heap.size w w') : OwnB w' B v ys := h.keep fun g _ hg => hb.block g hg

theorem OwnB.past {w w' : World} {B : Nat} {v : Value} {ys : List UInt8} {b : Nat} (h : OwnB w B v ys) (hb : w.grownBy w' (some b)) (hne : v.ownBlock ≠ some b) : OwnB w' B v ys :=
  h.keep fun g hv hg => hb.block g hg (by rw [← hv]; exact hne)

theorem OwnB.lt {w : World} {B : Nat} {v : Value} {ys : List UInt8} (h : OwnB w B v ys) {g : Nat} (hg : v.ownBlock = some g) : B ≤ g ∧ g < w.heap.size := World.ownsRow.lt h g hg

/-- An owned slice that is not empty, written out. -/
theorem OwnB.form {w : World} {B : Nat} {v : Value} {ys : List UInt8} (h : OwnB w B v ys) (h0 : 0 < ys.length) : ∃ g cap, v = .slice (some ⟨g, 0, none⟩) ys.length cap ∧ B ≤ g ∧ g < w.heap.size ∧ ys.length ≤ cap ∧ cap ≤ maxLen := by
  obtain ⟨_, ⟨_, h2⟩ | ⟨g, cap, cur, rfl, hg, hh, hn, hm, r⟩⟩ := h
  · omega
  · exact ⟨g, cap, rfl, hg, (Array.getElem?_eq_some_iff.1 hh).1, hn, hm⟩

theorem Rd.past {w w' : World} {a : Option Addr} {xs : List UInt8} {b : Nat} (h : Rd w a xs) (hb : w.grownBy w' (some b)) (hne : ∀ ad, a = some ad → ad.block ≠ b) : Rd w' a xs := by
  rcases h with h | ⟨c, off, rfl, hlt, hc⟩
  · exact .inl h
  · exact .inr ⟨c, off, rfl, Nat.lt_of_lt_of_le hlt hb.size, fun i hi => (World.cell?_of_block (w := w) (hb.block c hlt (by have := hne _ rfl; simpa using this))).trans (hc i hi)⟩

theorem Rd.lt {w : World} {ad : Addr} {xs : List UInt8} (h : Rd w (some ad) xs) (h0 : 0 < xs.length) : ad.block < w.heap.size := by
  rcases h with rfl | ⟨c, off, e, hlt, _⟩
  · simp at h0
  · cases e; exact hlt

theorem i64_and255 (n : Int) : bits .and .i64 n 255 = n % 256 := by
  have h127 : (BitVec.ofInt 64 255).toNat = 2 ^ 8 - 1 := by decide
  have key : (BitVec.ofInt 64 n &&& BitVec.ofInt 64 255).toNat = (n % ((2 ^ 64 : Nat) : Int)).toNat % 2 ^ 8 := by
    rw [BitVec.toNat_and, BitVec.toNat_ofInt, h127, Nat.and_two_pow_sub_one_eq_mod]
  show IntKind.i64.wrap ((BitVec.ofInt 64 n &&& BitVec.ofInt 64 255).toNat : Nat) = n % 256
  rw [key, IntKind.wrap_i64]
  omega

/-- A cursor in block cb over a slice of bytes that reads as xs. -/
structure Cur (w : World) (cb : Nat) (a : Option Addr) (len cap : Nat) (xs : List UInt8) : Prop where
  c0 : w.cell? ⟨cb, 0, none⟩ = some (.slice a len cap)
  c1 : ∃ i : Nat, i ≤ len ∧ w.cell? ⟨cb, 1, none⟩ = some (.int .i64 i)
  c2 : ∃ h : Int, w.cell? ⟨cb, 2, none⟩ = some (.int .i64 h)
  f1 : w.frozen? ⟨cb, 1, none⟩ = false
  f2 : w.frozen? ⟨cb, 2, none⟩ = false
  rd : Rd w a xs
  ln : xs.length = len
  lm : len ≤ 9223372036854775806
  ne : xs = [] ∨ ∀ ad, a = some ad → ad.block ≠ cb

theorem Cur.lt {w : World} {cb : Nat} {a : Option Addr} {len cap : Nat} {xs : List UInt8} (h : Cur w cb a len cap xs) : cb < w.heap.size := World.block_lt_of_cell? w _ h.c0

theorem grownBy_set {w : World} {b o : Nat} (v : Value) : w.grownBy (w.setCell ⟨b, o, none⟩ v) (some b) :=
  ⟨rfl, rfl, rfl, by simp, fun k _ hk => Below.heap_setCell w ⟨b, o, none⟩ v k (fun e => hk (by simp [e]))⟩

theorem grownBy_drewN {w : World} (n : Nat) (r : Option Nat) : w.grownBy (w.drewN n) r := ⟨rfl, rfl, rfl, Nat.le_refl _, fun _ _ _ => rfl⟩

theorem Rd.past' {w w' : World} {a : Option Addr} {xs : List UInt8} {b : Nat} (h : Rd w a xs) (hb : w.grownBy w' (some b)) (hne : xs = [] ∨ ∀ ad, a = some ad → ad.block ≠ b) : Rd w' a xs := by
  rcases hne with h0 | hne
  · exact .inl h0
  · exact h.past hb hne

theorem Cur.draw {w : World} {cb : Nat} {a : Option Addr} {len cap : Nat} {xs : List UInt8} (h : Cur w cb a len cap xs) (n : Nat) : Cur (w.drewN n) cb a len cap xs :=
  ⟨h.c0, h.c1, h.c2, h.f1, h.f2, h.rd.later ⟨rfl, rfl, rfl, Nat.le_refl _, fun _ _ => rfl⟩, h.ln, h.lm, h.ne⟩

theorem Cur.set2 {w : World} {cb : Nat} {a : Option Addr} {len cap : Nat} {xs : List UInt8} (h : Cur w cb a len cap xs) (H : Int) : Cur (w.setCell ⟨cb, 2, none⟩ (.int .i64 H)) cb a len cap xs := by
  have hg : w.grownBy (w.setCell ⟨cb, 2, none⟩ (.int .i64 H)) (some cb) := grownBy_set _
  obtain ⟨c0, ⟨i, hi, c1⟩, ⟨h, c2⟩, f1, f2, rd, ln, lm, ne⟩ := h
  have rd' := rd.past' hg ne
  clear hg rd
  refine ⟨?_, ⟨i, hi, ?_⟩, ⟨H, ?_⟩, ?_, ?_, rd', ln, lm, ne⟩ <;> clear ne rd' <;> go_simp

theorem Cur.set1 {w : World} {cb : Nat} {a : Option Addr} {len cap : Nat} {xs : List UInt8} (h : Cur w cb a len cap xs) (j : Nat) (hj : j ≤ len) (v : Int) (hv : v = (j : Int)) : Cur (w.setCell ⟨cb, 1, none⟩ (.int .i64 v)) cb a len cap xs := by
  subst hv
  have hg : w.grownBy (w.setCell ⟨cb, 1, none⟩ (.int .i64 j)) (some cb) := grownBy_set _
  obtain ⟨c0, ⟨i, hi, c1⟩, ⟨h, c2⟩, f1, f2, rd, ln, lm, ne⟩ := h
  have rd' := rd.past' hg ne
  clear hg rd
  refine ⟨?_, ⟨j, hj, ?_⟩, ⟨h, ?_⟩, ?_, ?_, rd', ln, lm, ne⟩ <;> clear ne rd' <;> go_simp

set_option maxHeartbeats 800000 in
theorem byte_any (cb : Nat) (a : Option Addr) (len cap : Nat) (xs : List UInt8) (w : World) (hc : Cur w cb a len cap xs) :
    Calls Tryd.prog 84 #[.pointer (some ⟨cb, 0, none⟩)] w fun e w' => ∃ x : Int, 0 ≤ x ∧ x ≤ 255 ∧ e = .returned (.int .i64 x) ∧ Cur w' cb a len cap xs ∧ w.grownBy w' (some cb) := by
  have hcur := hide hc
  obtain ⟨c0, ⟨i, hi, c1⟩, ⟨h, c2⟩, f1, f2, rd, ln, lm, ne⟩ := hc
  by_cases hlt : i < len
  · rcases rd with rfl | ⟨b, off, rfl, hb, hcell⟩
    · simp at ln; omega
    have hne : b ≠ cb := by
      rcases ne with h0 | ne
      · rw [h0] at ln; simp at ln; omega
      · exact ne _ rfl
    have hil : (i : Int) < (len : Int) := by omega
    have hcx : ∀ v : Value, (w.setCell ⟨cb, 2, none⟩ v).cell? ⟨b, off + i, none⟩ = some (.int .u8 (bAt xs i)) := fun v => by
      rw [World.cell?_of_block (w := w) (Below.heap_setCell w _ v b hne)]; exact hcell i (by omega)
    have hbd := bAt_bd xs i
    have ne' := hide ne
    have hcell' := hide hcell
    clear ne hcell
    go_enter Tryd.func84, Tryd.ntmps84
    go_wp2
    generalize wrap64 (wrap64 (h * 6364136223846793005) + 1442695040888963407) = H
    go_quiet (fail)
    go_wp2
    go_quiet (fail)
    go_wp2
    go_quiet (fail)
    go_wp2
    go_ret
    refine ⟨_, ?_, ?_, rfl, ?_, ?_⟩
    · rw [i64_and255]; omega
    · rw [i64_and255]; omega
    · exact (((unhide hcur).set2 H).draw _).set1 (i + 1) hlt _ (by omega)
    · exact grownBy_trans (grownBy_trans (grownBy_set _) (grownBy_drewN _ _)) (grownBy_set _)
  · have hil : ¬ (i : Int) < (len : Int) := by omega
    have ne' := hide ne
    clear ne
    go_enter Tryd.func84, Tryd.ntmps84
    go_wp2
    generalize wrap64 (wrap64 (h * 6364136223846793005) + 1442695040888963407) = H
    go_quiet (fail)
    go_wp2
    go_quiet (fail)
    go_wp2
    go_ret
    refine ⟨_, ?_, ?_, rfl, ?_, ?_⟩
    · rw [i64_and255]; omega
    · rw [i64_and255]; omega
    · exact (((unhide hcur).set2 H).draw _).draw _
    · exact grownBy_trans (grownBy_trans (grownBy_set _) (grownBy_drewN _ _)) (grownBy_drewN _ _)

theorem Cur.code {w : World} {cb : Nat} {a : Option Addr} {len cap : Nat} {xs : List UInt8} (h : Cur w cb a len cap xs) : xs = [] ∨ ∀ ad, a = some ad → ad.block < w.heap.size := by
  rcases h.rd with h0 | ⟨b, off, rfl, hb, _⟩
  · exact .inl h0
  · exact .inr fun ad e => by cases e; exact hb

theorem Cur.past {w w' : World} {cb : Nat} {a : Option Addr} {len cap : Nat} {xs : List UInt8} {row : Option Nat} {B : Nat} (h : Cur w cb a len cap xs) (hg : w.grownBy w' row) (hB : cb < B) (hc : xs = [] ∨ ∀ ad, a = some ad → ad.block < B) (hr : ∀ g, row = some g → B ≤ g) : Cur w' cb a len cap xs := by
  have hlt := h.lt
  have hb : w'.heap[cb]? = w.heap[cb]? := hg.block cb hlt (fun e => by have := hr cb e.symm; omega)
  have hcell : ∀ o, w'.cell? ⟨cb, o, none⟩ = w.cell? ⟨cb, o, none⟩ := fun o => World.cell?_of_block (w := w) hb
  have hfr : ∀ o, w'.frozen? ⟨cb, o, none⟩ = w.frozen? ⟨cb, o, none⟩ := fun o => World.frozen?_of_block (w := w) hb
  refine ⟨(hcell 0).trans h.c0, ?_, ?_, (hfr 1).trans h.f1, (hfr 2).trans h.f2, ?_, h.ln, h.lm, h.ne⟩
  · obtain ⟨i, hi, c1⟩ := h.c1; exact ⟨i, hi, (hcell 1).trans c1⟩
  · obtain ⟨i, c2⟩ := h.c2; exact ⟨i, (hcell 2).trans c2⟩
  · rcases hc with h0 | hc
    · exact .inl h0
    · rcases h.rd with h0 | ⟨b, off, ha, hbl, hcl⟩
      · exact .inl h0
      · refine .inr ⟨b, off, ha, Nat.lt_of_lt_of_le hbl hg.size, fun i hi => ?_⟩
        refine (World.cell?_of_block (w := w) (hg.block b hbl (fun e => ?_))).trans (hcl i hi)
        have h1 := hr b e.symm
        have h2 := hc _ ha
        simp at h2
        omega

theorem Cur.later {w w' : World} {cb : Nat} {a : Option Addr} {len cap : Nat} {xs : List UInt8} (h : Cur w cb a len cap xs) (hb : Below w.heap.size w w') : Cur w' cb a len cap xs :=
  h.past (row := none) (B := w.heap.size) ⟨hb.os, hb.tape, hb.output, hb.size, fun k hk _ => hb.block k hk⟩ h.lt h.code (fun g e => by cases e)

theorem grownBy_below {w w' : World} {r : Option Nat} (hb : Below w.heap.size w w') : w.grownBy w' r := ⟨hb.os, hb.tape, hb.output, hb.size, fun k hk _ => hb.block k hk⟩

theorem grownBy_own {w w1 w2 : World} {r row : Option Nat} (h : w.grownBy w1 r) (k : w1.grownBy w2 row) (hr : ∀ g, row = some g → w.heap.size ≤ g) : w.grownBy w2 r :=
  ⟨k.os.trans h.os, k.tape.trans h.tape, k.output.trans h.output, Nat.le_trans h.size k.size, fun j hj hn => (k.block j (Nat.lt_of_lt_of_le hj h.size) (fun e => by have := hr j e.symm; omega)).trans (h.block j hj hn)⟩

set_option maxHeartbeats 400000 in
theorem below_any (cb : Nat) (a : Option Addr) (len cap : Nat) (xs : List UInt8) (n : Int) (w : World) (h63 : n ≤ 9223372036854775807) (hc : Cur w cb a len cap xs) :
    Calls Tryd.prog 57 #[.pointer (some ⟨cb, 0, none⟩), .int .i64 n] w fun e w' => ∃ x : Int, (0 < n → 0 ≤ x ∧ x < n) ∧ (n ≤ 0 → x = 0) ∧ e = .returned (.int .i64 x) ∧ Cur w' cb a len cap xs ∧ w.grownBy w' (some cb) := by
  by_cases h0 : n ≤ 0
  · go_enter Tryd.func57, Tryd.ntmps57
    go_wp2
    go_ret
    exact ⟨0, fun h => by omega, fun _ => rfl, rfl, hc, World.grownBy.refl _ _⟩
  · by_cases h1 : n ≤ 256
    · have hp : 0 < n := by omega
      go_enter Tryd.func57, Tryd.ntmps57
      go_wp2_with fail
      refine (byte_any cb a len cap xs w hc).mono ?_
      rintro e w1 ⟨x, hx0, hx1, rfl, hc1, hg1⟩
      go_wp2
      go_ret
      exact ⟨_, fun _ => ⟨Int.emod_nonneg _ (by omega), Int.emod_lt_of_pos _ hp⟩, fun h => by omega, rfl, hc1, hg1⟩
    · have hp : 0 < n := by omega
      go_enter Tryd.func57, Tryd.ntmps57
      go_wp2_with fail
      refine (byte_any cb a len cap xs w hc).mono ?_
      rintro e w1 ⟨x, hx0, hx1, rfl, hc1, hg1⟩
      go_wp2_with fail
      refine (byte_any cb a len cap xs w1 hc1).mono ?_
      rintro e w2 ⟨y, hy0, hy1, rfl, hc2, hg2⟩
      go_wp2_with fail
      refine (byte_any cb a len cap xs w2 hc2).mono ?_
      rintro e w3 ⟨z, hz0, hz1, rfl, hc3, hg3⟩
      go_wp2
      go_ret
      exact ⟨_, fun _ => ⟨Int.emod_nonneg _ (by omega), Int.emod_lt_of_pos _ hp⟩, fun h => by omega, rfl, hc3, grownBy_trans (grownBy_trans hg1 hg2) hg3⟩

set_option maxHeartbeats 400000 in
theorem once_any (cb : Nat) (a : Option Addr) (len cap : Nat) (xs : List UInt8) (n : Int) (w : World) (h63 : n ≤ 9223372036854775807) (hc : Cur w cb a len cap xs) :
    Calls Tryd.prog 42 #[.pointer (some ⟨cb, 0, none⟩), .int .i64 n] w fun e w' => ∃ b : Bool, e = .returned (.bool b) ∧ Cur w' cb a len cap xs ∧ w.grownBy w' (some cb) := by
  go_enter Tryd.func42, Tryd.ntmps42
  go_wp2_with fail
  refine (below_any cb a len cap xs n w h63 hc).mono ?_
  rintro e w1 ⟨x, hx0, hx1, rfl, hc1, hg1⟩
  go_wp2
  go_ret
  exact ⟨_, rfl, hc1, hg1⟩

theorem RdN.past {w w' : World} {a : Option Addr} {ns : List Int} {b : Nat} (h : RdN w a ns) (hb : w.grownBy w' (some b)) (hne : ∀ ad, a = some ad → ad.block ≠ b) : RdN w' a ns := by
  rcases h with h | ⟨c, off, rfl, hlt, hc⟩
  · exact .inl h
  · exact .inr ⟨c, off, rfl, Nat.lt_of_lt_of_le hlt hb.size, fun i hi => (World.cell?_of_block (w := w) (hb.block c hlt (by have := hne _ rfl; simpa using this))).trans (hc i hi)⟩

set_option maxHeartbeats 400000 in
theorem int_any (cb : Nat) (a : Option Addr) (len cap : Nat) (xs : List UInt8) (la : Option Addr) (m lc : Nat) (ns : List Int) (w : World) (hc : Cur w cb a len cap xs) (hn : RdN w la ns) (hne : ∀ ad, la = some ad → ad.block ≠ cb) (hm : ns.length = m) (h0 : 0 < m) (hb : m ≤ 1048576) :
    Calls Tryd.prog 62 #[.pointer (some ⟨cb, 0, none⟩), .slice la m lc] w fun e w' => ∃ j : Nat, j < m ∧ e = .returned (.int .i64 (nAt ns j)) ∧ Cur w' cb a len cap xs ∧ w.grownBy w' (some cb) := by
  rcases hn with rfl | ⟨b, off, rfl, hlt, hcl⟩
  · simp at hm; omega
  go_enter Tryd.func62, Tryd.ntmps62
  go_wp2_with fail
  refine (below_any cb a len cap xs m w (by omega) hc).mono ?_
  rintro e w1 ⟨x, hx0, hx1, rfl, hc1, hg1⟩
  obtain ⟨hx2, hx3⟩ := hx0 (by omega)
  obtain ⟨j, rfl⟩ := Int.eq_ofNat_of_zero_le hx2
  have hj : j < m := by omega
  have hcx : w1.cell? ⟨b, off + j, none⟩ = some (.int .i64 (nAt ns j)) := (World.cell?_of_block (w := w) (hg1.block b hlt (by have := hne _ rfl; simpa using this))).trans (hcl j (by omega))
  clear hx0 hx1 hcl
  go_wp2
  go_ret
  exact ⟨j, hj, rfl, hc1, hg1⟩

theorem i64_and30 (n : Int) : bits .and .i64 n 1073741823 = n % 1073741824 := by
  have h127 : (BitVec.ofInt 64 1073741823).toNat = 2 ^ 30 - 1 := by decide
  have key : (BitVec.ofInt 64 n &&& BitVec.ofInt 64 1073741823).toNat = (n % ((2 ^ 64 : Nat) : Int)).toNat % 2 ^ 30 := by
    rw [BitVec.toNat_and, BitVec.toNat_ofInt, h127, Nat.and_two_pow_sub_one_eq_mod]
  show IntKind.i64.wrap ((BitVec.ofInt 64 n &&& BitVec.ofInt 64 1073741823).toNat : Nat) = n % 1073741824
  rw [key, IntKind.wrap_i64]
  omega

theorem cur_new (w : World) (a : Option Addr) (len cap : Nat) (xs : List UInt8) (h : Int) (hl : xs.length = len) (hm : len ≤ 1048576) (hr : Rd w a xs) :
    Cur (w.alloc (.cells #[.slice a len cap, .int .i64 0, .int .i64 h] 100)) w.heap.size a len cap xs := by
  have hr' := hr.alloc (.cells #[.slice a len cap, .int .i64 0, .int .i64 h] 100)
  have hne : xs = [] ∨ ∀ ad, a = some ad → ad.block ≠ w.heap.size := by
    rcases hr with h0 | ⟨b, off, rfl, hb, _⟩
    · exact .inl h0
    · exact .inr fun ad e => by cases e; exact Nat.ne_of_lt hb
  clear hr
  refine ⟨?_, ⟨0, Nat.zero_le _, ?_⟩, ⟨h, ?_⟩, ?_, ?_, hr', hl, by omega, hne⟩ <;> clear hr' hne <;> go_simp

set_option maxRecDepth 100000 in
set_option maxHeartbeats 400000 in
theorem new_any (a : Option Addr) (len cap : Nat) (xs : List UInt8) (w : World) (hl : xs.length = len) (hm : len ≤ 1048576) (hr : Rd w a xs) :
    Calls Tryd.prog 41 #[.slice a len cap] w fun e w' => e = .returned (.pointer (some ⟨w.heap.size, 0, none⟩)) ∧ Cur w' w.heap.size a len cap xs ∧ Below w.heap.size w w' := by
  go_enter Tryd.func41, Tryd.ntmps41
  go_wp2
  go_loop [3, 4] (fun n i => ∃ (k : Nat) (h : Int), k ≤ len ∧ 0 ≤ h ∧ h ≤ 1073741823 ∧ i = .int .i64 k ∧ n = .int .i64 h) (fun _ i => len - (intOf i).toNat)
  case atStart => exact ⟨0, _, Nat.zero_le _, by omega, by omega, rfl, rfl⟩
  case round =>
    obtain ⟨k, h, hk, hh0, hh1, rfl, rfl⟩ := hrel
    by_cases hlt : k < len
    · by_cases h4 : k < 4000
      · have hr0 := hr
        rcases hr with rfl | ⟨b, off, rfl, hb, hc⟩
        · simp at hl; omega
        have hcx := hc k (by omega)
        have hbd := bAt_bd xs k
        clear hc hr0
        go_wp2
        go_round
        case rel => exact ⟨k + 1, _, by omega, by rw [i64_and30]; omega, by rw [i64_and30]; omega, by go_num, rfl⟩
        case measure => simp [intOf]; omega
      · go_wp2
        go_ret
        exact ⟨rfl, cur_new w a len cap xs h hl hm hr, (Below.refl _ _).alloc (Nat.le_refl _) _⟩
    · go_wp2
      go_ret
      exact ⟨rfl, cur_new w a len cap xs h hl hm hr, (Below.refl _ _).alloc (Nat.le_refl _) _⟩

theorem RdN_lit (w : World) (ns : List Int) : RdN (w.alloc (.cells (ns.map (Value.int .i64)).toArray 3)) (some ⟨w.heap.size, 0, none⟩) ns := by
  refine .inr ⟨w.heap.size, 0, rfl, by simp, fun i hi => ?_⟩
  rw [World.cell?_alloc_at _ _ _ _ rfl]
  simp [nAt, hi]

theorem below_of_new {w w1 w2 : World} (h : Below w.heap.size w w1) (g : w1.grownBy w2 (some w.heap.size)) : Below w.heap.size w w2 := h.grown g h.size (fun k e => by cases e; exact Nat.le_refl _)

theorem big_any (a : Option Addr) (len cap : Nat) (w : World) (hm : len ≤ 9223372036854775807) : Calls Tryd.prog 10 #[.slice a len cap] w fun e w' => e = .returned (.bool (decide ((1048576 : Int) < (len : Int)))) ∧ w' = w := by
  go_enter Tryd.func10, Tryd.ntmps10
  go_wp2
  go_ret
  exact ⟨rfl, rfl⟩
end Go.Proofs.YtkolflcjkofleaaDoor

namespace Go.Proofs.YtkolflcjkofleaaDoor
open Go.ChangeShapes Go.WideShapes Go.ChangeAt Go.RowKit
set_option linter.unusedVariables false
set_option maxRecDepth 8000

/-- A world that keeps what w0 has below B. -/
structure Sub (B : Nat) (w0 : World) where
  w : World
  h : Below B w0 w
theorem Sub.ne (B : Nat) (w0 : World) : Nonempty (Sub B w0) := ⟨⟨w0, Below.refl _ _⟩⟩
section
variable {B : Nat} {w0 : World} {P : Program}
theorem Sub.call {f : FuncId} {args : Array Value} {x : Sub B w0} {v : Value} (hB : B ≤ w0.heap.size) (h : Calls P f args x.w fun e w' => e = .returned v ∧ Below x.w.heap.size x.w w') : Calls P f args x.w fun e w' => e = .returned v ∧ ∃ y : Sub B w0, w' = y.w :=
  h.mono fun e w' ⟨he, hb⟩ => ⟨he, ⟨w', x.h.trans (hb.mono (Nat.le_trans hB x.h.size))⟩, rfl⟩
theorem Sub.same {f : FuncId} {args : Array Value} {x : Sub B w0} {v : Value} (h : Calls P f args x.w fun e w' => e = .returned v ∧ w' = x.w) : Calls P f args x.w fun e w' => e = .returned v ∧ ∃ y : Sub B w0, w' = y.w :=
  h.mono fun e w' ⟨he, hb⟩ => ⟨he, x, hb⟩
theorem wp_region_sub {id : Nat} {Q : Exit → Act → World → Prop} {a : Act} (x : Sub B w0) {l : List Oper} (hm : P.follows .mixedOrders = true) (hB : Region.lexB .any l.toArray = true)
    (h : wpQuiet P l.toArray (fun w' => ∃ y : Sub B w0, w' = y.w) (fun a' => ∀ y : Sub B w0, Q .normal a' y.w) l a) : (Code.region id l.toArray true).wp P Q a x.w :=
  wp_region_quiet (C := fun w' => ∃ y : Sub B w0, w' = y.w) hm hB ⟨⟨_, x.h.drew⟩, rfl⟩ (by
    have e : (fun a' => ∀ w', (∃ y : Sub B w0, w' = y.w) → Q .normal a' w') = (fun a' => ∀ y : Sub B w0, Q .normal a' y.w) := by
      funext a'
      apply propext
      constructor
      · intro h y; exact h _ ⟨y, rfl⟩
      · rintro h _ ⟨y, rfl⟩; exact h y
    rw [e]
    simpa using h)
end
end Go.Proofs.YtkolflcjkofleaaDoor

namespace Go.Proofs.YtkolflcjkofleaaDoor
open Go.ChangeShapes Go.WideShapes Go.ChangeAt Go.RowKit
set_option linter.unusedVariables false
set_option maxRecDepth 8000

def T0 : Tk := ⟨0, 0, E0⟩
def tAt (ts : List Tk) (i : Nat) : Tk := ts.getD i T0
/-- A slice of tokens with address a reads as ts. -/
def RdT (w : World) (a : Option Addr) (ts : List Tk) : Prop :=
  ts = [] ∨ ∃ b off, a = some ⟨b, off, none⟩ ∧ b < w.heap.size ∧ ∀ i, i < ts.length → w.cell? ⟨b, off + i * 3, none⟩ = some (.int .i64 (tAt ts i).k) ∧ w.cell? ⟨b, off + i * 3 + 1, none⟩ = some (.int .i64 (tAt ts i).n) ∧ w.cell? ⟨b, off + i * 3 + 2, none⟩ = some (.string (tAt ts i).s)
theorem RdT.later {w w' : World} {a : Option Addr} {ts : List Tk} (h : RdT w a ts) (hb : Below w.heap.size w w') : RdT w' a ts := by
  rcases h with h | ⟨b, off, ha, hlt, hc⟩
  · exact .inl h
  · exact .inr ⟨b, off, ha, Nat.lt_of_lt_of_le hlt hb.size, fun i hi => ⟨(hb.cell (p := ⟨b, _, none⟩) hlt).trans (hc i hi).1, (hb.cell (p := ⟨b, _, none⟩) hlt).trans (hc i hi).2.1, (hb.cell (p := ⟨b, _, none⟩) hlt).trans (hc i hi).2.2⟩⟩
/-- The bytes of all texts. -/
def szL : List Tk → Nat
  | [] => 0
  | t :: r => t.s.size + szL r
theorem szL_take (ts : List Tk) (k : Nat) (h : k < ts.length) : szL (ts.take (k + 1)) = szL (ts.take k) + (tAt ts k).s.size := by
  induction ts generalizing k with
  | nil => simp at h
  | cons t r ih =>
    cases k with
    | zero => simp [szL, tAt]
    | succ k =>
      have := ih k (by simpa using h)
      simp only [List.take_succ_cons, szL, this]
      show _ = t.s.size + _ + (tAt r k).s.size
      omega
/-- What the laws' count of a list leaves of so much. -/
def leftT (ts : List Tk) (k : Nat) (left : Int) : Int := left - ts.length - szL (ts.take k)
def cellsT : List Tk → List Value
  | [] => []
  | t :: r => .int .i64 t.k :: .int .i64 t.n :: .string t.s :: cellsT r
theorem cellsT_len (ts : List Tk) : (cellsT ts).length = ts.length * 3 := by
  induction ts with
  | nil => rfl
  | cons t r ih => simp only [cellsT, List.length_cons, ih]; omega
theorem cellsT_app (a b : List Tk) : cellsT (a ++ b) = cellsT a ++ cellsT b := by
  induction a with
  | nil => rfl
  | cons t r ih => simp only [List.cons_append, cellsT, ih]
theorem cellsT_get (ts : List Tk) (i : Nat) (h : i < ts.length) : (cellsT ts)[i * 3]? = some (.int .i64 (tAt ts i).k) ∧ (cellsT ts)[i * 3 + 1]? = some (.int .i64 (tAt ts i).n) ∧ (cellsT ts)[i * 3 + 2]? = some (.string (tAt ts i).s) := by
  induction ts generalizing i with
  | nil => simp at h
  | cons t r ih =>
    cases i with
    | zero => exact ⟨rfl, rfl, rfl⟩
    | succ i =>
      have := ih i (by simpa using h)
      have e : (i + 1) * 3 = i * 3 + 3 := by omega
      rw [e]
      exact this
theorem cellsT_one (ts : List Tk) : ∀ u ∈ cellsT ts, u.oneCell' = true := by
  induction ts with
  | nil => intro u hu; cases hu
  | cons t r ih =>
    intro u hu
    simp only [cellsT, List.mem_cons] at hu
    rcases hu with rfl | rfl | rfl | hu
    · rfl
    · rfl
    · rfl
    · exact ih u hu
theorem cellsT_set (ts : List Tk) (i : Nat) (h : i < ts.length) (t : Tk) : (((cellsT ts).set (i * 3) (.int .i64 t.k)).set (i * 3 + 1) (.int .i64 t.n)).set (i * 3 + 2) (.string t.s) = cellsT (ts.set i t) := by
  induction ts generalizing i with
  | nil => simp at h
  | cons t' r ih =>
    cases i with
    | zero => rfl
    | succ i =>
      have := ih i (by simpa using h)
      have e : (i + 1) * 3 = i * 3 + 3 := by omega
      rw [e, List.set_cons_succ]
      show Value.int .i64 t'.k :: .int .i64 t'.n :: .string t'.s :: (((cellsT r).set (i * 3) (.int .i64 t.k)).set (i * 3 + 1) (.int .i64 t.n)).set (i * 3 + 2) (.string t.s) = _
      rw [this]
      rfl
section
variable {w w' : World} {B : Nat} {v : Value} {ts : List Tk}
end
end Go.Proofs.YtkolflcjkofleaaDoor

namespace Go.Proofs.YtkolflcjkofleaaDoor
open Go.ChangeShapes Go.WideShapes Go.ChangeAt Go.RowKit
set_option linter.unusedVariables false
set_option maxRecDepth 8000

/-- The text of a token. -/
def tokL (t : Tk) : List UInt8 := if t.k = 2 then octD (t.n % 65536).toNat else t.s.data.toList
theorem octD_six (n : Int) : (octD (n % 65536).toNat).length ≤ 6 := octD_len _ 5 (by have := Int.emod_lt_of_pos n (show (0 : Int) < 65536 by omega); omega)
theorem tokL_len (t : Tk) : (tokL t).length ≤ t.s.size + 6 := by
  unfold tokL
  split
  · have := octD_six t.n; omega
  · rw [size_len]; omega
/-- The line of so many tokens. -/
def lineT (ts : List Tk) : Nat → List UInt8
  | 0 => []
  | k + 1 => lineT ts k ++ (if k = 0 then [] else [32]) ++ tokL (tAt ts k)
theorem lineT_len (ts : List Tk) : ∀ k, k ≤ ts.length → (lineT ts k).length ≤ szL (ts.take k) + 7 * k
  | 0, _ => by simp [lineT]
  | k + 1, h => by
    have h1 := lineT_len ts k (by omega)
    have h2 := tokL_len (tAt ts k)
    have h3 := szL_take ts k (by omega)
    have h4 : (if k = 0 then ([] : List UInt8) else [32]).length ≤ 1 := by split <;> simp
    simp only [lineT, List.length_append]
    omega
theorem szL_le (ts : List Tk) (k : Nat) : szL (ts.take k) ≤ szL ts := by
  induction ts generalizing k with
  | nil => simp
  | cons t r ih =>
    cases k with
    | zero => simp [szL]
    | succ k => simp only [List.take_succ_cons, szL]; have := ih k; omega
theorem szL_at (ts : List Tk) (k : Nat) (h : k < ts.length) : (tAt ts k).s.size ≤ szL ts := by
  have h1 := szL_take ts k h
  have h2 := szL_le ts (k + 1)
  omega
/-- What LineOf answers. -/
def lineOf (ts : List Tk) : List UInt8 := lineT ts ts.length
end Go.Proofs.YtkolflcjkofleaaDoor

namespace Go.Proofs.YtkolflcjkofleaaDoor
open Go.ChangeShapes Go.WideShapes Go.ChangeAt Go.RowKit
set_option linter.unusedVariables false
theorem info5 : (Tryd.prog.info? 5).map (fun i => (i.zero, i.size, i.bytes)) = some (some (.int .u8 0), 1, 1) := by kernel_rfl

/-- A text copied into a new row of as many noughts: the row then holds its bytes. -/
theorem copy_text (w : World) (s : ByteArray) : ∃ C : Array Value, C.toList = Lib.byteCells s.data.toList ∧
    (Builtin.copy_ #[22, 9] 3 #[.slice (some ⟨w.heap.size, 0, none⟩) s.size s.size, .string s]).run Tryd.prog (w.alloc (.cells (madeCells #[.int .u8 0] s.size) 5)) = .ok (goInt s.size) ((w.alloc (.cells (madeCells #[.int .u8 0] s.size) 5)).setRow w.heap.size C) := by
  obtain ⟨i0, hi, _, h1, _⟩ := info_parts info5
  have hn : (madeCells #[Value.int .u8 0] s.size).toList.length = s.size := by rw [toList_madeCells_one, List.length_replicate]
  have h := Lib.run_copy_row_string (P := Tryd.prog) (w.alloc (.cells (madeCells #[.int .u8 0] s.size) 5)) 22 9 3 5 w.heap.size 0 s.size s.size s _ 5 Tryd.underlying22 (by rw [hi]; simp [h1]) (heap_alloc_new w _) (Nat.le_refl _) (by rw [← Array.length_toList, hn]; omega)
  refine ⟨_, ?_, h⟩
  rw [List.toList_toArray, List.take_zero, List.nil_append, List.drop_eq_nil_of_le (by rw [hn]; omega), List.append_nil]

/-- The text of a row that holds its bytes. -/
theorem text_of_row (W : World) (g : Nat) (C : Array Value) (s : ByteArray) (hC : C.toList = Lib.byteCells s.data.toList) (hg : W.heap[g]? = some (.cells C 5 (0, 0))) (h0 : s.size ≠ 0) (hlim : s.size ≤ 281474976710656) :
    (Builtin.unsafeString_ #[145, 3] 9 #[.pointer (some ⟨g, 0, none⟩), .int .i64 (s.size : Int)]).run Tryd.prog W = .ok (.string s) (W.freeze ⟨g, 0, none⟩ s.size) := by
  have hl : s.data.toList.length = s.size := Array.length_toList
  have hCl : C.size = s.size := by rw [← Array.length_toList, hC, Lib.byteCells_length, hl]
  have h := Lib.run_unsafeString_row (P := Tryd.prog) W 145 3 9 5 Tryd.underlying145 (by kernel_rfl) g C.size (by unfold World.shape?; rw [hg]) s.data.toList (fun e => h0 (by rw [← hl, e]; rfl)) (by omega) (by omega) (fun j x hx => by
    have hc := Lib.cells_of_row hg C.size j (.int .u8 x.toNat)
    rw [List.take_of_length_le (Nat.le_of_eq Array.length_toList), hC] at hc
    exact hc (by simp only [Lib.byteCells, List.getElem?_map, hx, Option.map_some]))
  rw [hl] at h
  exact h

theorem below_of_row (w : World) (s : ByteArray) (C : Array Value) : Below w.heap.size w ((w.alloc (.cells (madeCells #[.int .u8 0] s.size) 5)).setRow w.heap.size C) :=
  ((Below.refl _ w).alloc (Nat.le_refl _) _).trans ⟨rfl, rfl, rfl, by simp [World.setRow], fun k hk => setRow_other _ _ _ _ (by omega)⟩

set_option maxHeartbeats 1000000 in
set_option maxRecDepth 100000 in
theorem clone_any (s : ByteArray) (w : World) (hlim : s.size ≤ 281474976710656) :
    Calls Tryd.prog 87 #[.string s] w fun e w' => e = .returned (.string s) ∧ Below w.heap.size w w' := by
  by_cases h0 : s.size = 0
  · obtain rfl : s = ⟨#[]⟩ := by apply ByteArray.ext; exact Array.eq_empty_of_size_eq_zero h0
    go_enter Tryd.func87, Tryd.ntmps87
    go_wp2
    go_ret
    exact ⟨rfl, Below.refl _ _⟩
  · have hz : ((s.size : Int) == 0) = false := beq_eq_false_iff_ne.2 (by omega)
    have hp : (0 : Int) < (s.size : Int) := by omega
    have hmk := run_make_row' (P := Tryd.prog) 22 5 (.int .u8 0) 1 Tryd.underlying22 info5 rfl .i64 .i64 s.size (by omega) (by omega)
    obtain ⟨C, hC, hcp⟩ := copy_text w s
    have hrow := setRow_heap (w.alloc (.cells (madeCells #[.int .u8 0] s.size) 5)) w.heap.size _ C 5 (0, 0) (heap_alloc_new w _)
    have hus := text_of_row _ w.heap.size C s hC hrow h0 hlim
    have hB := hide (below_of_row w s C)
    clear hC hrow
    go_enter Tryd.func87, Tryd.ntmps87
    go_wp2
    go_ret
    exact ⟨rfl, Lib.below_freeze (unhide hB) (p := ⟨w.heap.size, 0, none⟩) (Nat.le_refl _) _⟩

end Go.Proofs.YtkolflcjkofleaaDoor

namespace Go.Proofs.YtkolflcjkofleaaDoor
open Go.ChangeShapes Go.WideShapes Go.ChangeAt Go.RowKit
set_option linter.unusedVariables false

/-- What digits are worth, each byte less 48, to the base 8. -/
def ov (l : List UInt8) : Int := l.foldl (fun a c => a * 8 + ((c.toNat : Int) - 48)) 0
theorem ov_snoc (l : List UInt8) (c : UInt8) : ov (l ++ [c]) = ov l * 8 + ((c.toNat : Int) - 48) := by unfold ov; rw [List.foldl_append]; rfl
theorem ov_take (l : List UInt8) (k : Nat) (h : k < l.length) : ov (l.take (k + 1)) = ov (l.take k) * 8 + (bAt l k - 48) := by
  rw [List.take_succ_eq_append_getElem h, ov_snoc]
  unfold bAt
  rw [List.getD_eq_getElem?_getD, List.getElem?_eq_getElem h]
  rfl
/-- Some byte is no digit, or what is read is too great. -/
def Bad (l : List UInt8) : Prop := ∃ k, k < l.length ∧ (bAt l k < 48 ∨ 55 < bAt l k ∨ 65535 < ov (l.take (k + 1)))

def lowV (c : Int) : Int := bits .or .u8 c 32
theorem lowV_bd (c : Int) : 0 ≤ lowV c ∧ lowV c ≤ 255 := ⟨bits_lo_u8 .or c 32, bits_hi_u8 .or c 32⟩
end Go.Proofs.YtkolflcjkofleaaDoor

namespace Go.Proofs.YtkolflcjkofleaaDoor
open Go.ChangeShapes Go.WideShapes Go.ChangeAt Go.RowKit
set_option linter.unusedVariables false

theorem octD_dig (m : Nat) : ∀ c ∈ octD m, 48 ≤ c.toNat ∧ c.toNat ≤ 55 := by
  induction m using Nat.strongRecOn with
  | ind m ih =>
    intro c hc
    by_cases h : m < 8
    · rw [octD_small m h] at hc
      simp only [List.mem_singleton] at hc
      subst hc
      have := dg_val m h
      omega
    · rw [octD_big m h, List.mem_append] at hc
      rcases hc with hc | hc
      · exact ih (m / 8) (by omega) c hc
      · simp only [List.mem_singleton] at hc
        subst hc
        have := dg_val (m % 8) (by omega)
        omega
theorem octD_ov (m : Nat) : ov (octD m) = m := by
  induction m using Nat.strongRecOn with
  | ind m ih =>
    by_cases h : m < 8
    · rw [octD_small m h]
      have := dg_val m h
      show 0 * 8 + (((dg m).toNat : Int) - 48) = m
      omega
    · rw [octD_big m h, ov_snoc, ih (m / 8) (by omega), dg_val (m % 8) (by omega)]
      omega
theorem octD_ne (m : Nat) : octD m ≠ [] := by
  rw [octD_split]
  simp
theorem ov_take_bd (l : List UInt8) (h : ∀ c ∈ l, 48 ≤ c.toNat) (k : Nat) : 0 ≤ ov (l.take k) ∧ ∀ j, k ≤ j → ov (l.take k) ≤ ov (l.take j) := by
  have step : ∀ k, 0 ≤ ov (l.take k) → ov (l.take k) ≤ ov (l.take (k + 1)) ∧ 0 ≤ ov (l.take (k + 1)) := by
    intro k h0
    by_cases hk : k < l.length
    · rw [ov_take l k hk]
      have : (48 : Int) ≤ bAt l k := by
        unfold bAt
        rw [List.getD_eq_getElem?_getD, List.getElem?_eq_getElem hk]
        have := h l[k] (List.getElem_mem _)
        simp
        omega
      omega
    · rw [List.take_of_length_le (by omega), List.take_of_length_le (by omega)] at *
      exact ⟨Int.le_refl _, h0⟩
  have nn : ∀ k, 0 ≤ ov (l.take k) := by
    intro k
    induction k with
    | zero => exact Int.le_refl _
    | succ k ih => exact (step k ih).2
  refine ⟨nn k, fun j hj => ?_⟩
  induction j with
  | zero => obtain rfl : k = 0 := by omega
            exact Int.le_refl _
  | succ j ih =>
    by_cases e : k = j + 1
    · subst e; exact Int.le_refl _
    · exact Int.le_trans (ih (by omega)) (step j (nn j)).1
theorem octD_good (m : Nat) (hm : m < 65536) : ¬ Bad (octD m) := by
  rintro ⟨k, hk, h⟩
  have hd := octD_dig m (octD m)[k] (List.getElem_mem _)
  have e : bAt (octD m) k = ((octD m)[k].toNat : Int) := by unfold bAt; rw [List.getD_eq_getElem?_getD, List.getElem?_eq_getElem hk]; rfl
  have h2 := (ov_take_bd (octD m) (fun c hc => (octD_dig m c hc).1) (k + 1)).2 (octD m).length (by omega)
  rw [List.take_of_length_le (Nat.le_refl _), octD_ov] at h2
  rw [e] at h
  omega


/-- What strconv.ParseUint(s, 8, 16) ends with: the number and nil; or an error. -/
def PuEnd (l : List UInt8) (e : Ending) : Prop :=
  (0 ≤ ov l ∧ ov l ≤ 65535 ∧ e = .returned (.tuple #[.int .u64 (ov l), .nilIface])) ∨ ((l = [] ∨ Bad l) ∧ ∃ y t v, e = .returned (.tuple #[.int .u64 y, .iface t v]))

theorem in_yes (x a b : Int) (w : World) (h1 : a ≤ x) (h2 : x ≤ b) : Calls Tryd.prog 97 #[.int .i64 x, .int .i64 a, .int .i64 b] w fun e w' => e = .returned (.bool true) ∧ w' = w := by
  go_enter Tryd.func97, Tryd.ntmps97
  go_wp2
  go_ret
  exact ⟨rfl, rfl⟩
theorem in_no (x a b : Int) (w : World) (h : x < a ∨ b < x) : Calls Tryd.prog 97 #[.int .i64 x, .int .i64 a, .int .i64 b] w fun e w' => e = .returned (.bool false) ∧ w' = w := by
  by_cases h1 : x < a
  · clear h
    go_enter Tryd.func97, Tryd.ntmps97
    go_wp2
    go_ret
    exact ⟨rfl, rfl⟩
  · have h2 : b < x := by omega
    have h3 : a ≤ x := by omega
    have h4 : decide (x ≤ b) = false := by simp; omega
    clear h h1
    go_enter Tryd.func97, Tryd.ntmps97
    go_wp2
    go_ret
    exact ⟨rfl, rfl⟩

def Digs (l : List UInt8) (k : Nat) : Prop := ∀ j, j < k → 48 ≤ bAt l j ∧ bAt l j ≤ 55
theorem ov_lt (l : List UInt8) (k : Nat) (hk : k ≤ l.length) (h : Digs l k) : 0 ≤ ov (l.take k) ∧ ov (l.take k) + 1 ≤ ((8 ^ k : Nat) : Int) := by
  induction k with
  | zero => exact ⟨Int.le_refl _, Int.le_refl _⟩
  | succ k ih =>
    have ih := ih (by omega) (fun j hj => h j (by omega))
    have hd := h k (by omega)
    rw [ov_take l k (by omega), Nat.pow_succ]
    omega
theorem ov_six (l : List UInt8) (k : Nat) (hk : k ≤ l.length) (h6 : k ≤ 6) (h : Digs l k) : 0 ≤ ov (l.take k) ∧ ov (l.take k) ≤ 262143 := by
  have h1 := ov_lt l k hk h
  have h2 : 8 ^ k ≤ 8 ^ 6 := Nat.pow_le_pow_right (by omega) h6
  have h3 : (8 : Nat) ^ 6 = 262144 := by decide
  omega

theorem no_dig (s : ByteArray) (k : Nat) (hk : k < s.size) (h : ¬ (48 ≤ bAt s.data.toList k ∧ bAt s.data.toList k ≤ 55)) : ∀ m, m < 65536 → s ≠ strOf (octD m) := by
  intro m _ e
  rw [e, strOf_list] at h
  have hk' : k < (octD m).length := by rw [e, strOf_size] at hk; exact hk
  have hd := octD_dig m (octD m)[k] (List.getElem_mem _)
  apply h
  unfold bAt
  rw [List.getD_eq_getElem?_getD, List.getElem?_eq_getElem hk']
  simp
  omega
theorem no_ov (s : ByteArray) (h : ov s.data.toList < 0 ∨ 65535 < ov s.data.toList ∨ s ≠ strOf (octD (ov s.data.toList).toNat)) : ∀ m, m < 65536 → s ≠ strOf (octD m) := by
  intro m hm e
  have h2 : ov s.data.toList = m := by rw [e, strOf_list, octD_ov]
  rw [h2, Int.toNat_natCast] at h
  rcases h with h | h | h
  · omega
  · omega
  · exact h e

end Go.Proofs.YtkolflcjkofleaaDoor

namespace Go.Proofs.YtkolflcjkofleaaDoor
open Go.ChangeShapes Go.WideShapes Go.ChangeAt Go.RowKit
set_option linter.unusedVariables false
set_option maxRecDepth 8000

/-- The place behind the bytes that go on from a place. -/
def runN (p : Int → Bool) (l : List UInt8) (at_ : Nat) : Nat := at_ + ((l.drop at_).takeWhile (fun c => p (c.toNat : Int))).length
theorem drop_bAt {l : List UInt8} {k : Nat} (h : k < l.length) : l.drop k = (l.getD k 0) :: l.drop (k + 1) := by
  rw [List.drop_eq_getElem_cons h, List.getD_eq_getElem?_getD, List.getElem?_eq_getElem h]
  rfl
theorem runN_yes {p : Int → Bool} {l : List UInt8} {k : Nat} (h : k < l.length) (hp : p (bAt l k) = true) : runN p l k = runN p l (k + 1) := by
  unfold runN
  rw [drop_bAt h, List.takeWhile_cons]
  unfold bAt at hp
  rw [hp]
  simp only [if_true, List.length_cons]
  omega
theorem runN_no {p : Int → Bool} {l : List UInt8} {k : Nat} (h : k < l.length) (hp : p (bAt l k) = false) : runN p l k = k := by
  unfold runN
  rw [drop_bAt h, List.takeWhile_cons]
  unfold bAt at hp
  rw [hp]
  rfl
theorem runN_end {p : Int → Bool} {l : List UInt8} {k : Nat} (h : l.length ≤ k) : runN p l k = k := by
  unfold runN
  rw [List.drop_eq_nil_of_le h]
  rfl
theorem runN_le {p : Int → Bool} {l : List UInt8} {k : Nat} (h : k ≤ l.length) : k ≤ runN p l k ∧ runN p l k ≤ l.length := by
  unfold runN
  have h1 := (List.takeWhile_prefix (l := l.drop k) (fun c => p (c.toNat : Int))).length_le
  rw [List.length_drop] at h1
  omega
/-- A number's digits, read, or none. -/
def numV (x : ByteArray) : Option Nat := if (decide ((ov x.data.toList).toNat < 65536) && eqS x (strOf (octD (ov x.data.toList).toNat))) = true then some (ov x.data.toList).toNat else none
theorem numV_yes {x : ByteArray} {m : Nat} (hm : m < 65536) (hx : x = strOf (octD m)) : numV x = some m := by
  have e : (ov x.data.toList).toNat = m := by rw [hx, strOf_list, octD_ov]; exact Int.toNat_natCast m
  unfold numV
  rw [e, decide_eq_true hm, (eqS_iff _ _).2 hx]
  rfl
theorem numV_no {x : ByteArray} (h : ∀ m, m < 65536 → x ≠ strOf (octD m)) : numV x = none := by
  unfold numV
  rw [if_neg]
  intro hc
  rw [Bool.and_eq_true, decide_eq_true_eq, eqS_iff] at hc
  exact h _ hc.1 hc.2
theorem numV_bd {x : ByteArray} {m : Nat} (h : numV x = some m) : m < 65536 ∧ x = strOf (octD m) := by
  unfold numV at h
  split at h
  · rename_i hc
    rw [Bool.and_eq_true, decide_eq_true_eq, eqS_iff] at hc
    cases h
    exact hc
  · cases h
def wordT (x : ByteArray) : Tk := if keptB x = true then ⟨5, 0, x⟩ else ⟨1, 0, x⟩
/-- A number's token; n: what stands there if the digits are none. -/
def numT (bad : Tk) (x : ByteArray) : Tk := match numV x with
  | some m => ⟨2, m, ⟨#[]⟩⟩
  | none => bad
def badS : Tk := ⟨2, -1, ⟨#[]⟩⟩
def badI : Tk := ⟨0, 0, ⟨#[]⟩⟩
theorem badS_ok : badS.ok = false := by decide
theorem badI_ok : badI.ok = false := by decide
/-- The place behind the token that begins at a place. -/
def oneE (s : ByteArray) (k : Nat) : Nat :=
  if smB (bAt s.data.toList k) = true then runN ldB s.data.toList k
  else if dgB (bAt s.data.toList k) = true then runN dgB s.data.toList k
  else if (bAt s.data.toList k == 46 && (decide (k + 1 < s.size) && smB (bAt s.data.toList (k + 1)))) = true then runN ldB s.data.toList (k + 1)
  else k + 1
/-- The token that begins at a place. -/
def oneT (bad : Tk) (s : ByteArray) (k : Nat) : Tk :=
  if smB (bAt s.data.toList k) = true then wordT (s.extract k (oneE s k))
  else if dgB (bAt s.data.toList k) = true then numT bad (s.extract k (oneE s k))
  else if (bAt s.data.toList k == 46 && (decide (k + 1 < s.size) && smB (bAt s.data.toList (k + 1)))) = true then ⟨3, 0, s.extract k (oneE s k)⟩
  else ⟨4, 0, s.extract k (oneE s k)⟩
theorem ld_of_sm {c : Int} (h : smB c = true) : ldB c = true := by unfold ldB; rw [h]; rfl
theorem oneE_bd (s : ByteArray) (k : Nat) (h : k < s.size) : k < oneE s k ∧ oneE s k ≤ s.size := by
  have hl := size_len s
  have hk : k < s.data.toList.length := by omega
  unfold oneE
  split
  · rename_i h1
    rw [runN_yes hk (ld_of_sm h1)]
    have := runN_le (p := ldB) (l := s.data.toList) (k := k + 1) (by omega)
    omega
  · split
    · rename_i h1
      rw [runN_yes hk h1]
      have := runN_le (p := dgB) (l := s.data.toList) (k := k + 1) (by omega)
      omega
    · split
      · have := runN_le (p := ldB) (l := s.data.toList) (k := k + 1) (by omega)
        omega
      · omega
theorem oneT_same (a b : Tk) (ha : a.ok = false) (hb : b.ok = false) (s : ByteArray) (k : Nat) : (oneT a s k).ok = (oneT b s k).ok ∧ ((oneT b s k).ok = true → oneT a s k = oneT b s k) := by
  unfold oneT
  split
  · exact ⟨rfl, fun _ => rfl⟩
  · split
    · unfold numT
      cases numV (s.extract k (oneE s k)) with
      | some m => exact ⟨rfl, fun _ => rfl⟩
      | none => exact ⟨ha.trans hb.symm, fun h => by rw [hb] at h; cases h⟩
    · exact ⟨rfl, fun _ => rfl⟩
/-- The same, by so many steps. -/
def lexG (s : ByteArray) : Nat → Nat → List Tk → List Tk × Bool
  | 0, _, acc => (acc, true)
  | n + 1, k, acc =>
    if k < s.size then
      if bAt s.data.toList k = 59 then (acc, true)
      else if blB (bAt s.data.toList k) = true then lexG s n (k + 1) acc
      else if ((!(oneT badS s k).ok) || acc.length == 800) = true then ([], false)
      else lexG s n (oneE s k) (acc ++ [oneT badS s k])
    else (acc, true)
/-- More steps than bytes are left change nothing. -/
theorem lexG_more (s : ByteArray) : ∀ (n m k : Nat) (acc : List Tk), s.size - k ≤ n → s.size - k ≤ m → lexG s n k acc = lexG s m k acc := by
  intro n
  induction n with
  | zero =>
    intro m k acc hn hm
    have hk : ¬ k < s.size := by omega
    cases m with
    | zero => rfl
    | succ m => simp only [lexG, if_neg hk]
  | succ n ih =>
    intro m k acc hn hm
    by_cases hk : k < s.size
    · cases m with
      | zero => omega
      | succ m =>
        have := oneE_bd s k hk
        simp only [lexG]
        rw [ih m (k + 1) acc (by omega) (by omega), ih m (oneE s k) (acc ++ [oneT badS s k]) (by omega) (by omega)]
    · cases m with
      | zero => simp only [lexG, if_neg hk]
      | succ m => simp only [lexG, if_neg hk]
/-- What Lex answers, from a place on, behind so many tokens. -/
def lexR (s : ByteArray) (k : Nat) (acc : List Tk) : List Tk × Bool := lexG s (s.size - k) k acc
theorem lexR_eq (s : ByteArray) (k : Nat) (acc : List Tk) : lexR s k acc = if k < s.size then if bAt s.data.toList k = 59 then (acc, true) else if blB (bAt s.data.toList k) = true then lexR s (k + 1) acc else if ((!(oneT badS s k).ok) || acc.length == 800) = true then ([], false) else lexR s (oneE s k) (acc ++ [oneT badS s k]) else (acc, true) := by
  by_cases hk : k < s.size
  · have hb := oneE_bd s k hk
    unfold lexR
    obtain ⟨n, hn⟩ : ∃ n, s.size - k = n + 1 := ⟨s.size - k - 1, by omega⟩
    rw [hn]
    simp only [lexG]
    rw [lexG_more s n (s.size - (k + 1)) (k + 1) acc (by omega) (by omega), lexG_more s n (s.size - oneE s k) (oneE s k) (acc ++ [oneT badS s k]) (by omega) (by omega)]
  · unfold lexR
    have e : s.size - k = 0 := by omega
    rw [e, if_neg hk]
    rfl
theorem lexR_end {s : ByteArray} {k : Nat} {acc : List Tk} (h : ¬ k < s.size) : lexR s k acc = (acc, true) := by rw [lexR_eq, if_neg h]
theorem lexR_semi {s : ByteArray} {k : Nat} {acc : List Tk} (h : k < s.size) (h1 : bAt s.data.toList k = 59) : lexR s k acc = (acc, true) := by rw [lexR_eq, if_pos h, if_pos h1]
theorem lexR_blank {s : ByteArray} {k : Nat} {acc : List Tk} (h : k < s.size) (h1 : bAt s.data.toList k ≠ 59) (h2 : blB (bAt s.data.toList k) = true) : lexR s k acc = lexR s (k + 1) acc := by rw [lexR_eq, if_pos h, if_neg h1, if_pos h2]
theorem lexR_bad {s : ByteArray} {k : Nat} {acc : List Tk} (h : k < s.size) (h1 : bAt s.data.toList k ≠ 59) (h2 : blB (bAt s.data.toList k) = false) (h3 : (oneT badS s k).ok = false ∨ acc.length = 800) : lexR s k acc = ([], false) := by
  rw [lexR_eq, if_pos h, if_neg h1, if_neg (by rw [h2]; decide), if_pos]
  rcases h3 with h | h
  · rw [h]; rfl
  · rw [h]; simp
theorem lexR_next {s : ByteArray} {k : Nat} {acc : List Tk} (h : k < s.size) (h1 : bAt s.data.toList k ≠ 59) (h2 : blB (bAt s.data.toList k) = false) (h3 : (oneT badS s k).ok = true) (h4 : acc.length ≠ 800) : lexR s k acc = lexR s (oneE s k) (acc ++ [oneT badS s k]) := by
  rw [lexR_eq, if_pos h, if_neg h1, if_neg (by rw [h2]; decide), if_neg]
  rw [h3]
  simp [h4]
end Go.Proofs.YtkolflcjkofleaaDoor

namespace Go.Proofs.YtkolflcjkofleaaDoor
open Go.ChangeShapes Go.WideShapes Go.ChangeAt Go.RowKit
set_option linter.unusedVariables false
set_option maxRecDepth 8000

end Go.Proofs.YtkolflcjkofleaaDoor

namespace Go.Proofs.YtkolflcjkofleaaDoor
open Go.ChangeShapes Go.WideShapes Go.ChangeAt Go.RowKit
set_option linter.unusedVariables false
set_option maxRecDepth 8000

end Go.Proofs.YtkolflcjkofleaaDoor

namespace Go.Proofs.YtkolflcjkofleaaDoor
open Go.ChangeShapes Go.WideShapes Go.ChangeAt Go.RowKit
set_option linter.unusedVariables false
set_option maxRecDepth 8000

theorem results_row2 {P : Program} {fn : Func} {p u : Tmp} {ty : TypeId} (h : fn.results = #[.cell p ty, .tmp u]) (tmps : Array Value) (w : World) (g : Nat) (t : TypeId) (cs : Array Value) (fr : Nat × Nat) (d : TypeDesc)
    (hp : tmps.getD p undef = .pointer (some ⟨g, 0, none⟩)) (hg : w.heap[g]? = some (.cells cs t fr))
    (hu : P.underlying ty = some d) (hd : (match d with | .struct _ | .array _ _ => true | _ => false) = true) (hi : (P.info? ty).map (·.size) = some cs.size) :
    (results fn tmps).run P w = .ok (.tuple #[.agg cs, tmps.getD u undef]) w := by
  have hp' : tmps[p]?.getD undef = .pointer (some ⟨g, 0, none⟩) := by simpa using hp
  simp [results, h, hp', asAddr, run_loadVar_row w g t ty cs fr d hg hu hd hi]
theorem tk_one (k n : Int) (x : ByteArray) : (#[Value.int .i64 k, .int .i64 n, .string x] : Array Value).all (·.oneCell') = true := by simp [Value.oneCell']
def T0c : Array Value := #[.int .i64 0, .int .i64 0, .string ⟨#[]⟩]
theorem wordT_v (x : ByteArray) : (keptB x = true → wordT x = ⟨5, 0, x⟩) ∧ (keptB x = false → wordT x = ⟨1, 0, x⟩) := by
  unfold wordT
  constructor
  · intro h; rw [h]; rfl
  · intro h; rw [h]; rfl
end Go.Proofs.YtkolflcjkofleaaDoor

namespace Go.Proofs.YtkolflcjkofleaaDoor
open Go.ChangeShapes Go.WideShapes Go.ChangeAt Go.RowKit
set_option linter.unusedVariables false
set_option maxRecDepth 8000

theorem below_row {w w' : World} {cs : Array Value} (h : Below w.heap.size w w') : Below w.heap.size w (w'.setRow w.heap.size cs) :=
  h.trans ⟨rfl, rfl, rfl, by simp [World.setRow], fun k hk => setRow_other _ _ _ _ (by omega)⟩
theorem extract_size (s : ByteArray) (a b : Nat) : (s.extract a b).size ≤ s.size := by
  rw [ByteArray.size_extract]
  omega
theorem numT_some {bad : Tk} {x : ByteArray} {m : Nat} (hm : m < 65536) (hx : x = strOf (octD m)) : numT bad x = ⟨2, m, ⟨#[]⟩⟩ := by unfold numT; rw [numV_yes hm hx]
theorem numT_none {bad : Tk} {x : ByteArray} (h : ∀ m, m < 65536 → x ≠ strOf (octD m)) : numT bad x = bad := by unfold numT; rw [numV_no h]
theorem one_sm {s : ByteArray} {k : Nat} (bad : Tk) (h1 : smB (bAt s.data.toList k) = true) : oneE s k = runN ldB s.data.toList k ∧ oneT bad s k = wordT (s.extract k (oneE s k)) := by
  constructor
  · unfold oneE; rw [if_pos h1]
  · unfold oneT; rw [if_pos h1]
theorem one_dg {s : ByteArray} {k : Nat} (bad : Tk) (h1 : smB (bAt s.data.toList k) = false) (h2 : dgB (bAt s.data.toList k) = true) : oneE s k = runN dgB s.data.toList k ∧ oneT bad s k = numT bad (s.extract k (oneE s k)) := by
  have n1 : ¬ smB (bAt s.data.toList k) = true := by rw [h1]; decide
  constructor
  · unfold oneE; rw [if_neg n1, if_pos h2]
  · unfold oneT; rw [if_neg n1, if_pos h2]
theorem one_dot {s : ByteArray} {k : Nat} (bad : Tk) (h1 : smB (bAt s.data.toList k) = false) (h2 : dgB (bAt s.data.toList k) = false) (h3 : bAt s.data.toList k = 46) (h4 : k + 1 < s.size) (h5 : smB (bAt s.data.toList (k + 1)) = true) : oneE s k = runN ldB s.data.toList (k + 1) ∧ oneT bad s k = ⟨3, 0, s.extract k (oneE s k)⟩ := by
  have n1 : ¬ smB (bAt s.data.toList k) = true := by rw [h1]; decide
  have n2 : ¬ dgB (bAt s.data.toList k) = true := by rw [h2]; decide
  have n3 : (bAt s.data.toList k == 46 && (decide (k + 1 < s.size) && smB (bAt s.data.toList (k + 1)))) = true := by rw [h3, h5, decide_eq_true h4]; rfl
  constructor
  · unfold oneE; rw [if_neg n1, if_neg n2, if_pos n3]
  · unfold oneT; rw [if_neg n1, if_neg n2, if_pos n3]
theorem one_mk {s : ByteArray} {k : Nat} (bad : Tk) (h1 : smB (bAt s.data.toList k) = false) (h2 : dgB (bAt s.data.toList k) = false) (h3 : bAt s.data.toList k = 46 → k + 1 < s.size → smB (bAt s.data.toList (k + 1)) = false) : oneE s k = k + 1 ∧ oneT bad s k = ⟨4, 0, s.extract k (k + 1)⟩ := by
  have n1 : ¬ smB (bAt s.data.toList k) = true := by rw [h1]; decide
  have n2 : ¬ dgB (bAt s.data.toList k) = true := by rw [h2]; decide
  have n3 : ¬ (bAt s.data.toList k == 46 && (decide (k + 1 < s.size) && smB (bAt s.data.toList (k + 1)))) = true := by
    intro h
    rw [Bool.and_eq_true, Bool.and_eq_true, beq_iff_eq, decide_eq_true_eq] at h
    rw [h3 h.1 h.2.1] at h
    exact absurd h.2.2 (by decide)
  have e : oneE s k = k + 1 := by unfold oneE; rw [if_neg n1, if_neg n2, if_neg n3]
  refine ⟨e, ?_⟩
  unfold oneT
  rw [if_neg n1, if_neg n2, if_neg n3, e]
end Go.Proofs.YtkolflcjkofleaaDoor

namespace Go.Proofs.YtkolflcjkofleaaDoor
open Go.ChangeShapes Go.WideShapes Go.ChangeAt Go.RowKit
set_option linter.unusedVariables false
set_option maxRecDepth 8000

theorem head_bAt {l : List UInt8} {k : Nat} {c : UInt8} {r : List UInt8} (h : l.drop k = c :: r) : k < l.length ∧ bAt l k = (c.toNat : Int) ∧ l.drop (k + 1) = r := by
  have hk : k < l.length := by
    by_cases hk : k < l.length
    · exact hk
    · rw [List.drop_eq_nil_of_le (by omega)] at h; cases h
  refine ⟨hk, ?_, ?_⟩
  · rw [drop_bAt hk] at h
    have e := (List.cons.inj h).1
    unfold bAt
    rw [e]
  · rw [drop_bAt hk] at h
    exact (List.cons.inj h).2
/-- What follows a token: nothing, or a blank. -/
def Gap (r : List UInt8) : Prop := r = [] ∨ ∃ q, r = 32 :: q
theorem runN_all {p : Int → Bool} {l x r : List UInt8} {k : Nat} (h : l.drop k = x ++ r) (hx : ∀ c ∈ x, p (c.toNat : Int) = true) (hr : Gap r) (h32 : p 32 = false) : runN p l k = k + x.length := by
  unfold runN
  rw [h, List.takeWhile_append_of_pos hx]
  have : r.takeWhile (fun c => p (c.toNat : Int)) = [] := by
    rcases hr with rfl | ⟨q, rfl⟩
    · rfl
    · rw [List.takeWhile_cons]
      have e : p ((32 : UInt8).toNat : Int) = false := h32
      rw [e]
      rfl
  rw [this, List.append_nil]
theorem ext_of {s : ByteArray} {x r : List UInt8} {k : Nat} (h : s.data.toList.drop k = x ++ r) : s.extract k (k + x.length) = strOf x := by
  apply bytes_inj
  rw [ByteArray.data_extract, Array.toList_extract, List.extract_eq_take_drop, h, strOf_list, Nat.add_sub_cancel_left, List.take_left]
/-- A name's form, opened. -/
theorem form_open {l : List UInt8} (h : formB l = true) : ∃ c r, l = c :: r ∧ smB (c.toNat : Int) = true ∧ (∀ x ∈ l, ldB (x.toNat : Int) = true) ∧ l.length ≤ 6 := by
  unfold formB at h
  rw [Bool.and_eq_true, inB_iff, List.all_eq_true] at h
  obtain ⟨h1, h2, h3⟩ := h
  match l, h2 with
  | c :: r, _ =>
    refine ⟨c, r, rfl, ?_, ?_, by omega⟩
    · have := h1 0 (List.mem_range.2 (by simp))
      unfold okAt at this
      rw [show decide (0 < 0) = false from rfl, Bool.false_and, Bool.or_false] at this
      exact this
    · intro x hx
      obtain ⟨i, hi, rfl⟩ := List.getElem_of_mem hx
      have := h1 i (List.mem_range.2 hi)
      unfold okAt bAt at this
      rw [List.getD_eq_getElem?_getD, List.getElem?_eq_getElem hi] at this
      simp only [Option.getD_some] at this
      unfold ldB
      rw [Bool.or_eq_true] at this ⊢
      rcases this with h | h
      · exact .inl h
      · rw [Bool.and_eq_true] at h; exact .inr h.2
theorem kept_form : ∀ x ∈ keptL, formB x.data.toList = true := by decide +kernel
theorem ld_32 : ldB 32 = false := by decide
theorem dg_32 : dgB 32 = false := by decide
theorem sm_bd {c : Int} (h : smB c = true) : 97 ≤ c ∧ c ≤ 122 := (inB_iff _ _ _).1 h
theorem dg_bd {c : Int} (h : dgB c = true) : 48 ≤ c ∧ c ≤ 57 := (inB_iff _ _ _).1 h
theorem bl_no {c : Int} (h : c ≠ 32) (h2 : c ≠ 9) : blB c = false := by unfold blB; rw [beq_eq_false_iff_ne.2 h, beq_eq_false_iff_ne.2 h2]; rfl
/-- How a token is read again. -/
def Again (s : ByteArray) (k : Nat) (t : Tk) : Prop := k < s.size ∧ bAt s.data.toList k ≠ 59 ∧ blB (bAt s.data.toList k) = false ∧ oneE s k = k + (tokL t).length ∧ oneT badS s k = t
theorem again_word {s : ByteArray} {k : Nat} {x : ByteArray} {r : List UInt8} {t : Tk} (hf : formB x.data.toList = true) (h : s.data.toList.drop k = x.data.toList ++ r) (hr : Gap r) (ht : tokL t = x.data.toList) (hw : wordT x = t) : Again s k t := by
  obtain ⟨c, q, e, hc, hall, _⟩ := form_open hf
  have h0 : s.data.toList.drop k = c :: (q ++ r) := by rw [h, e]; rfl
  obtain ⟨hk, hb, _⟩ := head_bAt h0
  have hs1 : smB (bAt s.data.toList k) = true := by rw [hb]; exact hc
  have hbd := sm_bd hs1
  obtain ⟨e1, e2⟩ := one_sm badS hs1
  have hrun := runN_all (p := ldB) h hall hr ld_32
  refine ⟨by rw [← size_len]; exact hk, by omega, bl_no (by omega) (by omega), ?_, ?_⟩
  · rw [e1, hrun, ht]
  · rw [e2, e1, hrun, ext_of h, strOf_of, hw]
theorem again_any {s : ByteArray} {k : Nat} {t : Tk} {r : List UInt8} (hok : t.ok = true) (h : s.data.toList.drop k = tokL t ++ r) (hr : Gap r) : Again s k t := by
  obtain ⟨tk, tn, tx⟩ := t
  have hok' := hok
  unfold Tk.ok at hok
  simp only at hok
  by_cases h2 : tk = 2
  · subst h2
    rw [if_pos (by decide), Bool.and_eq_true, inB_iff, decide_eq_true_eq] at hok
    obtain ⟨⟨n0, n1⟩, hz⟩ := hok
    obtain rfl := empty_of tx hz
    obtain ⟨m, rfl⟩ := Int.eq_ofNat_of_zero_le n0
    have hm : ((m : Int) % 65536).toNat = m := by omega
    have hT : tokL ⟨2, (m : Int), ⟨#[]⟩⟩ = octD m := by unfold tokL; rw [if_pos rfl]; simp only [hm]
    rw [hT] at h
    have hne := octD_ne m
    have hd := octD_dig m
    have hall : ∀ c ∈ octD m, dgB (c.toNat : Int) = true := fun c hc => inB_t _ _ _ (by have := (hd c hc).1; omega) (by have := (hd c hc).2; omega)
    match hl : octD m, hne with
    | c :: q, _ =>
      have h0 : s.data.toList.drop k = c :: (q ++ r) := by rw [h, hl]; rfl
      obtain ⟨hk, hb, _⟩ := head_bAt h0
      have hc := hd c (by rw [hl]; exact List.mem_cons_self)
      have hs1 : smB (bAt s.data.toList k) = false := by rw [hb]; exact inB_f _ _ _ (by omega)
      have hs2 : dgB (bAt s.data.toList k) = true := by rw [hb]; exact inB_t _ _ _ (by omega) (by omega)
      obtain ⟨e1, e2⟩ := one_dg badS hs1 hs2
      have hrun := runN_all (p := dgB) h hall hr dg_32
      refine ⟨by rw [← size_len]; exact hk, by omega, bl_no (by omega) (by omega), ?_, ?_⟩
      · rw [e1, hrun, hT]
      · rw [e2, e1, hrun, ext_of h, numT_some (by omega) rfl]
  · have h2b : (tk == 2) = false := beq_eq_false_iff_ne.2 h2
    rw [h2b, if_neg (by decide)] at hok
    have hT : tokL ⟨tk, tn, tx⟩ = tx.data.toList := by unfold tokL; rw [if_neg h2]
    rw [hT] at h
    by_cases hn : tn = 0
    · subst hn
      rw [if_neg (by decide)] at hok
      by_cases h1 : tk = 1
      · subst h1
        rw [if_pos (by decide)] at hok
        unfold nameB at hok
        rw [Bool.and_eq_true, Bool.not_eq_true'] at hok
        exact again_word hok.1 h hr hT ((wordT_v tx).2 hok.2)
      · have h1b : (tk == 1) = false := beq_eq_false_iff_ne.2 h1
        rw [h1b, if_neg (by decide)] at hok
        by_cases h3 : tk = 3
        · subst h3
          rw [if_pos (by decide)] at hok
          match hl : tx.data.toList with
          | [] => rw [hl] at hok; cases hok
          | c0 :: q =>
            rw [hl, dotB_cons, Bool.and_eq_true, beq_iff_eq] at hok
            obtain ⟨rfl, hf⟩ := hok
            obtain ⟨c, q2, e, hc, hall, _⟩ := form_open hf
            have h0 : s.data.toList.drop k = 46 :: (q ++ r) := by rw [h, hl]; rfl
            obtain ⟨hk, hb, hd1⟩ := head_bAt h0
            have h1' : s.data.toList.drop (k + 1) = c :: (q2 ++ r) := by rw [hd1, e]; rfl
            obtain ⟨hk1, hb1, _⟩ := head_bAt h1'
            have hb46 : bAt s.data.toList k = 46 := hb
            have s1 : smB (bAt s.data.toList k) = false := by rw [hb46]; decide
            have s2 : dgB (bAt s.data.toList k) = false := by rw [hb46]; decide
            have s3 : smB (bAt s.data.toList (k + 1)) = true := by rw [hb1]; exact hc
            have hl2 := size_len s
            obtain ⟨e1, e2⟩ := one_dot badS s1 s2 hb46 (by omega) s3
            have hrun := runN_all (p := ldB) hd1 hall hr ld_32
            have hend : oneE s k = k + tx.data.toList.length := by rw [e1, hrun, hl, List.length_cons]; omega
            refine ⟨by omega, by omega, bl_no (by omega) (by omega), ?_, ?_⟩
            · rw [hend, hT]
            · rw [e2, hend, ext_of h, strOf_of]
        · have h3b : (tk == 3) = false := beq_eq_false_iff_ne.2 h3
          rw [h3b, if_neg (by decide)] at hok
          by_cases h4 : tk = 4
          · subst h4
            rw [if_pos (by decide)] at hok
            match hl : tx.data.toList, hok with
            | [c], hok =>
              have hm : mkL.contains c = true := hok
              have h0 : s.data.toList.drop k = c :: r := by rw [h, hl]; rfl
              obtain ⟨hk, hb, hd1⟩ := head_bAt h0
              have fin : ∀ i : Fin 256, mkL.contains (UInt8.ofNat i.val) = true → smB (i.val : Int) = false ∧ dgB (i.val : Int) = false ∧ (i.val : Int) ≠ 59 ∧ blB (i.val : Int) = false := by decide +kernel
              have hf := fin ⟨c.toNat, c.toNat_lt⟩ (by show mkL.contains (UInt8.ofNat c.toNat) = true; rw [UInt8.ofNat_toNat]; exact hm)
              simp only at hf
              rw [← hb] at hf
              have hl2 := size_len s
              obtain ⟨e1, e2⟩ := one_mk badS hf.1 hf.2.1 (fun _ hk1 => by
                rcases hr with rfl | ⟨q, rfl⟩
                · have : s.data.toList.length ≤ k + 1 := by
                    have := congrArg List.length hd1
                    rw [List.length_drop] at this
                    simp at this
                    omega
                  omega
                · obtain ⟨_, hb1, _⟩ := head_bAt hd1
                  rw [hb1]; decide)
              refine ⟨by omega, hf.2.2.1, hf.2.2.2, ?_, ?_⟩
              · rw [e1, hT, hl]; rfl
              · have hx := ext_of h
                rw [hl] at hx
                have hx' : s.extract k (k + 1) = strOf [c] := hx
                rw [e2, hx', ← hl, strOf_of]
          · have h4b : (tk == 4) = false := beq_eq_false_iff_ne.2 h4
            rw [h4b, if_neg (by decide)] at hok
            by_cases h5 : tk = 5
            · subst h5
              rw [if_pos (by decide)] at hok
              have hin : tx ∈ keptL := hasS_iff.1 hok
              exact again_word (kept_form tx hin) h hr hT ((wordT_v tx).1 hok)
            · have h5b : (tk == 5) = false := beq_eq_false_iff_ne.2 h5
              rw [h5b, if_neg (by decide)] at hok
              cases hok
    · have hnb : (tn != 0) = true := by simp [hn]
      rw [hnb, if_pos (by decide)] at hok
      cases hok
end Go.Proofs.YtkolflcjkofleaaDoor

namespace Go.Proofs.YtkolflcjkofleaaDoor
open Go.ChangeShapes Go.WideShapes Go.ChangeAt Go.RowKit
set_option linter.unusedVariables false
set_option maxRecDepth 8000

def AllOk (ts : List Tk) : Prop := ∀ t ∈ ts, t.ok = true
theorem AllOk.at {ts : List Tk} (h : AllOk ts) {i : Nat} (hi : i < ts.length) : (tAt ts i).ok = true := by
  unfold tAt
  rw [List.getD_eq_getElem?_getD, List.getElem?_eq_getElem hi]
  exact h _ (List.getElem_mem _)
theorem AllOk.snoc {ts : List Tk} {t : Tk} (h : AllOk ts) (ht : t.ok = true) : AllOk (ts ++ [t]) := fun x hx => by
  rcases List.mem_append.1 hx with h1 | h1
  · exact h x h1
  · rw [List.mem_singleton] at h1; rw [h1]; exact ht
theorem kept_small : ∀ x ∈ keptL, x.size ≤ 7 := by decide +kernel
theorem ok_size {t : Tk} (h : t.ok = true) : t.s.size ≤ 7 := by
  obtain ⟨tk, tn, tx⟩ := t
  unfold Tk.ok at h
  simp only at h ⊢
  have hl := size_len tx
  split at h
  · rw [Bool.and_eq_true, decide_eq_true_eq] at h; omega
  · split at h
    · cases h
    · split at h
      · unfold nameB at h
        rw [Bool.and_eq_true] at h
        obtain ⟨_, _, _, _, _, h6⟩ := form_open h.1
        omega
      · split at h
        · match hx : tx.data.toList with
          | [] => rw [hx] at h; cases h
          | c0 :: q =>
            rw [hx, dotB_cons, Bool.and_eq_true] at h
            obtain ⟨_, _, _, _, _, h6⟩ := form_open h.2
            rw [hx, List.length_cons] at hl
            omega
        · split at h
          · match hx : tx.data.toList, h with
            | [c], _ => rw [hx] at hl; simp at hl; omega
          · split at h
            · exact kept_small tx (hasS_iff.1 h)
            · cases h
theorem ok_szL {ts : List Tk} (h : AllOk ts) : szL ts ≤ 7 * ts.length := by
  induction ts with
  | nil => simp [szL]
  | cons t r ih =>
    have h1 := ok_size (h t List.mem_cons_self)
    have h2 := ih (fun x hx => h x (List.mem_cons_of_mem _ hx))
    simp only [szL, List.length_cons]
    omega
/-- What Lex answers is right. -/
theorem lexR_ok (s : ByteArray) : ∀ (n k : Nat) (acc : List Tk), s.size - k ≤ n → AllOk acc → AllOk (lexR s k acc).1 := by
  intro n
  induction n with
  | zero =>
    intro k acc hn h8
    rw [lexR_end (by omega)]
    exact h8
  | succ n ih =>
    intro k acc hn h8
    by_cases hlt : k < s.size
    · by_cases h59 : bAt s.data.toList k = 59
      · rw [lexR_semi hlt h59]; exact h8
      · cases hbl : blB (bAt s.data.toList k)
        · cases hok : (oneT badS s k).ok
          · rw [lexR_bad hlt h59 hbl (.inl hok)]; intro x hx; cases hx
          · by_cases h800 : acc.length = 800
            · rw [lexR_bad hlt h59 hbl (.inr h800)]; intro x hx; cases hx
            · rw [lexR_next hlt h59 hbl hok h800]
              have := oneE_bd s k hlt
              exact ih _ _ (by omega) (h8.snoc hok)
        · rw [lexR_blank hlt h59 hbl]
          exact ih _ _ (by omega) h8
    · rw [lexR_end hlt]; exact h8
theorem lex_ok (s : ByteArray) : AllOk (lexR s 0 []).1 := lexR_ok s s.size 0 [] (by omega) (fun x hx => by cases hx)
theorem line_pre (ts : List Tk) (i : Nat) : ∀ d, ∃ r, lineT ts (i + d) = lineT ts i ++ r
  | 0 => ⟨[], by simp⟩
  | d + 1 => by
    obtain ⟨r, hr⟩ := line_pre ts i d
    refine ⟨r ++ (if i + d = 0 then [] else [32]) ++ tokL (tAt ts (i + d)), ?_⟩
    show lineT ts (i + d) ++ (if i + d = 0 then [] else [32]) ++ tokL (tAt ts (i + d)) = _
    rw [hr]
    simp [List.append_assoc]
theorem line_drop (ts : List Tk) (n i : Nat) (h : i < n) : (lineT ts n).drop (lineT ts i).length = (if i = 0 then [] else [32]) ++ (tokL (tAt ts i) ++ (lineT ts n).drop (lineT ts (i + 1)).length) := by
  obtain ⟨r, hr⟩ := line_pre ts (i + 1) (n - (i + 1))
  have e : i + 1 + (n - (i + 1)) = n := by omega
  rw [e] at hr
  have h1 : (lineT ts n).drop (lineT ts (i + 1)).length = r := by rw [hr, List.drop_left]
  rw [h1, hr]
  show (lineT ts i ++ (if i = 0 then [] else [32]) ++ tokL (tAt ts i) ++ r).drop (lineT ts i).length = _
  rw [List.append_assoc, List.append_assoc, List.drop_left]
theorem gap_at (ts : List Tk) (n i : Nat) (h : i ≤ n) (h0 : 0 < i) : Gap ((lineT ts n).drop (lineT ts i).length) := by
  by_cases e : i = n
  · subst e
    left
    rw [List.drop_length]
  · right
    rw [line_drop ts n i (by omega), if_neg (by omega)]
    exact ⟨_, rfl⟩
/-- The line of right tokens is read as these tokens. -/
theorem lex_from (ts : List Tk) (hok : AllOk ts) (h8 : ts.length ≤ 800) : ∀ d i, i + d = ts.length → lexR (strOf (lineOf ts)) (lineT ts i).length (ts.take i) = (ts, true) := by
  intro d
  induction d with
  | zero =>
    intro i hi
    obtain rfl : i = ts.length := by omega
    rw [List.take_length, lexR_end (by rw [strOf_size]; unfold lineOf; omega)]
  | succ d ih =>
    intro i hi
    have hlt : i < ts.length := by omega
    have hd := line_drop ts ts.length i hlt
    have hg := gap_at ts ts.length (i + 1) (by omega) (by omega)
    have hst : (strOf (lineOf ts)).data.toList = lineT ts ts.length := strOf_list _
    have step : ∀ k, (strOf (lineOf ts)).data.toList.drop k = tokL (tAt ts i) ++ (lineT ts ts.length).drop (lineT ts (i + 1)).length → k + (tokL (tAt ts i)).length = (lineT ts (i + 1)).length → lexR (strOf (lineOf ts)) k (ts.take i) = (ts, true) := by
      intro k hk hlen
      obtain ⟨a1, a2, a3, a4, a5⟩ := again_any (hok.at hlt) hk hg
      have hlen2 : (ts.take i).length = i := by rw [List.length_take]; omega
      rw [lexR_next a1 a2 a3 (by rw [a5]; exact hok.at hlt) (by omega), a4, a5, hlen]
      have et : ts.take i ++ [tAt ts i] = ts.take (i + 1) := by
        rw [List.take_succ_eq_append_getElem hlt]
        unfold tAt
        rw [List.getD_eq_getElem?_getD, List.getElem?_eq_getElem hlt]
        rfl
      rw [et]
      exact ih (i + 1) (by omega)
    have hsz : (lineT ts (i + 1)).length = (lineT ts i).length + (if i = 0 then ([] : List UInt8) else [32]).length + (tokL (tAt ts i)).length := by
      show (lineT ts i ++ (if i = 0 then [] else [32]) ++ tokL (tAt ts i)).length = _
      rw [List.length_append, List.length_append]
    by_cases h0 : i = 0
    · rw [if_pos h0, List.nil_append] at hd
      rw [if_pos h0] at hsz
      exact step _ (by rw [hst]; exact hd) (by rw [hsz]; simp)
    · rw [if_neg h0] at hd hsz
      have hd' : (lineT ts ts.length).drop (lineT ts i).length = 32 :: (tokL (tAt ts i) ++ (lineT ts ts.length).drop (lineT ts (i + 1)).length) := hd
      obtain ⟨hk, hb, hd1⟩ := head_bAt hd'
      have hb32 : bAt (strOf (lineOf ts)).data.toList (lineT ts i).length = 32 := by rw [hst]; exact hb
      have hls : (lineT ts i).length < (strOf (lineOf ts)).size := by rw [← size_len, hst]; exact hk
      rw [lexR_blank hls (by rw [hb32]; decide) (by rw [hb32]; decide)]
      exact step _ (by rw [hst]; exact hd1) (by rw [hsz]; simp)
theorem lex_line (ts : List Tk) (hok : AllOk ts) (h8 : ts.length ≤ 800) : lexR (strOf (lineOf ts)) 0 [] = (ts, true) := lex_from ts hok h8 ts.length 0 (by omega)
theorem line_small {ts : List Tk} (hok : AllOk ts) (h8 : ts.length ≤ 800) : (strOf (lineOf ts)).size ≤ 1048576 ∧ ts.length + szL ts ≤ 1048576 := by
  have h1 := lineT_len ts ts.length (Nat.le_refl _)
  rw [List.take_length] at h1
  have h2 := ok_szL hok
  rw [strOf_size]
  unfold lineOf
  omega
end Go.Proofs.YtkolflcjkofleaaDoor

namespace Go.Proofs.YtkolflcjkofleaaDoor
open Go.ChangeShapes Go.WideShapes Go.ChangeAt Go.RowKit
set_option linter.unusedVariables false
set_option maxRecDepth 8000

/-- Is a term right, but for its parts? -/
def Ex.here (e : Ex) : Bool :=
  if ((e.k != 1 && (e.k != 11 && e.n != 0)) || (e.k != 2 && (e.k != 12 && !eqS e.s E0))) = true then false
  else if e.k = 1 then inB e.n 0 65535 && e.l.length == 0
  else if e.k = 2 ∨ e.k = 12 then nameB e.s && e.l.length == 0
  else if e.k = 3 then e.l.length == 0
  else if e.k = 4 then e.l.length == 1
  else if 5 ≤ e.k ∧ e.k ≤ 10 then e.l.length == 2
  else if e.k = 11 then inB e.n 0 9 && e.l.length == 0
  else false
/-- Is a term right, so deep at most? -/
def okF : Nat → Bool → Ex → Bool
  | 0, _, _ => false
  | d + 1, p, e => e.here && (!(p && (e.k == 11 || e.k == 12)) && e.l.all (okF d p))
def mkS (c : UInt8) : ByteArray := ⟨#[c]⟩
def mkT (c : UInt8) : Tk := ⟨4, 0, mkS c⟩
def sgnC (k : Int) : UInt8 := if k = 5 then 43 else if k = 6 then 45 else if k = 7 then 42 else if k = 8 then 47 else if k = 9 then 38 else 124
def sgnK (s : ByteArray) : Option Int :=
  if eqS (mkS 43) s = true then some 5 else if eqS (mkS 45) s = true then some 6 else if eqS (mkS 42) s = true then some 7
  else if eqS (mkS 47) s = true then some 8 else if eqS (mkS 38) s = true then some 9 else if eqS (mkS 124) s = true then some 10 else none
/-- The tokens of a plain term. -/
def toksF : Nat → Ex → List Tk
  | 0, _ => []
  | d + 1, e => if e.k = 1 then [⟨2, e.n, E0⟩] else if e.k = 2 then [⟨1, 0, e.s⟩] else if e.k = 3 then [mkT 46]
    else if e.k = 4 then mkT 45 :: toksF d (xAt e.l 0)
    else mkT 60 :: (toksF d (xAt e.l 0) ++ (mkT (sgnC e.k) :: (toksF d (xAt e.l 1) ++ [mkT 62])))
/-- Tokens read: a term and what is left. -/
def readF : Nat → List Tk → Option (Ex × List Tk)
  | 0, _ => none
  | _ + 1, [] => none
  | d + 1, t :: r =>
    if t.k = 2 then some (⟨1, t.n, E0, []⟩, r) else if t.k = 1 then some (⟨2, 0, t.s, []⟩, r)
    else if eqS t.s (mkS 46) = true then some (⟨3, 0, E0, []⟩, r)
    else if eqS t.s (mkS 45) = true then
      match readF d r with
      | none => none
      | some (a, q) => some (⟨4, 0, E0, [a]⟩, q)
    else if eqS t.s (mkS 60) = true then
      match readF d r with
      | none => none
      | some (a, []) => none
      | some (a, t1 :: q1) =>
        match readF d q1 with
        | none => none
        | some (b, []) => none
        | some (b, t2 :: q2) => if eqS t2.s (mkS 62) = true then (match sgnK t1.s with | none => none | some k => some (⟨k, 0, E0, [a, b]⟩, q2)) else none
    else none
theorem sgn_back {k : Int} (h : 5 ≤ k ∧ k ≤ 10) : sgnK (mkS (sgnC k)) = some k := by
  have : k = 5 ∨ k = 6 ∨ k = 7 ∨ k = 8 ∨ k = 9 ∨ k = 10 := by omega
  rcases this with rfl | rfl | rfl | rfl | rfl | rfl <;> decide +kernel
theorem sgnK_some {s : ByteArray} {k : Int} (h : sgnK s = some k) : (5 ≤ k ∧ k ≤ 10) ∧ s = mkS (sgnC k) := by
  unfold sgnK at h
  repeat' (split at h)
  all_goals first
    | (cases h; done)
    | (rename_i he; rw [eqS_iff] at he; cases h; exact ⟨by omega, he.symm⟩)
/-- The forms of a plain term. -/
theorem plain_cases {d : Nat} {e : Ex} (h : okF (d + 1) true e = true) : (∃ n : Int, (0 ≤ n ∧ n ≤ 65535) ∧ e = ⟨1, n, E0, []⟩) ∨ (∃ s, nameB s = true ∧ e = ⟨2, 0, s, []⟩) ∨ e = ⟨3, 0, E0, []⟩ ∨ (∃ a, okF d true a = true ∧ e = ⟨4, 0, E0, [a]⟩) ∨ (∃ k a b, (5 ≤ k ∧ k ≤ 10) ∧ okF d true a = true ∧ okF d true b = true ∧ e = ⟨k, 0, E0, [a, b]⟩) := by
  obtain ⟨k, n, s, l⟩ := e
  simp only [okF, Bool.and_eq_true, Bool.true_and, Bool.not_eq_true', Bool.or_eq_false_iff, beq_eq_false_iff_ne] at h
  obtain ⟨h1, ⟨h11, h12⟩, hall⟩ := h
  unfold Ex.here at h1
  simp only at h1
  split at h1
  · cases h1
  · rename_i hg
    have hg : ((k != 1 && (k != 11 && n != 0)) || (k != 2 && (k != 12 && !eqS s E0))) = false := by simpa using hg
    rw [Bool.or_eq_false_iff] at hg
    have hn : k ≠ 1 → n = 0 := fun hk => by have := hg.1; simpa [hk, h11] using this
    have hs : k ≠ 2 → s = E0 := fun hk => by
      have := hg.2
      have h3 : eqS s E0 = true := by simpa [hk, h12] using this
      exact (eqS_iff _ _).1 h3
    split at h1
    · rename_i e; subst e
      rw [Bool.and_eq_true, beq_iff_eq, List.length_eq_zero_iff] at h1
      obtain ⟨hi, rfl⟩ := h1
      exact .inl ⟨n, (inB_iff _ _ _).1 hi, by rw [hs (by decide)]⟩
    · rename_i k1
      split at h1
      · rename_i e
        obtain rfl : k = 2 := by rcases e with e | e; exact e; exact absurd e h12
        rw [Bool.and_eq_true, beq_iff_eq, List.length_eq_zero_iff] at h1
        obtain ⟨hi, rfl⟩ := h1
        exact .inr (.inl ⟨s, hi, by rw [hn (by decide)]⟩)
      · rename_i k2
        have k2 : k ≠ 2 := fun e => k2 (.inl e)
        obtain rfl := hn k1
        obtain rfl := hs k2
        split at h1
        · rename_i e; subst e
          rw [beq_iff_eq, List.length_eq_zero_iff] at h1
          subst h1
          exact .inr (.inr (.inl rfl))
        · split at h1
          · rename_i e; subst e
            rw [beq_iff_eq] at h1
            match l, h1 with
            | [a], _ => exact .inr (.inr (.inr (.inl ⟨a, by simpa using hall, rfl⟩)))
          · split at h1
            · rename_i e
              rw [beq_iff_eq] at h1
              match l, h1 with
              | [a, b], _ =>
                have : okF d true a = true ∧ okF d true b = true := by simpa using hall
                exact .inr (.inr (.inr (.inr ⟨k, a, b, e, this.1, this.2, rfl⟩)))
            · cases h1
theorem plain_num {d : Nat} {n : Int} (h : 0 ≤ n ∧ n ≤ 65535) : okF (d + 1) true ⟨1, n, E0, []⟩ = true := by
  have : inB n 0 65535 = true := (inB_iff _ _ _).2 h
  simp [okF, Ex.here, this, show eqS E0 E0 = true from (eqS_iff _ _).2 rfl]
theorem plain_sym {d : Nat} {s : ByteArray} (h : nameB s = true) : okF (d + 1) true ⟨2, 0, s, []⟩ = true := by
  simp [okF, Ex.here, h]
theorem plain_here (d : Nat) : okF (d + 1) true ⟨3, 0, E0, []⟩ = true := by
  simp [okF, Ex.here, show eqS E0 E0 = true from (eqS_iff _ _).2 rfl]
theorem plain_neg {d : Nat} {a : Ex} (h : okF d true a = true) : okF (d + 1) true ⟨4, 0, E0, [a]⟩ = true := by
  simp [okF, Ex.here, h, show eqS E0 E0 = true from (eqS_iff _ _).2 rfl]
theorem plain_two {d : Nat} {k : Int} {a b : Ex} (hk : 5 ≤ k ∧ k ≤ 10) (ha : okF d true a = true) (hb : okF d true b = true) : okF (d + 1) true ⟨k, 0, E0, [a, b]⟩ = true := by
  have : k = 5 ∨ k = 6 ∨ k = 7 ∨ k = 8 ∨ k = 9 ∨ k = 10 := by omega
  rcases this with rfl | rfl | rfl | rfl | rfl | rfl <;> simp [okF, Ex.here, ha, hb, show eqS E0 E0 = true from (eqS_iff _ _).2 rfl]
theorem toks_num (d : Nat) (n : Int) : toksF (d + 1) ⟨1, n, E0, []⟩ = [⟨2, n, E0⟩] := rfl
theorem toks_sym (d : Nat) (s : ByteArray) : toksF (d + 1) ⟨2, 0, s, []⟩ = [⟨1, 0, s⟩] := rfl
theorem toks_here (d : Nat) : toksF (d + 1) ⟨3, 0, E0, []⟩ = [mkT 46] := rfl
theorem toks_neg (d : Nat) (a : Ex) : toksF (d + 1) ⟨4, 0, E0, [a]⟩ = mkT 45 :: toksF d a := rfl
theorem toks_two (d : Nat) {k : Int} (hk : 5 ≤ k ∧ k ≤ 10) (a b : Ex) : toksF (d + 1) ⟨k, 0, E0, [a, b]⟩ = mkT 60 :: (toksF d a ++ (mkT (sgnC k) :: (toksF d b ++ [mkT 62]))) := by
  have : k = 5 ∨ k = 6 ∨ k = 7 ∨ k = 8 ∨ k = 9 ∨ k = 10 := by omega
  rcases this with rfl | rfl | rfl | rfl | rfl | rfl <;> rfl
/-- A plain term comes back of its tokens. -/
theorem read_toks : ∀ (d : Nat) (e : Ex) (r : List Tk), okF d true e = true → readF d (toksF d e ++ r) = some (e, r) := by
  intro d
  induction d with
  | zero => intro e r h; cases h
  | succ d ih =>
    intro e r h
    rcases plain_cases h with ⟨n, hn, rfl⟩ | ⟨s, hs, rfl⟩ | rfl | ⟨a, ha, rfl⟩ | ⟨k, a, b, hk, ha, hb, rfl⟩
    · rw [toks_num]; rfl
    · rw [toks_sym]; rfl
    · rw [toks_here, List.cons_append]
      simp only [readF]
      rw [if_neg (by decide +kernel), if_neg (by decide +kernel), if_pos (by decide +kernel)]
      rfl
    · rw [toks_neg, List.cons_append]
      simp only [readF]
      rw [if_neg (by decide +kernel), if_neg (by decide +kernel), if_neg (by decide +kernel), if_pos (by decide +kernel), ih a r ha]
    · rw [toks_two d hk, List.cons_append, List.append_assoc, List.cons_append, List.append_assoc]
      simp only [readF]
      rw [if_neg (by decide +kernel), if_neg (by decide +kernel), if_neg (by decide +kernel), if_neg (by decide +kernel), if_pos (by decide +kernel), ih a _ ha]
      simp only
      rw [ih b _ hb]
      simp only [List.cons_append, List.nil_append]
      rw [if_pos (by decide +kernel), show (mkT (sgnC k)).s = mkS (sgnC k) from rfl, sgn_back hk]
theorem mark_of {t : Tk} (h : t.ok = true) (h2 : t.k ≠ 2) (h1 : t.k ≠ 1) {c : UInt8} (hs : t.s = mkS c) (hc : smB (c.toNat : Int) = false) (hm : formB [] = false) : t = mkT c := by
  obtain ⟨k, n, s⟩ := t
  simp only at h2 h1 hs
  subst hs
  unfold Tk.ok at h
  simp only at h
  rw [if_neg (by simpa using h2)] at h
  split at h
  · cases h
  · rename_i hn
    have hn : n = 0 := by simpa using hn
    subst hn
    rw [if_neg (by simpa using h1)] at h
    split at h
    · have e : dotB [c] = true := h
      rw [dotB_cons, hm, Bool.and_false] at e
      cases e
    · split at h
      · rename_i e
        have e : k = 4 := by simpa using e
        rw [e]; rfl
      · split at h
        · have hk := kept_form _ (hasS_iff.1 h)
          obtain ⟨c0, r, e, h3, _⟩ := form_open hk
          have e2 : [c] = c0 :: r := e
          cases e2
          rw [hc] at h3; cases h3
        · cases h
theorem num_of {t : Tk} (h : t.ok = true) (h2 : t.k = 2) : (0 ≤ t.n ∧ t.n ≤ 65535) ∧ t = ⟨2, t.n, E0⟩ := by
  obtain ⟨k, n, s⟩ := t
  simp only at h2
  subst h2
  unfold Tk.ok at h
  simp only [beq_self_eq_true, if_true, Bool.and_eq_true, decide_eq_true_eq] at h
  refine ⟨(inB_iff _ _ _).1 h.1, ?_⟩
  have e : s = E0 := by
    have hl := size_len s
    rw [h.2, List.length_eq_zero_iff] at hl
    exact bytes_inj (by rw [hl]; rfl)
  rw [e]
theorem sym_of {t : Tk} (h : t.ok = true) (h1 : t.k = 1) : nameB t.s = true ∧ t = ⟨1, 0, t.s⟩ := by
  obtain ⟨k, n, s⟩ := t
  simp only at h1
  subst h1
  unfold Tk.ok at h
  simp only at h
  rw [if_neg (by decide)] at h
  split at h
  · cases h
  · rename_i hn
    have hn : n = 0 := by simpa using hn
    rw [if_pos (by decide)] at h
    exact ⟨h, by rw [hn]⟩
theorem name_one {c : UInt8} (hc : smB (c.toNat : Int) = false) : formB [c] = false := by
  cases h : formB [c] with
  | false => rfl
  | true =>
    obtain ⟨c0, r, e, h3, _⟩ := form_open h
    cases e
    rw [hc] at h3; cases h3
/-- A right token whose text is one sign that is no letter is that mark. -/
theorem one_mark {t : Tk} (h : t.ok = true) {c : UInt8} (hs : t.s = mkS c) (hc : smB (c.toNat : Int) = false) : t = mkT c := by
  by_cases h2 : t.k = 2
  · obtain ⟨_, e⟩ := num_of h h2
    rw [e] at hs
    have : (0 : Nat) = 1 := congrArg ByteArray.size hs
    cases this
  · by_cases h1 : t.k = 1
    · obtain ⟨hn, _⟩ := sym_of h h1
      rw [hs] at hn
      have e : nameB (mkS c) = (formB [c] && !keptB (mkS c)) := rfl
      rw [e, name_one hc] at hn
      cases hn
    · exact mark_of h h2 h1 hs hc (by decide)
theorem sgn_small {k : Int} (h : 5 ≤ k ∧ k ≤ 10) : smB ((sgnC k).toNat : Int) = false := by
  have : k = 5 ∨ k = 6 ∨ k = 7 ∨ k = 8 ∨ k = 9 ∨ k = 10 := by omega
  rcases this with rfl | rfl | rfl | rfl | rfl | rfl <;> decide
end Go.Proofs.YtkolflcjkofleaaDoor

namespace Go.Proofs.YtkolflcjkofleaaDoor
open Go.ChangeShapes Go.WideShapes Go.ChangeAt Go.RowKit
set_option linter.unusedVariables false
set_option maxRecDepth 8000
set_option linter.unusedSimpArgs false

/-- The same, by a term's own fields. -/
def hereV (k n : Int) (s : ByteArray) (ll : Nat) : Bool := Ex.here ⟨k, n, s, List.replicate ll X0⟩
theorem here_is (e : Ex) : e.here = hereV e.k e.n e.s e.l.length := by
  unfold hereV Ex.here
  simp only [List.length_replicate]
theorem emp_E (s : ByteArray) (h : s ≠ E0) : s.toList.isEmpty = false ∧ eqS s E0 = false := by
  refine ⟨emp_no s (fun e => h (empty_of s e)), ?_⟩
  cases he : eqS s E0 with
  | false => rfl
  | true => exact absurd ((eqS_iff _ _).1 he) h
theorem eqE : eqS E0 E0 = true := (eqS_iff _ _).2 rfl
theorem eqE1 : eqS ⟨#[]⟩ E0 = true := eqE
def HereG (k n : Int) (s : ByteArray) (ll : Nat) : Prop := ∀ (b : Option Addr) (cap : Nat) (w : World), Calls Tryd.prog 91 #[.agg #[.int .i64 k, .int .i64 n, .string s, .slice b ll cap]] w fun r w' => r = .returned (.bool (hereV k n s ll)) ∧ Below w.heap.size w w'
set_option maxHeartbeats 2000000 in
theorem here1_s (n : Int) (s : ByteArray) (ll : Nat) (h : s ≠ E0) (hs : s.size ≤ 1099511627776) (hl : ll ≤ 9223372036854775807) : HereG (1) n s ll := by
  intro b cap w
  have B0 := hide (below_new w (.cells #[.int .i64 1, .int .i64 n, .string s, .slice b ll cap] 26))
  obtain ⟨h1, h2⟩ := emp_E s h
  have V : hereV (1) n s ll = false := by simp [hereV, Ex.here, eqE, eqE1, *]
  rw [V]
  clear V
  go_enter Tryd.func91, Tryd.ntmps91
  go_wp2
  go_ret
  exact ⟨rfl, unhide B0⟩
set_option maxHeartbeats 2000000 in
theorem here1_0 (n : Int) (s : ByteArray) (ll : Nat) (hs : s.size ≤ 1099511627776) (hl : ll ≤ 9223372036854775807) : HereG (1) n ⟨#[]⟩ ll := by
  intro b cap w
  have B0 := hide (below_new w (.cells #[.int .i64 1, .int .i64 n, .string ⟨#[]⟩, .slice b ll cap] 26))
  have V : hereV (1) n ⟨#[]⟩ ll = (inB n 0 65535 && ll == 0) := by simp [hereV, Ex.here, eqE, eqE1, *]
  rw [V]
  clear V
  have Q := hide (fun w => in_any n 0 65535 w)
  generalize inB n 0 65535 = q at *
  by_cases h0 : ll = 0
  · subst h0
    cases q <;> (go_enter Tryd.func91, Tryd.ntmps91; go_wp2_with (go_at_call 97; refine (unhide Q _).mono ?_; rintro e w' ⟨rfl, hw'⟩; rw [hw']; clear hw' w'); go_ret; exact ⟨rfl, unhide B0⟩)
  · have h1 : (ll == 0) = false := beq_eq_false_iff_ne.2 h0
    have h2 : ((ll : Int) == 0) = false := beq_eq_false_iff_ne.2 (by omega)
    rw [h1]
    clear h1 h0
    cases q <;> (go_enter Tryd.func91, Tryd.ntmps91; go_wp2_with (go_at_call 97; refine (unhide Q _).mono ?_; rintro e w' ⟨rfl, hw'⟩; rw [hw']; clear hw' w'); go_ret; exact ⟨rfl, unhide B0⟩)
set_option maxHeartbeats 2000000 in
theorem here11_s (n : Int) (s : ByteArray) (ll : Nat) (h : s ≠ E0) (hs : s.size ≤ 1099511627776) (hl : ll ≤ 9223372036854775807) : HereG (11) n s ll := by
  intro b cap w
  have B0 := hide (below_new w (.cells #[.int .i64 11, .int .i64 n, .string s, .slice b ll cap] 26))
  obtain ⟨h1, h2⟩ := emp_E s h
  have V : hereV (11) n s ll = false := by simp [hereV, Ex.here, eqE, eqE1, *]
  rw [V]
  clear V
  go_enter Tryd.func91, Tryd.ntmps91
  go_wp2
  go_ret
  exact ⟨rfl, unhide B0⟩
set_option maxHeartbeats 2000000 in
theorem here11_0 (n : Int) (s : ByteArray) (ll : Nat) (hs : s.size ≤ 1099511627776) (hl : ll ≤ 9223372036854775807) : HereG (11) n ⟨#[]⟩ ll := by
  intro b cap w
  have B0 := hide (below_new w (.cells #[.int .i64 11, .int .i64 n, .string ⟨#[]⟩, .slice b ll cap] 26))
  have V : hereV (11) n ⟨#[]⟩ ll = (inB n 0 9 && ll == 0) := by simp [hereV, Ex.here, eqE, eqE1, *]
  rw [V]
  clear V
  have Q := hide (fun w => in_any n 0 9 w)
  generalize inB n 0 9 = q at *
  by_cases h0 : ll = 0
  · subst h0
    cases q <;> (go_enter Tryd.func91, Tryd.ntmps91; go_wp2_with (go_at_call 97; refine (unhide Q _).mono ?_; rintro e w' ⟨rfl, hw'⟩; rw [hw']; clear hw' w'); go_ret; exact ⟨rfl, unhide B0⟩)
  · have h1 : (ll == 0) = false := beq_eq_false_iff_ne.2 h0
    have h2 : ((ll : Int) == 0) = false := beq_eq_false_iff_ne.2 (by omega)
    rw [h1]
    clear h1 h0
    cases q <;> (go_enter Tryd.func91, Tryd.ntmps91; go_wp2_with (go_at_call 97; refine (unhide Q _).mono ?_; rintro e w' ⟨rfl, hw'⟩; rw [hw']; clear hw' w'); go_ret; exact ⟨rfl, unhide B0⟩)
set_option maxHeartbeats 2000000 in
theorem here2_n (n : Int) (s : ByteArray) (ll : Nat) (h : n ≠ 0) (hs : s.size ≤ 1099511627776) (hl : ll ≤ 9223372036854775807) : HereG (2) n s ll := by
  intro b cap w
  have B0 := hide (below_new w (.cells #[.int .i64 2, .int .i64 n, .string s, .slice b ll cap] 26))
  have V : hereV (2) n s ll = false := by simp [hereV, Ex.here, eqE, eqE1, *]
  rw [V]
  clear V
  go_enter Tryd.func91, Tryd.ntmps91
  go_wp2
  go_ret
  exact ⟨rfl, unhide B0⟩
set_option maxHeartbeats 2000000 in
theorem here2_0 (n : Int) (s : ByteArray) (ll : Nat) (hs : s.size ≤ 1099511627776) (hl : ll ≤ 9223372036854775807) : HereG (2) 0 s ll := by
  intro b cap w
  have B0 := hide (below_new w (.cells #[.int .i64 2, .int .i64 0, .string s, .slice b ll cap] 26))
  have V : hereV (2) 0 s ll = (nameB s && ll == 0) := by simp [hereV, Ex.here, eqE, eqE1, *]
  rw [V]
  clear V
  have Q := hide (nameS_any s (w.alloc (.cells #[.int .i64 2, .int .i64 0, .string s, .slice b ll cap] 26)) hs)
  generalize nameB s = q at *
  by_cases h0 : ll = 0
  · subst h0
    cases q <;> (go_enter Tryd.func91, Tryd.ntmps91; go_wp2_with (go_at_call 98; refine (unhide Q).mono ?_; rintro e w' ⟨rfl, hb⟩); go_ret; exact ⟨rfl, (unhide B0).trans (hb.mono (unhide B0).size)⟩)
  · have h1 : (ll == 0) = false := beq_eq_false_iff_ne.2 h0
    have h2 : ((ll : Int) == 0) = false := beq_eq_false_iff_ne.2 (by omega)
    rw [h1]
    clear h1 h0
    cases q <;> (go_enter Tryd.func91, Tryd.ntmps91; go_wp2_with (go_at_call 98; refine (unhide Q).mono ?_; rintro e w' ⟨rfl, hb⟩); go_ret; exact ⟨rfl, (unhide B0).trans (hb.mono (unhide B0).size)⟩)
set_option maxHeartbeats 2000000 in
theorem here12_n (n : Int) (s : ByteArray) (ll : Nat) (h : n ≠ 0) (hs : s.size ≤ 1099511627776) (hl : ll ≤ 9223372036854775807) : HereG (12) n s ll := by
  intro b cap w
  have B0 := hide (below_new w (.cells #[.int .i64 12, .int .i64 n, .string s, .slice b ll cap] 26))
  have V : hereV (12) n s ll = false := by simp [hereV, Ex.here, eqE, eqE1, *]
  rw [V]
  clear V
  go_enter Tryd.func91, Tryd.ntmps91
  go_wp2
  go_ret
  exact ⟨rfl, unhide B0⟩
set_option maxHeartbeats 2000000 in
theorem here12_0 (n : Int) (s : ByteArray) (ll : Nat) (hs : s.size ≤ 1099511627776) (hl : ll ≤ 9223372036854775807) : HereG (12) 0 s ll := by
  intro b cap w
  have B0 := hide (below_new w (.cells #[.int .i64 12, .int .i64 0, .string s, .slice b ll cap] 26))
  have V : hereV (12) 0 s ll = (nameB s && ll == 0) := by simp [hereV, Ex.here, eqE, eqE1, *]
  rw [V]
  clear V
  have Q := hide (nameS_any s (w.alloc (.cells #[.int .i64 12, .int .i64 0, .string s, .slice b ll cap] 26)) hs)
  generalize nameB s = q at *
  by_cases h0 : ll = 0
  · subst h0
    cases q <;> (go_enter Tryd.func91, Tryd.ntmps91; go_wp2_with (go_at_call 98; refine (unhide Q).mono ?_; rintro e w' ⟨rfl, hb⟩); go_ret; exact ⟨rfl, (unhide B0).trans (hb.mono (unhide B0).size)⟩)
  · have h1 : (ll == 0) = false := beq_eq_false_iff_ne.2 h0
    have h2 : ((ll : Int) == 0) = false := beq_eq_false_iff_ne.2 (by omega)
    rw [h1]
    clear h1 h0
    cases q <;> (go_enter Tryd.func91, Tryd.ntmps91; go_wp2_with (go_at_call 98; refine (unhide Q).mono ?_; rintro e w' ⟨rfl, hb⟩); go_ret; exact ⟨rfl, (unhide B0).trans (hb.mono (unhide B0).size)⟩)
set_option maxHeartbeats 2000000 in
theorem here3_n (n : Int) (s : ByteArray) (ll : Nat) (h : n ≠ 0) (hs : s.size ≤ 1099511627776) (hl : ll ≤ 9223372036854775807) : HereG (3) n s ll := by
  intro b cap w
  have B0 := hide (below_new w (.cells #[.int .i64 3, .int .i64 n, .string s, .slice b ll cap] 26))
  have V : hereV (3) n s ll = false := by simp [hereV, Ex.here, eqE, eqE1, *]
  rw [V]
  clear V
  go_enter Tryd.func91, Tryd.ntmps91
  go_wp2
  go_ret
  exact ⟨rfl, unhide B0⟩
set_option maxHeartbeats 2000000 in
theorem here3_s (n : Int) (s : ByteArray) (ll : Nat) (h : s ≠ E0) (hs : s.size ≤ 1099511627776) (hl : ll ≤ 9223372036854775807) : HereG (3) 0 s ll := by
  intro b cap w
  have B0 := hide (below_new w (.cells #[.int .i64 3, .int .i64 0, .string s, .slice b ll cap] 26))
  obtain ⟨h1, h2⟩ := emp_E s h
  have V : hereV (3) 0 s ll = false := by simp [hereV, Ex.here, eqE, eqE1, *]
  rw [V]
  clear V
  go_enter Tryd.func91, Tryd.ntmps91
  go_wp2
  go_ret
  exact ⟨rfl, unhide B0⟩
set_option maxHeartbeats 2000000 in
theorem here3_0 (n : Int) (s : ByteArray) (ll : Nat) (hs : s.size ≤ 1099511627776) (hl : ll ≤ 9223372036854775807) : HereG (3) 0 ⟨#[]⟩ ll := by
  intro b cap w
  have B0 := hide (below_new w (.cells #[.int .i64 3, .int .i64 0, .string ⟨#[]⟩, .slice b ll cap] 26))
  have V : hereV (3) 0 ⟨#[]⟩ ll = (ll == 0) := by simp [hereV, Ex.here, eqE, eqE1, *]
  rw [V]
  clear V
  by_cases h0 : ll = 0
  · subst h0
    go_enter Tryd.func91, Tryd.ntmps91
    go_wp2
    go_ret
    exact ⟨rfl, unhide B0⟩
  · have h1 : (ll == 0) = false := beq_eq_false_iff_ne.2 h0
    have h2 : ((ll : Int) == 0) = false := beq_eq_false_iff_ne.2 (by omega)
    rw [h1]
    clear h1 h0
    go_enter Tryd.func91, Tryd.ntmps91
    go_wp2
    go_ret
    exact ⟨rfl, unhide B0⟩
set_option maxHeartbeats 2000000 in
theorem here4_n (n : Int) (s : ByteArray) (ll : Nat) (h : n ≠ 0) (hs : s.size ≤ 1099511627776) (hl : ll ≤ 9223372036854775807) : HereG (4) n s ll := by
  intro b cap w
  have B0 := hide (below_new w (.cells #[.int .i64 4, .int .i64 n, .string s, .slice b ll cap] 26))
  have V : hereV (4) n s ll = false := by simp [hereV, Ex.here, eqE, eqE1, *]
  rw [V]
  clear V
  go_enter Tryd.func91, Tryd.ntmps91
  go_wp2
  go_ret
  exact ⟨rfl, unhide B0⟩
set_option maxHeartbeats 2000000 in
theorem here4_s (n : Int) (s : ByteArray) (ll : Nat) (h : s ≠ E0) (hs : s.size ≤ 1099511627776) (hl : ll ≤ 9223372036854775807) : HereG (4) 0 s ll := by
  intro b cap w
  have B0 := hide (below_new w (.cells #[.int .i64 4, .int .i64 0, .string s, .slice b ll cap] 26))
  obtain ⟨h1, h2⟩ := emp_E s h
  have V : hereV (4) 0 s ll = false := by simp [hereV, Ex.here, eqE, eqE1, *]
  rw [V]
  clear V
  go_enter Tryd.func91, Tryd.ntmps91
  go_wp2
  go_ret
  exact ⟨rfl, unhide B0⟩
set_option maxHeartbeats 2000000 in
theorem here4_0 (n : Int) (s : ByteArray) (ll : Nat) (hs : s.size ≤ 1099511627776) (hl : ll ≤ 9223372036854775807) : HereG (4) 0 ⟨#[]⟩ ll := by
  intro b cap w
  have B0 := hide (below_new w (.cells #[.int .i64 4, .int .i64 0, .string ⟨#[]⟩, .slice b ll cap] 26))
  have V : hereV (4) 0 ⟨#[]⟩ ll = (ll == 1) := by simp [hereV, Ex.here, eqE, eqE1, *]
  rw [V]
  clear V
  by_cases h0 : ll = 1
  · subst h0
    go_enter Tryd.func91, Tryd.ntmps91
    go_wp2
    go_ret
    exact ⟨rfl, unhide B0⟩
  · have h1 : (ll == 1) = false := beq_eq_false_iff_ne.2 h0
    have h2 : ((ll : Int) == 1) = false := beq_eq_false_iff_ne.2 (by omega)
    rw [h1]
    clear h1 h0
    go_enter Tryd.func91, Tryd.ntmps91
    go_wp2
    go_ret
    exact ⟨rfl, unhide B0⟩
set_option maxHeartbeats 2000000 in
theorem here5_n (n : Int) (s : ByteArray) (ll : Nat) (h : n ≠ 0) (hs : s.size ≤ 1099511627776) (hl : ll ≤ 9223372036854775807) : HereG (5) n s ll := by
  intro b cap w
  have B0 := hide (below_new w (.cells #[.int .i64 5, .int .i64 n, .string s, .slice b ll cap] 26))
  have V : hereV (5) n s ll = false := by simp [hereV, Ex.here, eqE, eqE1, *]
  rw [V]
  clear V
  go_enter Tryd.func91, Tryd.ntmps91
  go_wp2
  go_ret
  exact ⟨rfl, unhide B0⟩
set_option maxHeartbeats 2000000 in
theorem here5_s (n : Int) (s : ByteArray) (ll : Nat) (h : s ≠ E0) (hs : s.size ≤ 1099511627776) (hl : ll ≤ 9223372036854775807) : HereG (5) 0 s ll := by
  intro b cap w
  have B0 := hide (below_new w (.cells #[.int .i64 5, .int .i64 0, .string s, .slice b ll cap] 26))
  obtain ⟨h1, h2⟩ := emp_E s h
  have V : hereV (5) 0 s ll = false := by simp [hereV, Ex.here, eqE, eqE1, *]
  rw [V]
  clear V
  go_enter Tryd.func91, Tryd.ntmps91
  go_wp2
  go_ret
  exact ⟨rfl, unhide B0⟩
set_option maxHeartbeats 2000000 in
theorem here5_0 (n : Int) (s : ByteArray) (ll : Nat) (hs : s.size ≤ 1099511627776) (hl : ll ≤ 9223372036854775807) : HereG (5) 0 ⟨#[]⟩ ll := by
  intro b cap w
  have B0 := hide (below_new w (.cells #[.int .i64 5, .int .i64 0, .string ⟨#[]⟩, .slice b ll cap] 26))
  have V : hereV (5) 0 ⟨#[]⟩ ll = (ll == 2) := by simp [hereV, Ex.here, eqE, eqE1, *]
  rw [V]
  clear V
  by_cases h0 : ll = 2
  · subst h0
    go_enter Tryd.func91, Tryd.ntmps91
    go_wp2
    go_ret
    exact ⟨rfl, unhide B0⟩
  · have h1 : (ll == 2) = false := beq_eq_false_iff_ne.2 h0
    have h2 : ((ll : Int) == 2) = false := beq_eq_false_iff_ne.2 (by omega)
    rw [h1]
    clear h1 h0
    go_enter Tryd.func91, Tryd.ntmps91
    go_wp2
    go_ret
    exact ⟨rfl, unhide B0⟩
set_option maxHeartbeats 2000000 in
theorem here6_n (n : Int) (s : ByteArray) (ll : Nat) (h : n ≠ 0) (hs : s.size ≤ 1099511627776) (hl : ll ≤ 9223372036854775807) : HereG (6) n s ll := by
  intro b cap w
  have B0 := hide (below_new w (.cells #[.int .i64 6, .int .i64 n, .string s, .slice b ll cap] 26))
  have V : hereV (6) n s ll = false := by simp [hereV, Ex.here, eqE, eqE1, *]
  rw [V]
  clear V
  go_enter Tryd.func91, Tryd.ntmps91
  go_wp2
  go_ret
  exact ⟨rfl, unhide B0⟩
set_option maxHeartbeats 2000000 in
theorem here6_s (n : Int) (s : ByteArray) (ll : Nat) (h : s ≠ E0) (hs : s.size ≤ 1099511627776) (hl : ll ≤ 9223372036854775807) : HereG (6) 0 s ll := by
  intro b cap w
  have B0 := hide (below_new w (.cells #[.int .i64 6, .int .i64 0, .string s, .slice b ll cap] 26))
  obtain ⟨h1, h2⟩ := emp_E s h
  have V : hereV (6) 0 s ll = false := by simp [hereV, Ex.here, eqE, eqE1, *]
  rw [V]
  clear V
  go_enter Tryd.func91, Tryd.ntmps91
  go_wp2
  go_ret
  exact ⟨rfl, unhide B0⟩
set_option maxHeartbeats 2000000 in
theorem here6_0 (n : Int) (s : ByteArray) (ll : Nat) (hs : s.size ≤ 1099511627776) (hl : ll ≤ 9223372036854775807) : HereG (6) 0 ⟨#[]⟩ ll := by
  intro b cap w
  have B0 := hide (below_new w (.cells #[.int .i64 6, .int .i64 0, .string ⟨#[]⟩, .slice b ll cap] 26))
  have V : hereV (6) 0 ⟨#[]⟩ ll = (ll == 2) := by simp [hereV, Ex.here, eqE, eqE1, *]
  rw [V]
  clear V
  by_cases h0 : ll = 2
  · subst h0
    go_enter Tryd.func91, Tryd.ntmps91
    go_wp2
    go_ret
    exact ⟨rfl, unhide B0⟩
  · have h1 : (ll == 2) = false := beq_eq_false_iff_ne.2 h0
    have h2 : ((ll : Int) == 2) = false := beq_eq_false_iff_ne.2 (by omega)
    rw [h1]
    clear h1 h0
    go_enter Tryd.func91, Tryd.ntmps91
    go_wp2
    go_ret
    exact ⟨rfl, unhide B0⟩
set_option maxHeartbeats 2000000 in
theorem here7_n (n : Int) (s : ByteArray) (ll : Nat) (h : n ≠ 0) (hs : s.size ≤ 1099511627776) (hl : ll ≤ 9223372036854775807) : HereG (7) n s ll := by
  intro b cap w
  have B0 := hide (below_new w (.cells #[.int .i64 7, .int .i64 n, .string s, .slice b ll cap] 26))
  have V : hereV (7) n s ll = false := by simp [hereV, Ex.here, eqE, eqE1, *]
  rw [V]
  clear V
  go_enter Tryd.func91, Tryd.ntmps91
  go_wp2
  go_ret
  exact ⟨rfl, unhide B0⟩
set_option maxHeartbeats 2000000 in
theorem here7_s (n : Int) (s : ByteArray) (ll : Nat) (h : s ≠ E0) (hs : s.size ≤ 1099511627776) (hl : ll ≤ 9223372036854775807) : HereG (7) 0 s ll := by
  intro b cap w
  have B0 := hide (below_new w (.cells #[.int .i64 7, .int .i64 0, .string s, .slice b ll cap] 26))
  obtain ⟨h1, h2⟩ := emp_E s h
  have V : hereV (7) 0 s ll = false := by simp [hereV, Ex.here, eqE, eqE1, *]
  rw [V]
  clear V
  go_enter Tryd.func91, Tryd.ntmps91
  go_wp2
  go_ret
  exact ⟨rfl, unhide B0⟩
set_option maxHeartbeats 2000000 in
theorem here7_0 (n : Int) (s : ByteArray) (ll : Nat) (hs : s.size ≤ 1099511627776) (hl : ll ≤ 9223372036854775807) : HereG (7) 0 ⟨#[]⟩ ll := by
  intro b cap w
  have B0 := hide (below_new w (.cells #[.int .i64 7, .int .i64 0, .string ⟨#[]⟩, .slice b ll cap] 26))
  have V : hereV (7) 0 ⟨#[]⟩ ll = (ll == 2) := by simp [hereV, Ex.here, eqE, eqE1, *]
  rw [V]
  clear V
  by_cases h0 : ll = 2
  · subst h0
    go_enter Tryd.func91, Tryd.ntmps91
    go_wp2
    go_ret
    exact ⟨rfl, unhide B0⟩
  · have h1 : (ll == 2) = false := beq_eq_false_iff_ne.2 h0
    have h2 : ((ll : Int) == 2) = false := beq_eq_false_iff_ne.2 (by omega)
    rw [h1]
    clear h1 h0
    go_enter Tryd.func91, Tryd.ntmps91
    go_wp2
    go_ret
    exact ⟨rfl, unhide B0⟩
set_option maxHeartbeats 2000000 in
theorem here8_n (n : Int) (s : ByteArray) (ll : Nat) (h : n ≠ 0) (hs : s.size ≤ 1099511627776) (hl : ll ≤ 9223372036854775807) : HereG (8) n s ll := by
  intro b cap w
  have B0 := hide (below_new w (.cells #[.int .i64 8, .int .i64 n, .string s, .slice b ll cap] 26))
  have V : hereV (8) n s ll = false := by simp [hereV, Ex.here, eqE, eqE1, *]
  rw [V]
  clear V
  go_enter Tryd.func91, Tryd.ntmps91
  go_wp2
  go_ret
  exact ⟨rfl, unhide B0⟩
set_option maxHeartbeats 2000000 in
theorem here8_s (n : Int) (s : ByteArray) (ll : Nat) (h : s ≠ E0) (hs : s.size ≤ 1099511627776) (hl : ll ≤ 9223372036854775807) : HereG (8) 0 s ll := by
  intro b cap w
  have B0 := hide (below_new w (.cells #[.int .i64 8, .int .i64 0, .string s, .slice b ll cap] 26))
  obtain ⟨h1, h2⟩ := emp_E s h
  have V : hereV (8) 0 s ll = false := by simp [hereV, Ex.here, eqE, eqE1, *]
  rw [V]
  clear V
  go_enter Tryd.func91, Tryd.ntmps91
  go_wp2
  go_ret
  exact ⟨rfl, unhide B0⟩
set_option maxHeartbeats 2000000 in
theorem here8_0 (n : Int) (s : ByteArray) (ll : Nat) (hs : s.size ≤ 1099511627776) (hl : ll ≤ 9223372036854775807) : HereG (8) 0 ⟨#[]⟩ ll := by
  intro b cap w
  have B0 := hide (below_new w (.cells #[.int .i64 8, .int .i64 0, .string ⟨#[]⟩, .slice b ll cap] 26))
  have V : hereV (8) 0 ⟨#[]⟩ ll = (ll == 2) := by simp [hereV, Ex.here, eqE, eqE1, *]
  rw [V]
  clear V
  by_cases h0 : ll = 2
  · subst h0
    go_enter Tryd.func91, Tryd.ntmps91
    go_wp2
    go_ret
    exact ⟨rfl, unhide B0⟩
  · have h1 : (ll == 2) = false := beq_eq_false_iff_ne.2 h0
    have h2 : ((ll : Int) == 2) = false := beq_eq_false_iff_ne.2 (by omega)
    rw [h1]
    clear h1 h0
    go_enter Tryd.func91, Tryd.ntmps91
    go_wp2
    go_ret
    exact ⟨rfl, unhide B0⟩
set_option maxHeartbeats 2000000 in
theorem here9_n (n : Int) (s : ByteArray) (ll : Nat) (h : n ≠ 0) (hs : s.size ≤ 1099511627776) (hl : ll ≤ 9223372036854775807) : HereG (9) n s ll := by
  intro b cap w
  have B0 := hide (below_new w (.cells #[.int .i64 9, .int .i64 n, .string s, .slice b ll cap] 26))
  have V : hereV (9) n s ll = false := by simp [hereV, Ex.here, eqE, eqE1, *]
  rw [V]
  clear V
  go_enter Tryd.func91, Tryd.ntmps91
  go_wp2
  go_ret
  exact ⟨rfl, unhide B0⟩
set_option maxHeartbeats 2000000 in
theorem here9_s (n : Int) (s : ByteArray) (ll : Nat) (h : s ≠ E0) (hs : s.size ≤ 1099511627776) (hl : ll ≤ 9223372036854775807) : HereG (9) 0 s ll := by
  intro b cap w
  have B0 := hide (below_new w (.cells #[.int .i64 9, .int .i64 0, .string s, .slice b ll cap] 26))
  obtain ⟨h1, h2⟩ := emp_E s h
  have V : hereV (9) 0 s ll = false := by simp [hereV, Ex.here, eqE, eqE1, *]
  rw [V]
  clear V
  go_enter Tryd.func91, Tryd.ntmps91
  go_wp2
  go_ret
  exact ⟨rfl, unhide B0⟩
set_option maxHeartbeats 2000000 in
theorem here9_0 (n : Int) (s : ByteArray) (ll : Nat) (hs : s.size ≤ 1099511627776) (hl : ll ≤ 9223372036854775807) : HereG (9) 0 ⟨#[]⟩ ll := by
  intro b cap w
  have B0 := hide (below_new w (.cells #[.int .i64 9, .int .i64 0, .string ⟨#[]⟩, .slice b ll cap] 26))
  have V : hereV (9) 0 ⟨#[]⟩ ll = (ll == 2) := by simp [hereV, Ex.here, eqE, eqE1, *]
  rw [V]
  clear V
  by_cases h0 : ll = 2
  · subst h0
    go_enter Tryd.func91, Tryd.ntmps91
    go_wp2
    go_ret
    exact ⟨rfl, unhide B0⟩
  · have h1 : (ll == 2) = false := beq_eq_false_iff_ne.2 h0
    have h2 : ((ll : Int) == 2) = false := beq_eq_false_iff_ne.2 (by omega)
    rw [h1]
    clear h1 h0
    go_enter Tryd.func91, Tryd.ntmps91
    go_wp2
    go_ret
    exact ⟨rfl, unhide B0⟩
set_option maxHeartbeats 2000000 in
theorem here10_n (n : Int) (s : ByteArray) (ll : Nat) (h : n ≠ 0) (hs : s.size ≤ 1099511627776) (hl : ll ≤ 9223372036854775807) : HereG (10) n s ll := by
  intro b cap w
  have B0 := hide (below_new w (.cells #[.int .i64 10, .int .i64 n, .string s, .slice b ll cap] 26))
  have V : hereV (10) n s ll = false := by simp [hereV, Ex.here, eqE, eqE1, *]
  rw [V]
  clear V
  go_enter Tryd.func91, Tryd.ntmps91
  go_wp2
  go_ret
  exact ⟨rfl, unhide B0⟩
set_option maxHeartbeats 2000000 in
theorem here10_s (n : Int) (s : ByteArray) (ll : Nat) (h : s ≠ E0) (hs : s.size ≤ 1099511627776) (hl : ll ≤ 9223372036854775807) : HereG (10) 0 s ll := by
  intro b cap w
  have B0 := hide (below_new w (.cells #[.int .i64 10, .int .i64 0, .string s, .slice b ll cap] 26))
  obtain ⟨h1, h2⟩ := emp_E s h
  have V : hereV (10) 0 s ll = false := by simp [hereV, Ex.here, eqE, eqE1, *]
  rw [V]
  clear V
  go_enter Tryd.func91, Tryd.ntmps91
  go_wp2
  go_ret
  exact ⟨rfl, unhide B0⟩
set_option maxHeartbeats 2000000 in
theorem here10_0 (n : Int) (s : ByteArray) (ll : Nat) (hs : s.size ≤ 1099511627776) (hl : ll ≤ 9223372036854775807) : HereG (10) 0 ⟨#[]⟩ ll := by
  intro b cap w
  have B0 := hide (below_new w (.cells #[.int .i64 10, .int .i64 0, .string ⟨#[]⟩, .slice b ll cap] 26))
  have V : hereV (10) 0 ⟨#[]⟩ ll = (ll == 2) := by simp [hereV, Ex.here, eqE, eqE1, *]
  rw [V]
  clear V
  by_cases h0 : ll = 2
  · subst h0
    go_enter Tryd.func91, Tryd.ntmps91
    go_wp2
    go_ret
    exact ⟨rfl, unhide B0⟩
  · have h1 : (ll == 2) = false := beq_eq_false_iff_ne.2 h0
    have h2 : ((ll : Int) == 2) = false := beq_eq_false_iff_ne.2 (by omega)
    rw [h1]
    clear h1 h0
    go_enter Tryd.func91, Tryd.ntmps91
    go_wp2
    go_ret
    exact ⟨rfl, unhide B0⟩
set_option maxHeartbeats 2000000 in
theorem here_n (n : Int) (s : ByteArray) (ll : Nat) (k : Int) (h1 : k ≠ 1) (h2 : k ≠ 2) (h3 : k ≠ 3) (h4 : k ≠ 4) (h5 : k ≠ 5) (h6 : k ≠ 6) (h7 : k ≠ 7) (h8 : k ≠ 8) (h9 : k ≠ 9) (h10 : k ≠ 10) (h11 : k ≠ 11) (h12 : k ≠ 12) (h : n ≠ 0) (hs : s.size ≤ 1099511627776) (hl : ll ≤ 9223372036854775807) : HereG k n s ll := by
  intro b cap w
  have B0 := hide (below_new w (.cells #[.int .i64 k, .int .i64 n, .string s, .slice b ll cap] 26))
  have g1 : (k == 1) = false := beq_eq_false_iff_ne.2 h1
  have g2 : (k == 2) = false := beq_eq_false_iff_ne.2 h2
  have g3 : (k == 3) = false := beq_eq_false_iff_ne.2 h3
  have g4 : (k == 4) = false := beq_eq_false_iff_ne.2 h4
  have g5 : (k == 5) = false := beq_eq_false_iff_ne.2 h5
  have g6 : (k == 6) = false := beq_eq_false_iff_ne.2 h6
  have g7 : (k == 7) = false := beq_eq_false_iff_ne.2 h7
  have g8 : (k == 8) = false := beq_eq_false_iff_ne.2 h8
  have g9 : (k == 9) = false := beq_eq_false_iff_ne.2 h9
  have g10 : (k == 10) = false := beq_eq_false_iff_ne.2 h10
  have g11 : (k == 11) = false := beq_eq_false_iff_ne.2 h11
  have g12 : (k == 12) = false := beq_eq_false_iff_ne.2 h12
  have m1 : (k != 1) = true := by simp [h1]
  have m2 : (k != 2) = true := by simp [h2]
  have m11 : (k != 11) = true := by simp [h11]
  have m12 : (k != 12) = true := by simp [h12]
  have V : hereV k n s ll = false := by unfold hereV Ex.here; simp only; split; rfl; repeat (first | rfl | rw [if_neg (by omega)])
  rw [V]
  clear V
  go_enter Tryd.func91, Tryd.ntmps91
  go_wp2
  go_ret
  exact ⟨rfl, unhide B0⟩
set_option maxHeartbeats 2000000 in
theorem here_s (n : Int) (s : ByteArray) (ll : Nat) (k : Int) (h1 : k ≠ 1) (h2 : k ≠ 2) (h3 : k ≠ 3) (h4 : k ≠ 4) (h5 : k ≠ 5) (h6 : k ≠ 6) (h7 : k ≠ 7) (h8 : k ≠ 8) (h9 : k ≠ 9) (h10 : k ≠ 10) (h11 : k ≠ 11) (h12 : k ≠ 12) (h : s ≠ E0) (hs : s.size ≤ 1099511627776) (hl : ll ≤ 9223372036854775807) : HereG k 0 s ll := by
  intro b cap w
  have B0 := hide (below_new w (.cells #[.int .i64 k, .int .i64 0, .string s, .slice b ll cap] 26))
  have g1 : (k == 1) = false := beq_eq_false_iff_ne.2 h1
  have g2 : (k == 2) = false := beq_eq_false_iff_ne.2 h2
  have g3 : (k == 3) = false := beq_eq_false_iff_ne.2 h3
  have g4 : (k == 4) = false := beq_eq_false_iff_ne.2 h4
  have g5 : (k == 5) = false := beq_eq_false_iff_ne.2 h5
  have g6 : (k == 6) = false := beq_eq_false_iff_ne.2 h6
  have g7 : (k == 7) = false := beq_eq_false_iff_ne.2 h7
  have g8 : (k == 8) = false := beq_eq_false_iff_ne.2 h8
  have g9 : (k == 9) = false := beq_eq_false_iff_ne.2 h9
  have g10 : (k == 10) = false := beq_eq_false_iff_ne.2 h10
  have g11 : (k == 11) = false := beq_eq_false_iff_ne.2 h11
  have g12 : (k == 12) = false := beq_eq_false_iff_ne.2 h12
  have m1 : (k != 1) = true := by simp [h1]
  have m2 : (k != 2) = true := by simp [h2]
  have m11 : (k != 11) = true := by simp [h11]
  have m12 : (k != 12) = true := by simp [h12]
  obtain ⟨hh1, hh2⟩ := emp_E s h
  have V : hereV k 0 s ll = false := by unfold hereV Ex.here; simp only; split; rfl; repeat (first | rfl | rw [if_neg (by omega)])
  rw [V]
  clear V
  go_enter Tryd.func91, Tryd.ntmps91
  go_wp2
  go_ret
  exact ⟨rfl, unhide B0⟩
set_option maxHeartbeats 2000000 in
theorem here_0 (n : Int) (s : ByteArray) (ll : Nat) (k : Int) (h1 : k ≠ 1) (h2 : k ≠ 2) (h3 : k ≠ 3) (h4 : k ≠ 4) (h5 : k ≠ 5) (h6 : k ≠ 6) (h7 : k ≠ 7) (h8 : k ≠ 8) (h9 : k ≠ 9) (h10 : k ≠ 10) (h11 : k ≠ 11) (h12 : k ≠ 12) (hs : s.size ≤ 1099511627776) (hl : ll ≤ 9223372036854775807) : HereG k 0 ⟨#[]⟩ ll := by
  intro b cap w
  have B0 := hide (below_new w (.cells #[.int .i64 k, .int .i64 0, .string ⟨#[]⟩, .slice b ll cap] 26))
  have g1 : (k == 1) = false := beq_eq_false_iff_ne.2 h1
  have g2 : (k == 2) = false := beq_eq_false_iff_ne.2 h2
  have g3 : (k == 3) = false := beq_eq_false_iff_ne.2 h3
  have g4 : (k == 4) = false := beq_eq_false_iff_ne.2 h4
  have g5 : (k == 5) = false := beq_eq_false_iff_ne.2 h5
  have g6 : (k == 6) = false := beq_eq_false_iff_ne.2 h6
  have g7 : (k == 7) = false := beq_eq_false_iff_ne.2 h7
  have g8 : (k == 8) = false := beq_eq_false_iff_ne.2 h8
  have g9 : (k == 9) = false := beq_eq_false_iff_ne.2 h9
  have g10 : (k == 10) = false := beq_eq_false_iff_ne.2 h10
  have g11 : (k == 11) = false := beq_eq_false_iff_ne.2 h11
  have g12 : (k == 12) = false := beq_eq_false_iff_ne.2 h12
  have m1 : (k != 1) = true := by simp [h1]
  have m2 : (k != 2) = true := by simp [h2]
  have m11 : (k != 11) = true := by simp [h11]
  have m12 : (k != 12) = true := by simp [h12]
  have V : hereV k 0 ⟨#[]⟩ ll = false := by unfold hereV Ex.here; simp only; split; rfl; repeat (first | rfl | rw [if_neg (by omega)])
  rw [V]
  clear V
  go_enter Tryd.func91, Tryd.ntmps91
  go_wp2
  go_ret
  exact ⟨rfl, unhide B0⟩
theorem hereS_any (e : Ex) (b : Option Addr) (cap : Nat) (w : World) (hs : e.s.size ≤ 1099511627776) (hl : e.l.length ≤ 9223372036854775807) : Calls Tryd.prog 91 #[.agg (e.cs b cap)] w fun r w' => r = .returned (.bool e.here) ∧ Below w.heap.size w w' := by
  rw [here_is]
  unfold Ex.cs
  obtain ⟨k, n, s, l⟩ := e
  simp only at hs hl ⊢
  generalize l.length = ll at *
  revert b cap w
  show HereG k n s ll
  by_cases c1 : k = 1
  · subst c1
    by_cases h : s = E0
    · subst h; exact here1_0 n E0 ll hs hl
    · exact here1_s n s ll h hs hl
  by_cases c11 : k = 11
  · subst c11
    by_cases h : s = E0
    · subst h; exact here11_0 n E0 ll hs hl
    · exact here11_s n s ll h hs hl
  by_cases c2 : k = 2
  · subst c2
    by_cases h : n = 0
    · subst h; exact here2_0 0 s ll hs hl
    · exact here2_n n s ll h hs hl
  by_cases c12 : k = 12
  · subst c12
    by_cases h : n = 0
    · subst h; exact here12_0 0 s ll hs hl
    · exact here12_n n s ll h hs hl
  by_cases c3 : k = 3
  · subst c3
    by_cases h : n = 0
    · subst h
      by_cases h : s = E0
      · subst h; exact here3_0 0 E0 ll hs hl
      · exact here3_s 0 s ll h hs hl
    · exact here3_n n s ll h hs hl
  by_cases c4 : k = 4
  · subst c4
    by_cases h : n = 0
    · subst h
      by_cases h : s = E0
      · subst h; exact here4_0 0 E0 ll hs hl
      · exact here4_s 0 s ll h hs hl
    · exact here4_n n s ll h hs hl
  by_cases c5 : k = 5
  · subst c5
    by_cases h : n = 0
    · subst h
      by_cases h : s = E0
      · subst h; exact here5_0 0 E0 ll hs hl
      · exact here5_s 0 s ll h hs hl
    · exact here5_n n s ll h hs hl
  by_cases c6 : k = 6
  · subst c6
    by_cases h : n = 0
    · subst h
      by_cases h : s = E0
      · subst h; exact here6_0 0 E0 ll hs hl
      · exact here6_s 0 s ll h hs hl
    · exact here6_n n s ll h hs hl
  by_cases c7 : k = 7
  · subst c7
    by_cases h : n = 0
    · subst h
      by_cases h : s = E0
      · subst h; exact here7_0 0 E0 ll hs hl
      · exact here7_s 0 s ll h hs hl
    · exact here7_n n s ll h hs hl
  by_cases c8 : k = 8
  · subst c8
    by_cases h : n = 0
    · subst h
      by_cases h : s = E0
      · subst h; exact here8_0 0 E0 ll hs hl
      · exact here8_s 0 s ll h hs hl
    · exact here8_n n s ll h hs hl
  by_cases c9 : k = 9
  · subst c9
    by_cases h : n = 0
    · subst h
      by_cases h : s = E0
      · subst h; exact here9_0 0 E0 ll hs hl
      · exact here9_s 0 s ll h hs hl
    · exact here9_n n s ll h hs hl
  by_cases c10 : k = 10
  · subst c10
    by_cases h : n = 0
    · subst h
      by_cases h : s = E0
      · subst h; exact here10_0 0 E0 ll hs hl
      · exact here10_s 0 s ll h hs hl
    · exact here10_n n s ll h hs hl
  by_cases h : n = 0
  · subst h
    by_cases h : s = E0
    · subst h; exact here_0 0 E0 ll k c1 c2 c3 c4 c5 c6 c7 c8 c9 c10 c11 c12 hs hl
    · exact here_s 0 s ll k c1 c2 c3 c4 c5 c6 c7 c8 c9 c10 c11 c12 h hs hl
  · exact here_n n s ll k c1 c2 c3 c4 c5 c6 c7 c8 c9 c10 c11 c12 h hs hl
end Go.Proofs.YtkolflcjkofleaaDoor

namespace Go.Proofs.YtkolflcjkofleaaDoor
open Go.ChangeShapes Go.WideShapes Go.ChangeAt Go.RowKit
set_option linter.unusedVariables false
set_option maxRecDepth 8000

theorem cloneI_any (s : ByteArray) (w : World) (hlim : s.size ≤ 1099511627776) : Calls Tryd.prog 69 #[.string s] w fun e w' => e = .returned (.string s) ∧ Below w.heap.size w w' := by
  have H := hide (clone_any s w (by omega))
  go_enter Tryd.func69, Tryd.ntmps69
  go_wp2_with fail
  refine (unhide H).mono ?_
  rintro e w1 ⟨rfl, hb1⟩
  go_wp2
  go_ret
  exact ⟨rfl, hb1⟩
theorem num_dec (x : ByteArray) : (∃ m, m < 65536 ∧ x = strOf (octD m)) ∨ ∀ m, m < 65536 → x ≠ strOf (octD m) := by
  cases h : numV x with
  | some m => exact .inl ⟨m, numV_bd h⟩
  | none => exact .inr fun m hm e => by rw [numV_yes hm e] at h; cases h
end Go.Proofs.YtkolflcjkofleaaDoor
