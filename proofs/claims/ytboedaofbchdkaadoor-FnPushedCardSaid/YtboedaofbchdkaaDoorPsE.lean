/- Contracts over this seat's translation, laid together; conditions stand as hypotheses of each. -/
import Derived.Test.YtboedaofbchdkaaDoorPsB
import Derived.Test.YtboedaofbchdkaaDoorPsC
import Derived.Test.YtboedaofbchdkaaDoorPsD
import Derived.OrdersHeld
import Derived.Deep.RegionHeld
import Derived.Maps.AppendAt

namespace Go.Proofs.YtboedaofbchdkaaDoor
open Go.ChangeShapes Go.WideShapes Go.ChangeAt Go.RowKit
set_option linter.unusedVariables false
set_option maxRecDepth 8000
def Is.code (i : Is) : Int :=
  if i.op ≤ 6 then baseAt i.op.toNat + i.s.six * 64 + i.d.six
  else if i.op ≤ 14 then baseAt i.op.toNat + i.d.six
  else if i.op = 15 then baseAt i.op.toNat + i.n * 64 + i.d.six
  else if i.op = 16 ∨ i.op = 23 then baseAt i.op.toNat + i.n
  else if i.op ≤ 21 then baseAt i.op.toNat + i.n % 256
  else baseAt i.op.toNat
def Is.xs (i : Is) : List Int := (if i.op ≤ 6 ∧ i.s.hasX = true then [i.s.x] else []) ++ (if i.op ≤ 15 ∧ i.d.hasX = true then [i.d.x] else [])
def Is.enc (i : Is) : List Int := if i.ok = true then i.code :: i.xs else []
theorem od_ok {o : Od} (h : o.ok = true) : (0 ≤ o.m ∧ o.m ≤ 7 ∧ 0 ≤ o.r ∧ o.r ≤ 7) ∧ 0 ≤ o.x ∧ o.x ≤ 65535 ∧ (o.hasX = true ∨ o.x = 0) := by
  unfold Od.ok inB at h
  simp only [Bool.and_eq_true, Bool.or_eq_true, decide_eq_true_eq, beq_iff_eq] at h
  obtain ⟨⟨⟨⟨h1, h2⟩, h3, h4⟩, h5, h6⟩, h7⟩ := h
  exact ⟨⟨h1, h2, h3, h4⟩, h5, h6, h7⟩
theorem od_zero {o : Od} (h : o.zero = true) : o.m = 0 ∧ o.r = 0 ∧ o.x = 0 := by
  unfold Od.zero at h
  simpa using h
theorem is_ok {i : Is} (h : i.ok = true) : (1 ≤ i.op ∧ i.op ≤ 23) ∧ (i.op ≤ 6 → i.s.ok = true) ∧ (i.op ≤ 15 → i.d.ok = true) ∧ (6 < i.op → i.s.zero = true) ∧ (15 < i.op → i.d.zero = true) ∧ (-128 ≤ i.n ∧ i.n ≤ 255) ∧ ((i.op ≤ 14 ∨ i.op = 22) → i.n = 0) ∧ ((i.op = 15 ∨ i.op = 16) → 0 ≤ i.n ∧ i.n ≤ 7) ∧ (17 ≤ i.op ∧ i.op ≤ 21 → i.n ≤ 127) ∧ (i.op = 23 → 0 ≤ i.n) := by
  unfold Is.ok at h
  simp only [inB, Bool.and_eq_true, decide_eq_true_eq, beq_iff_eq, Bool.or_eq_true, Bool.not_eq_true'] at h
  split at h
  · simp only [Bool.and_eq_true, beq_iff_eq] at h
    obtain ⟨⟨h1, h2⟩, h3⟩ := h
    refine ⟨by omega, fun _ => h1, fun _ => h2, fun _ => by omega, fun _ => by omega, by omega, fun _ => h3, fun _ => by omega, fun _ => by omega, fun _ => by omega⟩
  split at h
  · simp only [Bool.and_eq_true, beq_iff_eq] at h
    obtain ⟨⟨h1, h2⟩, h3⟩ := h
    refine ⟨by omega, fun _ => by omega, fun _ => h2, fun _ => h1, fun _ => by omega, by omega, fun _ => h3, fun _ => by omega, fun _ => by omega, fun _ => by omega⟩
  split at h
  · simp only [Bool.and_eq_true, decide_eq_true_eq] at h
    obtain ⟨⟨h1, h2⟩, h3⟩ := h
    refine ⟨by omega, fun _ => by omega, fun _ => h2, fun _ => h1, fun _ => by omega, by omega, fun _ => by omega, fun _ => by omega, fun _ => by omega, fun _ => by omega⟩
  split at h
  · cases h
  rename_i hz
  have hs : i.s.zero = true := by cases e : i.s.zero <;> simp_all
  have hd : i.d.zero = true := by cases e : i.d.zero <;> simp_all
  clear hz
  split at h
  · simp only [Bool.and_eq_true, decide_eq_true_eq] at h
    refine ⟨by omega, fun _ => by omega, fun _ => by omega, fun _ => hs, fun _ => hd, by omega, fun _ => by omega, fun _ => by omega, fun _ => by omega, fun _ => by omega⟩
  split at h
  · simp only [Bool.and_eq_true, decide_eq_true_eq] at h
    refine ⟨by omega, fun _ => by omega, fun _ => by omega, fun _ => hs, fun _ => hd, by omega, fun _ => by omega, fun _ => by omega, fun _ => by omega, fun _ => by omega⟩
  split at h
  · simp only [beq_iff_eq] at h
    refine ⟨by omega, fun _ => by omega, fun _ => by omega, fun _ => hs, fun _ => hd, by omega, fun _ => by omega, fun _ => by omega, fun _ => by omega, fun _ => by omega⟩
  split at h
  · simp only [Bool.and_eq_true, decide_eq_true_eq] at h
    refine ⟨by omega, fun _ => by omega, fun _ => by omega, fun _ => hs, fun _ => hd, by omega, fun _ => by omega, fun _ => by omega, fun _ => by omega, fun _ => by omega⟩
  · cases h
theorem alloc_cell {w : World} {p : Addr} {v : Value} (h : w.cell? p = some v) (o : Obj) : (w.alloc o).cell? p = some v :=
  ((Below.refl w.heap.size w).alloc (Nat.le_refl _) o).cell (World.block_lt_of_cell? w _ h) |>.trans h
theorem box_app {B C : Nat} {W w3 w4 : World} {v : Value} {ns : List Int} (h : Below B W w3) (hz : W.heap.size = B) (o : Obj) (hg : (w3.alloc o).grownBy w4 v.ownBlock) (ho : OwnN w3 C v ns) (hC : B ≤ C) : Below B W w4 :=
  (h.alloc (by have := h.size; omega) o).grown hg (by have := h.size; simp; omega) (fun k e => Nat.le_trans hC (ho.lt e).1)
theorem own_one (w : World) (x : Int) : OwnN (w.alloc (.cells #[.int .i64 x] 3)) w.heap.size (.slice (some ⟨w.heap.size, 0, none⟩) 1 1) [x] :=
  ⟨rfl, .inr ⟨w.heap.size, 1, _, rfl, Nat.le_refl _, Array.getElem?_push_size, Nat.le_refl _, by unfold maxLen; omega, rfl, rfl⟩⟩
end Go.Proofs.YtboedaofbchdkaaDoor

namespace Go.Proofs.YtboedaofbchdkaaDoor
open Go.ChangeShapes Go.WideShapes Go.ChangeAt Go.RowKit
set_option linter.unusedVariables false
set_option maxRecDepth 8000
set_option linter.unusedSimpArgs false
def Wd (ns : List Int) : Prop := ∀ x ∈ ns, 0 ≤ x ∧ x ≤ 65535
theorem nAt_mem {ns : List Int} {i : Nat} (h : i < ns.length) : nAt ns i ∈ ns := by
  unfold nAt
  rw [List.getD_eq_getElem?_getD, List.getElem?_eq_getElem h]
  exact List.getElem_mem h
end Go.Proofs.YtboedaofbchdkaaDoor

namespace Go.Proofs.YtboedaofbchdkaaDoor
open Go.ChangeShapes Go.WideShapes Go.ChangeAt Go.RowKit
set_option linter.unusedVariables false
set_option maxRecDepth 8000
set_option linter.unusedSimpArgs false
/-- The byte at a place, or what stands for one. -/
def atV (xs : List UInt8) (i : Nat) : Int := if i < xs.length then bAt xs i else ((i : Int) * 31 + (xs.length : Int) * 7) % 256
theorem atV_bd (xs : List UInt8) (i : Nat) : 0 ≤ atV xs i ∧ atV xs i ≤ 255 := by
  unfold atV
  split
  · exact bAt_bd xs i
  · omega
set_option maxHeartbeats 400000 in
theorem at_any (a : Option Addr) (len cap i : Nat) (xs : List UInt8) (w : World) (hi : i ≤ 10) (hl : xs.length = len) (hm : len ≤ 1048576) (hr : Rd w a xs) : Calls Tryd.prog 7 #[.slice a len cap, .int .i64 (i : Int)] w fun e w' => e = .returned (.int .i64 (atV xs i)) ∧ w' = w := by
  unfold atV
  rw [hl]
  by_cases h : i < len
  · rw [if_pos h]
    rcases hr with rfl | ⟨b, off, rfl, hb, hc⟩
    · simp at hl; omega
    have hcx := hc i (by omega)
    have hbd := bAt_bd xs i
    clear hc
    go_enter Tryd.func7, Tryd.ntmps7
    go_wp2
    go_ret
    exact ⟨rfl, rfl⟩
  · rw [if_neg h]
    go_enter Tryd.func7, Tryd.ntmps7
    go_wp2
    go_ret
    exact ⟨rfl, rfl⟩
theorem big_free (a : Option Addr) (len cap : Nat) (w : World) (hm : len ≤ 9223372036854775807) : Calls Tryd.prog 6 #[.slice a len cap] w fun e w' => e = .returned (.bool (decide ((1048576 : Int) < (len : Int)))) ∧ w' = w := big_any a len cap w hm
end Go.Proofs.YtboedaofbchdkaaDoor

namespace Go.Proofs.YtboedaofbchdkaaDoor
open Go.ChangeShapes Go.WideShapes Go.ChangeAt Go.RowKit
set_option linter.unusedVariables false
set_option maxRecDepth 8000
set_option linter.unusedSimpArgs false
theorem Wd.set {ns : List Int} (h : Wd ns) (k : Nat) (v : Int) (h0 : 0 ≤ v) (h1 : v ≤ 65535) : Wd (ns.set k v) := fun x hx => by
  rcases List.mem_or_eq_of_mem_set hx with h' | h'
  · exact h x h'
  · omega
theorem wdB_of {ns : List Int} (h : Wd ns) : wdB ns = true := by
  unfold wdB
  rw [List.all_eq_true]
  intro x hx
  have := h x hx
  exact inB_t _ _ _ this
theorem Wd.of {ns : List Int} (h : wdB ns = true) : Wd ns := fun x hx => by
  unfold wdB at h
  rw [List.all_eq_true] at h
  exact inB_b (h x hx)
/-- A machine's lists are right. -/
structure Dk (d : Md) : Prop where
  ml : d.m.length = 256
  mw : Wd d.m
  rl : d.r.length = 8
  rw : Wd d.r
  il : d.i.length ≤ 50
  iw : Wd d.i
  ol : d.o.length ≤ 50
  ow : Wd d.o
theorem Dk.ok {d : Md} (h : Dk d) (st : Int) (h0 : 0 ≤ st) (h1 : st ≤ 2) : d.ok st = true := by
  unfold Md.ok
  rw [h.ml, h.rl, wdB_of h.mw, wdB_of h.rw, wdB_of h.iw, wdB_of h.ow, decide_eq_true (show (d.i.length : Int) ≤ 50 by have := h.il; omega), decide_eq_true (show (d.o.length : Int) ≤ 50 by have := h.ol; omega), inB_t st 0 2 ⟨h0, h1⟩]
  rfl
theorem Dk.setM {d : Md} (h : Dk d) (k : Nat) (v : Int) (h0 : 0 ≤ v) (h1 : v ≤ 65535) : Dk ⟨d.m.set k v, d.r, d.i, d.o⟩ := { h with ml := by simp [h.ml], mw := h.mw.set k v h0 h1 }
theorem Dk.setR {d : Md} (h : Dk d) (k : Nat) (v : Int) (h0 : 0 ≤ v) (h1 : v ≤ 65535) : Dk ⟨d.m, d.r.set k v, d.i, d.o⟩ := { h with rl := by simp [h.rl], rw := h.rw.set k v h0 h1 }
theorem Dk.small {d : Md} (h : Dk d) : d.small := ⟨by have := h.ml; omega, by have := h.rl; omega, by have := h.il; omega, by have := h.ol; omega⟩
theorem wd_z : Wd z256 := fun x hx => by
  unfold z256 at hx
  rw [List.mem_replicate] at hx
  omega
theorem Wd.over {ns im : List Int} (h : Wd ns) (k : Nat) (hi : Wd im) : Wd (over ns k im) := fun x hx => by
  unfold Go.Proofs.YtboedaofbchdkaaDoor.over at hx
  rcases List.mem_append.1 hx with h1 | h1
  · exact h x (List.mem_of_mem_take h1)
  · rcases List.mem_append.1 h1 with h2 | h2
    · exact hi x h2
    · exact h x (List.mem_of_mem_drop h2)
theorem wd_newR (st : Int) (h0 : 0 ≤ st) (h1 : st ≤ 65535) : Wd (newR st) := fun x hx => by
  unfold newR at hx
  simp at hx
  omega
theorem dk_new {ni nn : List Int} {k : Nat} {st : Int} (hk : k + ni.length ≤ 256) (hi : Wd ni) (hn : Wd nn) (ln : nn.length ≤ 50) (h0 : 0 ≤ st) (h1 : st ≤ 65535) : Dk ⟨over z256 k ni, newR st, nn, []⟩ :=
  ⟨by rw [over_len _ _ _ (by rw [z256_len]; omega), z256_len], wd_z.over k hi, rfl, wd_newR st h0 h1, ln, hn, Nat.zero_le _, fun x hx => by cases hx⟩
section
variable {w wr w' : World} {cb : Nat} {a : Option Addr} {len cap : Nat} {xs : List UInt8} {y : Mv} {g5 gm gr n c : Nat} {d : Md}
end
end Go.Proofs.YtboedaofbchdkaaDoor

namespace Go.Proofs.YtboedaofbchdkaaDoor
open Go.ChangeShapes Go.WideShapes Go.ChangeAt Go.RowKit
set_option linter.unusedVariables false
set_option maxRecDepth 8000
set_option linter.unusedSimpArgs false
theorem Dk.regS {d : Md} (h : Dk d) (k : Nat) (v : Int) : Dk (d.reg k (v % 65536)) := h.setR k _ (by omega) (by omega)
theorem dk_plS {d : Md} (h : Dk d) (mo re : Nat) : Dk (d.plD mo re) := by
  unfold Md.plD Md.adD Md.fet
  repeat' split
  all_goals first | exact h | exact h.regS _ _
theorem dk_stS {d : Md} (h : Dk d) (r p n : Int) : Dk (d.stD r p n) := by
  unfold Md.stD Md.put
  repeat' split
  all_goals first | exact h | exact h.setM _ _ (by omega) (by omega) | exact h.setR _ _ (by omega) (by omega)
theorem Dk.r8 {d : Md} (h : Dk d) : d.R8 := ⟨h.rl, fun j hj => h.rw _ (nAt_mem (by have := h.rl; omega))⟩
theorem Dk.getb {d : Md} (h : Dk d) (a : Int) : 0 ≤ d.get a ∧ d.get a ≤ 65535 := by
  unfold Md.get
  split
  · rename_i hh
    obtain ⟨ha, hl⟩ := has_t hh
    obtain ⟨a0, _, _⟩ := adB_t ha
    exact h.mw _ (nAt_mem (by omega))
  · omega
theorem Dk.ldb {d : Md} (h : Dk d) (r a : Int) : 0 ≤ d.ldV r a ∧ d.ldV r a ≤ 65535 := by
  unfold Md.ldV
  split
  · exact h.getb a
  · split
    · rename_i h1 h2
      unfold Md.ldB at h2
      rw [if_neg h1] at h2
      simp only [Bool.and_eq_true] at h2
      obtain ⟨b3, b4⟩ := inB_b h2.1
      exact h.rw _ (nAt_mem (by omega))
    · omega
/-- A word's sign. -/
def sgB (n : Int) : Bool := decide (32768 ≤ n % 65536)
/-- What a machine holds, but for how it stands. -/
structure Ms where
  d : Md
  n : Bool
  z : Bool
  v : Bool
  c : Bool
def Ms.fl (t : Ms) (st : Int) : Bool × Bool × Bool × Bool × Int := (t.n, t.z, t.v, t.c, st)
section
variable {w w' : World} {B g : Nat} {y : Mv} {t : Ms} {st : Int}
end
/-- What a change of the machine at a pointer leaves: all but its own row and lists. -/
structure Fm (w w' : World) (g : Nat) (y y' : Mv) : Prop where
  os : w'.os = w.os
  tape : w'.tape = w.tape
  output : w'.output = w.output
  size : w.heap.size ≤ w'.heap.size
  blk : ∀ k, k < w.heap.size → k ≠ g → ¬ y.at k → w'.heap[k]? = w.heap[k]?
  new : ∀ b, y'.at b → y.at b ∨ w.heap.size ≤ b
section
variable {w w1 w2 : World} {g : Nat} {y y1 y2 : Mv}
theorem Fm.trans (h : Fm w w1 g y y1) (k : Fm w1 w2 g y1 y2) : Fm w w2 g y y2 :=
  ⟨k.os.trans h.os, k.tape.trans h.tape, k.output.trans h.output, Nat.le_trans h.size k.size,
   fun b hb hg hy => (k.blk b (Nat.lt_of_lt_of_le hb h.size) hg (fun e => (h.new b e).elim hy (fun l => by omega))).trans (h.blk b hb hg hy),
   fun b hb => (k.new b hb).elim (fun e => h.new b e) (fun l => .inr (Nat.le_trans h.size l))⟩
theorem Fm.of (h : Below w.heap.size w w1) : Fm w w1 g y y := ⟨h.os, h.tape, h.output, h.size, fun k hk _ _ => h.block k hk, fun b hb => .inl hb⟩
theorem Fm.grown {b : Nat} (h : w.grownBy w1 (some b)) (hb : b = g ∨ y.at b) (ha : ∀ k, y1.at k → y.at k) : Fm w w1 g y y1 :=
  ⟨h.os, h.tape, h.output, h.size, fun k hk hg hy => h.block k hk (fun e => by cases e; exact hb.elim hg hy), fun k hk => .inl (ha k hk)⟩
theorem Fm.row {k : Nat} {o : Obj} (h : Fm w w1 g y y1) (hr : w.heap[k]? = some o) (hg : k ≠ g) (hy : ¬ y.at k) : w1.heap[k]? = some o := (h.blk k (row_lt hr) hg hy).trans hr
theorem Fm.bel {B : Nat} (h : Fm w w1 g y y1) (hB : B ≤ w.heap.size) (hg : B ≤ g) (hy : ∀ b, y.at b → B ≤ b) : Below B w w1 :=
  ⟨h.os, h.tape, h.output, h.size, fun k hk => h.blk k (by omega) (by omega) (fun e => by have := hy k e; omega)⟩
end
def Ms.nz (t : Ms) (r : Int) (v : Bool) : Ms := { t with n := sgB r, z := (r % 65536 == 0), v := v }
end Go.Proofs.YtboedaofbchdkaaDoor

namespace Go.Proofs.YtboedaofbchdkaaDoor
open Go.ChangeShapes Go.WideShapes Go.ChangeAt Go.RowKit
set_option linter.unusedVariables false
set_option maxRecDepth 8000
set_option linter.unusedSimpArgs false
theorem row2S_0 {w : World} {g : Nat} {a b : Int} {t : TypeId} (h : w.heap[g]? = some (.cells #[.int .i64 a, .int .i64 b] t (0, 0))) : w.cell? ⟨g, 0, none⟩ = some (.int .i64 a) := (cell_of_row w g 0 _ t _ h).trans rfl
theorem row2S_1 {w : World} {g : Nat} {a b : Int} {t : TypeId} (h : w.heap[g]? = some (.cells #[.int .i64 a, .int .i64 b] t (0, 0))) : w.cell? ⟨g, 1, none⟩ = some (.int .i64 b) := (cell_of_row w g 1 _ t _ h).trans rfl
def Ms.st (t : Ms) (qr qa n : Int) : Ms := { t with d := t.d.stD qr qa n }
def Ms.cs (t : Ms) (b : Bool) : Ms := { t with c := b }
/-- What an instruction of two operands makes of a machine. -/
def Ms.two (t : Ms) (op : Nat) (s qr qa : Int) : Ms :=
  match op with
  | 1 => (t.nz s false).st qr qa s
  | 2 => (t.nz ((s - t.d.ldV qr qa) % 65536) ((sgB s != sgB (t.d.ldV qr qa)) && (sgB ((s - t.d.ldV qr qa) % 65536) == sgB (t.d.ldV qr qa)))).cs (decide (s < t.d.ldV qr qa))
  | 3 => (t.nz (bits .andNot .i64 (t.d.ldV qr qa) s) false).st qr qa (bits .andNot .i64 (t.d.ldV qr qa) s)
  | 4 => (t.nz (bits .or .i64 (t.d.ldV qr qa) s) false).st qr qa (bits .or .i64 (t.d.ldV qr qa) s)
  | 5 => ((t.nz ((t.d.ldV qr qa + s) % 65536) ((sgB s == sgB (t.d.ldV qr qa)) && (sgB ((t.d.ldV qr qa + s) % 65536) != sgB (t.d.ldV qr qa)))).cs (decide (65535 < t.d.ldV qr qa + s))).st qr qa ((t.d.ldV qr qa + s) % 65536)
  | _ => ((t.nz ((t.d.ldV qr qa - s) % 65536) ((sgB s != sgB (t.d.ldV qr qa)) && (sgB ((t.d.ldV qr qa - s) % 65536) == sgB s))).cs (decide (t.d.ldV qr qa < s))).st qr qa ((t.d.ldV qr qa - s) % 65536)
end Go.Proofs.YtboedaofbchdkaaDoor

namespace Go.Proofs.YtboedaofbchdkaaDoor
open Go.ChangeShapes Go.WideShapes Go.ChangeAt Go.RowKit
set_option linter.unusedVariables false
set_option maxRecDepth 8000
set_option linter.unusedSimpArgs false
/-- A word with its sign. -/
def sgV (n : Int) : Int := if 32768 ≤ n % 65536 then n % 65536 - 65536 else n % 65536
theorem sgV_b (n : Int) : -32768 ≤ sgV n ∧ sgV n ≤ 32767 := by
  unfold sgV
  split <;> omega
def shR (op : Nat) (d : Int) : Int := if op = 12 then (sgV d / 2) % 65536 else (d * 2) % 65536
def shC (op : Nat) (d : Int) : Bool := if op = 12 then (bits .and .i64 d 1 == 1) else sgB d
/-- A shift. -/
def Ms.shift (t : Ms) (op : Nat) (d qr qa : Int) : Ms := ((t.nz (shR op d) (sgB (shR op d) != shC op d)).cs (shC op d)).st qr qa (shR op d)
end Go.Proofs.YtboedaofbchdkaaDoor

namespace Go.Proofs.YtboedaofbchdkaaDoor
open Go.ChangeShapes Go.WideShapes Go.ChangeAt Go.RowKit
set_option linter.unusedVariables false
set_option maxRecDepth 8000
set_option linter.unusedSimpArgs false
/-- What an instruction of one operand makes of a machine. -/
def Ms.one (t : Ms) (op : Nat) (qr qa : Int) : Ms :=
  match op with
  | 7 => ((t.nz 0 false).cs false).st qr qa 0
  | 8 => (t.nz (t.d.ldV qr qa + 1) (t.d.ldV qr qa == 32767)).st qr qa (t.d.ldV qr qa + 1)
  | 9 => (t.nz (t.d.ldV qr qa - 1) (t.d.ldV qr qa == 32768)).st qr qa (t.d.ldV qr qa - 1)
  | 10 => ((t.nz (-t.d.ldV qr qa) (t.d.ldV qr qa == 32768)).cs (t.d.ldV qr qa != 0)).st qr qa (-t.d.ldV qr qa)
  | 11 => (t.nz (t.d.ldV qr qa) false).cs false
  | 12 => t.shift 12 (t.d.ldV qr qa) qr qa
  | _ => t.shift 13 (t.d.ldV qr qa) qr qa
end Go.Proofs.YtboedaofbchdkaaDoor

namespace Go.Proofs.YtboedaofbchdkaaDoor
section
variable {P : Program} {ops : Array Oper} {Q : Exit → Act → World → Prop} {md : Region.Mode} {S : World → Prop} {last : Nat}
/-- Whatever order is picked from here on; S holds behind each operation, as long as 'last' has not come up. -/
def wpAnyL (P : Program) (md : Region.Mode) (ops : Array Oper) (Q : Exit → Act → World → Prop) (S : World → Prop) (last : Nat) : Nat → Array Bool → Act → World → Prop
  | 0, listed, a, w => Region.ready md ops listed = [] ∧ Q .normal a w
  | fuel + 1, listed, a, w =>
    (Region.ready md ops listed = [] → Q .normal a w) ∧
    ∀ i ∈ Region.ready md ops listed, wpOp P ops Q i (fun a' w' => ((listed.setIfInBounds i true).getD last true = false → S w') ∧ wpAnyL P md ops Q S last fuel (listed.setIfInBounds i true) a' w') a w
theorem wpAny_of_last : ∀ (fuel : Nat) (listed : Array Bool) (a : Act) (w : World), wpAnyL P md ops Q S last fuel listed a w → wpAny P md ops Q fuel listed a w
  | 0, _, _, _, h => h
  | fuel + 1, _, _, _, h => ⟨h.1, fun i hi => wpOp_mono (fun a' w' h' => wpAny_of_last fuel _ a' w' h'.2) (h.2 i hi)⟩
/-- Whether 'last' waits for i. -/
def lastB (md : Region.Mode) (ops : Array Oper) (last i : Nat) : Bool := ((ops[last]?).map fun o => o.after.any fun e => Region.binds md e && e.on == i).getD false
theorem lastB_spec {i : Nat} (h : lastB md ops last i = true) : ∀ ol, ops[last]? = some ol → ∃ e ∈ ol.after, Region.binds md e = true ∧ e.on = i := by
  intro ol ho
  unfold lastB at h
  rw [ho] at h
  simp only [Option.map_some, Option.getD_some] at h
  obtain ⟨e, he, hb⟩ := Array.any_eq_true'.1 h
  simp only [Bool.and_eq_true, beq_iff_eq] at hb
  exact ⟨e, he, hb.1, hb.2⟩
theorem wpAnyL_firstS {i : Nat} {oi : Oper} {v : Value} (hi : ops[i]? = some oi) (hsel : ∀ (j : Nat) (o : Oper) cs b, ops[j]? = some o → o.op ≠ .select cs b)
    (hQ : ∀ c a w, Q (.panic c) (a.put oi.dst v) w → Q (.panic c) a w) (hil : i ≠ last) (hl : ∀ ol, ops[last]? = some ol → ∃ e ∈ ol.after, Region.binds md e = true ∧ e.on = i) :
    ∀ (fuel : Nat) (listed : Array Bool) (a : Act) (w : World),
      (∀ j oj, ops[j]? = some oj → j ≠ i → listed.getD j true = false → (∀ e ∈ oj.after, Region.binds md e = true → e.on ≠ i) → oi.apart ops oj = true) →
      i ∈ Region.ready md ops listed → YieldsIf P ops S oi v a → S w → listed.getD last true = false →
      wpAnyL P md ops Q S last fuel (listed.setIfInBounds i true) (a.put oi.dst v) w → wpAnyL P md ops Q S last (fuel + 1) listed a w := by
  intro fuel
  induction fuel with
  | zero =>
    intro listed a w _ hr hy hS hp H
    refine ⟨fun h => (by rw [h] at hr; cases hr), fun j hj => ?_⟩
    by_cases hji : j = i
    · subst hji; exact hy.wpOp hi hS ⟨fun _ => hS, H⟩
    · have := ready_mono hj hji
      rw [H.1] at this
      cases this
  | succ fuel ih =>
    intro listed a w hfree hr hy hS hp H
    refine ⟨fun h => (by rw [h] at hr; cases hr), fun j hj => ?_⟩
    by_cases hji : j = i
    · subst hji; exact hy.wpOp hi hS ⟨fun _ => hS, H⟩
    · have h1 := H.2 j (ready_mono hj hji)
      obtain ⟨hjun, oj, hoj, hall⟩ := mem_ready.1 hj
      have hnot : ∀ e ∈ oj.after, Region.binds md e = true → e.on ≠ i := fun e he hb heq => by
        have h1 := hall e he hb
        have h0 := (mem_ready.1 hr).1
        rw [heq] at h1
        rcases Nat.lt_or_ge i listed.size with h' | h'
        · simp [h'] at h0 h1; rw [h0] at h1; cases h1
        · simp [Array.getElem?_eq_none h'] at h1
      have hjl : j ≠ last := fun e => by
        subst e
        obtain ⟨e, he, hb, ho⟩ := hl oj hoj
        exact hnot e he hb ho
      have h2 := wpOp_putIf hoj (hfree j oj hoj hji hjun hnot) (fun cs b => hsel i oi cs b hi) (fun cs b => hsel j oj cs b hoj) hQ hy h1
      have hfree' : ∀ k ok, ops[k]? = some ok → k ≠ i → (listed.setIfInBounds j true).getD k true = false →
          (∀ e ∈ ok.after, Region.binds md e = true → e.on ≠ i) → oi.apart ops ok = true := fun k ok hk hki hun hno => by
        refine hfree k ok hk hki ?_ hno
        by_cases hjk : j = k
        · subst hjk; exact hjun
        · rw [getD_set_ne true hjk] at hun; exact hun
      have hp' : (listed.setIfInBounds j true).getD last true = false := by rw [getD_set_ne true hjl]; exact hp
      have hp2 : ((listed.setIfInBounds i true).setIfInBounds j true).getD last true = false := by rw [getD_set_ne true hjl, getD_set_ne true hil]; exact hp
      refine wpOp_mono (fun a' w' h3 => ⟨fun _ => h3.2.1 hp2, ih (listed.setIfInBounds j true) a' w' hfree' (ready_mono hr (Ne.symm hji)) h3.1 (h3.2.1 hp2) hp' ?_⟩) h2
      rw [Array.setIfInBounds_comm _ _ hji]
      exact h3.2.2
theorem wpAnyL_firstW {i : Nat} {oi : Oper} {v : Value} (hi : ops[i]? = some oi) (hsel : ∀ (j : Nat) (o : Oper) cs b, ops[j]? = some o → o.op ≠ .select cs b)
    (hQ : ∀ c a w, Q (.panic c) (a.put oi.dst v) w → Q (.panic c) a w) (hil : i ≠ last) :
    ∀ (fuel : Nat) (listed : Array Bool) (a : Act) (w : World),
      (∀ j oj, ops[j]? = some oj → j ≠ i → listed.getD j true = false → (∀ e ∈ oj.after, Region.binds md e = true → e.on ≠ i) → oi.apart ops oj = true) →
      i ∈ Region.ready md ops listed → YieldsIf P ops (fun _ => True) oi v a → (listed.getD last true = false → S w) →
      wpAnyL P md ops Q S last fuel (listed.setIfInBounds i true) (a.put oi.dst v) w → wpAnyL P md ops Q S last (fuel + 1) listed a w := by
  intro fuel
  induction fuel with
  | zero =>
    intro listed a w _ hr hy hS H
    refine ⟨fun h => (by rw [h] at hr; cases hr), fun j hj => ?_⟩
    by_cases hji : j = i
    · subst hji; exact hy.wpOp hi trivial ⟨fun h => hS (by rw [getD_set_ne true hil] at h; exact h), H⟩
    · have := ready_mono hj hji
      rw [H.1] at this
      cases this
  | succ fuel ih =>
    intro listed a w hfree hr hy hS H
    refine ⟨fun h => (by rw [h] at hr; cases hr), fun j hj => ?_⟩
    by_cases hji : j = i
    · subst hji; exact hy.wpOp hi trivial ⟨fun h => hS (by rw [getD_set_ne true hil] at h; exact h), H⟩
    · have h1 := H.2 j (ready_mono hj hji)
      obtain ⟨hjun, oj, hoj, hall⟩ := mem_ready.1 hj
      have hnot : ∀ e ∈ oj.after, Region.binds md e = true → e.on ≠ i := fun e he hb heq => by
        have h1 := hall e he hb
        have h0 := (mem_ready.1 hr).1
        rw [heq] at h1
        rcases Nat.lt_or_ge i listed.size with h' | h'
        · simp [h'] at h0 h1; rw [h0] at h1; cases h1
        · simp [Array.getElem?_eq_none h'] at h1
      have h2 := wpOp_putIf hoj (hfree j oj hoj hji hjun hnot) (fun cs b => hsel i oi cs b hi) (fun cs b => hsel j oj cs b hoj) hQ hy h1
      have hfree' : ∀ k ok, ops[k]? = some ok → k ≠ i → (listed.setIfInBounds j true).getD k true = false →
          (∀ e ∈ ok.after, Region.binds md e = true → e.on ≠ i) → oi.apart ops ok = true := fun k ok hk hki hun hno => by
        refine hfree k ok hk hki ?_ hno
        by_cases hjk : j = k
        · subst hjk; exact hjun
        · rw [getD_set_ne true hjk] at hun; exact hun
      have hs2 : ∀ w', ((((listed.setIfInBounds i true).setIfInBounds j true).getD last true = false) → S w') → ((listed.setIfInBounds j true).getD last true = false → S w') := fun w' h hp => h (by
        rw [Array.setIfInBounds_comm _ _ (Ne.symm hji), getD_set_ne true hil]; exact hp)
      refine wpOp_mono (fun a' w' h3 => ⟨hs2 w' h3.2.1, ih (listed.setIfInBounds j true) a' w' hfree' (ready_mono hr (Ne.symm hji)) h3.1 (hs2 w' h3.2.1) ?_⟩) h2
      rw [Array.setIfInBounds_comm _ _ hji]
      exact h3.2.2
/-- Take number i first: it reads what S says, and 'last' waits for it. -/
theorem wpAnyL_takeS {i : Nat} {oi : Oper} {v : Value} {fuel : Nat} {listed : Array Bool} {a : Act} {w : World} (hi : ops[i]? = some oi)
    (hs : Region.noSelect ops = true) (hf : Region.free md ops listed i = true) (hr : (Region.ready md ops listed).contains i = true) (hb : lastB md ops last i = true) (hl : (decide (i ≠ last) && !listed.getD last true) = true)
    (hQ : ∀ c a w, Q (.panic c) (a.put oi.dst v) w → Q (.panic c) a w) (hy : YieldsIf P ops S oi v a) (hS : S w)
    (h : wpAnyL P md ops Q S last fuel (listed.setIfInBounds i true) (a.put oi.dst v) w) : wpAnyL P md ops Q S last (fuel + 1) listed a w := by
  simp only [Bool.and_eq_true, decide_eq_true_eq, Bool.not_eq_true'] at hl
  exact wpAnyL_firstS hi (Region.noSelect_spec hs) hQ hl.1 (lastB_spec hb) fuel listed a w (Region.free_spec hi hf) (by simpa using hr) hy hS hl.2 h
/-- Take number i first: it yields its value in whatever world. -/
theorem wpAnyL_takeW {i : Nat} {oi : Oper} {v : Value} {fuel : Nat} {listed : Array Bool} {a : Act} {w : World} (hi : ops[i]? = some oi)
    (hs : Region.noSelect ops = true) (hf : Region.free md ops listed i = true) (hr : (Region.ready md ops listed).contains i = true) (hl : decide (i ≠ last) = true)
    (hQ : ∀ c a w, Q (.panic c) (a.put oi.dst v) w → Q (.panic c) a w) (hy : YieldsIf P ops (fun _ => True) oi v a) (hS : S w ∨ listed.getD last true = true)
    (h : wpAnyL P md ops Q S last fuel (listed.setIfInBounds i true) (a.put oi.dst v) w) : wpAnyL P md ops Q S last (fuel + 1) listed a w :=
  wpAnyL_firstW hi (Region.noSelect_spec hs) hQ (by simpa using hl) fuel listed a w (Region.free_spec hi hf) (by simpa using hr) hy (fun hp => hS.elim id (fun e => by rw [e] at hp; cases hp)) h
/-- One operation alone may come up. -/
theorem wpAnyL_one {i : Nat} {o : Oper} {fuel : Nat} {listed : Array Bool} {a : Act} {w : World} (hr : Region.ready md ops listed = [i]) (ho : ops[i]? = some o)
    (h : ∀ K' : Act → World → Prop, Shut (∀ a w, ((listed.setIfInBounds i true).getD last true = false → S w) → wpAnyL P md ops Q S last fuel (listed.setIfInBounds i true) a w → K' a w) → if Region.wanted o (yielded ops a.tmps) = true then Oper.wp P o a w K' Q else K' (a.put o.dst undef) w) :
    wpAnyL P md ops Q S last (fuel + 1) listed a w := by
  refine ⟨fun h0 => (by rw [hr] at h0; cases h0), fun j hj => ?_⟩
  rw [hr] at hj
  obtain rfl : j = i := by simpa using hj
  exact wpOp_step ho (fun K' hK => h K' (fun a w hS hW => hK a w ⟨hS, hW⟩))
theorem wpAnyL_done {listed : Array Bool} {a : Act} {w : World} (hr : Region.ready md ops listed = []) (h : Q .normal a w) : ∀ fuel, wpAnyL P md ops Q S last fuel listed a w
  | 0 => ⟨hr, h⟩
  | _ + 1 => ⟨fun _ => h, by rw [hr]; simp⟩
theorem wp_region_last {id : Nat} {a : Act} {w : World} (S : World → Prop) (last : Nat) (hm : P.follows .mixedOrders = true) (h : wpAnyL P .any ops Q S last ops.size (Array.replicate ops.size false) a w.drew) : (Code.region id ops true).wp P Q a w :=
  wp_region_any hm (wpAny_of_last _ _ _ _ h)
end
end Go.Proofs.YtboedaofbchdkaaDoor

namespace Go.Proofs.YtboedaofbchdkaaDoor
open Go.ChangeShapes Go.WideShapes Go.ChangeAt Go.RowKit
set_option linter.unusedVariables false
set_option maxRecDepth 8000
set_option linter.unusedSimpArgs false
def Ms.rg (t : Ms) (k : Nat) (v : Int) : Ms := { t with d := t.d.reg k v }
theorem Ms.rg_len (t : Ms) (k : Nat) (v : Int) : (t.rg k v).d.r.length = t.d.r.length := by unfold Ms.rg Md.reg; simp
section
variable {w : World} {B g gr rc : Nat} {y : Mv} {t : Ms} {st : Int}
end
def Ms.goes (t : Ms) (op : Nat) : Bool := match op with | 18 => !t.z | 19 => t.z | 20 => t.n == t.v | 21 => t.n != t.v | _ => true
def Ms.branch (t : Ms) (op : Nat) (n : Int) : Ms := if t.goes op = true then t.rg 7 ((nAt t.d.r 7 + 2 * n) % 65536) else t
end Go.Proofs.YtboedaofbchdkaaDoor

namespace Go.Proofs.YtboedaofbchdkaaDoor
open Go.ChangeShapes Go.WideShapes Go.ChangeAt Go.RowKit
set_option linter.unusedVariables false
set_option maxRecDepth 8000
set_option linter.unusedSimpArgs false
theorem bigA_setW {mem : List Int} (y : Mv) (k : Nat) (v : Int) (hm : mem.length = 256) (hk : k < 256) : (bigA mem y).setIfInBounds k (.int .i64 v) = bigA (mem.set k v) y := by
  unfold bigA
  rw [List.setIfInBounds_toArray, List.set_append_left _ _ (by rw [cellsN_length]; omega)]
  congr 2
  unfold cellsN
  rw [List.map_set]
theorem bigA_setF {mem : List Int} (y y' : Mv) (j : Nat) (v : Value) (hm : mem.length = 256) (he : y.cs.setIfInBounds j v = y'.cs) : (bigA mem y).setIfInBounds (256 + j) v = bigA mem y' := by
  unfold bigA
  rw [List.setIfInBounds_toArray, List.set_append_right _ _ (by rw [cellsN_length]; omega), cellsN_length, hm, show 256 + j - 256 = j by omega, ← he]
  congr 2
  simp
/-- The program's machine at a pointer; m0: what its list of words holds meanwhile. -/
structure Pz (w : World) (g B gr rc : Nat) (y : Mv) (t : Ms) (st : Int) (m0 : List Int) : Prop where
  row : w.heap[g]? = some (.cells (bigA t.d.m y) 55 (0, 0))
  len : t.d.m.length = 256
  own : OwnM w B y ⟨m0, t.d.r, t.d.i, t.d.o⟩
  er : y.r = ⟨some ⟨gr, 0, none⟩, 8, rc⟩
  r8 : t.d.r.length = 8
  fl : y.fl = t.fl st
  lo : B ≤ g
  ne : ∀ b, y.at b → b ≠ g
section
variable {w w' : World} {g B gr rc : Nat} {y : Mv} {t : Ms} {st : Int} {m0 : List Int}
theorem Pz.later (h : Pz w g B gr rc y t st m0) (hb : Below w.heap.size w w') : Pz w' g B gr rc y t st m0 := ⟨row_lat h.row hb, h.len, h.own.later hb, h.er, h.r8, h.fl, h.lo, h.ne⟩
theorem Pz.atr (h : Pz w g B gr rc y t st m0) : y.at gr := .inr (.inl (by rw [h.er]; rfl))
theorem Pz.gl (h : Pz w g B gr rc y t st m0) : g < w.heap.size := row_lt h.row
theorem Pz.yl (h : Pz w g B gr rc y t st m0) {b : Nat} (hb : y.at b) : b < w.heap.size := (h.own.lo hb).2
theorem Pz.pg (h : Pz w g B gr rc y t st t.d.m) : Pg w g B gr rc y t.d := ⟨h.row, h.len, h.own, by rw [h.r8]; exact h.er, h.ne _ h.atr⟩
theorem Pz.ofPg {d2 : Md} (h : Pz w g B gr rc y t st t.d.m) (p : Pg w' g B gr rc y d2) : Pz w' g B gr rc y { t with d := d2 } st d2.m :=
  ⟨p.row, p.len, p.own, h.er, by have := p.er; rw [h.er] at this; injection this with _ e _; exact e.symm, h.fl, h.lo, h.ne⟩
/-- A flag, or how it stands, is written. -/
theorem Pz.setF (h : Pz w g B gr rc y t st m0) (j : Nat) (v : Value) (y' : Mv) (t' : Ms) (st' : Int) (he : y.cs.setIfInBounds j v = y'.cs) (em : y'.m = y.m) (er : y'.r = y.r) (ei : y'.i = y.i) (eo : y'.o = y.o) (hd : t'.d = t.d) (hf : y'.fl = t'.fl st') :
    Pz (w.setCell ⟨g, 256 + j, none⟩ v) g B gr rc y' t' st' m0 ∧ Fm w (w.setCell ⟨g, 256 + j, none⟩ v) g y y' := by
  have hat : ∀ b, y'.at b → y.at b := fun b hb => by unfold Mv.at at hb ⊢; rw [em, er, ei, eo] at hb; exact hb
  refine ⟨⟨?_, by rw [hd]; exact h.len, ?_, by rw [er]; exact h.er, by rw [hd]; exact h.r8, hf, h.lo, fun b hb => h.ne b (hat b hb)⟩, Fm.grown (grownBy_set (b := g) (o := 256 + j) v) (.inl rfl) hat⟩
  · rw [setCell_eq_setRow w g _ _ 55 (0, 0) _ h.row, bigA_setF y y' j v h.len he, hd]
    exact setRow_heap w g _ _ 55 _ h.row
  · have o2 := h.own.keepH (w' := w.setCell ⟨g, 256 + j, none⟩ v) fun b hb _ => Below.heap_setCell w ⟨g, 256 + j, none⟩ v b (h.ne b hb)
    rw [hd]
    obtain ⟨o1, o3, o4, o5, a1, a2, a3, a4, a5, a6⟩ := o2
    exact ⟨by rw [em]; exact o1, by rw [er]; exact o3, by rw [ei]; exact o4, by rw [eo]; exact o5, by rw [em, er]; exact a1, by rw [em, ei]; exact a2, by rw [em, eo]; exact a3, by rw [er, ei]; exact a4, by rw [er, eo]; exact a5, by rw [ei, eo]; exact a6⟩
theorem Pz.setV (h : Pz w g B gr rc y t st m0) (b : Bool) : Pz (w.setCell ⟨g, 260, none⟩ (.bool b)) g B gr rc { y with v := b } { t with v := b } st m0 ∧ Fm w (w.setCell ⟨g, 260, none⟩ (.bool b)) g y { y with v := b } :=
  h.setF 4 (.bool b) { y with v := b } { t with v := b } st rfl rfl rfl rfl rfl rfl (by have := h.fl; unfold Mv.fl Ms.fl at *; simp at *; exact ⟨this.1, this.2.1, this.2.2.2⟩)
theorem Pz.setC (h : Pz w g B gr rc y t st m0) (b : Bool) : Pz (w.setCell ⟨g, 261, none⟩ (.bool b)) g B gr rc { y with c := b } { t with c := b } st m0 ∧ Fm w (w.setCell ⟨g, 261, none⟩ (.bool b)) g y { y with c := b } :=
  h.setF 5 (.bool b) { y with c := b } { t with c := b } st rfl rfl rfl rfl rfl rfl (by have := h.fl; unfold Mv.fl Ms.fl at *; simp at *; exact ⟨this.1, this.2.1, this.2.2.1, this.2.2.2.2⟩)
theorem Pz.setN (h : Pz w g B gr rc y t st m0) (b : Bool) : Pz (w.setCell ⟨g, 258, none⟩ (.bool b)) g B gr rc { y with n := b } { t with n := b } st m0 ∧ Fm w (w.setCell ⟨g, 258, none⟩ (.bool b)) g y { y with n := b } :=
  h.setF 2 (.bool b) { y with n := b } { t with n := b } st rfl rfl rfl rfl rfl rfl (by have := h.fl; unfold Mv.fl Ms.fl at *; simp at *; exact ⟨this.2.1, this.2.2⟩)
theorem Pz.setZ (h : Pz w g B gr rc y t st m0) (b : Bool) : Pz (w.setCell ⟨g, 259, none⟩ (.bool b)) g B gr rc { y with z := b } { t with z := b } st m0 ∧ Fm w (w.setCell ⟨g, 259, none⟩ (.bool b)) g y { y with z := b } :=
  h.setF 3 (.bool b) { y with z := b } { t with z := b } st rfl rfl rfl rfl rfl rfl (by have := h.fl; unfold Mv.fl Ms.fl at *; simp at *; exact ⟨this.1, this.2.2⟩)
theorem Pz.setS (h : Pz w g B gr rc y t st m0) (s : Int) : Pz (w.setCell ⟨g, 264, none⟩ (.int .i64 s)) g B gr rc { y with st := s } t s m0 ∧ Fm w (w.setCell ⟨g, 264, none⟩ (.int .i64 s)) g y { y with st := s } :=
  h.setF 8 (.int .i64 s) { y with st := s } t s rfl rfl rfl rfl rfl rfl (by have := h.fl; unfold Mv.fl Ms.fl at *; simp at *; exact ⟨this.1, this.2.1, this.2.2.1, this.2.2.2.1⟩)
theorem Pz.cell (h : Pz w g B gr rc y t st m0) (k : Nat) (v : Value) (hv : y.cs[k]? = some v) : w.cell? ⟨g, 256 + k, none⟩ = some v := big_cell h.row h.len k v hv
theorem Pz.fz (h : Pz w g B gr rc y t st m0) (j : Nat) : w.frozen? ⟨g, j, none⟩ = false := by simp [World.frozen?, h.row]
theorem Pz.cr (h : Pz w g B gr rc y t st m0) : w.cell? ⟨g, 257, none⟩ = some (.slice (some ⟨gr, 0, none⟩) 8 rc) := by
  have c := h.cell 1 (.slice y.r.a y.r.n y.r.c) rfl
  rw [h.er] at c
  exact c
/-- A register is written. -/
theorem Pz.setR (h : Pz w g B gr rc y t st m0) (k : Nat) (v : Int) (hk : k < 8) : Pz (w.setCell ⟨gr, k, none⟩ (.int .i64 v)) g B gr rc y (t.rg k v) st m0 ∧ Fm w (w.setCell ⟨gr, k, none⟩ (.int .i64 v)) g y y ∧ w.cell? ⟨gr, k, none⟩ = some (.int .i64 (nAt t.d.r k)) ∧ w.frozen? ⟨gr, k, none⟩ = false := by
  obtain ⟨o3, g3, _, _, c1, c2⟩ := own_setR h.own (show y.r = ⟨some ⟨gr, 0, none⟩, (Md.mk m0 t.d.r t.d.i t.d.o).r.length, rc⟩ by rw [h.r8]; exact h.er) k v (by rw [h.r8]; exact hk)
  exact ⟨⟨row_past h.row g3 (h.ne _ h.atr), h.len, o3, h.er, by rw [Ms.rg_len]; exact h.r8, h.fl, h.lo, h.ne⟩, Fm.grown g3 (.inr h.atr) (fun k hk => hk), c1, c2⟩
/-- A word of the memory is written. -/
theorem Pz.setM (h : Pz w g B gr rc y t st m0) (k : Nat) (v : Int) (hk : k < 256) : Pz (w.setCell ⟨g, k, none⟩ (.int .i64 v)) g B gr rc y { t with d := ⟨t.d.m.set k v, t.d.r, t.d.i, t.d.o⟩ } st m0 ∧ Fm w (w.setCell ⟨g, k, none⟩ (.int .i64 v)) g y y ∧ w.cell? ⟨g, k, none⟩ = some (.int .i64 (nAt t.d.m k)) ∧ w.frozen? ⟨g, k, none⟩ = false := by
  refine ⟨⟨?_, by simp [h.len], h.own.keepH (w' := w.setCell ⟨g, k, none⟩ (.int .i64 v)) fun b hb _ => Below.heap_setCell w ⟨g, k, none⟩ _ b (h.ne b hb), h.er, h.r8, h.fl, h.lo, h.ne⟩, Fm.grown (grownBy_set (b := g) (o := k) _) (.inl rfl) (fun k hk => hk), ?_, h.fz k⟩
  · rw [setCell_eq_setRow w g _ _ 55 (0, 0) _ h.row, bigA_setW y k v h.len hk]
    exact setRow_heap w g _ _ 55 _ h.row
  · exact (cell_of_row w g k _ 55 _ h.row).trans (bigA_mem y h.len hk)
end
theorem Fm.grownR {w w' : World} {g gr : Nat} {y : Mv} (hg : w.grownBy w' (some gr)) (ha : y.at gr) : Fm w w' g y y := Fm.grown hg (.inr ha) (fun k hk => hk)
end Go.Proofs.YtboedaofbchdkaaDoor

namespace Go.Proofs.YtboedaofbchdkaaDoor
open Go.ChangeShapes Go.WideShapes Go.ChangeAt Go.RowKit
set_option linter.unusedVariables false
set_option maxRecDepth 8000
set_option linter.unusedSimpArgs false
def sgI (n : Int) : Bool := decide (32768 ≤ n)
theorem hasSign_any (n : Int) (w : World) : Calls Tryd.prog 104 #[.int .i64 n] w fun e w' => e = .returned (.bool (sgI n)) ∧ w' = w := by
  unfold sgI
  go_enter Tryd.func104, Tryd.ntmps104
  go_wp2
  go_ret
  exact ⟨by simp, rfl⟩
def wkR (op : Nat) (s d : Int) : Int := match op with
  | 1 => s
  | 2 => (s - d) % 65536
  | 3 => bits .andNot .i64 d s
  | 4 => bits .or .i64 d s
  | 5 => (s + d) % 65536
  | 6 => (d - s) % 65536
  | 7 => 0
  | 8 => (d + 1) % 65536
  | 9 => (d - 1) % 65536
  | 10 => (-d) % 65536
  | 11 => d
  | 12 => (sgV d / 2) % 65536
  | _ => (2 * d) % 65536
def wkV (op : Nat) (s d : Int) : Bool := match op with
  | 2 => (sgI s != sgI d) && (sgI ((s - d) % 65536) == sgI d)
  | 5 => (sgI s == sgI d) && (sgI ((s + d) % 65536) != sgI s)
  | 6 => (sgI d != sgI s) && (sgI ((d - s) % 65536) == sgI s)
  | 8 => d == 32767
  | 9 => d == 32768
  | 10 => (-d) % 65536 == 32768
  | 12 => sgI ((sgV d / 2) % 65536) != (bits .and .i64 d 1 == 1)
  | 13 => sgI ((2 * d) % 65536) != sgI d
  | _ => false
def wkC (op : Nat) (s d : Int) (c : Bool) : Bool := match op with
  | 2 => decide (s < d)
  | 5 => !inB (s + d) 0 65535
  | 6 => decide (d < s)
  | 7 => false
  | 10 => (-d) % 65536 != 0
  | 11 => false
  | 12 => bits .and .i64 d 1 == 1
  | 13 => sgI d
  | _ => c
def Mv.wk (y : Mv) (op : Nat) (s d : Int) : Mv := { y with v := wkV op s d, c := wkC op s d y.c }
def Ms.wk (t : Ms) (op : Nat) (s d : Int) : Ms := { t with v := wkV op s d, c := wkC op s d t.c }
/-- What a work makes of s and d. -/
def WkIs (k op : Nat) : Prop := ∀ (g B gr rc : Nat) (y : Mv) (t : Ms) (st : Int) (m0 : List Int) (s d : Int) (w : World), Pz w g B gr rc y t st m0 → 0 ≤ s → s ≤ 65535 → 0 ≤ d → d ≤ 65535 →
  Calls Tryd.prog k #[.pointer (some ⟨g, 0, none⟩), .int .i64 s, .int .i64 d] w fun e w' => e = .returned (.int .i64 (wkR op s d)) ∧ Pz w' g B gr rc (y.wk op s d) (t.wk op s d) st m0 ∧ Fm w w' g y (y.wk op s d)
theorem Pz.flz {w : World} {g B gr rc : Nat} {y : Mv} {t : Ms} {st : Int} {m0 : List Int} (h : Pz w g B gr rc y t st m0) : t.n = y.n ∧ t.z = y.z ∧ t.v = y.v ∧ t.c = y.c ∧ st = y.st := by
  have := h.fl
  unfold Mv.fl Ms.fl at this
  simp at this
  exact ⟨this.1.symm, this.2.1.symm, this.2.2.1.symm, this.2.2.2.1.symm, this.2.2.2.2.symm⟩
/-- V and C written. -/
theorem Pz.setVC {w : World} {g B gr rc : Nat} {y : Mv} {t : Ms} {st : Int} {m0 : List Int} (h : Pz w g B gr rc y t st m0) (a b : Bool) : Pz ((w.setCell ⟨g, 260, none⟩ (.bool a)).setCell ⟨g, 261, none⟩ (.bool b)) g B gr rc { y with v := a, c := b } { t with v := a, c := b } st m0 ∧ Fm w ((w.setCell ⟨g, 260, none⟩ (.bool a)).setCell ⟨g, 261, none⟩ (.bool b)) g y { y with v := a, c := b } :=
  ⟨((h.setV a).1.setC b).1, (h.setV a).2.trans ((h.setV a).1.setC b).2⟩
set_option maxHeartbeats 2000000 in
theorem wk_1 : WkIs 71 1 := by
  intro g B gr rc y t st m0 s d w h s0 s1 d0 d1
  have c4 := h.cell 4 _ rfl
  have f4 := h.fz 260
  have c5 := h.cell 5 _ rfl
  have f5 := h.fz 261
  have HT := hide h.flz.2.2.2.1
  have H := hide h
  unfold Mv.wk Ms.wk
  simp only [wkV, wkC, wkR]
  have H2 := hide (((unhide H).setV false))
  clear h
  go_enter Tryd.func71, Tryd.ntmps71
  go_wp2
  go_ret
  rw [unhide HT]
  have := unhide HT
  exact ⟨rfl, by have q := (unhide H2).1; rw [show ({ t with v := false } : Ms) = { t with v := false, c := y.c } by rw [← this]] at q; exact q, (unhide H2).2⟩
set_option maxHeartbeats 2000000 in
theorem wk_3 : WkIs 74 3 := by
  intro g B gr rc y t st m0 s d w h s0 s1 d0 d1
  have c4 := h.cell 4 _ rfl
  have f4 := h.fz 260
  have c5 := h.cell 5 _ rfl
  have f5 := h.fz 261
  have HT := hide h.flz.2.2.2.1
  have H := hide h
  unfold Mv.wk Ms.wk
  simp only [wkV, wkC, wkR]
  have hq : bits .andNot .i64 d s = bits .andNot .i64 d s := rfl
  clear hq
  have H2 := hide (((unhide H).setV false))
  clear h
  go_enter Tryd.func74, Tryd.ntmps74
  go_wp2
  go_ret
  rw [unhide HT]
  have := unhide HT
  exact ⟨rfl, by have q := (unhide H2).1; rw [show ({ t with v := false } : Ms) = { t with v := false, c := y.c } by rw [← this]] at q; exact q, (unhide H2).2⟩
set_option maxHeartbeats 2000000 in
theorem wk_4 : WkIs 75 4 := by
  intro g B gr rc y t st m0 s d w h s0 s1 d0 d1
  have c4 := h.cell 4 _ rfl
  have f4 := h.fz 260
  have c5 := h.cell 5 _ rfl
  have f5 := h.fz 261
  have HT := hide h.flz.2.2.2.1
  have H := hide h
  unfold Mv.wk Ms.wk
  simp only [wkV, wkC, wkR]
  have hq : bits .or .i64 d s = bits .or .i64 d s := rfl
  clear hq
  have H2 := hide (((unhide H).setV false))
  clear h
  go_enter Tryd.func75, Tryd.ntmps75
  go_wp2
  go_ret
  rw [unhide HT]
  have := unhide HT
  exact ⟨rfl, by have q := (unhide H2).1; rw [show ({ t with v := false } : Ms) = { t with v := false, c := y.c } by rw [← this]] at q; exact q, (unhide H2).2⟩
set_option maxHeartbeats 2000000 in
theorem wk_8 : WkIs 79 8 := by
  intro g B gr rc y t st m0 s d w h s0 s1 d0 d1
  have c4 := h.cell 4 _ rfl
  have f4 := h.fz 260
  have c5 := h.cell 5 _ rfl
  have f5 := h.fz 261
  have HT := hide h.flz.2.2.2.1
  have H := hide h
  unfold Mv.wk Ms.wk
  simp only [wkV, wkC, wkR]
  have hw : IntKind.i64.wrap (d + 1) = d + 1 := by rw [IntKind.wrap_i64]; omega
  have WR := hide (fun v => wrapI_any (d + 1) v)
  generalize (d + 1) % 65536 = r at WR ⊢
  have H2 := hide (((unhide H).setV (d == 32767)))
  clear h
  go_enter Tryd.func79, Tryd.ntmps79
  go_wp2_with fail
  refine (unhide WR _).mono ?_
  rintro e w9 ⟨rfl, hw9⟩
  rw [hw9]
  clear hw9 w9
  go_wp2
  go_ret
  have := unhide HT
  exact ⟨rfl, by have q := (unhide H2).1; rw [show ({ t with v := (d == 32767) } : Ms) = { t with v := (d == 32767), c := t.c } from rfl] at q; exact q, (unhide H2).2⟩
set_option maxHeartbeats 2000000 in
theorem wk_9 : WkIs 80 9 := by
  intro g B gr rc y t st m0 s d w h s0 s1 d0 d1
  have c4 := h.cell 4 _ rfl
  have f4 := h.fz 260
  have c5 := h.cell 5 _ rfl
  have f5 := h.fz 261
  have HT := hide h.flz.2.2.2.1
  have H := hide h
  unfold Mv.wk Ms.wk
  simp only [wkV, wkC, wkR]
  have hw : IntKind.i64.wrap (d - 1) = d - 1 := by rw [IntKind.wrap_i64]; omega
  have WR := hide (fun v => wrapI_any (d - 1) v)
  generalize (d - 1) % 65536 = r at WR ⊢
  have H2 := hide (((unhide H).setV (d == 32768)))
  clear h
  go_enter Tryd.func80, Tryd.ntmps80
  go_wp2_with fail
  refine (unhide WR _).mono ?_
  rintro e w9 ⟨rfl, hw9⟩
  rw [hw9]
  clear hw9 w9
  go_wp2
  go_ret
  have := unhide HT
  exact ⟨rfl, by have q := (unhide H2).1; rw [show ({ t with v := (d == 32768) } : Ms) = { t with v := (d == 32768), c := t.c } from rfl] at q; exact q, (unhide H2).2⟩
set_option maxHeartbeats 2000000 in
theorem wk_7 : WkIs 78 7 := by
  intro g B gr rc y t st m0 s d w h s0 s1 d0 d1
  have c4 := h.cell 4 _ rfl
  have f4 := h.fz 260
  have c5 := h.cell 5 _ rfl
  have f5 := h.fz 261
  have HT := hide h.flz.2.2.2.1
  have H := hide h
  unfold Mv.wk Ms.wk
  simp only [wkV, wkC, wkR]
  have H2 := hide ((unhide H).setVC false false)
  clear h
  go_enter Tryd.func78, Tryd.ntmps78
  go_wp2
  go_ret
  exact ⟨rfl, (unhide H2).1, (unhide H2).2⟩
set_option maxHeartbeats 2000000 in
theorem wk_11 : WkIs 82 11 := by
  intro g B gr rc y t st m0 s d w h s0 s1 d0 d1
  have c4 := h.cell 4 _ rfl
  have f4 := h.fz 260
  have c5 := h.cell 5 _ rfl
  have f5 := h.fz 261
  have HT := hide h.flz.2.2.2.1
  have H := hide h
  unfold Mv.wk Ms.wk
  simp only [wkV, wkC, wkR]
  have H2 := hide ((unhide H).setVC false false)
  clear h
  go_enter Tryd.func82, Tryd.ntmps82
  go_wp2
  go_ret
  exact ⟨rfl, (unhide H2).1, (unhide H2).2⟩
end Go.Proofs.YtboedaofbchdkaaDoor
