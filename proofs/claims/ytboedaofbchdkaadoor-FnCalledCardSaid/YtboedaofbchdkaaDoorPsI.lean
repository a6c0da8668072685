/- Contracts over this seat's translation, laid together; conditions stand as hypotheses of each. -/
import Derived.Test.YtboedaofbchdkaaDoorPsE
import Derived.Test.YtboedaofbchdkaaDoorPsF
import Derived.Test.YtboedaofbchdkaaDoorPsH
import Derived.Deep.RegionHeld

namespace Go.Proofs.YtboedaofbchdkaaDoor
open Go.ChangeShapes Go.WideShapes Go.ChangeAt Go.RowKit
set_option linter.unusedVariables false
set_option maxRecDepth 8000
set_option linter.unusedSimpArgs false
/-- A box with a function. -/
def Bx (w : World) (b k ty : Nat) : Prop := w.heap[b]? = some (.cells #[.func (.func k) #[] #[]] ty (0, 0))
theorem Bx.lt {w : World} {b k ty : Nat} (h : Bx w b k ty) : b < w.heap.size := (Array.getElem?_eq_some_iff.1 h).1
theorem Bx.later {w w' : World} {b k ty : Nat} (h : Bx w b k ty) (hb : Below w.heap.size w w') : Bx w' b k ty := (hb.block b h.lt).trans h
/-- The boxes that are made. -/
structure Bxs (w0 w : World) (l : List (Nat × Nat × Nat)) : Prop where
  all : ∀ p ∈ l, w0.heap.size ≤ p.1 ∧ Bx w p.1 p.2.1 p.2.2
  bel : Below w0.heap.size w0 w
theorem Bxs.nil (w : World) : Bxs w w [] := ⟨(fun p hp => absurd hp List.not_mem_nil), Below.refl _ _⟩
theorem Bxs.more {w0 w w' : World} {l : List (Nat × Nat × Nat)} (h : Bxs w0 w l) {b k ty : Nat} (hl : w.heap.size ≤ b) (hx : Bx w' b k ty) (hb : Below w.heap.size w w') : Bxs w0 w' ((b, k, ty) :: l) :=
  ⟨fun p hp => by
    rcases List.mem_cons.1 hp with rfl | hp
    · exact ⟨Nat.le_trans h.bel.size hl, hx⟩
    · exact ⟨(h.all p hp).1, (h.all p hp).2.later hb⟩, h.bel.trans (hb.mono h.bel.size)⟩
theorem heap_alloc_last' (w : World) (o : Obj) : (w.alloc o).heap[w.heap.size]? = some o := Array.getElem?_push_size
theorem stored_c (k : Nat) (w : World) : Calls Tryd.prog 70 #[.func (.func k) #[] #[]] w fun e w' => ∃ b, e = .returned (.func (.func 100) #[] #[.pointer (some ⟨b, 0, none⟩)]) ∧ w.heap.size ≤ b ∧ Bx w' b k 118 ∧ Below w.heap.size w w' := by
  have hmf : ∀ (fn : Fn) (first cap : Array Value) (w : World), (Instr.makeFunc fn first cap).run Tryd.prog w = .ok (.func fn first cap) w := fun _ _ _ _ => rfl
  go_enter Tryd.func70, Tryd.ntmps70
  go_wp2
  go_ret
  exact ⟨w.heap.size, rfl, Nat.le_refl _, heap_alloc_last' w _, (Below.refl _ _).alloc (Nat.le_refl _) _⟩
theorem told_c (k : Nat) (w : World) : Calls Tryd.prog 72 #[.func (.func k) #[] #[]] w fun e w' => ∃ b, e = .returned (.func (.func 102) #[] #[.pointer (some ⟨b, 0, none⟩)]) ∧ w.heap.size ≤ b ∧ Bx w' b k 118 ∧ Below w.heap.size w w' := by
  have hmf : ∀ (fn : Fn) (first cap : Array Value) (w : World), (Instr.makeFunc fn first cap).run Tryd.prog w = .ok (.func fn first cap) w := fun _ _ _ _ => rfl
  go_enter Tryd.func72, Tryd.ntmps72
  go_wp2
  go_ret
  exact ⟨w.heap.size, rfl, Nat.le_refl _, heap_alloc_last' w _, (Below.refl _ _).alloc (Nat.le_refl _) _⟩
theorem branch_c (k : Nat) (w : World) : Calls Tryd.prog 88 #[.func (.func k) #[] #[]] w fun e w' => ∃ b, e = .returned (.func (.func 111) #[] #[.pointer (some ⟨b, 0, none⟩)]) ∧ w.heap.size ≤ b ∧ Bx w' b k 112 ∧ Below w.heap.size w w' := by
  have hmf : ∀ (fn : Fn) (first cap : Array Value) (w : World), (Instr.makeFunc fn first cap).run Tryd.prog w = .ok (.func fn first cap) w := fun _ _ _ _ => rfl
  go_enter Tryd.func88, Tryd.ntmps88
  go_wp2
  go_ret
  exact ⟨w.heap.size, rfl, Nat.le_refl _, heap_alloc_last' w _, (Below.refl _ _).alloc (Nat.le_refl _) _⟩
/-- The action of an Op; b: its box. -/
def actV (op b : Nat) : Value :=
  match op with
  | 1 => .func (.func 100) #[] #[.pointer (some ⟨b, 0, none⟩)]
  | 2 => .func (.func 102) #[] #[.pointer (some ⟨b, 0, none⟩)]
  | 3 => .func (.func 100) #[] #[.pointer (some ⟨b, 0, none⟩)]
  | 4 => .func (.func 100) #[] #[.pointer (some ⟨b, 0, none⟩)]
  | 5 => .func (.func 100) #[] #[.pointer (some ⟨b, 0, none⟩)]
  | 6 => .func (.func 100) #[] #[.pointer (some ⟨b, 0, none⟩)]
  | 7 => .func (.func 100) #[] #[.pointer (some ⟨b, 0, none⟩)]
  | 8 => .func (.func 100) #[] #[.pointer (some ⟨b, 0, none⟩)]
  | 9 => .func (.func 100) #[] #[.pointer (some ⟨b, 0, none⟩)]
  | 10 => .func (.func 100) #[] #[.pointer (some ⟨b, 0, none⟩)]
  | 11 => .func (.func 102) #[] #[.pointer (some ⟨b, 0, none⟩)]
  | 12 => .func (.func 100) #[] #[.pointer (some ⟨b, 0, none⟩)]
  | 13 => .func (.func 100) #[] #[.pointer (some ⟨b, 0, none⟩)]
  | 14 => .func (.func 85) #[] #[]
  | 15 => .func (.func 86) #[] #[]
  | 16 => .func (.func 87) #[] #[]
  | 17 => .func (.func 111) #[] #[.pointer (some ⟨b, 0, none⟩)]
  | 18 => .func (.func 111) #[] #[.pointer (some ⟨b, 0, none⟩)]
  | 19 => .func (.func 111) #[] #[.pointer (some ⟨b, 0, none⟩)]
  | 20 => .func (.func 111) #[] #[.pointer (some ⟨b, 0, none⟩)]
  | 21 => .func (.func 111) #[] #[.pointer (some ⟨b, 0, none⟩)]
  | 22 => .func (.func 94) #[] #[]
  | 23 => .func (.func 95) #[] #[]
  | _ => .nilFunc
/-- What lies in an action's box. -/
def actB (B : Nat) (w : World) (op b : Nat) : Prop :=
  match op with
  | 1 => B ≤ b ∧ Bx w b 71 118
  | 2 => B ≤ b ∧ Bx w b 73 118
  | 3 => B ≤ b ∧ Bx w b 74 118
  | 4 => B ≤ b ∧ Bx w b 75 118
  | 5 => B ≤ b ∧ Bx w b 76 118
  | 6 => B ≤ b ∧ Bx w b 77 118
  | 7 => B ≤ b ∧ Bx w b 78 118
  | 8 => B ≤ b ∧ Bx w b 79 118
  | 9 => B ≤ b ∧ Bx w b 80 118
  | 10 => B ≤ b ∧ Bx w b 81 118
  | 11 => B ≤ b ∧ Bx w b 82 118
  | 12 => B ≤ b ∧ Bx w b 83 118
  | 13 => B ≤ b ∧ Bx w b 84 118
  | 17 => B ≤ b ∧ Bx w b 89 112
  | 18 => B ≤ b ∧ Bx w b 90 112
  | 19 => B ≤ b ∧ Bx w b 91 112
  | 20 => B ≤ b ∧ Bx w b 92 112
  | 21 => B ≤ b ∧ Bx w b 93 112
  | _ => True
/-- Which box is whose. -/
def actSel (op : Nat) (l : List Nat) : Nat := l.getD (if op ≤ 13 then op - 1 else if 17 ≤ op then op - 4 else 20) 0
set_option maxHeartbeats 4000000 in
theorem actionOf_any (op : Nat) (h1 : 1 ≤ op) (h2 : op ≤ 23) (w : World) : Calls Tryd.prog 53 #[.int .i64 (op : Int)] w fun e w' => ∃ b, e = .returned (actV op b) ∧ actB w.heap.size w' op b ∧ Below w.heap.size w w' := by
  have S0 := hide (Bxs.nil w)
  have E := hide (show op = 1 ∨ op = 2 ∨ op = 3 ∨ op = 4 ∨ op = 5 ∨ op = 6 ∨ op = 7 ∨ op = 8 ∨ op = 9 ∨ op = 10 ∨ op = 11 ∨ op = 12 ∨ op = 13 ∨ op = 14 ∨ op = 15 ∨ op = 16 ∨ op = 17 ∨ op = 18 ∨ op = 19 ∨ op = 20 ∨ op = 21 ∨ op = 22 ∨ op = 23 by omega)
  clear h1 h2
  go_enter Tryd.func53, Tryd.ntmps53
  go_wp2_with fail
  refine (stored_c 71 _).mono ?_
  rintro e w1 ⟨b1, rfl, l1, x1, c1⟩
  have S1 := hide ((unhide S0).more l1 x1 c1)
  clear S0 l1 x1 c1
  go_wp2_with fail
  refine (told_c 73 _).mono ?_
  rintro e w2 ⟨b2, rfl, l2, x2, c2⟩
  have S2 := hide ((unhide S1).more l2 x2 c2)
  clear S1 l2 x2 c2
  go_wp2_with fail
  refine (stored_c 74 _).mono ?_
  rintro e w3 ⟨b3, rfl, l3, x3, c3⟩
  have S3 := hide ((unhide S2).more l3 x3 c3)
  clear S2 l3 x3 c3
  go_wp2_with fail
  refine (stored_c 75 _).mono ?_
  rintro e w4 ⟨b4, rfl, l4, x4, c4⟩
  have S4 := hide ((unhide S3).more l4 x4 c4)
  clear S3 l4 x4 c4
  go_wp2_with fail
  refine (stored_c 76 _).mono ?_
  rintro e w5 ⟨b5, rfl, l5, x5, c5⟩
  have S5 := hide ((unhide S4).more l5 x5 c5)
  clear S4 l5 x5 c5
  go_wp2_with fail
  refine (stored_c 77 _).mono ?_
  rintro e w6 ⟨b6, rfl, l6, x6, c6⟩
  have S6 := hide ((unhide S5).more l6 x6 c6)
  clear S5 l6 x6 c6
  go_wp2_with fail
  refine (stored_c 78 _).mono ?_
  rintro e w7 ⟨b7, rfl, l7, x7, c7⟩
  have S7 := hide ((unhide S6).more l7 x7 c7)
  clear S6 l7 x7 c7
  go_wp2_with fail
  refine (stored_c 79 _).mono ?_
  rintro e w8 ⟨b8, rfl, l8, x8, c8⟩
  have S8 := hide ((unhide S7).more l8 x8 c8)
  clear S7 l8 x8 c8
  go_wp2_with fail
  refine (stored_c 80 _).mono ?_
  rintro e w9 ⟨b9, rfl, l9, x9, c9⟩
  have S9 := hide ((unhide S8).more l9 x9 c9)
  clear S8 l9 x9 c9
  go_wp2_with fail
  refine (stored_c 81 _).mono ?_
  rintro e w10 ⟨b10, rfl, l10, x10, c10⟩
  have S10 := hide ((unhide S9).more l10 x10 c10)
  clear S9 l10 x10 c10
  go_wp2_with fail
  refine (told_c 82 _).mono ?_
  rintro e w11 ⟨b11, rfl, l11, x11, c11⟩
  have S11 := hide ((unhide S10).more l11 x11 c11)
  clear S10 l11 x11 c11
  go_wp2_with fail
  refine (stored_c 83 _).mono ?_
  rintro e w12 ⟨b12, rfl, l12, x12, c12⟩
  have S12 := hide ((unhide S11).more l12 x12 c12)
  clear S11 l12 x12 c12
  go_wp2_with fail
  refine (stored_c 84 _).mono ?_
  rintro e w13 ⟨b13, rfl, l13, x13, c13⟩
  have S13 := hide ((unhide S12).more l13 x13 c13)
  clear S12 l13 x13 c13
  go_wp2_with fail
  refine (branch_c 89 _).mono ?_
  rintro e w14 ⟨b14, rfl, l14, x14, c14⟩
  have S14 := hide ((unhide S13).more l14 x14 c14)
  clear S13 l14 x14 c14
  go_wp2_with fail
  refine (branch_c 90 _).mono ?_
  rintro e w15 ⟨b15, rfl, l15, x15, c15⟩
  have S15 := hide ((unhide S14).more l15 x15 c15)
  clear S14 l15 x15 c15
  go_wp2_with fail
  refine (branch_c 91 _).mono ?_
  rintro e w16 ⟨b16, rfl, l16, x16, c16⟩
  have S16 := hide ((unhide S15).more l16 x16 c16)
  clear S15 l16 x16 c16
  go_wp2_with fail
  refine (branch_c 92 _).mono ?_
  rintro e w17 ⟨b17, rfl, l17, x17, c17⟩
  have S17 := hide ((unhide S16).more l17 x17 c17)
  clear S16 l17 x17 c17
  go_wp2_with fail
  refine (branch_c 93 _).mono ?_
  rintro e w18 ⟨b18, rfl, l18, x18, c18⟩
  have S18 := hide ((unhide S17).more l18 x18 c18)
  clear S17 l18 x18 c18
  have IX := hide (show ∀ v : World, (Instr.index 113 (.agg #[.nilFunc, .func (.func 100) #[] #[.pointer (some ⟨b1, 0, none⟩)], .func (.func 102) #[] #[.pointer (some ⟨b2, 0, none⟩)], .func (.func 100) #[] #[.pointer (some ⟨b3, 0, none⟩)], .func (.func 100) #[] #[.pointer (some ⟨b4, 0, none⟩)], .func (.func 100) #[] #[.pointer (some ⟨b5, 0, none⟩)], .func (.func 100) #[] #[.pointer (some ⟨b6, 0, none⟩)], .func (.func 100) #[] #[.pointer (some ⟨b7, 0, none⟩)], .func (.func 100) #[] #[.pointer (some ⟨b8, 0, none⟩)], .func (.func 100) #[] #[.pointer (some ⟨b9, 0, none⟩)], .func (.func 100) #[] #[.pointer (some ⟨b10, 0, none⟩)], .func (.func 102) #[] #[.pointer (some ⟨b11, 0, none⟩)], .func (.func 100) #[] #[.pointer (some ⟨b12, 0, none⟩)], .func (.func 100) #[] #[.pointer (some ⟨b13, 0, none⟩)], .func (.func 85) #[] #[], .func (.func 86) #[] #[], .func (.func 87) #[] #[], .func (.func 111) #[] #[.pointer (some ⟨b14, 0, none⟩)], .func (.func 111) #[] #[.pointer (some ⟨b15, 0, none⟩)], .func (.func 111) #[] #[.pointer (some ⟨b16, 0, none⟩)], .func (.func 111) #[] #[.pointer (some ⟨b17, 0, none⟩)], .func (.func 111) #[] #[.pointer (some ⟨b18, 0, none⟩)], .func (.func 94) #[] #[], .func (.func 95) #[] #[]]) (.int .i64 (op : Int))).run Tryd.prog v = .ok (actV op (actSel op [b1, b2, b3, b4, b5, b6, b7, b8, b9, b10, b11, b12, b13, b14, b15, b16, b17, b18])) v by
    rcases unhide E with rfl | rfl | rfl | rfl | rfl | rfl | rfl | rfl | rfl | rfl | rfl | rfl | rfl | rfl | rfl | rfl | rfl | rfl | rfl | rfl | rfl | rfl | rfl <;> exact fun v => by kernel_rfl)
  have FB := hide (show actB w.heap.size w18 op (actSel op [b1, b2, b3, b4, b5, b6, b7, b8, b9, b10, b11, b12, b13, b14, b15, b16, b17, b18]) by
    rcases unhide E with rfl | rfl | rfl | rfl | rfl | rfl | rfl | rfl | rfl | rfl | rfl | rfl | rfl | rfl | rfl | rfl | rfl | rfl | rfl | rfl | rfl | rfl | rfl
    · exact (unhide S18).all (b1, _, _) (by simp)
    · exact (unhide S18).all (b2, _, _) (by simp)
    · exact (unhide S18).all (b3, _, _) (by simp)
    · exact (unhide S18).all (b4, _, _) (by simp)
    · exact (unhide S18).all (b5, _, _) (by simp)
    · exact (unhide S18).all (b6, _, _) (by simp)
    · exact (unhide S18).all (b7, _, _) (by simp)
    · exact (unhide S18).all (b8, _, _) (by simp)
    · exact (unhide S18).all (b9, _, _) (by simp)
    · exact (unhide S18).all (b10, _, _) (by simp)
    · exact (unhide S18).all (b11, _, _) (by simp)
    · exact (unhide S18).all (b12, _, _) (by simp)
    · exact (unhide S18).all (b13, _, _) (by simp)
    · exact trivial
    · exact trivial
    · exact trivial
    · exact (unhide S18).all (b14, _, _) (by simp)
    · exact (unhide S18).all (b15, _, _) (by simp)
    · exact (unhide S18).all (b16, _, _) (by simp)
    · exact (unhide S18).all (b17, _, _) (by simp)
    · exact (unhide S18).all (b18, _, _) (by simp)
    · exact trivial
    · exact trivial)
  have HB := hide (unhide S18).bel
  clear S18 E
  generalize actSel op [b1, b2, b3, b4, b5, b6, b7, b8, b9, b10, b11, b12, b13, b14, b15, b16, b17, b18] = bb at IX FB
  obtain ⟨vv, hvv⟩ : ∃ v, actV op bb = v := ⟨_, rfl⟩
  rw [hvv] at IX
  have HV := hide hvv
  clear hvv
  go_wp2_with (refine wpList_index_at rfl 113 _ _ rfl _ _ vv rfl rfl (unhide IX) ?_)
  go_ret
  exact ⟨bb, by rw [unhide HV]; rfl, unhide FB, unhide HB⟩
end Go.Proofs.YtboedaofbchdkaaDoor

namespace Go.Proofs.YtboedaofbchdkaaDoor
open Go.ChangeShapes Go.WideShapes Go.ChangeAt Go.RowKit
set_option linter.unusedVariables false
set_option maxRecDepth 8000
set_option linter.unusedSimpArgs false
section
variable {w : World} {b : Nat} {op sm sr dm dr : Nat} {sx dx n : Int} {ty : TypeId}
theorem insR (k : Nat) (v : Value) (h : w.heap[b]? = some (.cells #[.int .i64 (op : Int), .int .i64 (sm : Int), .int .i64 (sr : Int), .int .i64 sx, .int .i64 (dm : Int), .int .i64 (dr : Int), .int .i64 dx, .int .i64 n] ty (0, 0))) (hv : (#[.int .i64 (op : Int), .int .i64 (sm : Int), .int .i64 (sr : Int), .int .i64 sx, .int .i64 (dm : Int), .int .i64 (dr : Int), .int .i64 dx, .int .i64 n] : Array Value)[k]? = some v) : w.cell? ⟨b, k, none⟩ = some v := (cell_of_row w b k _ ty _ h).trans hv
end
def Ms.sB (t : Ms) (op sm sr : Nat) : Bool := if op ≤ 6 then t.opB sm sr else true
def Ms.sT (t : Ms) (op sm sr : Nat) : Ms := if op ≤ 6 then t.op sm sr else t
def Ms.sV (t : Ms) (op sm sr : Nat) : Int := if op ≤ 6 then t.opV sm sr else 0
theorem dk_sT {t : Ms} (h : Dk t.d) (op sm sr : Nat) : Dk (t.sT op sm sr).d := by
  unfold Ms.sT
  split
  · exact dk_op h sm sr
  · exact h
theorem sV_b {t : Ms} (h : Dk t.d) (op sm sr : Nat) : 0 ≤ t.sV op sm sr ∧ t.sV op sm sr ≤ 65535 := by
  unfold Ms.sV
  split
  · exact op_v h sm sr
  · omega
/-- Whether both operands can be reached. -/
def Ms.woB (t : Ms) (op sm sr dm dr : Nat) : Bool := t.sB op sm sr && (t.sT op sm sr).opB dm dr
def Ms.woT (t : Ms) (op sm sr dm dr : Nat) : Ms := (t.sT op sm sr).op dm dr
/-- An answer that is there or not. -/
structure OsE (ok : Bool) (s s0 : Int) (q : Option Addr) (p : Addr) (P F : Prop) : Prop where
  no : ok = false → q = none
  yes : ok = true → s = s0 ∧ q = some p ∧ P
  fm : F
/-- What operands answers. -/
def OsIs (g B gr rc op sm sr dm dr : Nat) (sx dx n : Int) (y : Mv) (t : Ms) (st : Int) (w : World) : Prop :=
  Calls Tryd.prog 118 #[.pointer (some ⟨g, 0, none⟩), .agg #[.int .i64 (op : Int), .int .i64 (sm : Int), .int .i64 (sr : Int), .int .i64 sx, .int .i64 (dm : Int), .int .i64 (dr : Int), .int .i64 dx, .int .i64 n]] w fun e w' => ∃ s q, e = .returned (.tuple #[.int .i64 s, .pointer q]) ∧ OsE (t.woB op sm sr dm dr) s (t.sV op sm sr) q ((t.sT op sm sr).opP g gr dm dr) (Pz w' g B gr rc y (t.woT op sm sr dm dr) st (t.woT op sm sr dm dr).d.m) (Fm w w' g y y)
set_option maxHeartbeats 4000000 in
theorem os_two (g B gr rc op sm sr dm dr : Nat) (sx dx n : Int) (y : Mv) (t : Ms) (st : Int) (w : World) (h : Pz w g B gr rc y t st t.d.m) (hk : Dk t.d) (h1 : 1 ≤ op) (h6 : op ≤ 6) (s7 : sm ≤ 7) (s8 : sr < 8) (d7 : dm ≤ 7) (d8 : dr < 8) : OsIs g B gr rc op sm sr dm dr sx dx n y t st w := by
  have GL := hide h.gl
  have YL := hide (fun b (hb : y.at b) => h.yl hb)
  have HS := hide (fun v => hasSrc_any (op : Int) v)
  rw [show inB (op : Int) 1 6 = true by unfold inB; simp; omega] at HS
  have H1 := hide (h.later (below_new w (Obj.cells #[.int .i64 (op : Int), .int .i64 (sm : Int), .int .i64 (sr : Int), .int .i64 sx, .int .i64 (dm : Int), .int .i64 (dr : Int), .int .i64 dx, .int .i64 n] 30)))
  have F1 := hide (Fm.of (g := g) (y := y) (below_new w (Obj.cells #[.int .i64 (op : Int), .int .i64 (sm : Int), .int .i64 (sr : Int), .int .i64 sx, .int .i64 (dm : Int), .int .i64 (dr : Int), .int .i64 dx, .int .i64 n] 30)))
  have R1 := hide (heap_alloc_last w (Obj.cells #[.int .i64 (op : Int), .int .i64 (sm : Int), .int .i64 (sr : Int), .int .i64 sx, .int .i64 (dm : Int), .int .i64 (dr : Int), .int .i64 dx, .int .i64 n] 30))
  have O1 := hide (operand_any g B gr rc sm sr sx y t st _ (unhide H1) hk s7 s8)
  have O2 := hide (fun v (p : Pz v g B gr rc y (t.op sm sr) st (t.op sm sr).d.m) => operand_any g B gr rc dm dr dx y (t.op sm sr) st v p (dk_op hk sm sr) d7 d8)
  have PL := hide (fun v (hb : t.opB sm sr = true) (p : Pz v g B gr rc y (t.op sm sr) st (t.op sm sr).d.m) => Pz.place2 hk s8 hb p)
  unfold OsIs Ms.woB Ms.woT Ms.sB Ms.sT Ms.sV
  simp only [if_pos h6]
  generalize t.opB sm sr = b1 at O1 PL ⊢
  generalize t.opP g gr sm sr = p1 at O1 PL
  generalize t.opV sm sr = v1 at PL ⊢
  generalize t.op sm sr = t1 at O1 O2 PL ⊢
  generalize t1.opB dm dr = b2 at O2 ⊢
  generalize t1.opP g gr dm dr = p2 at O2 ⊢
  generalize t1.op dm dr = t2 at O2 ⊢
  clear h hk
  have k0 := insR 0 _ (unhide R1) rfl
  have k1 := insR 1 _ (unhide R1) rfl
  have k2 := insR 2 _ (unhide R1) rfl
  have k3 := insR 3 _ (unhide R1) rfl
  cases b1
  · go_enter Tryd.func118, Tryd.ntmps118
    go_wp2_with fail
    refine (unhide HS _).mono ?_
    rintro e w9 ⟨rfl, hw9⟩
    rw [hw9]
    clear hw9 w9
    go_wp2_with fail
    refine (unhide O1).mono ?_
    rintro e w2 ⟨rfl, -, f2⟩
    have F2 := hide ((unhide F1).trans f2)
    clear f2 O1
    go_wp2
    go_ret2
    exact ⟨0, none, rfl, ⟨fun _ => rfl, fun h => by simp at h, unhide F2⟩⟩
  · go_enter Tryd.func118, Tryd.ntmps118
    go_wp2_with fail
    refine (unhide HS _).mono ?_
    rintro e w9 ⟨rfl, hw9⟩
    rw [hw9]
    clear hw9 w9
    go_wp2_with fail
    refine (unhide O1).mono ?_
    rintro e w2 ⟨rfl, p2, f2⟩
    have F2 := hide ((unhide F1).trans f2)
    have H2 := hide (p2 (by trivial))
    have R2 := hide (f2.row (unhide R1) (by have := unhide GL; omega) (fun e => by have := unhide YL _ e; omega))
    obtain ⟨cp, -⟩ := unhide PL _ (by trivial) (unhide H2)
    have OP := hide (unhide O2 _ (unhide H2))
    clear p2 f2 O1 O2 PL
    clear k0 k1 k2 k3
    have k4 := insR 4 _ (unhide R2) rfl
    have k5 := insR 5 _ (unhide R2) rfl
    have k6 := insR 6 _ (unhide R2) rfl
    go_wp2_with fail
    refine (unhide OP).mono ?_
    rintro e w3 ⟨rfl, p3, f3⟩
    have F3 := hide ((unhide F2).trans f3)
    have H3 := hide p3
    clear p3 f3 OP
    cases b2
    · go_wp2
      go_ret2
      exact ⟨v1, none, rfl, ⟨fun _ => rfl, fun h => by simp at h, unhide F3⟩⟩
    · go_wp2
      go_ret2
      exact ⟨v1, _, rfl, ⟨fun h => by simp at h, fun _ => ⟨rfl, rfl, unhide H3 (by trivial)⟩, unhide F3⟩⟩
set_option maxHeartbeats 4000000 in
theorem os_one (g B gr rc op sm sr dm dr : Nat) (sx dx n : Int) (y : Mv) (t : Ms) (st : Int) (w : World) (h : Pz w g B gr rc y t st t.d.m) (hk : Dk t.d) (h7 : 7 ≤ op) (d7 : dm ≤ 7) (d8 : dr < 8) : OsIs g B gr rc op sm sr dm dr sx dx n y t st w := by
  have GL := hide h.gl
  have YL := hide (fun b (hb : y.at b) => h.yl hb)
  have HS := hide (fun v => hasSrc_any (op : Int) v)
  rw [show inB (op : Int) 1 6 = false by unfold inB; simp; omega] at HS
  have H1 := hide (h.later (below_new w (Obj.cells #[.int .i64 (op : Int), .int .i64 (sm : Int), .int .i64 (sr : Int), .int .i64 sx, .int .i64 (dm : Int), .int .i64 (dr : Int), .int .i64 dx, .int .i64 n] 30)))
  have F1 := hide (Fm.of (g := g) (y := y) (below_new w (Obj.cells #[.int .i64 (op : Int), .int .i64 (sm : Int), .int .i64 (sr : Int), .int .i64 sx, .int .i64 (dm : Int), .int .i64 (dr : Int), .int .i64 dx, .int .i64 n] 30)))
  have R1 := hide (heap_alloc_last w (Obj.cells #[.int .i64 (op : Int), .int .i64 (sm : Int), .int .i64 (sr : Int), .int .i64 sx, .int .i64 (dm : Int), .int .i64 (dr : Int), .int .i64 dx, .int .i64 n] 30))
  have OP := hide (operand_any g B gr rc dm dr dx y t st _ (unhide H1) hk d7 d8)
  unfold OsIs Ms.woB Ms.woT Ms.sB Ms.sT Ms.sV
  simp only [if_neg (show ¬ op ≤ 6 by omega), Bool.true_and]
  generalize t.opB dm dr = b2 at OP ⊢
  generalize t.opP g gr dm dr = p2 at OP ⊢
  generalize t.op dm dr = t2 at OP ⊢
  clear h hk
  have k0 := insR 0 _ (unhide R1) rfl
  have k4 := insR 4 _ (unhide R1) rfl
  have k5 := insR 5 _ (unhide R1) rfl
  have k6 := insR 6 _ (unhide R1) rfl
  go_enter Tryd.func118, Tryd.ntmps118
  go_wp2_with fail
  refine (unhide HS _).mono ?_
  rintro e w9 ⟨rfl, hw9⟩
  rw [hw9]
  clear hw9 w9
  go_wp2_with fail
  refine (unhide OP).mono ?_
  rintro e w3 ⟨rfl, p3, f3⟩
  have F3 := hide ((unhide F1).trans f3)
  have H3 := hide p3
  clear p3 f3 OP
  cases b2
  · go_wp2
    go_ret2
    exact ⟨0, none, rfl, ⟨fun _ => rfl, fun h => by simp at h, unhide F3⟩⟩
  · go_wp2
    go_ret2
    exact ⟨0, _, rfl, ⟨fun h => by simp at h, fun _ => ⟨rfl, rfl, unhide H3 (by trivial)⟩, unhide F3⟩⟩
theorem os_any (g B gr rc op sm sr dm dr : Nat) (sx dx n : Int) (y : Mv) (t : Ms) (st : Int) (w : World) (h : Pz w g B gr rc y t st t.d.m) (hk : Dk t.d) (h1 : 1 ≤ op) (hs : op ≤ 6 → sm ≤ 7 ∧ sr < 8) (d7 : dm ≤ 7) (d8 : dr < 8) : OsIs g B gr rc op sm sr dm dr sx dx n y t st w := by
  by_cases h6 : op ≤ 6
  · exact os_two g B gr rc op sm sr dm dr sx dx n y t st w h hk h1 h6 (hs h6).1 (hs h6).2 d7 d8
  · exact os_one g B gr rc op sm sr dm dr sx dx n y t st w h hk (by omega) d7 d8
end Go.Proofs.YtboedaofbchdkaaDoor

namespace Go.Proofs.YtboedaofbchdkaaDoor
open Go.ChangeShapes Go.WideShapes Go.ChangeAt Go.RowKit
set_option linter.unusedVariables false
set_option maxRecDepth 8000
set_option linter.unusedSimpArgs false
theorem Fm.src {w w1 : World} {g : Nat} {y y1 y2 : Mv} (h : Fm w w1 g y y1) (e : ∀ b, y2.at b ↔ y.at b) : Fm w w1 g y2 y1 :=
  ⟨h.os, h.tape, h.output, h.size, fun k hk hg hy => h.blk k hk hg (fun c => hy ((e k).2 c)), fun b hb => (h.new b hb).elim (fun c => .inl ((e b).2 c)) .inr⟩
theorem Fm.dst {w w1 : World} {g : Nat} {y y1 y2 : Mv} (h : Fm w w1 g y y1) (e : ∀ b, y2.at b → y1.at b) : Fm w w1 g y y2 :=
  ⟨h.os, h.tape, h.output, h.size, h.blk, fun b hb => h.new b (e b hb)⟩
def wkS (t : Ms) (op sm sr dm dr : Nat) : Int := wkR op (t.sV op sm sr) ((t.sT op sm sr).opV dm dr)
def Ms.nzI (t : Ms) (r : Int) : Ms := { t with n := sgI r, z := (r == 0) }
def Mv.nzI (y : Mv) (r : Int) : Mv := { y with n := sgI r, z := (r == 0) }
def Ms.wo (t : Ms) (op sm sr dm dr : Nat) : Ms := ((t.woT op sm sr dm dr).wk op (t.sV op sm sr) ((t.sT op sm sr).opV dm dr)).nzI (wkS t op sm sr dm dr)
def Mv.wo (y : Mv) (t : Ms) (op sm sr dm dr : Nat) : Mv := (y.wk op (t.sV op sm sr) ((t.sT op sm sr).opV dm dr)).nzI (wkS t op sm sr dm dr)
theorem Pz.setNZ {w : World} {g B gr rc : Nat} {y : Mv} {t : Ms} {st : Int} {m0 : List Int} (h : Pz w g B gr rc y t st m0) (a b : Bool) : Pz ((w.setCell ⟨g, 258, none⟩ (.bool a)).setCell ⟨g, 259, none⟩ (.bool b)) g B gr rc { y with n := a, z := b } { t with n := a, z := b } st m0 ∧ Fm w ((w.setCell ⟨g, 258, none⟩ (.bool a)).setCell ⟨g, 259, none⟩ (.bool b)) g y { y with n := a, z := b } :=
  ⟨((h.setN a).1.setZ b).1, (h.setN a).2.trans ((h.setN a).1.setZ b).2⟩
/-- What workOut answers. -/
def WoIs (f g B gr rc op sm sr dm dr : Nat) (sx dx n : Int) (y : Mv) (t : Ms) (st : Int) (w : World) : Prop :=
  Calls Tryd.prog 101 #[.pointer (some ⟨g, 0, none⟩), .agg #[.int .i64 (op : Int), .int .i64 (sm : Int), .int .i64 (sr : Int), .int .i64 sx, .int .i64 (dm : Int), .int .i64 (dr : Int), .int .i64 dx, .int .i64 n], .func (.func f) #[] #[]] w fun e w' => ∃ s q, e = .returned (.tuple #[.int .i64 s, .pointer q]) ∧ OsE (t.woB op sm sr dm dr) s (wkS t op sm sr dm dr) q ((t.sT op sm sr).opP g gr dm dr) (Pz w' g B gr rc (y.wo t op sm sr dm dr) (t.wo op sm sr dm dr) st (t.woT op sm sr dm dr).d.m) (Fm w w' g y y)
set_option maxHeartbeats 4000000 in
theorem wo_any (f : Nat) (g B gr rc op sm sr dm dr : Nat) (sx dx n : Int) (y : Mv) (t : Ms) (st : Int) (w : World) (h : Pz w g B gr rc y t st t.d.m) (hk : Dk t.d) (h1 : 1 ≤ op) (h13 : op ≤ 13) (hs : op ≤ 6 → sm ≤ 7 ∧ sr < 8) (d7 : dm ≤ 7) (d8 : dr < 8) (wk : WkIs f op) (hcf : ∀ vs w, (callFunc f vs).run Tryd.prog w = .ok (.enter f vs) w) : WoIs f g B gr rc op sm sr dm dr sx dx n y t st w := by
  have H1 := hide (h.later (below_new w (Obj.cells #[.int .i64 (op : Int), .int .i64 (sm : Int), .int .i64 (sr : Int), .int .i64 sx, .int .i64 (dm : Int), .int .i64 (dr : Int), .int .i64 dx, .int .i64 n] 30)))
  have F1 := hide (Fm.of (g := g) (y := y) (below_new w (Obj.cells #[.int .i64 (op : Int), .int .i64 (sm : Int), .int .i64 (sr : Int), .int .i64 sx, .int .i64 (dm : Int), .int .i64 (dr : Int), .int .i64 dx, .int .i64 n] 30)))
  have OS := hide (os_any g B gr rc op sm sr dm dr sx dx n y t st _ (unhide H1) hk h1 hs d7 d8)
  have PL := hide (fun v (hb : t.woB op sm sr dm dr = true) (p : Pz v g B gr rc y (t.woT op sm sr dm dr) st (t.woT op sm sr dm dr).d.m) => Pz.place2 (dk_sT hk op sm sr) d8 (show (t.sT op sm sr).opB dm dr = true by unfold Ms.woB at hb; simp only [Bool.and_eq_true] at hb; exact hb.2) p)
  have VB := sV_b hk op sm sr
  have DB := op_v (dk_sT hk op sm sr) dm dr
  have WK := hide (fun v (p : Pz v g B gr rc y (t.woT op sm sr dm dr) st (t.woT op sm sr dm dr).d.m) => wk g B gr rc y (t.woT op sm sr dm dr) st _ (t.sV op sm sr) ((t.sT op sm sr).opV dm dr) v p VB.1 VB.2 DB.1 DB.2)
  have HS := hide (fun v => hasSign_any (wkS t op sm sr dm dr) v)
  unfold OsIs at OS
  unfold WoIs Ms.wo Mv.wo
  rw [← show wkS t op sm sr dm dr = wkR op (t.sV op sm sr) ((t.sT op sm sr).opV dm dr) from rfl] at WK
  have FA := hide (show ∀ b, (y.wk op (t.sV op sm sr) ((t.sT op sm sr).opV dm dr)).at b ↔ y.at b from fun b => Iff.rfl)
  generalize y.wk op (t.sV op sm sr) ((t.sT op sm sr).opV dm dr) = y2 at WK FA ⊢
  generalize (t.woT op sm sr dm dr).wk op (t.sV op sm sr) ((t.sT op sm sr).opV dm dr) = t2 at WK ⊢
  generalize wkS t op sm sr dm dr = r at WK HS ⊢
  unfold Ms.nzI Mv.nzI
  generalize sgI r = r9 at HS ⊢
  generalize (t.woT op sm sr dm dr).d.m = m1 at OS PL WK ⊢
  generalize t.woT op sm sr dm dr = t1 at OS PL WK
  generalize t.woB op sm sr dm dr = ok at OS PL ⊢
  generalize t.sV op sm sr = sv at OS PL WK
  generalize (t.sT op sm sr).opV dm dr = dv at PL WK
  generalize (t.sT op sm sr).opP g gr dm dr = pp at OS PL ⊢
  clear h hk VB DB wk
  go_enter Tryd.func101, Tryd.ntmps101
  go_wp2_with fail
  refine (unhide OS).mono ?_
  rintro e w2 ⟨s, q, rfl, hs2⟩
  have F2 := hide ((unhide F1).trans hs2.fm)
  cases ok
  · obtain rfl := hs2.no rfl
    clear hs2 OS WK PL
    go_wp2
    go_ret2
    exact ⟨0, none, rfl, ⟨fun _ => rfl, fun h => by simp at h, unhide F2⟩⟩
  · obtain ⟨rfl, rfl, p2⟩ := hs2.yes rfl
    have C2 := (unhide PL _ (by trivial) p2).1
    have WC := hide (unhide WK _ p2)
    clear hs2 OS WK PL p2
    go_wp2_with fail
    refine (unhide WC).mono ?_
    rintro e w3 ⟨rfl, h3, f3⟩
    have F3 := hide ((unhide F2).trans f3)
    have c2 := h3.cell 2 _ rfl
    have e2 := h3.fz 258
    have c3 := h3.cell 3 _ rfl
    have e3 := h3.fz 259
    have H4 := hide (h3.setNZ r9 (r == 0))
    clear h3 f3 WC C2
    go_wp2_with fail
    refine (unhide HS _).mono ?_
    rintro e w9 ⟨rfl, hw9⟩
    rw [hw9]
    clear hw9 w9
    go_wp2
    go_ret2
    exact ⟨r, _, rfl, ⟨fun h => by simp at h, fun _ => ⟨rfl, rfl, (unhide H4).1⟩, ((unhide F3).trans (unhide H4).2).dst (fun b hb => (unhide FA b).2 hb)⟩⟩
/-- What an action answers. -/
structure AcE (ok : Bool) (P F : Prop) : Prop where
  yes : ok = true → P
  fm : F
/-- What stored's and told's actions answer. -/
def ActIs (k : Nat) (fb g B gr rc op sm sr dm dr : Nat) (sx dx n : Int) (y : Mv) (t t2 : Ms) (st : Int) (m0 : List Int) (w : World) : Prop :=
  Calls Tryd.prog k #[.pointer (some ⟨g, 0, none⟩), .agg #[.int .i64 (op : Int), .int .i64 (sm : Int), .int .i64 (sr : Int), .int .i64 sx, .int .i64 (dm : Int), .int .i64 (dr : Int), .int .i64 dx, .int .i64 n], .pointer (some ⟨fb, 0, none⟩)] w fun e w' => e = .returned (.bool (t.woB op sm sr dm dr)) ∧ AcE (t.woB op sm sr dm dr) (Pz w' g B gr rc (y.wo t op sm sr dm dr) t2 st m0) (Fm w w' g y y)
set_option maxHeartbeats 4000000 in
theorem told_any (f fb : Nat) (g B gr rc op sm sr dm dr : Nat) (sx dx n : Int) (y : Mv) (t : Ms) (st : Int) (w : World) (h : Pz w g B gr rc y t st t.d.m) (hk : Dk t.d) (h1 : 1 ≤ op) (h13 : op ≤ 13) (hs : op ≤ 6 → sm ≤ 7 ∧ sr < 8) (d7 : dm ≤ 7) (d8 : dr < 8) (wk : WkIs f op) (hcf : ∀ vs w, (callFunc f vs).run Tryd.prog w = .ok (.enter f vs) w) (hb : Bx w fb f 118) : ActIs 102 fb g B gr rc op sm sr dm dr sx dx n y t (t.wo op sm sr dm dr) st (t.woT op sm sr dm dr).d.m w := by
  have H1 := hide (h.later (below_new w (Obj.cells #[.int .i64 (op : Int), .int .i64 (sm : Int), .int .i64 (sr : Int), .int .i64 sx, .int .i64 (dm : Int), .int .i64 (dr : Int), .int .i64 dx, .int .i64 n] 30)))
  have F1 := hide (Fm.of (g := g) (y := y) (below_new w (Obj.cells #[.int .i64 (op : Int), .int .i64 (sm : Int), .int .i64 (sr : Int), .int .i64 sx, .int .i64 (dm : Int), .int .i64 (dr : Int), .int .i64 dx, .int .i64 n] 30)))
  have WO := hide (wo_any f g B gr rc op sm sr dm dr sx dx n y t st _ (unhide H1) hk h1 h13 hs d7 d8 wk hcf)
  have CF : (w.alloc (Obj.cells #[.int .i64 (op : Int), .int .i64 (sm : Int), .int .i64 (sr : Int), .int .i64 sx, .int .i64 (dm : Int), .int .i64 (dr : Int), .int .i64 dx, .int .i64 n] 30)).cell? ⟨fb, 0, none⟩ = some (.func (.func f) #[] #[]) := (cell_of_row _ fb 0 _ 118 _ (hb.later (below_new w (Obj.cells #[.int .i64 (op : Int), .int .i64 (sm : Int), .int .i64 (sr : Int), .int .i64 sx, .int .i64 (dm : Int), .int .i64 (dr : Int), .int .i64 dx, .int .i64 n] 30)))).trans rfl
  unfold WoIs at WO
  unfold ActIs
  generalize t.woB op sm sr dm dr = ok at WO ⊢
  generalize t.wo op sm sr dm dr = t2 at WO ⊢
  generalize y.wo t op sm sr dm dr = y2 at WO ⊢
  generalize (t.woT op sm sr dm dr).d.m = m1 at WO ⊢
  generalize (t.sT op sm sr).opP g gr dm dr = pp at WO
  generalize wkS t op sm sr dm dr = r at WO
  clear h hk hb wk
  go_enter Tryd.func102, Tryd.ntmps102
  go_wp2_with fail
  refine (unhide WO).mono ?_
  rintro e w2 ⟨s, q, rfl, hs2⟩
  have F2 := hide ((unhide F1).trans hs2.fm)
  cases ok
  · obtain rfl := hs2.no rfl
    clear hs2 WO
    go_wp2
    go_ret
    exact ⟨rfl, ⟨fun h => by simp at h, unhide F2⟩⟩
  · obtain ⟨rfl, rfl, p2⟩ := hs2.yes rfl
    have H2 := hide p2
    clear hs2 WO p2
    go_wp2
    go_ret
    exact ⟨rfl, ⟨fun _ => unhide H2, unhide F2⟩⟩
set_option maxHeartbeats 4000000 in
theorem stored_any (f fb : Nat) (g B gr rc op sm sr dm dr : Nat) (sx dx n : Int) (y : Mv) (t : Ms) (st : Int) (w : World) (h : Pz w g B gr rc y t st t.d.m) (hk : Dk t.d) (h1 : 1 ≤ op) (h13 : op ≤ 13) (hs : op ≤ 6 → sm ≤ 7 ∧ sr < 8) (d7 : dm ≤ 7) (d8 : dr < 8) (wk : WkIs f op) (hcf : ∀ vs w, (callFunc f vs).run Tryd.prog w = .ok (.enter f vs) w) (hb : Bx w fb f 118) (r0 : 0 ≤ wkS t op sm sr dm dr) (r1 : wkS t op sm sr dm dr ≤ 65535) : ActIs 100 fb g B gr rc op sm sr dm dr sx dx n y t ((t.wo op sm sr dm dr).st ((t.sT op sm sr).d.plR dm dr) ((t.sT op sm sr).d.plA dm dr) (wkS t op sm sr dm dr)) st (t.woT op sm sr dm dr).d.m w := by
  have H1 := hide (h.later (below_new w (Obj.cells #[.int .i64 (op : Int), .int .i64 (sm : Int), .int .i64 (sr : Int), .int .i64 sx, .int .i64 (dm : Int), .int .i64 (dr : Int), .int .i64 dx, .int .i64 n] 30)))
  have F1 := hide (Fm.of (g := g) (y := y) (below_new w (Obj.cells #[.int .i64 (op : Int), .int .i64 (sm : Int), .int .i64 (sr : Int), .int .i64 sx, .int .i64 (dm : Int), .int .i64 (dr : Int), .int .i64 dx, .int .i64 n] 30)))
  have WO := hide (wo_any f g B gr rc op sm sr dm dr sx dx n y t st _ (unhide H1) hk h1 h13 hs d7 d8 wk hcf)
  have CF : (w.alloc (Obj.cells #[.int .i64 (op : Int), .int .i64 (sm : Int), .int .i64 (sr : Int), .int .i64 sx, .int .i64 (dm : Int), .int .i64 (dr : Int), .int .i64 dx, .int .i64 n] 30)).cell? ⟨fb, 0, none⟩ = some (.func (.func f) #[] #[]) := (cell_of_row _ fb 0 _ 118 _ (hb.later (below_new w (Obj.cells #[.int .i64 (op : Int), .int .i64 (sm : Int), .int .i64 (sr : Int), .int .i64 sx, .int .i64 (dm : Int), .int .i64 (dr : Int), .int .i64 dx, .int .i64 n] 30)))).trans rfl
  unfold WoIs at WO
  have PL := hide (show ∀ v m1, t.woB op sm sr dm dr = true → Pz v g B gr rc (y.wo t op sm sr dm dr) (t.wo op sm sr dm dr) st m1 → _ from fun v m1 (hb : t.woB op sm sr dm dr = true) (p : Pz v g B gr rc (y.wo t op sm sr dm dr) (t.wo op sm sr dm dr) st m1) =>
    (show v.cell? ((t.sT op sm sr).opP g gr dm dr) = some (.int .i64 ((t.sT op sm sr).opV dm dr)) ∧ v.frozen? ((t.sT op sm sr).opP g gr dm dr) = false ∧ (Pz (v.setCell ((t.sT op sm sr).opP g gr dm dr) (.int .i64 (wkS t op sm sr dm dr))) g B gr rc (y.wo t op sm sr dm dr) ((t.wo op sm sr dm dr).st ((t.sT op sm sr).d.plR dm dr) ((t.sT op sm sr).d.plA dm dr) (wkS t op sm sr dm dr)) st m1 ∧ Fm v (v.setCell ((t.sT op sm sr).opP g gr dm dr) (.int .i64 (wkS t op sm sr dm dr))) g (y.wo t op sm sr dm dr) (y.wo t op sm sr dm dr)) from by
      unfold Ms.woB Ms.opB at hb
      simp only [Bool.and_eq_true] at hb
      obtain ⟨a, b, c⟩ := p.place (r := (t.sT op sm sr).d.plR dm dr) (a := (t.sT op sm sr).d.plA dm dr) hb.2.2 (pl_sh (dk_sT hk op sm sr) dm dr d8 hb.2.1)
      exact ⟨a, b, c _ r0 r1⟩))
  unfold ActIs
  have FA := hide (show ∀ b, (y.wo t op sm sr dm dr).at b ↔ y.at b from fun b => Iff.rfl)
  generalize t.woB op sm sr dm dr = ok at WO PL ⊢
  generalize (t.wo op sm sr dm dr).st ((t.sT op sm sr).d.plR dm dr) ((t.sT op sm sr).d.plA dm dr) (wkS t op sm sr dm dr) = t3 at PL ⊢
  generalize t.wo op sm sr dm dr = t2 at WO PL
  generalize y.wo t op sm sr dm dr = y2 at WO PL FA ⊢
  generalize (t.woT op sm sr dm dr).d.m = m1 at WO ⊢
  generalize (t.sT op sm sr).opP g gr dm dr = pp at WO PL
  generalize (t.sT op sm sr).opV dm dr = dv at PL
  generalize wkS t op sm sr dm dr = r at WO PL r0 r1
  clear h hk hb wk
  go_enter Tryd.func100, Tryd.ntmps100
  go_wp2_with fail
  refine (unhide WO).mono ?_
  rintro e w2 ⟨s, q, rfl, hs2⟩
  have F2 := hide ((unhide F1).trans hs2.fm)
  cases ok
  · obtain rfl := hs2.no rfl
    clear hs2 WO PL
    go_wp2
    go_ret
    exact ⟨rfl, ⟨fun h => by simp at h, unhide F2⟩⟩
  · obtain ⟨rfl, rfl, p2⟩ := hs2.yes rfl
    obtain ⟨c1, c2, c3⟩ := unhide PL _ _ (by trivial) p2
    have H3 := hide c3.1
    have F3 := hide ((unhide F2).trans ((c3.2.src (fun b => (unhide FA b).symm)).dst (fun b hb => (unhide FA b).2 hb)))
    clear hs2 WO p2 PL c3 CF
    go_wp2
    go_ret
    exact ⟨rfl, ⟨fun _ => unhide H3, unhide F3⟩⟩
end Go.Proofs.YtboedaofbchdkaaDoor

namespace Go.Proofs.YtboedaofbchdkaaDoor
open Go.ChangeShapes Go.WideShapes Go.ChangeAt Go.RowKit
set_option linter.unusedVariables false
set_option maxRecDepth 8000
set_option linter.unusedSimpArgs false
theorem Ms.rg_at (t : Ms) (k j : Nat) (v : Int) (h : j ≠ k) : nAt (t.rg k v).d.r j = nAt t.d.r j := by
  unfold Ms.rg Md.reg nAt
  simp [List.getElem?_set, Ne.symm h]
theorem Dk.rgk {t : Ms} (h : Dk t.d) (k : Nat) (v : Int) (v0 : 0 ≤ v) (v1 : v ≤ 65535) : Dk (t.rg k v).d := h.setR k v v0 v1
def Ms.back1 (t : Ms) (k : Nat) : Ms := t.rg 7 (nAt t.d.r k)
def Ms.back (t : Ms) (k : Nat) : Ms := ((t.back1 k).rg 6 ((nAt t.d.r 6 + 2) % 65536)).rg k ((t.back1 k).d.get (nAt t.d.r 6))
end Go.Proofs.YtboedaofbchdkaaDoor

namespace Go.Proofs.YtboedaofbchdkaaDoor
open Go.ChangeShapes Go.WideShapes Go.ChangeAt Go.RowKit
set_option linter.unusedVariables false
set_option maxRecDepth 8000
set_option linter.unusedSimpArgs false
/-- What a branch's question answers. -/
def GoesIs (k : Nat) (q : Ms → Bool) : Prop := ∀ (g B gr rc : Nat) (y : Mv) (t : Ms) (st : Int) (m0 : List Int) (w : World), Pz w g B gr rc y t st m0 → Calls Tryd.prog k #[.pointer (some ⟨g, 0, none⟩)] w fun e w' => e = .returned (.bool (q t)) ∧ Below w.heap.size w w' 
theorem goes_always : GoesIs 89 (fun _ => true) := by
  intro g B gr rc y t st m0 w h
  clear h
  go_enter Tryd.func89, Tryd.ntmps89
  go_wp2
  go_ret
  exact ⟨rfl, Below.refl _ _⟩
set_option maxHeartbeats 1000000 in
theorem goes_notZero : GoesIs 90 (fun t => !t.z) := by
  intro g B gr rc y t st m0 w h
  obtain ⟨tn, tz, tv, -, -⟩ := h.flz
  simp only [tz]
  have c3 : w.cell? ⟨g, 259, none⟩ = some (.bool y.z) := h.cell 3 _ rfl
  generalize y.z = b3 at c3 ⊢
  clear h
  go_enter Tryd.func90, Tryd.ntmps90
  go_wp2
  go_ret
  exact ⟨rfl, Below.refl _ _⟩
set_option maxHeartbeats 1000000 in
theorem goes_zero : GoesIs 91 (fun t => t.z) := by
  intro g B gr rc y t st m0 w h
  obtain ⟨tn, tz, tv, -, -⟩ := h.flz
  simp only [tz]
  have c3 : w.cell? ⟨g, 259, none⟩ = some (.bool y.z) := h.cell 3 _ rfl
  generalize y.z = b3 at c3 ⊢
  clear h
  go_enter Tryd.func91, Tryd.ntmps91
  go_wp2
  go_ret
  exact ⟨rfl, Below.refl _ _⟩
set_option maxHeartbeats 1000000 in
theorem goes_notLess : GoesIs 92 (fun t => t.n == t.v) := by
  intro g B gr rc y t st m0 w h
  obtain ⟨tn, tz, tv, -, -⟩ := h.flz
  simp only [tn, tv]
  have c2 : w.cell? ⟨g, 258, none⟩ = some (.bool y.n) := h.cell 2 _ rfl
  have c4 : w.cell? ⟨g, 260, none⟩ = some (.bool y.v) := h.cell 4 _ rfl
  generalize y.n = b2 at c2 ⊢
  generalize y.v = b4 at c4 ⊢
  clear h
  go_enter Tryd.func92, Tryd.ntmps92
  go_wp2_with fail
  go_region_held (fun v => v.cell? ⟨g, 258, none⟩ = some (.bool b2) ∧ v.cell? ⟨g, 260, none⟩ = some (.bool b4)) (go_keep) (fail)
  go_wp2
  go_ret
  exact ⟨by cases b2 <;> cases b4 <;> rfl, below_drew⟩
set_option maxHeartbeats 1000000 in
theorem goes_less : GoesIs 93 (fun t => t.n != t.v) := by
  intro g B gr rc y t st m0 w h
  obtain ⟨tn, tz, tv, -, -⟩ := h.flz
  simp only [tn, tv]
  have c2 : w.cell? ⟨g, 258, none⟩ = some (.bool y.n) := h.cell 2 _ rfl
  have c4 : w.cell? ⟨g, 260, none⟩ = some (.bool y.v) := h.cell 4 _ rfl
  generalize y.n = b2 at c2 ⊢
  generalize y.v = b4 at c4 ⊢
  clear h
  go_enter Tryd.func93, Tryd.ntmps93
  go_wp2_with fail
  go_region_held (fun v => v.cell? ⟨g, 258, none⟩ = some (.bool b2) ∧ v.cell? ⟨g, 260, none⟩ = some (.bool b4)) (go_keep) (fail)
  go_wp2
  go_ret
  exact ⟨by cases b2 <;> cases b4 <;> rfl, below_drew⟩
set_option maxHeartbeats 4000000 in
theorem br_goes (f fb g B gr rc op sm sr dm dr : Nat) (sx dx n : Int) (y : Mv) (t : Ms) (st : Int) (m0 : List Int) (w : World) (q : Ms → Bool) (G : GoesIs f q) (hcf : ∀ vs w, (callFunc f vs).run Tryd.prog w = .ok (.enter f vs) w) (h : Pz w g B gr rc y t st m0) (hk : Dk t.d) (hn : -1000 ≤ n ∧ n ≤ 1000) (hb : Bx w fb f 112) :
    Calls Tryd.prog 111 #[.pointer (some ⟨g, 0, none⟩), .agg #[.int .i64 (op : Int), .int .i64 (sm : Int), .int .i64 (sr : Int), .int .i64 sx, .int .i64 (dm : Int), .int .i64 (dr : Int), .int .i64 dx, .int .i64 n], .pointer (some ⟨fb, 0, none⟩)] w fun e w' => e = .returned (.bool true) ∧ Pz w' g B gr rc y (if q t = true then t.rg 7 ((nAt t.d.r 7 + 2 * n) % 65536) else t) st m0 ∧ Fm w w' g y y := by
  have GL := hide h.gl
  have YL := hide (fun b (hb : y.at b) => h.yl hb)
  have H1 := hide (h.later (below_new w (Obj.cells #[.int .i64 (op : Int), .int .i64 (sm : Int), .int .i64 (sr : Int), .int .i64 sx, .int .i64 (dm : Int), .int .i64 (dr : Int), .int .i64 dx, .int .i64 n] 30)))
  have F1 := hide (Fm.of (g := g) (y := y) (below_new w (Obj.cells #[.int .i64 (op : Int), .int .i64 (sm : Int), .int .i64 (sr : Int), .int .i64 sx, .int .i64 (dm : Int), .int .i64 (dr : Int), .int .i64 dx, .int .i64 n] 30)))
  have R1 := hide (heap_alloc_last w (Obj.cells #[.int .i64 (op : Int), .int .i64 (sm : Int), .int .i64 (sr : Int), .int .i64 sx, .int .i64 (dm : Int), .int .i64 (dr : Int), .int .i64 dx, .int .i64 n] 30))
  have CF : (w.alloc (Obj.cells #[.int .i64 (op : Int), .int .i64 (sm : Int), .int .i64 (sr : Int), .int .i64 sx, .int .i64 (dm : Int), .int .i64 (dr : Int), .int .i64 dx, .int .i64 n] 30)).cell? ⟨fb, 0, none⟩ = some (.func (.func f) #[] #[]) := (cell_of_row _ fb 0 _ 112 _ (hb.later (below_new w (Obj.cells #[.int .i64 (op : Int), .int .i64 (sm : Int), .int .i64 (sr : Int), .int .i64 sx, .int .i64 (dm : Int), .int .i64 (dr : Int), .int .i64 dx, .int .i64 n] 30)))).trans rfl
  have GO := hide (G g B gr rc y t st m0 _ (unhide H1))
  have DK := hide hk
  obtain ⟨n0, n1⟩ := hn
  obtain ⟨v0, v1⟩ := hk.rw _ (nAt_mem (show 7 < t.d.r.length by have := hk.rl; omega))
  generalize q t = go at GO ⊢
  clear h hk hb
  cases go
  · go_enter Tryd.func111, Tryd.ntmps111
    go_wp2_with fail
    refine (unhide GO).mono ?_
    rintro e w2 ⟨rfl, b2⟩
    have H2 := hide ((unhide H1).later b2)
    have F2 := hide ((unhide F1).trans (Fm.of b2))
    clear b2
    go_wp2
    go_ret
    exact ⟨rfl, unhide H2, unhide F2⟩
  · have WR := hide (fun v => wrapI_any (nAt t.d.r 7 + 2 * n) v)
    have SR := hide (fun v (p : Pz v g B gr rc y t st m0) => p.setR 7 ((nAt t.d.r 7 + 2 * n) % 65536) (by omega))
    simp only [if_true]
    generalize (nAt t.d.r 7 + 2 * n) % 65536 = x at WR SR ⊢
    generalize t.rg 7 x = t2 at SR ⊢
    generalize nAt t.d.r 7 = v7 at WR SR v0 v1
    have hw : IntKind.i64.wrap (v7 + 2 * n) = v7 + 2 * n := by rw [IntKind.wrap_i64]; omega
    have hw2 : IntKind.i64.wrap (2 * n) = 2 * n := by rw [IntKind.wrap_i64]; omega
    go_enter Tryd.func111, Tryd.ntmps111
    go_wp2_with fail
    refine (unhide GO).mono ?_
    rintro e w2 ⟨rfl, b2⟩
    have H2 := hide ((unhide H1).later b2)
    have F2 := hide ((unhide F1).trans (Fm.of b2))
    have R2 := row_lat (unhide R1) b2
    have H3 := hide ((unhide H2).later (below_drew (w := w2)))
    have F3 := hide ((unhide F2).trans (Fm.of (below_drew (w := w2))))
    have c1 := (unhide H3).cr
    have c2 := insR 7 _ (row_lat R2 (below_drew (w := w2))) rfl
    obtain ⟨p4, f4, c3, c4⟩ := unhide SR _ (unhide H3)
    have H4 := hide p4
    have F4 := hide ((unhide F3).trans f4)
    clear b2 R2 p4 f4 CF GO SR H2 F2 H3 F3
    go_wp2_with fail
    refine wp_region_last (fun v => v = w2.drew) 18 (by kernel_rfl) ?_
    generalize w2.drew = wd at H4 F4 c1 c2 c3 c4 ⊢
    refine wpAnyL_takeW (i := 0) (v := .pointer (some ⟨g, 0, none⟩)) rfl (by kernel_rfl) (by kernel_rfl) (by kernel_rfl) (by kernel_rfl) (fun _ _ _ h => h) (Or.inl ⟨by rfl, fun w hc => ?_⟩) (.inl rfl) ?_
    · clear hc; go_simp
    go_simp
    refine wpAnyL_takeW (i := 1) (v := .pointer (some ⟨g, 0, none⟩)) rfl (by kernel_rfl) (by kernel_rfl) (by kernel_rfl) (by kernel_rfl) (fun _ _ _ h => h) (Or.inl ⟨by rfl, fun w hc => ?_⟩) (.inl rfl) ?_
    · clear hc; go_simp
    go_simp
    refine wpAnyL_takeW (i := 2) (v := .pointer (some ⟨g, 256, none⟩)) rfl (by kernel_rfl) (by kernel_rfl) (by kernel_rfl) (by kernel_rfl) (fun _ _ _ h => h) (Or.inl ⟨by rfl, fun w hc => ?_⟩) (.inl rfl) ?_
    · clear hc; go_simp
    go_simp
    refine wpAnyL_takeW (i := 3) (v := .pointer (some ⟨g, 257, none⟩)) rfl (by kernel_rfl) (by kernel_rfl) (by kernel_rfl) (by kernel_rfl) (fun _ _ _ h => h) (Or.inl ⟨by rfl, fun w hc => ?_⟩) (.inl rfl) ?_
    · clear hc; go_simp
    go_simp
    refine wpAnyL_takeS (i := 4) (v := .slice (some ⟨gr, 0, none⟩) 8 rc) rfl (by kernel_rfl) (by kernel_rfl) (by kernel_rfl) (by kernel_rfl) (by kernel_rfl) (fun _ _ _ h => h) (Or.inl ⟨by rfl, fun w hc => ?_⟩) (rfl) ?_
    · rw [hc]; clear hc; go_simp
    go_simp
    refine wpAnyL_takeW (i := 5) (v := .pointer (some ⟨g, 0, none⟩)) rfl (by kernel_rfl) (by kernel_rfl) (by kernel_rfl) (by kernel_rfl) (fun _ _ _ h => h) (Or.inl ⟨by rfl, fun w hc => ?_⟩) (.inl rfl) ?_
    · clear hc; go_simp
    go_simp
    refine wpAnyL_takeW (i := 6) (v := .pointer (some ⟨g, 0, none⟩)) rfl (by kernel_rfl) (by kernel_rfl) (by kernel_rfl) (by kernel_rfl) (fun _ _ _ h => h) (Or.inl ⟨by rfl, fun w hc => ?_⟩) (.inl rfl) ?_
    · clear hc; go_simp
    go_simp
    refine wpAnyL_takeW (i := 7) (v := .pointer (some ⟨g, 256, none⟩)) rfl (by kernel_rfl) (by kernel_rfl) (by kernel_rfl) (by kernel_rfl) (fun _ _ _ h => h) (Or.inl ⟨by rfl, fun w hc => ?_⟩) (.inl rfl) ?_
    · clear hc; go_simp
    go_simp
    refine wpAnyL_takeW (i := 8) (v := .pointer (some ⟨g, 257, none⟩)) rfl (by kernel_rfl) (by kernel_rfl) (by kernel_rfl) (by kernel_rfl) (fun _ _ _ h => h) (Or.inl ⟨by rfl, fun w hc => ?_⟩) (.inl rfl) ?_
    · clear hc; go_simp
    go_simp
    refine wpAnyL_takeS (i := 9) (v := .slice (some ⟨gr, 0, none⟩) 8 rc) rfl (by kernel_rfl) (by kernel_rfl) (by kernel_rfl) (by kernel_rfl) (by kernel_rfl) (fun _ _ _ h => h) (Or.inl ⟨by rfl, fun w hc => ?_⟩) (rfl) ?_
    · rw [hc]; clear hc; go_simp
    go_simp
    refine wpAnyL_takeW (i := 10) (v := .pointer (some ⟨gr, 7, none⟩)) rfl (by kernel_rfl) (by kernel_rfl) (by kernel_rfl) (by kernel_rfl) (fun _ _ _ h => h) (Or.inl ⟨by rfl, fun w hc => ?_⟩) (.inl rfl) ?_
    · clear hc; go_simp
    go_simp
    refine wpAnyL_takeS (i := 11) (v := .int .i64 v7) rfl (by kernel_rfl) (by kernel_rfl) (by kernel_rfl) (by kernel_rfl) (by kernel_rfl) (fun _ _ _ h => h) (Or.inl ⟨by rfl, fun w hc => ?_⟩) (rfl) ?_
    · rw [hc]; clear hc; go_simp
    go_simp
    refine wpAnyL_takeW (i := 12) (v := .pointer (some ⟨w.heap.size, 7, none⟩)) rfl (by kernel_rfl) (by kernel_rfl) (by kernel_rfl) (by kernel_rfl) (fun _ _ _ h => h) (Or.inl ⟨by rfl, fun w hc => ?_⟩) (.inl rfl) ?_
    · clear hc; go_simp
    go_simp
    refine wpAnyL_takeS (i := 13) (v := .int .i64 n) rfl (by kernel_rfl) (by kernel_rfl) (by kernel_rfl) (by kernel_rfl) (by kernel_rfl) (fun _ _ _ h => h) (Or.inl ⟨by rfl, fun w hc => ?_⟩) (rfl) ?_
    · rw [hc]; clear hc; go_simp
    go_simp
    refine wpAnyL_takeW (i := 14) (v := .int .i64 (2 * n)) rfl (by kernel_rfl) (by kernel_rfl) (by kernel_rfl) (by kernel_rfl) (fun _ _ _ h => h) (Or.inl ⟨by rfl, fun w hc => ?_⟩) (.inl rfl) ?_
    · clear hc; go_simp
    go_simp
    refine wpAnyL_takeW (i := 15) (v := .int .i64 (v7 + 2 * n)) rfl (by kernel_rfl) (by kernel_rfl) (by kernel_rfl) (by kernel_rfl) (fun _ _ _ h => h) (Or.inl ⟨by rfl, fun w hc => ?_⟩) (.inl rfl) ?_
    · clear hc; go_simp
    go_simp
    refine wpAnyL_one (i := 16) (by kernel_rfl) rfl (fun K2 hK => ?_)
    go_simp
    refine (unhide WR _).mono ?_
    rintro e w9 ⟨rfl, hw9⟩
    rw [hw9]
    clear hw9 w9
    refine hK.out _ _ (fun _ => rfl) ?_
    clear hK K2
    refine wpAnyL_takeW (i := 17) (v := .pointer (some ⟨gr, 7, none⟩)) rfl (by kernel_rfl) (by kernel_rfl) (by kernel_rfl) (by kernel_rfl) (fun _ _ _ h => h) (Or.inl ⟨by rfl, fun w hc => ?_⟩) (.inl rfl) ?_
    · clear hc; go_simp
    go_simp
    refine wpAnyL_one (i := 18) (by kernel_rfl) rfl (fun K2 hK => ?_)
    go_simp
    refine hK.out _ _ (fun h => absurd h (by decide)) ?_
    clear hK K2
    refine wpAnyL_done (by kernel_rfl) ?_ _
    go_wp2
    go_ret
    exact ⟨rfl, unhide H4, unhide F4⟩
end Go.Proofs.YtboedaofbchdkaaDoor

namespace Go.Proofs.YtboedaofbchdkaaDoor
open Go.ChangeShapes Go.WideShapes Go.ChangeAt Go.RowKit
set_option linter.unusedVariables false
set_option maxRecDepth 8000
set_option linter.unusedSimpArgs false
theorem dk_stM {t : Ms} (h : Dk t.d) (r p n : Int) : Dk (t.st r p n).d := by
  unfold Ms.st
  exact dk_stS h r p n
def Ms.go1 (t : Ms) : Ms := t.rg 6 ((nAt t.d.r 6 - 2) % 65536)
def Ms.go2 (t : Ms) (k : Nat) : Ms := t.go1.st (-1) ((nAt t.d.r 6 - 2) % 65536) (nAt t.go1.d.r k)
def Ms.go3 (t : Ms) (k : Nat) : Ms := (t.go2 k).rg k (nAt (t.go2 k).d.r 7)
def Ms.call (t : Ms) (k : Nat) (qa : Int) : Ms := (t.go3 k).rg 7 qa
end Go.Proofs.YtboedaofbchdkaaDoor
