/- Contracts over this seat's translation, laid together; conditions stand as hypotheses of each. -/
import Derived.Test.YtboedaofbchdkaaGreatDoorRsM
import Derived.Laws.EntriesVeiled
namespace Go.Proofs.YtboedaofbchdkaaGreatDoor
open Go.ChangeShapes Go.WideShapes Go.ChangeAt Go.RowKit
set_option maxHeartbeats 16000000
set_option linter.unusedVariables false
set_option maxRecDepth 8000
theorem and_high (n k j : Nat) (h : n < 2 ^ (k + j)) : n &&& ((2 ^ j - 1) * 2 ^ k) = n / 2 ^ k * 2 ^ k := by
 apply Nat.eq_of_testBit_eq
 intro i
 rw [Nat.testBit_and, Nat.testBit_mul_two_pow, Nat.testBit_mul_two_pow, Nat.testBit_two_pow_sub_one, Nat.testBit_div_two_pow]
 by_cases hi : k ≤ i
 ·
  have e : k + (i - k) = i := by omega
  have e2 : i - k + k = i := by omega
  simp only [hi, e2, decide_true, Bool.true_and]
  by_cases hj : i - k < j
  · simp [hj]
  ·
   have : n.testBit i = false := Nat.testBit_lt_two_pow (Nat.lt_of_lt_of_le h (Nat.pow_le_pow_right (by omega) (by omega)))
   simp [hj, this]
 · simp [hi]
theorem bits_and (n m : Nat) (hn : n < 65536) (hm : m < 65536) : bits .and .i64 (n : Int) (m : Int) = ((n &&& m : Nat) : Int) := by
 have key : (BitVec.ofInt 64 (n : Int) &&& BitVec.ofInt 64 (m : Int)).toNat = n &&& m := by
  rw [BitVec.toNat_and, BitVec.toNat_ofInt, BitVec.toNat_ofInt]
  have e1 : ((n : Int) % ((2 ^ 64 : Nat) : Int)).toNat = n := by omega
  have e2 : ((m : Int) % ((2 ^ 64 : Nat) : Int)).toNat = m := by omega
  rw [e1, e2]
 have hle : n &&& m ≤ n := Nat.and_le_left
 show IntKind.i64.wrap ((BitVec.ofInt 64 (n : Int) &&& BitVec.ofInt 64 (m : Int)).toNat : Nat) = _
 rw [key, IntKind.wrap_i64]
 omega
theorem and_F000 (n : Nat) (hn : n < 65536) : bits .and .i64 (n : Int) 61440 = ((n / 4096 * 4096 : Nat) : Int) := by
 rw [show (61440 : Int) = ((61440 : Nat) : Int) from rfl, bits_and n 61440 hn (by omega)]
 exact congrArg Int.ofNat (and_high n 12 4 (by simpa using hn))
theorem and_FFC0 (n : Nat) (hn : n < 65536) : bits .and .i64 (n : Int) 65472 = ((n / 64 * 64 : Nat) : Int) := by
 rw [show (65472 : Int) = ((65472 : Nat) : Int) from rfl, bits_and n 65472 hn (by omega)]
 exact congrArg Int.ofNat (and_high n 6 10 (by simpa using hn))
theorem and_FE00 (n : Nat) (hn : n < 65536) : bits .and .i64 (n : Int) 65024 = ((n / 512 * 512 : Nat) : Int) := by
 rw [show (65024 : Int) = ((65024 : Nat) : Int) from rfl, bits_and n 65024 hn (by omega)]
 exact congrArg Int.ofNat (and_high n 9 7 (by simpa using hn))
theorem and_FFF8 (n : Nat) (hn : n < 65536) : bits .and .i64 (n : Int) 65528 = ((n / 8 * 8 : Nat) : Int) := by
 rw [show (65528 : Int) = ((65528 : Nat) : Int) from rfl, bits_and n 65528 hn (by omega)]
 exact congrArg Int.ofNat (and_high n 3 13 (by simpa using hn))
theorem and_FF00 (n : Nat) (hn : n < 65536) : bits .and .i64 (n : Int) 65280 = ((n / 256 * 256 : Nat) : Int) := by
 rw [show (65280 : Int) = ((65280 : Nat) : Int) from rfl, bits_and n 65280 hn (by omega)]
 exact congrArg Int.ofNat (and_high n 8 8 (by simpa using hn))
theorem and_7 (n : Nat) (hn : n < 65536) : bits .and .i64 (n : Int) 7 = ((n % 8 : Nat) : Int) := by
 rw [show (7 : Int) = ((7 : Nat) : Int) from rfl, bits_and n 7 hn (by omega)]
 exact congrArg Int.ofNat (Nat.and_two_pow_sub_one_eq_mod n 3)
theorem and_FF (n : Nat) (hn : n < 65536) : bits .and .i64 (n : Int) 255 = ((n % 256 : Nat) : Int) := by
 rw [show (255 : Int) = ((255 : Nat) : Int) from rfl, bits_and n 255 hn (by omega)]
 exact congrArg Int.ofNat (Nat.and_two_pow_sub_one_eq_mod n 8)
theorem and_7i (n : Nat) (hn : n < 65536) : bits .and .i64 (n : Int) 7 = (n : Int) % 8 := by rw [and_7 n hn]; omega
theorem and_FFi (n : Nat) (hn : n < 65536) : bits .and .i64 (n : Int) 255 = (n : Int) % 256 := by rw [and_FF n hn]; omega
theorem sh3_7 (n : Nat) (hn : n < 65536) : bits .and .i64 ((n : Int) / 8) 7 = (n : Int) / 8 % 8 := by
 have := and_7i (n / 8) (by omega)
 rw [show ((n / 8 : Nat) : Int) = (n : Int) / 8 by omega] at this
 exact this
theorem sh6_7 (n : Nat) (hn : n < 65536) : bits .and .i64 ((n : Int) / 64) 7 = (n : Int) / 64 % 8 := by
 have := and_7i (n / 64) (by omega)
 rw [show ((n / 64 : Nat) : Int) = (n : Int) / 64 by omega] at this
 exact this
def opdOf (n : Int) : Od := ⟨n / 8 % 8, n % 8, 0⟩
theorem l4Opd_any (n : Nat) (hn : n < 65536) (w : World) : Calls Tryz.prog 46 #[.int .i64 (n : Int)] w fun e w' => e = .returned (opdOf (n : Int)).v ∧ Below w.heap.size w w' := by
 have h1 := and_7i n hn
 have h2 := sh3_7 n hn
 have HG : ∀ o, (w.alloc o).heap[w.heap.size]? = some o := fun o => Array.getElem?_push_size
 have HG' := hide HG
 clear HG
 unfold opdOf Od.v
 simp only
 go_enter Tryz.func46, Tryz.ntmps46
 go_wp2
 refine bodyPost_ret (results_cell_row (P := Tryz.prog) rfl _ _ w.heap.size 46 #[.int .i64 ((n : Int) / 8 % 8), .int .i64 ((n : Int) % 8), .int .i64 0] (0, 0) _ rfl (uh HG' _) Tryz.underlying46 rfl (by kernel_rfl)) rfl ?_
 exact ⟨rfl, (Below.refl _ _).alloc (Nat.le_refl _) _⟩
set_option linter.unusedSimpArgs false
def formsA : Array Value := #[.int .i64 1, .int .i64 6, .int .i64 4096, .func (.func 114) #[] #[], .func (.func 115) #[] #[], .int .i64 7, .int .i64 14, .int .i64 64, .func (.func 116) #[] #[], .func (.func 117) #[] #[], .int .i64 15, .int .i64 15, .int .i64 512, .func (.func 118) #[] #[], .func (.func 119) #[] #[], .int .i64 16, .int .i64 16, .int .i64 8, .func (.func 120) #[] #[], .func (.func 121) #[] #[], .int .i64 17, .int .i64 21, .int .i64 256, .func (.func 122) #[] #[], .func (.func 123) #[] #[], .int .i64 22, .int .i64 22, .int .i64 1, .func (.func 120) #[] #[], .func (.func 121) #[] #[], .int .i64 23, .int .i64 23, .int .i64 256, .func (.func 120) #[] #[], .func (.func 121) #[] #[]]
theorem wpList_store_newQ {P : Program} {ops : Array Oper} {rest : List Oper} {o : Oper} {a : Act} {w : World} {Q : Exit → Act → World → Prop} (hgd : o.guard = none) (ty : TypeId) (x y : Operand) (ho : o.op = .store ty x y)
  (cells : Array Value) (hx : a.eval x = .pointer (some ⟨w.heap.size, 0, none⟩)) (hy : a.eval y = .agg cells) (old : Array Value) (hi : (P.info? ty).map (·.size) = some cells.size)
  (hold : old.size = cells.size) (h1 : cells.all (·.oneCell') = true) (h : wpList P ops Q rest (a.put o.dst undef) (w.alloc (.cells cells ty))) : wpList P ops Q (o :: rest) a (w.alloc (.cells old ty)) :=
 wpList_store_row hgd ty x y ho w.heap.size cells hx hy ty old (heap_alloc_last w _) hi hold h1 (by rw [World.setRow_alloc_new]; exact h)
theorem forms_any (w : World) : Calls Tryz.prog 95 #[] w fun e w' => e = .returned (.agg formsA) ∧ Below w.heap.size w w' := by
 have HG : ∀ o, (w.alloc o).heap[w.heap.size]? = some o := fun o => Array.getElem?_push_size
 have HG' := hide HG
 clear HG
 go_enter Tryz.func95, Tryz.ntmps95
 go_wp2_with (refine wpList_store_newQ rfl 104 _ _ rfl formsA rfl rfl _ (by kernel_rfl) rfl (by kernel_rfl) ?_)
 refine bodyPost_ret (results_cell_row (P := Tryz.prog) rfl _ _ w.heap.size 104 formsA (0, 0) _ rfl (uh HG' _) Tryz.underlying104 rfl (by kernel_rfl)) rfl ?_
 exact ⟨rfl, (Below.refl _ _).alloc (Nat.le_refl _) _⟩
section
def Tab (w : World) : Prop := 0 < w.heap.size ∧ ∀ k, k < 24 → w.cell? ⟨0, k, none⟩ = some (.int .i64 (baseAt k))
theorem Tab.later {w w' : World} (h : Tab w) (hb : Below w.heap.size w w') : Tab w' :=
 ⟨Nat.lt_of_lt_of_le h.1 hb.size, fun k hk => (hb.cell (p := ⟨0, k, none⟩) h.1).trans (h.2 k hk)⟩
def firstOf (j : Nat) : Nat := [1, 7, 15, 16, 17, 22, 23, 24].getD j 0
theorem wpList_index_at {P : Program} {ops : Array Oper} {rest : List Oper} {o : Oper} {a : Act} {w : World} {Q : Exit → Act → World → Prop} (hgd : o.guard = none) (xt : TypeId) (x ix : Operand) (ho : o.op = .index xt x ix) (cs : Array Value) (i : Int) (v : Value)
  (hx : a.eval x = .agg cs) (hi : a.eval ix = .int .i64 i) (hr : ∀ w, (Instr.index xt (.agg cs) (.int .i64 i)).run P w = .ok v w) (h : wpList P ops Q rest (a.put o.dst v) w) : wpList P ops Q (o :: rest) a w :=
 wpList_plain hgd fun _ hK => by
  unfold Oper.wp execOp
  simp only [ho, hx, hi, hr, Sem.run_bind, Sem.run_pure, Result.andThen_ok]
  exact hK _ _ h
theorem ix_0 (w : World) : (Instr.index 104 (.agg formsA) (.int .i64 0)).run Tryz.prog w = .ok (.agg #[.int .i64 1, .int .i64 6, .int .i64 4096, .func (.func 114) #[] #[], .func (.func 115) #[] #[]]) w := by kernel_rfl
theorem ix_1 (w : World) : (Instr.index 104 (.agg formsA) (.int .i64 1)).run Tryz.prog w = .ok (.agg #[.int .i64 7, .int .i64 14, .int .i64 64, .func (.func 116) #[] #[], .func (.func 117) #[] #[]]) w := by kernel_rfl
theorem ix_2 (w : World) : (Instr.index 104 (.agg formsA) (.int .i64 2)).run Tryz.prog w = .ok (.agg #[.int .i64 15, .int .i64 15, .int .i64 512, .func (.func 118) #[] #[], .func (.func 119) #[] #[]]) w := by kernel_rfl
theorem ix_3 (w : World) : (Instr.index 104 (.agg formsA) (.int .i64 3)).run Tryz.prog w = .ok (.agg #[.int .i64 16, .int .i64 16, .int .i64 8, .func (.func 120) #[] #[], .func (.func 121) #[] #[]]) w := by kernel_rfl
theorem ix_4 (w : World) : (Instr.index 104 (.agg formsA) (.int .i64 4)).run Tryz.prog w = .ok (.agg #[.int .i64 17, .int .i64 21, .int .i64 256, .func (.func 122) #[] #[], .func (.func 123) #[] #[]]) w := by kernel_rfl
theorem ix_5 (w : World) : (Instr.index 104 (.agg formsA) (.int .i64 5)).run Tryz.prog w = .ok (.agg #[.int .i64 22, .int .i64 22, .int .i64 1, .func (.func 120) #[] #[], .func (.func 121) #[] #[]]) w := by kernel_rfl
theorem ix_6 (w : World) : (Instr.index 104 (.agg formsA) (.int .i64 6)).run Tryz.prog w = .ok (.agg #[.int .i64 23, .int .i64 23, .int .i64 256, .func (.func 120) #[] #[], .func (.func 121) #[] #[]]) w := by kernel_rfl
end
def Bx (w : World) (b k ty : Nat) : Prop := w.heap[b]? = some (.cells #[.func (.func k) #[] #[]] ty (0, 0))
theorem Bx.lt {w : World} {b k ty : Nat} (h : Bx w b k ty) : b < w.heap.size := (Array.getElem?_eq_some_iff.1 h).1
theorem Bx.later {w w' : World} {b k ty : Nat} (h : Bx w b k ty) (hb : Below w.heap.size w w') : Bx w' b k ty := (hb.block b h.lt).trans h
structure Bxs (w0 w : World) (l : List (Nat × Nat × Nat)) : Prop where
 all : ∀ p ∈ l, w0.heap.size ≤ p.1 ∧ Bx w p.1 p.2.1 p.2.2
 bel : Below w0.heap.size w0 w
theorem Bxs.nil (w : World) : Bxs w w [] := ⟨(fun p hp => absurd hp List.not_mem_nil), Below.refl _ _⟩
theorem Bxs.more {w0 w w' : World} {l : List (Nat × Nat × Nat)} (h : Bxs w0 w l) {b k ty : Nat} (hl : w.heap.size ≤ b) (hx : Bx w' b k ty) (hb : Below w.heap.size w w') : Bxs w0 w' ((b, k, ty) :: l) :=
 ⟨fun p hp => by
  rcases List.mem_cons.1 hp with rfl | hp
  · exact ⟨Nat.le_trans h.bel.size hl, hx⟩
  · exact ⟨(h.all p hp).1, (h.all p hp).2.later hb⟩, h.bel.trans (hb.mono h.bel.size)⟩
theorem heap_alloc_last' (w : World) (o : Obj) : (w.alloc o).heap[w.heap.size]? = some o := Array.getElem?_push_size
theorem stored_c (k : Nat) (w : World) : Calls Tryz.prog 68 #[.func (.func k) #[] #[]] w fun e w' => ∃ b, e = .returned (.func (.func 100) #[] #[.pointer (some ⟨b, 0, none⟩)]) ∧ w.heap.size ≤ b ∧ Bx w' b k 111 ∧ Below w.heap.size w w' := by
 have hmf : ∀ (fn : Fn) (first cap : Array Value) (w : World), (Instr.makeFunc fn first cap).run Tryz.prog w = .ok (.func fn first cap) w := fun _ _ _ _ => rfl
 go_enter Tryz.func68, Tryz.ntmps68
 go_wp2
 go_ret
 exact ⟨w.heap.size, rfl, Nat.le_refl _, heap_alloc_last' w _, (Below.refl _ _).alloc (Nat.le_refl _) _⟩
theorem told_c (k : Nat) (w : World) : Calls Tryz.prog 70 #[.func (.func k) #[] #[]] w fun e w' => ∃ b, e = .returned (.func (.func 102) #[] #[.pointer (some ⟨b, 0, none⟩)]) ∧ w.heap.size ≤ b ∧ Bx w' b k 111 ∧ Below w.heap.size w w' := by
 have hmf : ∀ (fn : Fn) (first cap : Array Value) (w : World), (Instr.makeFunc fn first cap).run Tryz.prog w = .ok (.func fn first cap) w := fun _ _ _ _ => rfl
 go_enter Tryz.func70, Tryz.ntmps70
 go_wp2
 go_ret
 exact ⟨w.heap.size, rfl, Nat.le_refl _, heap_alloc_last' w _, (Below.refl _ _).alloc (Nat.le_refl _) _⟩
theorem branch_c (k : Nat) (w : World) : Calls Tryz.prog 86 #[.func (.func k) #[] #[]] w fun e w' => ∃ b, e = .returned (.func (.func 111) #[] #[.pointer (some ⟨b, 0, none⟩)]) ∧ w.heap.size ≤ b ∧ Bx w' b k 97 ∧ Below w.heap.size w w' := by
 have hmf : ∀ (fn : Fn) (first cap : Array Value) (w : World), (Instr.makeFunc fn first cap).run Tryz.prog w = .ok (.func fn first cap) w := fun _ _ _ _ => rfl
 go_enter Tryz.func86, Tryz.ntmps86
 go_wp2
 go_ret
 exact ⟨w.heap.size, rfl, Nat.le_refl _, heap_alloc_last' w _, (Below.refl _ _).alloc (Nat.le_refl _) _⟩
def actV (op b : Nat) : Value :=
 match op with
 | 1 => .func (.func 100) #[] #[.pointer (some ⟨b, 0, none⟩)]
 | 2 => .func (.func 102) #[] #[.pointer (some ⟨b, 0, none⟩)]
 | 3 => .func (.func 100) #[] #[.pointer (some ⟨b, 0, none⟩)]
 | 4 => .func (.func 100) #[] #[.pointer (some ⟨b, 0, none⟩)]
 | 5 => .func (.func 100) #[] #[.pointer (some ⟨b, 0, none⟩)]
 | 6 => .func (.func 100) #[] #[.pointer (some ⟨b, 0, none⟩)]
 | 7 => .func (.func 100) #[] #[.pointer (some ⟨b, 0, none⟩)]
 | 8 => .func (.func 100) #[] #[.pointer (some ⟨b, 0, none⟩)]
 | 9 => .func (.func 100) #[] #[.pointer (some ⟨b, 0, none⟩)]
 | 10 => .func (.func 100) #[] #[.pointer (some ⟨b, 0, none⟩)]
 | 11 => .func (.func 102) #[] #[.pointer (some ⟨b, 0, none⟩)]
 | 12 => .func (.func 100) #[] #[.pointer (some ⟨b, 0, none⟩)]
 | 13 => .func (.func 100) #[] #[.pointer (some ⟨b, 0, none⟩)]
 | 14 => .func (.func 83) #[] #[]
 | 15 => .func (.func 84) #[] #[]
 | 16 => .func (.func 85) #[] #[]
 | 17 => .func (.func 111) #[] #[.pointer (some ⟨b, 0, none⟩)]
 | 18 => .func (.func 111) #[] #[.pointer (some ⟨b, 0, none⟩)]
 | 19 => .func (.func 111) #[] #[.pointer (some ⟨b, 0, none⟩)]
 | 20 => .func (.func 111) #[] #[.pointer (some ⟨b, 0, none⟩)]
 | 21 => .func (.func 111) #[] #[.pointer (some ⟨b, 0, none⟩)]
 | 22 => .func (.func 92) #[] #[]
 | 23 => .func (.func 93) #[] #[]
 | _ => .nilFunc
def actB (B : Nat) (w : World) (op b : Nat) : Prop :=
 match op with
 | 1 => B ≤ b ∧ Bx w b 69 111
 | 2 => B ≤ b ∧ Bx w b 71 111
 | 3 => B ≤ b ∧ Bx w b 72 111
 | 4 => B ≤ b ∧ Bx w b 73 111
 | 5 => B ≤ b ∧ Bx w b 74 111
 | 6 => B ≤ b ∧ Bx w b 75 111
 | 7 => B ≤ b ∧ Bx w b 76 111
 | 8 => B ≤ b ∧ Bx w b 77 111
 | 9 => B ≤ b ∧ Bx w b 78 111
 | 10 => B ≤ b ∧ Bx w b 79 111
 | 11 => B ≤ b ∧ Bx w b 80 111
 | 12 => B ≤ b ∧ Bx w b 81 111
 | 13 => B ≤ b ∧ Bx w b 82 111
 | 17 => B ≤ b ∧ Bx w b 87 97
 | 18 => B ≤ b ∧ Bx w b 88 97
 | 19 => B ≤ b ∧ Bx w b 89 97
 | 20 => B ≤ b ∧ Bx w b 90 97
 | 21 => B ≤ b ∧ Bx w b 91 97
 | _ => True
def actSel (op : Nat) (l : List Nat) : Nat := l.getD (if op ≤ 13 then op - 1 else if 17 ≤ op then op - 4 else 20) 0
theorem actionOf_any (op : Nat) (h1 : 1 ≤ op) (h2 : op ≤ 23) (w : World) : Calls Tryz.prog 58 #[.int .i64 (op : Int)] w fun e w' => ∃ b, e = .returned (actV op b) ∧ actB w.heap.size w' op b ∧ Below w.heap.size w w' := by
 have S0 := hide (Bxs.nil w)
 have E := hide (show op = 1 ∨ op = 2 ∨ op = 3 ∨ op = 4 ∨ op = 5 ∨ op = 6 ∨ op = 7 ∨ op = 8 ∨ op = 9 ∨ op = 10 ∨ op = 11 ∨ op = 12 ∨ op = 13 ∨ op = 14 ∨ op = 15 ∨ op = 16 ∨ op = 17 ∨ op = 18 ∨ op = 19 ∨ op = 20 ∨ op = 21 ∨ op = 22 ∨ op = 23 by omega)
 clear h1 h2
 go_enter Tryz.func58, Tryz.ntmps58
 go_wp2_with fail
 refine (stored_c 69 _).mono ?_
 rintro e w1 ⟨b1, rfl, l1, x1, c1⟩
 have S1 := hide ((uh S0).more l1 x1 c1)
 clear S0 l1 x1 c1
 go_wp2_with fail
 refine (told_c 71 _).mono ?_
 rintro e w2 ⟨b2, rfl, l2, x2, c2⟩
 have S2 := hide ((uh S1).more l2 x2 c2)
 clear S1 l2 x2 c2
 go_wp2_with fail
 refine (stored_c 72 _).mono ?_
 rintro e w3 ⟨b3, rfl, l3, x3, c3⟩
 have S3 := hide ((uh S2).more l3 x3 c3)
 clear S2 l3 x3 c3
 go_wp2_with fail
 refine (stored_c 73 _).mono ?_
 rintro e w4 ⟨b4, rfl, l4, x4, c4⟩
 have S4 := hide ((uh S3).more l4 x4 c4)
 clear S3 l4 x4 c4
 go_wp2_with fail
 refine (stored_c 74 _).mono ?_
 rintro e w5 ⟨b5, rfl, l5, x5, c5⟩
 have S5 := hide ((uh S4).more l5 x5 c5)
 clear S4 l5 x5 c5
 go_wp2_with fail
 refine (stored_c 75 _).mono ?_
 rintro e w6 ⟨b6, rfl, l6, x6, c6⟩
 have S6 := hide ((uh S5).more l6 x6 c6)
 clear S5 l6 x6 c6
 go_wp2_with fail
 refine (stored_c 76 _).mono ?_
 rintro e w7 ⟨b7, rfl, l7, x7, c7⟩
 have S7 := hide ((uh S6).more l7 x7 c7)
 clear S6 l7 x7 c7
 go_wp2_with fail
 refine (stored_c 77 _).mono ?_
 rintro e w8 ⟨b8, rfl, l8, x8, c8⟩
 have S8 := hide ((uh S7).more l8 x8 c8)
 clear S7 l8 x8 c8
 go_wp2_with fail
 refine (stored_c 78 _).mono ?_
 rintro e w9 ⟨b9, rfl, l9, x9, c9⟩
 have S9 := hide ((uh S8).more l9 x9 c9)
 clear S8 l9 x9 c9
 go_wp2_with fail
 refine (stored_c 79 _).mono ?_
 rintro e w10 ⟨b10, rfl, l10, x10, c10⟩
 have S10 := hide ((uh S9).more l10 x10 c10)
 clear S9 l10 x10 c10
 go_wp2_with fail
 refine (told_c 80 _).mono ?_
 rintro e w11 ⟨b11, rfl, l11, x11, c11⟩
 have S11 := hide ((uh S10).more l11 x11 c11)
 clear S10 l11 x11 c11
 go_wp2_with fail
 refine (stored_c 81 _).mono ?_
 rintro e w12 ⟨b12, rfl, l12, x12, c12⟩
 have S12 := hide ((uh S11).more l12 x12 c12)
 clear S11 l12 x12 c12
 go_wp2_with fail
 refine (stored_c 82 _).mono ?_
 rintro e w13 ⟨b13, rfl, l13, x13, c13⟩
 have S13 := hide ((uh S12).more l13 x13 c13)
 clear S12 l13 x13 c13
 go_wp2_with fail
 refine (branch_c 87 _).mono ?_
 rintro e w14 ⟨b14, rfl, l14, x14, c14⟩
 have S14 := hide ((uh S13).more l14 x14 c14)
 clear S13 l14 x14 c14
 go_wp2_with fail
 refine (branch_c 88 _).mono ?_
 rintro e w15 ⟨b15, rfl, l15, x15, c15⟩
 have S15 := hide ((uh S14).more l15 x15 c15)
 clear S14 l15 x15 c15
 go_wp2_with fail
 refine (branch_c 89 _).mono ?_
 rintro e w16 ⟨b16, rfl, l16, x16, c16⟩
 have S16 := hide ((uh S15).more l16 x16 c16)
 clear S15 l16 x16 c16
 go_wp2_with fail
 refine (branch_c 90 _).mono ?_
 rintro e w17 ⟨b17, rfl, l17, x17, c17⟩
 have S17 := hide ((uh S16).more l17 x17 c17)
 clear S16 l17 x17 c17
 go_wp2_with fail
 refine (branch_c 91 _).mono ?_
 rintro e w18 ⟨b18, rfl, l18, x18, c18⟩
 have S18 := hide ((uh S17).more l18 x18 c18)
 clear S17 l18 x18 c18
 have IX := hide (show ∀ v : World, (Instr.index 98 (.agg #[.nilFunc, .func (.func 100) #[] #[.pointer (some ⟨b1, 0, none⟩)], .func (.func 102) #[] #[.pointer (some ⟨b2, 0, none⟩)], .func (.func 100) #[] #[.pointer (some ⟨b3, 0, none⟩)], .func (.func 100) #[] #[.pointer (some ⟨b4, 0, none⟩)], .func (.func 100) #[] #[.pointer (some ⟨b5, 0, none⟩)], .func (.func 100) #[] #[.pointer (some ⟨b6, 0, none⟩)], .func (.func 100) #[] #[.pointer (some ⟨b7, 0, none⟩)], .func (.func 100) #[] #[.pointer (some ⟨b8, 0, none⟩)], .func (.func 100) #[] #[.pointer (some ⟨b9, 0, none⟩)], .func (.func 100) #[] #[.pointer (some ⟨b10, 0, none⟩)], .func (.func 102) #[] #[.pointer (some ⟨b11, 0, none⟩)], .func (.func 100) #[] #[.pointer (some ⟨b12, 0, none⟩)], .func (.func 100) #[] #[.pointer (some ⟨b13, 0, none⟩)], .func (.func 83) #[] #[], .func (.func 84) #[] #[], .func (.func 85) #[] #[], .func (.func 111) #[] #[.pointer (some ⟨b14, 0, none⟩)], .func (.func 111) #[] #[.pointer (some ⟨b15, 0, none⟩)], .func (.func 111) #[] #[.pointer (some ⟨b16, 0, none⟩)], .func (.func 111) #[] #[.pointer (some ⟨b17, 0, none⟩)], .func (.func 111) #[] #[.pointer (some ⟨b18, 0, none⟩)], .func (.func 92) #[] #[], .func (.func 93) #[] #[]]) (.int .i64 (op : Int))).run Tryz.prog v = .ok (actV op (actSel op [b1, b2, b3, b4, b5, b6, b7, b8, b9, b10, b11, b12, b13, b14, b15, b16, b17, b18])) v by
  rcases uh E with rfl | rfl | rfl | rfl | rfl | rfl | rfl | rfl | rfl | rfl | rfl | rfl | rfl | rfl | rfl | rfl | rfl | rfl | rfl | rfl | rfl | rfl | rfl <;> exact fun v => by kernel_rfl)
 have FB := hide (show actB w.heap.size w18 op (actSel op [b1, b2, b3, b4, b5, b6, b7, b8, b9, b10, b11, b12, b13, b14, b15, b16, b17, b18]) by
  rcases uh E with rfl | rfl | rfl | rfl | rfl | rfl | rfl | rfl | rfl | rfl | rfl | rfl | rfl | rfl | rfl | rfl | rfl | rfl | rfl | rfl | rfl | rfl | rfl
  · exact (uh S18).all (b1, _, _) (by simp)
  · exact (uh S18).all (b2, _, _) (by simp)
  · exact (uh S18).all (b3, _, _) (by simp)
  · exact (uh S18).all (b4, _, _) (by simp)
  · exact (uh S18).all (b5, _, _) (by simp)
  · exact (uh S18).all (b6, _, _) (by simp)
  · exact (uh S18).all (b7, _, _) (by simp)
  · exact (uh S18).all (b8, _, _) (by simp)
  · exact (uh S18).all (b9, _, _) (by simp)
  · exact (uh S18).all (b10, _, _) (by simp)
  · exact (uh S18).all (b11, _, _) (by simp)
  · exact (uh S18).all (b12, _, _) (by simp)
  · exact (uh S18).all (b13, _, _) (by simp)
  · exact trivial
  · exact trivial
  · exact trivial
  · exact (uh S18).all (b14, _, _) (by simp)
  · exact (uh S18).all (b15, _, _) (by simp)
  · exact (uh S18).all (b16, _, _) (by simp)
  · exact (uh S18).all (b17, _, _) (by simp)
  · exact (uh S18).all (b18, _, _) (by simp)
  · exact trivial
  · exact trivial)
 have HB := hide (uh S18).bel
 clear S18 E
 generalize actSel op [b1, b2, b3, b4, b5, b6, b7, b8, b9, b10, b11, b12, b13, b14, b15, b16, b17, b18] = bb at IX FB
 obtain ⟨vv, hvv⟩ : ∃ v, actV op bb = v := ⟨_, rfl⟩
 rw [hvv] at IX
 have HV := hide hvv
 clear hvv
 go_wp2_with (refine wpList_index_at rfl 98 _ _ rfl _ _ vv rfl rfl (uh IX) ?_)
 go_ret
 exact ⟨bb, by rw [uh HV]; rfl, uh FB, uh HB⟩
section
section
variable {w : World} {b : Nat} {op sm sr dm dr : Nat} {sx dx n : Int} {ty : TypeId}
theorem insR (k : Nat) (v : Value) (h : w.heap[b]? = some (.cells #[.int .i64 (op : Int), .int .i64 (sm : Int), .int .i64 (sr : Int), .int .i64 sx, .int .i64 (dm : Int), .int .i64 (dr : Int), .int .i64 dx, .int .i64 n] ty (0, 0))) (hv : (#[.int .i64 (op : Int), .int .i64 (sm : Int), .int .i64 (sr : Int), .int .i64 sx, .int .i64 (dm : Int), .int .i64 (dr : Int), .int .i64 dx, .int .i64 n] : Array Value)[k]? = some v) : w.cell? ⟨b, k, none⟩ = some v := (cell_of_row w b k _ ty _ h).trans hv
end
def Ms.sB (t : Ms) (op sm sr : Nat) : Bool := if op ≤ 6 then t.opB sm sr else true
def Ms.sT (t : Ms) (op sm sr : Nat) : Ms := if op ≤ 6 then t.op sm sr else t
def Ms.sV (t : Ms) (op sm sr : Nat) : Int := if op ≤ 6 then t.opV sm sr else 0
theorem dk_sT {t : Ms} (h : Dk t.d) (op sm sr : Nat) : Dk (t.sT op sm sr).d := by
 unfold Ms.sT
 split
 · exact dk_op h sm sr
 · exact h
theorem sV_b {t : Ms} (h : Dk t.d) (op sm sr : Nat) : 0 ≤ t.sV op sm sr ∧ t.sV op sm sr ≤ 65535 := by
 unfold Ms.sV
 split
 · exact op_v h sm sr
 · omega
def Ms.woB (t : Ms) (op sm sr dm dr : Nat) : Bool := t.sB op sm sr && (t.sT op sm sr).opB dm dr
def Ms.woT (t : Ms) (op sm sr dm dr : Nat) : Ms := (t.sT op sm sr).op dm dr
structure OsE (ok : Bool) (s s0 : Int) (q : Option Addr) (p : Addr) (P F : Prop) : Prop where
 no : ok = false → q = none
 yes : ok = true → s = s0 ∧ q = some p ∧ P
 fm : F
def OsIs (g B gr rc op sm sr dm dr : Nat) (sx dx n : Int) (y : Mv) (t : Ms) (st : Int) (w : World) : Prop :=
 Calls Tryz.prog 125 #[.pointer (some ⟨g, 0, none⟩), .agg #[.int .i64 (op : Int), .int .i64 (sm : Int), .int .i64 (sr : Int), .int .i64 sx, .int .i64 (dm : Int), .int .i64 (dr : Int), .int .i64 dx, .int .i64 n]] w fun e w' => ∃ s q, e = .returned (.tuple #[.int .i64 s, .pointer q]) ∧ OsE (t.woB op sm sr dm dr) s (t.sV op sm sr) q ((t.sT op sm sr).opP g gr dm dr) (Pz w' g B gr rc y (t.woT op sm sr dm dr) st (t.woT op sm sr dm dr).d.m) (Fm w w' g y y)
theorem os_two (g B gr rc op sm sr dm dr : Nat) (sx dx n : Int) (y : Mv) (t : Ms) (st : Int) (w : World) (h : Pz w g B gr rc y t st t.d.m) (hk : Dk t.d) (h1 : 1 ≤ op) (h6 : op ≤ 6) (s7 : sm ≤ 7) (s8 : sr < 8) (d7 : dm ≤ 7) (d8 : dr < 8) : OsIs g B gr rc op sm sr dm dr sx dx n y t st w := by
 have GL := hide h.gl
 have YL := hide (fun b (hb : y.at b) => h.yl hb)
 have HS := hide (fun v => hasSrc_any (op : Int) v)
 rw [show inB (op : Int) 1 6 = true by unfold inB; simp; omega] at HS
 have H1 := hide (h.later (below_new w (Obj.cells #[.int .i64 (op : Int), .int .i64 (sm : Int), .int .i64 (sr : Int), .int .i64 sx, .int .i64 (dm : Int), .int .i64 (dr : Int), .int .i64 dx, .int .i64 n] 48)))
 have F1 := hide (Fm.of (g := g) (y := y) (below_new w (Obj.cells #[.int .i64 (op : Int), .int .i64 (sm : Int), .int .i64 (sr : Int), .int .i64 sx, .int .i64 (dm : Int), .int .i64 (dr : Int), .int .i64 dx, .int .i64 n] 48)))
 have R1 := hide (heap_alloc_last w (Obj.cells #[.int .i64 (op : Int), .int .i64 (sm : Int), .int .i64 (sr : Int), .int .i64 sx, .int .i64 (dm : Int), .int .i64 (dr : Int), .int .i64 dx, .int .i64 n] 48))
 have O1 := hide (operand_any g B gr rc sm sr sx y t st _ (uh H1) hk s7 s8)
 have O2 := hide (fun v (p : Pz v g B gr rc y (t.op sm sr) st (t.op sm sr).d.m) => operand_any g B gr rc dm dr dx y (t.op sm sr) st v p (dk_op hk sm sr) d7 d8)
 have PL := hide (fun v (hb : t.opB sm sr = true) (p : Pz v g B gr rc y (t.op sm sr) st (t.op sm sr).d.m) => Pz.place2 hk s8 hb p)
 unfold OsIs Ms.woB Ms.woT Ms.sB Ms.sT Ms.sV
 simp only [if_pos h6]
 generalize t.opB sm sr = b1 at O1 PL ⊢
 generalize t.opP g gr sm sr = p1 at O1 PL
 generalize t.opV sm sr = v1 at PL ⊢
 generalize t.op sm sr = t1 at O1 O2 PL ⊢
 generalize t1.opB dm dr = b2 at O2 ⊢
 generalize t1.opP g gr dm dr = p2 at O2 ⊢
 generalize t1.op dm dr = t2 at O2 ⊢
 clear h hk
 have k0 := insR 0 _ (uh R1) rfl
 have k1 := insR 1 _ (uh R1) rfl
 have k2 := insR 2 _ (uh R1) rfl
 have k3 := insR 3 _ (uh R1) rfl
 cases b1
 ·
  go_enter Tryz.func125, Tryz.ntmps125
  go_wp2_with fail
  refine (uh HS _).mono ?_
  rintro e w9 ⟨rfl, hw9⟩
  rw [hw9]
  clear hw9 w9
  go_wp2_with fail
  refine (uh O1).mono ?_
  rintro e w2 ⟨rfl, -, f2⟩
  have F2 := hide ((uh F1).trans f2)
  clear f2 O1
  go_wp2
  go_ret2
  exact ⟨0, none, rfl, ⟨fun _ => rfl, fun h => by simp at h, uh F2⟩⟩
 ·
  go_enter Tryz.func125, Tryz.ntmps125
  go_wp2_with fail
  refine (uh HS _).mono ?_
  rintro e w9 ⟨rfl, hw9⟩
  rw [hw9]
  clear hw9 w9
  go_wp2_with fail
  refine (uh O1).mono ?_
  rintro e w2 ⟨rfl, p2, f2⟩
  have F2 := hide ((uh F1).trans f2)
  have H2 := hide (p2 (by trivial))
  have R2 := hide (f2.row (uh R1) (by have := uh GL; omega) (fun e => by have := uh YL _ e; omega))
  obtain ⟨cp, -⟩ := uh PL _ (by trivial) (uh H2)
  have OP := hide (uh O2 _ (uh H2))
  clear p2 f2 O1 O2 PL
  clear k0 k1 k2 k3
  have k4 := insR 4 _ (uh R2) rfl
  have k5 := insR 5 _ (uh R2) rfl
  have k6 := insR 6 _ (uh R2) rfl
  go_wp2_with fail
  refine (uh OP).mono ?_
  rintro e w3 ⟨rfl, p3, f3⟩
  have F3 := hide ((uh F2).trans f3)
  have H3 := hide p3
  clear p3 f3 OP
  cases b2
  ·
   go_wp2
   go_ret2
   exact ⟨v1, none, rfl, ⟨fun _ => rfl, fun h => by simp at h, uh F3⟩⟩
  ·
   go_wp2
   go_ret2
   exact ⟨v1, _, rfl, ⟨fun h => by simp at h, fun _ => ⟨rfl, rfl, uh H3 (by trivial)⟩, uh F3⟩⟩
theorem os_one (g B gr rc op sm sr dm dr : Nat) (sx dx n : Int) (y : Mv) (t : Ms) (st : Int) (w : World) (h : Pz w g B gr rc y t st t.d.m) (hk : Dk t.d) (h7 : 7 ≤ op) (d7 : dm ≤ 7) (d8 : dr < 8) : OsIs g B gr rc op sm sr dm dr sx dx n y t st w := by
 have GL := hide h.gl
 have YL := hide (fun b (hb : y.at b) => h.yl hb)
 have HS := hide (fun v => hasSrc_any (op : Int) v)
 rw [show inB (op : Int) 1 6 = false by unfold inB; simp; omega] at HS
 have H1 := hide (h.later (below_new w (Obj.cells #[.int .i64 (op : Int), .int .i64 (sm : Int), .int .i64 (sr : Int), .int .i64 sx, .int .i64 (dm : Int), .int .i64 (dr : Int), .int .i64 dx, .int .i64 n] 48)))
 have F1 := hide (Fm.of (g := g) (y := y) (below_new w (Obj.cells #[.int .i64 (op : Int), .int .i64 (sm : Int), .int .i64 (sr : Int), .int .i64 sx, .int .i64 (dm : Int), .int .i64 (dr : Int), .int .i64 dx, .int .i64 n] 48)))
 have R1 := hide (heap_alloc_last w (Obj.cells #[.int .i64 (op : Int), .int .i64 (sm : Int), .int .i64 (sr : Int), .int .i64 sx, .int .i64 (dm : Int), .int .i64 (dr : Int), .int .i64 dx, .int .i64 n] 48))
 have OP := hide (operand_any g B gr rc dm dr dx y t st _ (uh H1) hk d7 d8)
 unfold OsIs Ms.woB Ms.woT Ms.sB Ms.sT Ms.sV
 simp only [if_neg (show ¬ op ≤ 6 by omega), Bool.true_and]
 generalize t.opB dm dr = b2 at OP ⊢
 generalize t.opP g gr dm dr = p2 at OP ⊢
 generalize t.op dm dr = t2 at OP ⊢
 clear h hk
 have k0 := insR 0 _ (uh R1) rfl
 have k4 := insR 4 _ (uh R1) rfl
 have k5 := insR 5 _ (uh R1) rfl
 have k6 := insR 6 _ (uh R1) rfl
 go_enter Tryz.func125, Tryz.ntmps125
 go_wp2_with fail
 refine (uh HS _).mono ?_
 rintro e w9 ⟨rfl, hw9⟩
 rw [hw9]
 clear hw9 w9
 go_wp2_with fail
 refine (uh OP).mono ?_
 rintro e w3 ⟨rfl, p3, f3⟩
 have F3 := hide ((uh F1).trans f3)
 have H3 := hide p3
 clear p3 f3 OP
 cases b2
 ·
  go_wp2
  go_ret2
  exact ⟨0, none, rfl, ⟨fun _ => rfl, fun h => by simp at h, uh F3⟩⟩
 ·
  go_wp2
  go_ret2
  exact ⟨0, _, rfl, ⟨fun h => by simp at h, fun _ => ⟨rfl, rfl, uh H3 (by trivial)⟩, uh F3⟩⟩
theorem os_any (g B gr rc op sm sr dm dr : Nat) (sx dx n : Int) (y : Mv) (t : Ms) (st : Int) (w : World) (h : Pz w g B gr rc y t st t.d.m) (hk : Dk t.d) (h1 : 1 ≤ op) (hs : op ≤ 6 → sm ≤ 7 ∧ sr < 8) (d7 : dm ≤ 7) (d8 : dr < 8) : OsIs g B gr rc op sm sr dm dr sx dx n y t st w := by
 by_cases h6 : op ≤ 6
 · exact os_two g B gr rc op sm sr dm dr sx dx n y t st w h hk h1 h6 (hs h6).1 (hs h6).2 d7 d8
 · exact os_one g B gr rc op sm sr dm dr sx dx n y t st w h hk (by omega) d7 d8
end
theorem Fm.src {w w1 : World} {g : Nat} {y y1 y2 : Mv} (h : Fm w w1 g y y1) (e : ∀ b, y2.at b ↔ y.at b) : Fm w w1 g y2 y1 :=
 ⟨h.os, h.tape, h.output, h.size, fun k hk hg hy => h.blk k hk hg (fun c => hy ((e k).2 c)), fun b hb => (h.new b hb).elim (fun c => .inl ((e b).2 c)) .inr⟩
theorem Fm.dst {w w1 : World} {g : Nat} {y y1 y2 : Mv} (h : Fm w w1 g y y1) (e : ∀ b, y2.at b → y1.at b) : Fm w w1 g y y2 :=
 ⟨h.os, h.tape, h.output, h.size, h.blk, fun b hb => h.new b (e b hb)⟩
def wkS (t : Ms) (op sm sr dm dr : Nat) : Int := wkR op (t.sV op sm sr) ((t.sT op sm sr).opV dm dr)
def Ms.nzI (t : Ms) (r : Int) : Ms := { t with n := sgI r, z := (r == 0) }
def Mv.nzI (y : Mv) (r : Int) : Mv := { y with n := sgI r, z := (r == 0) }
def Ms.wo (t : Ms) (op sm sr dm dr : Nat) : Ms := ((t.woT op sm sr dm dr).wk op (t.sV op sm sr) ((t.sT op sm sr).opV dm dr)).nzI (wkS t op sm sr dm dr)
def Mv.wo (y : Mv) (t : Ms) (op sm sr dm dr : Nat) : Mv := (y.wk op (t.sV op sm sr) ((t.sT op sm sr).opV dm dr)).nzI (wkS t op sm sr dm dr)
theorem Pz.setNZ {w : World} {g B gr rc : Nat} {y : Mv} {t : Ms} {st : Int} {m0 : List Int} (h : Pz w g B gr rc y t st m0) (a b : Bool) : Pz ((w.setCell ⟨g, 258, none⟩ (.bool a)).setCell ⟨g, 259, none⟩ (.bool b)) g B gr rc { y with n := a, z := b } { t with n := a, z := b } st m0 ∧ Fm w ((w.setCell ⟨g, 258, none⟩ (.bool a)).setCell ⟨g, 259, none⟩ (.bool b)) g y { y with n := a, z := b } :=
 ⟨((h.setN a).1.setZ b).1, (h.setN a).2.trans ((h.setN a).1.setZ b).2⟩
def WoIs (f g B gr rc op sm sr dm dr : Nat) (sx dx n : Int) (y : Mv) (t : Ms) (st : Int) (w : World) : Prop :=
 Calls Tryz.prog 101 #[.pointer (some ⟨g, 0, none⟩), .agg #[.int .i64 (op : Int), .int .i64 (sm : Int), .int .i64 (sr : Int), .int .i64 sx, .int .i64 (dm : Int), .int .i64 (dr : Int), .int .i64 dx, .int .i64 n], .func (.func f) #[] #[]] w fun e w' => ∃ s q, e = .returned (.tuple #[.int .i64 s, .pointer q]) ∧ OsE (t.woB op sm sr dm dr) s (wkS t op sm sr dm dr) q ((t.sT op sm sr).opP g gr dm dr) (Pz w' g B gr rc (y.wo t op sm sr dm dr) (t.wo op sm sr dm dr) st (t.woT op sm sr dm dr).d.m) (Fm w w' g y y)
theorem wo_any (f : Nat) (g B gr rc op sm sr dm dr : Nat) (sx dx n : Int) (y : Mv) (t : Ms) (st : Int) (w : World) (h : Pz w g B gr rc y t st t.d.m) (hk : Dk t.d) (h1 : 1 ≤ op) (h13 : op ≤ 13) (hs : op ≤ 6 → sm ≤ 7 ∧ sr < 8) (d7 : dm ≤ 7) (d8 : dr < 8) (wk : WkIs f op) (hcf : ∀ vs w, (callFunc f vs).run Tryz.prog w = .ok (.enter f vs) w) : WoIs f g B gr rc op sm sr dm dr sx dx n y t st w := by
 have H1 := hide (h.later (below_new w (Obj.cells #[.int .i64 (op : Int), .int .i64 (sm : Int), .int .i64 (sr : Int), .int .i64 sx, .int .i64 (dm : Int), .int .i64 (dr : Int), .int .i64 dx, .int .i64 n] 48)))
 have F1 := hide (Fm.of (g := g) (y := y) (below_new w (Obj.cells #[.int .i64 (op : Int), .int .i64 (sm : Int), .int .i64 (sr : Int), .int .i64 sx, .int .i64 (dm : Int), .int .i64 (dr : Int), .int .i64 dx, .int .i64 n] 48)))
 have OS := hide (os_any g B gr rc op sm sr dm dr sx dx n y t st _ (uh H1) hk h1 hs d7 d8)
 have PL := hide (fun v (hb : t.woB op sm sr dm dr = true) (p : Pz v g B gr rc y (t.woT op sm sr dm dr) st (t.woT op sm sr dm dr).d.m) => Pz.place2 (dk_sT hk op sm sr) d8 (show (t.sT op sm sr).opB dm dr = true by unfold Ms.woB at hb; simp only [Bool.and_eq_true] at hb; exact hb.2) p)
 have VB := sV_b hk op sm sr
 have DB := op_v (dk_sT hk op sm sr) dm dr
 have WK := hide (fun v (p : Pz v g B gr rc y (t.woT op sm sr dm dr) st (t.woT op sm sr dm dr).d.m) => wk g B gr rc y (t.woT op sm sr dm dr) st _ (t.sV op sm sr) ((t.sT op sm sr).opV dm dr) v p VB.1 VB.2 DB.1 DB.2)
 have HS := hide (fun v => hasSign_any (wkS t op sm sr dm dr) v)
 unfold OsIs at OS
 unfold WoIs Ms.wo Mv.wo
 rw [← show wkS t op sm sr dm dr = wkR op (t.sV op sm sr) ((t.sT op sm sr).opV dm dr) from rfl] at WK
 have FA := hide (show ∀ b, (y.wk op (t.sV op sm sr) ((t.sT op sm sr).opV dm dr)).at b ↔ y.at b from fun b => Iff.rfl)
 generalize y.wk op (t.sV op sm sr) ((t.sT op sm sr).opV dm dr) = y2 at WK FA ⊢
 generalize (t.woT op sm sr dm dr).wk op (t.sV op sm sr) ((t.sT op sm sr).opV dm dr) = t2 at WK ⊢
 generalize wkS t op sm sr dm dr = r at WK HS ⊢
 unfold Ms.nzI Mv.nzI
 generalize sgI r = r9 at HS ⊢
 generalize (t.woT op sm sr dm dr).d.m = m1 at OS PL WK ⊢
 generalize t.woT op sm sr dm dr = t1 at OS PL WK
 generalize t.woB op sm sr dm dr = ok at OS PL ⊢
 generalize t.sV op sm sr = sv at OS PL WK
 generalize (t.sT op sm sr).opV dm dr = dv at PL WK
 generalize (t.sT op sm sr).opP g gr dm dr = pp at OS PL ⊢
 clear h hk VB DB wk
 go_enter Tryz.func101, Tryz.ntmps101
 go_wp2_with fail
 refine (uh OS).mono ?_
 rintro e w2 ⟨s, q, rfl, hs2⟩
 have F2 := hide ((uh F1).trans hs2.fm)
 cases ok
 ·
  obtain rfl := hs2.no rfl
  clear hs2 OS WK PL
  go_wp2
  go_ret2
  exact ⟨0, none, rfl, ⟨fun _ => rfl, fun h => by simp at h, uh F2⟩⟩
 ·
  obtain ⟨rfl, rfl, p2⟩ := hs2.yes rfl
  have C2 := (uh PL _ (by trivial) p2).1
  have WC := hide (uh WK _ p2)
  clear hs2 OS WK PL p2
  go_wp2_with fail
  refine (uh WC).mono ?_
  rintro e w3 ⟨rfl, h3, f3⟩
  have F3 := hide ((uh F2).trans f3)
  have c2 := h3.cell 2 _ rfl
  have e2 := h3.fz 258
  have c3 := h3.cell 3 _ rfl
  have e3 := h3.fz 259
  have H4 := hide (h3.setNZ r9 (r == 0))
  clear h3 f3 WC C2
  go_wp2_with fail
  refine (uh HS _).mono ?_
  rintro e w9 ⟨rfl, hw9⟩
  rw [hw9]
  clear hw9 w9
  go_wp2
  go_ret2
  exact ⟨r, _, rfl, ⟨fun h => by simp at h, fun _ => ⟨rfl, rfl, (uh H4).1⟩, ((uh F3).trans (uh H4).2).dst (fun b hb => (uh FA b).2 hb)⟩⟩
structure AcE (ok : Bool) (P F : Prop) : Prop where
 yes : ok = true → P
 fm : F
def ActIs (k : Nat) (fb g B gr rc op sm sr dm dr : Nat) (sx dx n : Int) (y : Mv) (t t2 : Ms) (st : Int) (m0 : List Int) (w : World) : Prop :=
 Calls Tryz.prog k #[.pointer (some ⟨g, 0, none⟩), .agg #[.int .i64 (op : Int), .int .i64 (sm : Int), .int .i64 (sr : Int), .int .i64 sx, .int .i64 (dm : Int), .int .i64 (dr : Int), .int .i64 dx, .int .i64 n], .pointer (some ⟨fb, 0, none⟩)] w fun e w' => e = .returned (.bool (t.woB op sm sr dm dr)) ∧ AcE (t.woB op sm sr dm dr) (Pz w' g B gr rc (y.wo t op sm sr dm dr) t2 st m0) (Fm w w' g y y)
theorem told_any (f fb : Nat) (g B gr rc op sm sr dm dr : Nat) (sx dx n : Int) (y : Mv) (t : Ms) (st : Int) (w : World) (h : Pz w g B gr rc y t st t.d.m) (hk : Dk t.d) (h1 : 1 ≤ op) (h13 : op ≤ 13) (hs : op ≤ 6 → sm ≤ 7 ∧ sr < 8) (d7 : dm ≤ 7) (d8 : dr < 8) (wk : WkIs f op) (hcf : ∀ vs w, (callFunc f vs).run Tryz.prog w = .ok (.enter f vs) w) (hb : Bx w fb f 111) : ActIs 102 fb g B gr rc op sm sr dm dr sx dx n y t (t.wo op sm sr dm dr) st (t.woT op sm sr dm dr).d.m w := by
 have H1 := hide (h.later (below_new w (Obj.cells #[.int .i64 (op : Int), .int .i64 (sm : Int), .int .i64 (sr : Int), .int .i64 sx, .int .i64 (dm : Int), .int .i64 (dr : Int), .int .i64 dx, .int .i64 n] 48)))
 have F1 := hide (Fm.of (g := g) (y := y) (below_new w (Obj.cells #[.int .i64 (op : Int), .int .i64 (sm : Int), .int .i64 (sr : Int), .int .i64 sx, .int .i64 (dm : Int), .int .i64 (dr : Int), .int .i64 dx, .int .i64 n] 48)))
 have WO := hide (wo_any f g B gr rc op sm sr dm dr sx dx n y t st _ (uh H1) hk h1 h13 hs d7 d8 wk hcf)
 have CF : (w.alloc (Obj.cells #[.int .i64 (op : Int), .int .i64 (sm : Int), .int .i64 (sr : Int), .int .i64 sx, .int .i64 (dm : Int), .int .i64 (dr : Int), .int .i64 dx, .int .i64 n] 48)).cell? ⟨fb, 0, none⟩ = some (.func (.func f) #[] #[]) := (cell_of_row _ fb 0 _ 111 _ (hb.later (below_new w (Obj.cells #[.int .i64 (op : Int), .int .i64 (sm : Int), .int .i64 (sr : Int), .int .i64 sx, .int .i64 (dm : Int), .int .i64 (dr : Int), .int .i64 dx, .int .i64 n] 48)))).trans rfl
 unfold WoIs at WO
 unfold ActIs
 generalize t.woB op sm sr dm dr = ok at WO ⊢
 generalize t.wo op sm sr dm dr = t2 at WO ⊢
 generalize y.wo t op sm sr dm dr = y2 at WO ⊢
 generalize (t.woT op sm sr dm dr).d.m = m1 at WO ⊢
 generalize (t.sT op sm sr).opP g gr dm dr = pp at WO
 generalize wkS t op sm sr dm dr = r at WO
 clear h hk hb wk
 go_enter Tryz.func102, Tryz.ntmps102
 go_wp2_with fail
 refine (uh WO).mono ?_
 rintro e w2 ⟨s, q, rfl, hs2⟩
 have F2 := hide ((uh F1).trans hs2.fm)
 cases ok
 ·
  obtain rfl := hs2.no rfl
  clear hs2 WO
  go_wp2
  go_ret
  exact ⟨rfl, ⟨fun h => by simp at h, uh F2⟩⟩
 ·
  obtain ⟨rfl, rfl, p2⟩ := hs2.yes rfl
  have H2 := hide p2
  clear hs2 WO p2
  go_wp2
  go_ret
  exact ⟨rfl, ⟨fun _ => uh H2, uh F2⟩⟩
theorem stored_any (f fb : Nat) (g B gr rc op sm sr dm dr : Nat) (sx dx n : Int) (y : Mv) (t : Ms) (st : Int) (w : World) (h : Pz w g B gr rc y t st t.d.m) (hk : Dk t.d) (h1 : 1 ≤ op) (h13 : op ≤ 13) (hs : op ≤ 6 → sm ≤ 7 ∧ sr < 8) (d7 : dm ≤ 7) (d8 : dr < 8) (wk : WkIs f op) (hcf : ∀ vs w, (callFunc f vs).run Tryz.prog w = .ok (.enter f vs) w) (hb : Bx w fb f 111) (r0 : 0 ≤ wkS t op sm sr dm dr) (r1 : wkS t op sm sr dm dr ≤ 65535) : ActIs 100 fb g B gr rc op sm sr dm dr sx dx n y t ((t.wo op sm sr dm dr).st ((t.sT op sm sr).d.plR dm dr) ((t.sT op sm sr).d.plA dm dr) (wkS t op sm sr dm dr)) st (t.woT op sm sr dm dr).d.m w := by
 have H1 := hide (h.later (below_new w (Obj.cells #[.int .i64 (op : Int), .int .i64 (sm : Int), .int .i64 (sr : Int), .int .i64 sx, .int .i64 (dm : Int), .int .i64 (dr : Int), .int .i64 dx, .int .i64 n] 48)))
 have F1 := hide (Fm.of (g := g) (y := y) (below_new w (Obj.cells #[.int .i64 (op : Int), .int .i64 (sm : Int), .int .i64 (sr : Int), .int .i64 sx, .int .i64 (dm : Int), .int .i64 (dr : Int), .int .i64 dx, .int .i64 n] 48)))
 have WO := hide (wo_any f g B gr rc op sm sr dm dr sx dx n y t st _ (uh H1) hk h1 h13 hs d7 d8 wk hcf)
 have CF : (w.alloc (Obj.cells #[.int .i64 (op : Int), .int .i64 (sm : Int), .int .i64 (sr : Int), .int .i64 sx, .int .i64 (dm : Int), .int .i64 (dr : Int), .int .i64 dx, .int .i64 n] 48)).cell? ⟨fb, 0, none⟩ = some (.func (.func f) #[] #[]) := (cell_of_row _ fb 0 _ 111 _ (hb.later (below_new w (Obj.cells #[.int .i64 (op : Int), .int .i64 (sm : Int), .int .i64 (sr : Int), .int .i64 sx, .int .i64 (dm : Int), .int .i64 (dr : Int), .int .i64 dx, .int .i64 n] 48)))).trans rfl
 unfold WoIs at WO
 have PL := hide (show ∀ v m1, t.woB op sm sr dm dr = true → Pz v g B gr rc (y.wo t op sm sr dm dr) (t.wo op sm sr dm dr) st m1 → _ from fun v m1 (hb : t.woB op sm sr dm dr = true) (p : Pz v g B gr rc (y.wo t op sm sr dm dr) (t.wo op sm sr dm dr) st m1) =>
  (show v.cell? ((t.sT op sm sr).opP g gr dm dr) = some (.int .i64 ((t.sT op sm sr).opV dm dr)) ∧ v.frozen? ((t.sT op sm sr).opP g gr dm dr) = false ∧ (Pz (v.setCell ((t.sT op sm sr).opP g gr dm dr) (.int .i64 (wkS t op sm sr dm dr))) g B gr rc (y.wo t op sm sr dm dr) ((t.wo op sm sr dm dr).st ((t.sT op sm sr).d.plR dm dr) ((t.sT op sm sr).d.plA dm dr) (wkS t op sm sr dm dr)) st m1 ∧ Fm v (v.setCell ((t.sT op sm sr).opP g gr dm dr) (.int .i64 (wkS t op sm sr dm dr))) g (y.wo t op sm sr dm dr) (y.wo t op sm sr dm dr)) from by
   unfold Ms.woB Ms.opB at hb
   simp only [Bool.and_eq_true] at hb
   obtain ⟨a, b, c⟩ := p.place (r := (t.sT op sm sr).d.plR dm dr) (a := (t.sT op sm sr).d.plA dm dr) hb.2.2 (pl_sh (dk_sT hk op sm sr) dm dr d8 hb.2.1)
   exact ⟨a, b, c _ r0 r1⟩))
 unfold ActIs
 have FA := hide (show ∀ b, (y.wo t op sm sr dm dr).at b ↔ y.at b from fun b => Iff.rfl)
 generalize t.woB op sm sr dm dr = ok at WO PL ⊢
 generalize (t.wo op sm sr dm dr).st ((t.sT op sm sr).d.plR dm dr) ((t.sT op sm sr).d.plA dm dr) (wkS t op sm sr dm dr) = t3 at PL ⊢
 generalize t.wo op sm sr dm dr = t2 at WO PL
 generalize y.wo t op sm sr dm dr = y2 at WO PL FA ⊢
 generalize (t.woT op sm sr dm dr).d.m = m1 at WO ⊢
 generalize (t.sT op sm sr).opP g gr dm dr = pp at WO PL
 generalize (t.sT op sm sr).opV dm dr = dv at PL
 generalize wkS t op sm sr dm dr = r at WO PL r0 r1
 clear h hk hb wk
 go_enter Tryz.func100, Tryz.ntmps100
 go_wp2_with fail
 refine (uh WO).mono ?_
 rintro e w2 ⟨s, q, rfl, hs2⟩
 have F2 := hide ((uh F1).trans hs2.fm)
 cases ok
 ·
  obtain rfl := hs2.no rfl
  clear hs2 WO PL
  go_wp2
  go_ret
  exact ⟨rfl, ⟨fun h => by simp at h, uh F2⟩⟩
 ·
  obtain ⟨rfl, rfl, p2⟩ := hs2.yes rfl
  obtain ⟨c1, c2, c3⟩ := uh PL _ _ (by trivial) p2
  have H3 := hide c3.1
  have F3 := hide ((uh F2).trans ((c3.2.src (fun b => (uh FA b).symm)).dst (fun b hb => (uh FA b).2 hb)))
  clear hs2 WO p2 PL c3 CF
  go_wp2
  go_ret
  exact ⟨rfl, ⟨fun _ => uh H3, uh F3⟩⟩
theorem Ms.rg_at (t : Ms) (k j : Nat) (v : Int) (h : j ≠ k) : nAt (t.rg k v).d.r j = nAt t.d.r j := by
 unfold Ms.rg Md.reg nAt
 simp [List.getElem?_set, Ne.symm h]
theorem Dk.rgk {t : Ms} (h : Dk t.d) (k : Nat) (v : Int) (v0 : 0 ≤ v) (v1 : v ≤ 65535) : Dk (t.rg k v).d := h.setR k v v0 v1
def Ms.back1 (t : Ms) (k : Nat) : Ms := t.rg 7 (nAt t.d.r k)
def Ms.back (t : Ms) (k : Nat) : Ms := ((t.back1 k).rg 6 ((nAt t.d.r 6 + 2) % 65536)).rg k ((t.back1 k).d.get (nAt t.d.r 6))
def BkIs (B g : Nat) (y : Mv) (t t2 : Ms) (st : Int) (k : Nat) (ok : Bool) (w : World) : Prop :=
 Calls Tryz.prog 36 #[.pointer (some ⟨g, 0, none⟩), .int .i64 (k : Int)] w fun e w' => e = .returned (.bool ok) ∧ (ok = true → Sm w' B g y t2 st) ∧ Fm w w' g y y
theorem back_false (B g k : Nat) (y : Mv) (t : Ms) (st : Int) (w : World) (h : Sm w B g y t st) (hk : Dk t.d) (hr : k < 8) (hq : (t.back1 k).d.has (nAt t.d.r 6) = false) : BkIs B g y t (t.back k) st k false w := by
 obtain ⟨gr, rc, er⟩ := h.regs hk.rl
 have ER := hide er
 have H8 := hide hk.rl
 have HR := hide hr
 have kr : (k : Int) < 8 := by omega
 have kn : ¬ (8 : Int) ≤ (k : Int) := by omega
 obtain ⟨a0, a1⟩ := hk.rw _ (nAt_mem (show k < t.d.r.length by have := hk.rl; omega))
 obtain ⟨s0, s1⟩ := hk.rw _ (nAt_mem (show 6 < t.d.r.length by have := hk.rl; omega))
 have E6 := hide (t.rg_at 7 6 (nAt t.d.r k) (by omega))
 have DK := hide (hk.rgk 7 (nAt t.d.r k) a0 a1)
 have H0 := hide h
 have F0 := hide (Fm.of (g := g) (y := y) (Below.refl w.heap.size w))
 unfold BkIs Ms.back Ms.back1
 rw [show (t.back1 k) = t.rg 7 (nAt t.d.r k) from rfl] at hq
 obtain ⟨ak, hak⟩ : ∃ q, nAt t.d.r k = q := ⟨_, rfl⟩
 obtain ⟨s6, hs6⟩ : ∃ q, nAt t.d.r 6 = q := ⟨_, rfl⟩
 have HA := hide hak
 have CA := hide (show w.drew.cell? ⟨gr, k, none⟩ = some (.int .i64 ak) by rw [((h.later (below_drew (w := w))).setR er k 0 (by have := hk.rl; omega)).2.2.1, hak])
 rw [hak] at a0 a1 E6 DK hq
 rw [hs6] at s0 s1 E6 hq
 rw [hak, hs6]
 clear hak hs6
 have HD := hide ((uh H0).later (below_drew (w := w)))
 have SC := hide ((uh HD).setR (uh ER) 7 ak (by have := uh H8; omega))
 have C0 := hide ((uh HD).rcell (uh ER))
 have C3 := hide (uh SC).2.2.2
 have C4 := hide (show (w.drew.setCell ⟨gr, 7, none⟩ (.int .i64 ak)).cell? ⟨g, 1, none⟩ = some (.slice (some ⟨gr, 0, none⟩) 8 rc) from (uh SC).1.rcell (uh ER))
 have CK := hide (uh SC).2.2.1
 have H1 := hide (uh SC).1
 have F1 := hide ((uh F0).trans ((Fm.of (below_drew (w := w))).trans (uh SC).2.1))
 have T8 := hide (show (t.rg 7 ak).d.r.length = 8 by rw [Ms.rg_len, uh H8])
 clear SC HD H0 F0 H8
 generalize t.rg 7 ak = t1 at H1 E6 DK hq T8 ⊢
 have RD6 := hide (fun v (r : RdM v y t1.d) => readS_any y t1.d s6 v ((uh H1).small (uh DK)) r)
 rw [hq] at RD6
 generalize t1.d.get s6 = u at RD6 ⊢
 clear h hk hq er
 go_enter Tryz.func36, Tryz.ntmps36
 go_wp2_with fail
 refine wp_region_held_drew (S := fun v => v.cell? ⟨g, 1, none⟩ = some (.slice (some ⟨gr, 0, none⟩) 8 rc)) (by kernel_rfl) (uh C0) (fun hS => ?_)
 have HS := hide hS
 clear hS
 refine tkB 0 (.pointer (some ⟨g, 0, none⟩)) rfl (uh HS) ?_
 go_simp
 refine tkB 1 (.pointer (some ⟨g, 0, none⟩)) rfl (uh HS) ?_
 go_simp
 refine tkB 2 (.pointer (some ⟨g, 1, none⟩)) rfl (uh HS) ?_
 go_simp
 refine tkA 3 (.slice (some ⟨gr, 0, none⟩) 8 rc) rfl (.inl ⟨by rfl, fun w hc => ?_⟩) (uh HS) ?_
 · go_simp
 go_simp
 refine tkB 4 (.pointer (some ⟨g, 0, none⟩)) rfl (uh HS) ?_
 go_simp
 refine tkB 5 (.pointer (some ⟨g, 0, none⟩)) rfl (uh HS) ?_
 go_simp
 refine tkB 6 (.pointer (some ⟨g, 1, none⟩)) rfl (uh HS) ?_
 go_simp
 refine tkA 7 (.slice (some ⟨gr, 0, none⟩) 8 rc) rfl (.inl ⟨by rfl, fun w hc => ?_⟩) (uh HS) ?_
 · go_simp
 go_simp
 refine tkB 8 (.int .i64 (k : Int)) rfl (uh HS) ?_
 go_simp
 refine tkB 9 (.pointer (some ⟨gr, k, none⟩)) rfl (uh HS) ?_
 go_simp
 refine wpAnyH_ready (rs := [10]) (by kernel_rfl) (by simp) ?_
 refine AllReadyH.cons rfl (fun K2 hK => ?_) AllReadyH.nil
 have c2 := uh CA
 go_simp
 clear c2
 refine hK.out _ _ (uh C0) (fun hS => ?_)
 clear HS
 have HS := hide hS
 clear hS hK K2
 refine tkB 11 (.pointer (some ⟨gr, 7, none⟩)) rfl (uh HS) ?_
 go_simp
 refine wpAnyH_ready (rs := [12]) (by kernel_rfl) (by simp) ?_
 refine AllReadyH.cons rfl (fun K2 hK => ?_) AllReadyH.nil
 have c2 := uh C3
 have c3 := uh CK
 go_simp
 clear c2 c3
 refine hK.out _ _ (uh C4) (fun hS => ?_)
 clear HS
 have HS := hide hS
 clear hS hK K2
 refine wpAnyH_done (by kernel_rfl) ?_ _
 clear HS C0 C3 CA CK
 generalize hwd : w.drew.setCell ⟨gr, 7, none⟩ (.int .i64 ak) = w1 at H1 F1 C4
 rw [show (w.setCell ⟨gr, 7, none⟩ (.int .i64 ak)).drew = w1 from hwd]
 clear hwd
 clear C4
 have HE := hide ((uh H1).later (below_drew (w := w1)))
 have F2 := hide ((uh F1).trans (Fm.of (below_drew (w := w1))))
 have C6 := hide (show w1.drew.cell? ⟨gr, 6, none⟩ = some (.int .i64 s6) by rw [((uh HE).setR (uh ER) 6 0 (by have := uh T8; omega)).2.2.1, uh E6])
 have C1 := hide ((uh HE).rcell (uh ER))
 clear H1 F1
 go_wp2_with fail
 refine wp_region_held_drew (S := fun v => v.heap[g]? = some (.cells y.cs 26 (0, 0)) ∧ v.cell? ⟨g, 1, none⟩ = some (.slice (some ⟨gr, 0, none⟩) 8 rc) ∧ v.cell? ⟨gr, 6, none⟩ = some (.int .i64 s6)) (by kernel_rfl) (⟨(uh HE).row, uh C1, uh C6⟩) (fun hS => ?_)
 have HS := hide hS
 clear hS
 generalize w1.drew = wd at HE F2 C6 C1 HS ⊢
 refine tkB 0 (.pointer (some ⟨g, 0, none⟩)) rfl (uh HS) ?_
 go_simp
 refine tkB 1 (.pointer (some ⟨g, 0, none⟩)) rfl (uh HS) ?_
 go_simp
 refine tkA 2 (.agg y.cs) rfl (yields_load rfl 26 _ rfl g rfl 26 y.cs _ (fun w h => h.1) Tryz.underlying26 rfl (by kernel_rfl)) (uh HS) ?_
 go_simp
 refine tkB 3 (.pointer (some ⟨g, 0, none⟩)) rfl (uh HS) ?_
 go_simp
 refine tkB 4 (.pointer (some ⟨g, 0, none⟩)) rfl (uh HS) ?_
 go_simp
 refine tkB 5 (.pointer (some ⟨g, 1, none⟩)) rfl (uh HS) ?_
 go_simp
 refine tkA 6 (.slice (some ⟨gr, 0, none⟩) 8 rc) rfl (.inl ⟨by rfl, fun w hc => ?_⟩) (uh HS) ?_
 · obtain ⟨h1, h2, h3⟩ := hc; clear h1; go_simp
 go_simp
 refine tkB 7 (.pointer (some ⟨gr, 6, none⟩)) rfl (uh HS) ?_
 go_simp
 refine tkA 8 (.int .i64 s6) rfl (.inl ⟨by rfl, fun w hc => ?_⟩) (uh HS) ?_
 · obtain ⟨h1, h2, h3⟩ := hc; clear h1; go_simp
 go_simp
 refine wpAnyH_ready (rs := [9]) (by kernel_rfl) (by simp) ?_
 refine AllReadyH.cons rfl (fun K2 hK => ?_) AllReadyH.nil
 go_simp
 refine (uh RD6 wd (uh HE).own.rd).mono ?_
 rintro e w2 ⟨rfl, hb⟩
 have H2 := hide ((uh HE).later hb)
 have F3 := hide ((uh F2).trans (Fm.of hb))
 have C7 := hide (show w2.cell? ⟨gr, 6, none⟩ = some (.int .i64 s6) by rw [((uh H2).setR (uh ER) 6 0 (by have := uh T8; omega)).2.2.1, uh E6])
 refine hK.out _ _ ⟨(uh H2).row, (uh H2).rcell (uh ER), uh C7⟩ (fun hS => ?_)
 clear HS
 have HS := hide hS
 clear hS hK K2 hb RD6 HE F2 C6 C1
 refine tkB 10 (.tuple #[.int .i64 u, .bool false]) rfl (uh HS) ?_
 go_simp
 refine tkB 11 (.int .i64 u) rfl (uh HS) ?_
 go_simp
 refine tkB 12 (.bool false) rfl (uh HS) ?_
 go_simp
 refine tkB 13 (.int .i64 u) rfl (uh HS) ?_
 go_simp
 refine tkB 14 (.bool false) rfl (uh HS) ?_
 go_simp
 refine wpAnyH_done (by kernel_rfl) ?_ _
 clear HS
 go_wp2_with fail
 go_ret
 exact ⟨rfl, fun h => Bool.noConfusion h, uh F3⟩
theorem back_true (B g k : Nat) (y : Mv) (t : Ms) (st : Int) (w : World) (h : Sm w B g y t st) (hk : Dk t.d) (hr : k < 8) (hq : (t.back1 k).d.has (nAt t.d.r 6) = true) : BkIs B g y t (t.back k) st k true w := by
 obtain ⟨gr, rc, er⟩ := h.regs hk.rl
 have ER := hide er
 have H8 := hide hk.rl
 have HR := hide hr
 have kr : (k : Int) < 8 := by omega
 have kn : ¬ (8 : Int) ≤ (k : Int) := by omega
 obtain ⟨a0, a1⟩ := hk.rw _ (nAt_mem (show k < t.d.r.length by have := hk.rl; omega))
 obtain ⟨s0, s1⟩ := hk.rw _ (nAt_mem (show 6 < t.d.r.length by have := hk.rl; omega))
 have E6 := hide (t.rg_at 7 6 (nAt t.d.r k) (by omega))
 have DK := hide (hk.rgk 7 (nAt t.d.r k) a0 a1)
 have H0 := hide h
 have F0 := hide (Fm.of (g := g) (y := y) (Below.refl w.heap.size w))
 unfold BkIs Ms.back Ms.back1
 rw [show (t.back1 k) = t.rg 7 (nAt t.d.r k) from rfl] at hq
 obtain ⟨ak, hak⟩ : ∃ q, nAt t.d.r k = q := ⟨_, rfl⟩
 obtain ⟨s6, hs6⟩ : ∃ q, nAt t.d.r 6 = q := ⟨_, rfl⟩
 have HA := hide hak
 have CA := hide (show w.drew.cell? ⟨gr, k, none⟩ = some (.int .i64 ak) by rw [((h.later (below_drew (w := w))).setR er k 0 (by have := hk.rl; omega)).2.2.1, hak])
 rw [hak] at a0 a1 E6 DK hq
 rw [hs6] at s0 s1 E6 hq
 rw [hak, hs6]
 clear hak hs6
 have HD := hide ((uh H0).later (below_drew (w := w)))
 have SC := hide ((uh HD).setR (uh ER) 7 ak (by have := uh H8; omega))
 have C0 := hide ((uh HD).rcell (uh ER))
 have C3 := hide (uh SC).2.2.2
 have C4 := hide (show (w.drew.setCell ⟨gr, 7, none⟩ (.int .i64 ak)).cell? ⟨g, 1, none⟩ = some (.slice (some ⟨gr, 0, none⟩) 8 rc) from (uh SC).1.rcell (uh ER))
 have CK := hide (uh SC).2.2.1
 have H1 := hide (uh SC).1
 have F1 := hide ((uh F0).trans ((Fm.of (below_drew (w := w))).trans (uh SC).2.1))
 have T8 := hide (show (t.rg 7 ak).d.r.length = 8 by rw [Ms.rg_len, uh H8])
 clear SC HD H0 F0 H8
 generalize t.rg 7 ak = t1 at H1 E6 DK hq T8 ⊢
 have RD6 := hide (fun v (r : RdM v y t1.d) => readS_any y t1.d s6 v ((uh H1).small (uh DK)) r)
 rw [hq] at RD6
 generalize t1.d.get s6 = u at RD6 ⊢
 clear h hk hq er
 go_enter Tryz.func36, Tryz.ntmps36
 go_wp2_with fail
 refine wp_region_held_drew (S := fun v => v.cell? ⟨g, 1, none⟩ = some (.slice (some ⟨gr, 0, none⟩) 8 rc)) (by kernel_rfl) (uh C0) (fun hS => ?_)
 have HS := hide hS
 clear hS
 refine tkB 0 (.pointer (some ⟨g, 0, none⟩)) rfl (uh HS) ?_
 go_simp
 refine tkB 1 (.pointer (some ⟨g, 0, none⟩)) rfl (uh HS) ?_
 go_simp
 refine tkB 2 (.pointer (some ⟨g, 1, none⟩)) rfl (uh HS) ?_
 go_simp
 refine tkA 3 (.slice (some ⟨gr, 0, none⟩) 8 rc) rfl (.inl ⟨by rfl, fun w hc => ?_⟩) (uh HS) ?_
 · go_simp
 go_simp
 refine tkB 4 (.pointer (some ⟨g, 0, none⟩)) rfl (uh HS) ?_
 go_simp
 refine tkB 5 (.pointer (some ⟨g, 0, none⟩)) rfl (uh HS) ?_
 go_simp
 refine tkB 6 (.pointer (some ⟨g, 1, none⟩)) rfl (uh HS) ?_
 go_simp
 refine tkA 7 (.slice (some ⟨gr, 0, none⟩) 8 rc) rfl (.inl ⟨by rfl, fun w hc => ?_⟩) (uh HS) ?_
 · go_simp
 go_simp
 refine tkB 8 (.int .i64 (k : Int)) rfl (uh HS) ?_
 go_simp
 refine tkB 9 (.pointer (some ⟨gr, k, none⟩)) rfl (uh HS) ?_
 go_simp
 refine wpAnyH_ready (rs := [10]) (by kernel_rfl) (by simp) ?_
 refine AllReadyH.cons rfl (fun K2 hK => ?_) AllReadyH.nil
 have c2 := uh CA
 go_simp
 clear c2
 refine hK.out _ _ (uh C0) (fun hS => ?_)
 clear HS
 have HS := hide hS
 clear hS hK K2
 refine tkB 11 (.pointer (some ⟨gr, 7, none⟩)) rfl (uh HS) ?_
 go_simp
 refine wpAnyH_ready (rs := [12]) (by kernel_rfl) (by simp) ?_
 refine AllReadyH.cons rfl (fun K2 hK => ?_) AllReadyH.nil
 have c2 := uh C3
 have c3 := uh CK
 go_simp
 clear c2 c3
 refine hK.out _ _ (uh C4) (fun hS => ?_)
 clear HS
 have HS := hide hS
 clear hS hK K2
 refine wpAnyH_done (by kernel_rfl) ?_ _
 clear HS C0 C3 CA CK
 generalize hwd : w.drew.setCell ⟨gr, 7, none⟩ (.int .i64 ak) = w1 at H1 F1 C4
 rw [show (w.setCell ⟨gr, 7, none⟩ (.int .i64 ak)).drew = w1 from hwd]
 clear hwd
 clear C4
 have HE := hide ((uh H1).later (below_drew (w := w1)))
 have F2 := hide ((uh F1).trans (Fm.of (below_drew (w := w1))))
 have C6 := hide (show w1.drew.cell? ⟨gr, 6, none⟩ = some (.int .i64 s6) by rw [((uh HE).setR (uh ER) 6 0 (by have := uh T8; omega)).2.2.1, uh E6])
 have C1 := hide ((uh HE).rcell (uh ER))
 clear H1 F1
 go_wp2_with fail
 refine wp_region_held_drew (S := fun v => v.heap[g]? = some (.cells y.cs 26 (0, 0)) ∧ v.cell? ⟨g, 1, none⟩ = some (.slice (some ⟨gr, 0, none⟩) 8 rc) ∧ v.cell? ⟨gr, 6, none⟩ = some (.int .i64 s6)) (by kernel_rfl) (⟨(uh HE).row, uh C1, uh C6⟩) (fun hS => ?_)
 have HS := hide hS
 clear hS
 generalize w1.drew = wd at HE F2 C6 C1 HS ⊢
 refine tkB 0 (.pointer (some ⟨g, 0, none⟩)) rfl (uh HS) ?_
 go_simp
 refine tkB 1 (.pointer (some ⟨g, 0, none⟩)) rfl (uh HS) ?_
 go_simp
 refine tkA 2 (.agg y.cs) rfl (yields_load rfl 26 _ rfl g rfl 26 y.cs _ (fun w h => h.1) Tryz.underlying26 rfl (by kernel_rfl)) (uh HS) ?_
 go_simp
 refine tkB 3 (.pointer (some ⟨g, 0, none⟩)) rfl (uh HS) ?_
 go_simp
 refine tkB 4 (.pointer (some ⟨g, 0, none⟩)) rfl (uh HS) ?_
 go_simp
 refine tkB 5 (.pointer (some ⟨g, 1, none⟩)) rfl (uh HS) ?_
 go_simp
 refine tkA 6 (.slice (some ⟨gr, 0, none⟩) 8 rc) rfl (.inl ⟨by rfl, fun w hc => ?_⟩) (uh HS) ?_
 · obtain ⟨h1, h2, h3⟩ := hc; clear h1; go_simp
 go_simp
 refine tkB 7 (.pointer (some ⟨gr, 6, none⟩)) rfl (uh HS) ?_
 go_simp
 refine tkA 8 (.int .i64 s6) rfl (.inl ⟨by rfl, fun w hc => ?_⟩) (uh HS) ?_
 · obtain ⟨h1, h2, h3⟩ := hc; clear h1; go_simp
 go_simp
 refine wpAnyH_ready (rs := [9]) (by kernel_rfl) (by simp) ?_
 refine AllReadyH.cons rfl (fun K2 hK => ?_) AllReadyH.nil
 go_simp
 refine (uh RD6 wd (uh HE).own.rd).mono ?_
 rintro e w2 ⟨rfl, hb⟩
 have H2 := hide ((uh HE).later hb)
 have F3 := hide ((uh F2).trans (Fm.of hb))
 have C7 := hide (show w2.cell? ⟨gr, 6, none⟩ = some (.int .i64 s6) by rw [((uh H2).setR (uh ER) 6 0 (by have := uh T8; omega)).2.2.1, uh E6])
 refine hK.out _ _ ⟨(uh H2).row, (uh H2).rcell (uh ER), uh C7⟩ (fun hS => ?_)
 clear HS
 have HS := hide hS
 clear hS hK K2 hb RD6 HE F2 C6 C1
 refine tkB 10 (.tuple #[.int .i64 u, .bool true]) rfl (uh HS) ?_
 go_simp
 refine tkB 11 (.int .i64 u) rfl (uh HS) ?_
 go_simp
 refine tkB 12 (.bool true) rfl (uh HS) ?_
 go_simp
 refine tkB 13 (.int .i64 u) rfl (uh HS) ?_
 go_simp
 refine tkB 14 (.bool true) rfl (uh HS) ?_
 go_simp
 refine wpAnyH_done (by kernel_rfl) ?_ _
 clear HS
 have WR := hide (fun v => wrapS_any (s6 + 2) v)
 have HW := hide (show IntKind.i64.wrap (s6 + 2) = s6 + 2 by rw [IntKind.wrap_i64]; omega)
 have HD := hide ((uh H2).later (below_drew (w := w2)))
 have SC := hide ((uh HD).setR (uh ER) 6 ((s6 + 2) % 65536) (by have := uh T8; omega))
 have C0 := hide ((uh HD).rcell (uh ER))
 have C3 := hide (uh SC).2.2.2
 have C4 := hide (show (w2.drew.setCell ⟨gr, 6, none⟩ (.int .i64 ((s6 + 2) % 65536))).cell? ⟨g, 1, none⟩ = some (.slice (some ⟨gr, 0, none⟩) 8 rc) from (uh SC).1.rcell (uh ER))
 have CK := hide (uh SC).2.2.1
 have H4 := hide (uh SC).1
 have F4 := hide ((uh F3).trans ((Fm.of (below_drew (w := w2))).trans (uh SC).2.1))
 rw [uh E6] at CK
 have L4 := hide (show (t1.rg 6 ((s6 + 2) % 65536)).d.r.length = 8 by rw [Ms.rg_len, uh T8])
 have HQ6 := hide (show ∃ q, (s6 + 2) % 65536 = q from ⟨_, rfl⟩)
 obtain ⟨X, hX⟩ := uh HQ6
 have HX := hide hX
 rw [hX] at C4 H4 F4 L4 WR
 clear hX HQ6 SC HD H2 F3 C7
 go_wp2_with fail
 refine wp_region_held_drew (S := fun v => v.cell? ⟨g, 1, none⟩ = some (.slice (some ⟨gr, 0, none⟩) 8 rc)) (by kernel_rfl) (uh C0) (fun hS => ?_)
 have HS := hide hS
 clear hS
 refine tkB 0 (.pointer (some ⟨g, 0, none⟩)) rfl (uh HS) ?_
 go_simp
 refine tkB 1 (.pointer (some ⟨g, 0, none⟩)) rfl (uh HS) ?_
 go_simp
 refine tkB 2 (.pointer (some ⟨g, 1, none⟩)) rfl (uh HS) ?_
 go_simp
 refine tkA 3 (.slice (some ⟨gr, 0, none⟩) 8 rc) rfl (.inl ⟨by rfl, fun w hc => ?_⟩) (uh HS) ?_
 · go_simp
 go_simp
 refine tkB 4 (.pointer (some ⟨g, 0, none⟩)) rfl (uh HS) ?_
 go_simp
 refine tkB 5 (.pointer (some ⟨g, 0, none⟩)) rfl (uh HS) ?_
 go_simp
 refine tkB 6 (.pointer (some ⟨g, 1, none⟩)) rfl (uh HS) ?_
 go_simp
 refine tkA 7 (.slice (some ⟨gr, 0, none⟩) 8 rc) rfl (.inl ⟨by rfl, fun w hc => ?_⟩) (uh HS) ?_
 · go_simp
 go_simp
 refine tkB 8 (.pointer (some ⟨gr, 6, none⟩)) rfl (uh HS) ?_
 go_simp
 refine wpAnyH_ready (rs := [9]) (by kernel_rfl) (by simp) ?_
 refine AllReadyH.cons rfl (fun K2 hK => ?_) AllReadyH.nil
 have c2 := uh CK
 go_simp
 clear c2
 refine hK.out _ _ (uh C0) (fun hS => ?_)
 clear HS
 have HS := hide hS
 clear hS hK K2
 refine tkA 10 (.int .i64 (s6 + 2)) rfl (.inl ⟨by rfl, fun w hc => ?_⟩) (uh HS) ?_
 · clear hc; have hw := uh HW; go_simp
 go_simp
 refine wpAnyH_ready (rs := [11]) (by kernel_rfl) (by simp) ?_
 refine AllReadyH.cons rfl (fun K2 hK => ?_) AllReadyH.nil
 go_simp
 refine (uh WR _).mono ?_
 rintro e w' ⟨rfl, hw'⟩
 rw [hw']
 clear hw' w'
 refine hK.out _ _ (uh C0) (fun hS => ?_)
 clear HS
 have HS := hide hS
 clear hS hK K2
 refine tkB 12 (.pointer (some ⟨gr, 6, none⟩)) rfl (uh HS) ?_
 go_simp
 refine wpAnyH_ready (rs := [13]) (by kernel_rfl) (by simp) ?_
 refine AllReadyH.cons rfl (fun K2 hK => ?_) AllReadyH.nil
 have c2 := uh C3
 have c3 := uh CK
 go_simp
 clear c2 c3
 refine hK.out _ _ (uh C4) (fun hS => ?_)
 clear HS
 have HS := hide hS
 clear hS hK K2
 refine wpAnyH_done (by kernel_rfl) ?_ _
 clear HS C0 C3 CK
 generalize hwd : w2.drew.setCell ⟨gr, 6, none⟩ (.int .i64 X) = w4 at H4 F4 C4
 rw [show (w2.setCell ⟨gr, 6, none⟩ (.int .i64 X)).drew = w4 from hwd]
 clear hwd
 have c1 := uh C4
 have SK := hide ((uh H4).setR (uh ER) k u (by have := uh L4; omega))
 have c2 := (uh SK).2.2.1
 have c3 := (uh SK).2.2.2
 have H5 := hide (uh SK).1
 have F5 := hide ((uh F4).trans (uh SK).2.1)
 clear SK
 go_wp2_with fail
 go_ret
 refine ⟨rfl, fun _ => ?_, uh F5⟩
 rw [uh HX]
 exact uh H5
theorem back_any (B g k : Nat) (y : Mv) (t : Ms) (st : Int) (w : World) (h : Sm w B g y t st) (hk : Dk t.d) (hr : k < 8) : BkIs B g y t (t.back k) st k ((t.back1 k).d.has (nAt t.d.r 6)) w := by
 obtain ⟨q, hq⟩ : ∃ q, (t.back1 k).d.has (nAt t.d.r 6) = q := ⟨_, rfl⟩
 rw [hq]
 cases q
 · exact back_false B g k y t st w h hk hr hq
 · exact back_true B g k y t st w h hk hr hq
end Go.Proofs.YtboedaofbchdkaaGreatDoor
