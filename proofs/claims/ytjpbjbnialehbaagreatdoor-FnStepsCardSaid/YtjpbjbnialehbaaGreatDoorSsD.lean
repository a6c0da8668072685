/- Contracts over this seat's translation, laid together; conditions stand as hypotheses of each. -/
import Derived.Test.YtjpbjbnialehbaaGreatDoorSsC
namespace Go.Proofs.YtjpbjbnialehbaaGreatDoor
open Go.ChangeShapes Go.WideShapes Go.ChangeAt Go.RowKit
set_option maxHeartbeats 16000000
set_option linter.unusedVariables false
set_option maxRecDepth 8000
set_option linter.unusedSimpArgs false
theorem inB_f (x a b : Int) (h : x < a ∨ b < x) : inB x a b = false := by unfold inB; rw [Bool.and_eq_false_iff]; simp; omega
theorem eqB_t (x a : Int) (h : x = a) : (x == a) = true := by simp [h]
theorem eqB_f (x a : Int) (h : x ≠ a) : (x == a) = false := by simp [h]
theorem modes_bd : ∀ i : Fin 10, 0 ≤ nAt [0, 0, 1, 2, 3, 4, 5, 6, 7, 2] i.val ∧ nAt [0, 0, 1, 2, 3, 4, 5, 6, 7, 2] i.val ≤ 7 := by decide +kernel
theorem regs_bd : ∀ i : Fin 7, 0 ≤ nAt [0, 1, 2, 5, 6, 7, 7] i.val ∧ nAt [0, 1, 2, 5, 6, 7, 7] i.val ≤ 7 := by decide +kernel
theorem od_okI {o : Od} (hm : 0 ≤ o.m ∧ o.m ≤ 7) (hr : 0 ≤ o.r ∧ o.r ≤ 7) (hx : 0 ≤ o.x ∧ o.x ≤ 65535) (h : o.hasX = true ∨ o.x = 0) : o.ok = true := by
 unfold Od.ok
 rw [inB_t _ _ _ hm, inB_t _ _ _ hr, inB_t _ _ _ hx]
 rcases h with h | h
 · rw [h]; rfl
 · simp [h]
theorem int_lit (cb : Nat) (a : Option Addr) (len cap : Nat) (xs : List UInt8) (w : World) (hc : Cur w cb a len cap xs) (L : List Int) (m : Nat) (hm : L.length = m) (h0 : 0 < m) (hb : m ≤ 1048576) (g : Nat) (hg : w.heap.size = g) (o : Obj) (ho : o = (.cells (L.map (Value.int .i64)).toArray 3)) :
  Calls Tryz.prog 41 #[.pointer (some ⟨cb, 0, none⟩), .slice (some ⟨g, 0, none⟩) m m] (w.alloc o) fun e w' => ∃ j : Nat, j < m ∧ e = .returned (.int .i64 (nAt L j)) ∧ Cur w' cb a len cap xs ∧ (w.alloc o).grownBy w' (some cb) := by
 subst hg
 subst ho
 exact int_any cb a len cap xs (some ⟨w.heap.size, 0, none⟩) m m L _ (hc.later ((Below.refl _ _).alloc (Nat.le_refl _) _)) (RdN_lit w _) (fun ad e => by cases e; show w.heap.size ≠ cb; have := hc.lt; omega) hm h0 hb
set_option maxRecDepth 100000 in
theorem opdD_any (cb : Nat) (a : Option Addr) (len cap : Nat) (xs : List UInt8) (w : World) (hc : Cur w cb a len cap xs) :
  Calls Tryz.prog 99 #[.pointer (some ⟨cb, 0, none⟩)] w fun e w' => ∃ o : Od, o.ok = true ∧ e = .returned o.v ∧ Cur w' cb a len cap xs ∧ w.grownBy w' (some cb) := by
 have hlt := hc.lt
 have E0 := hide (ez_new hc #[c8 [0, 0, 0] 0, c8 [0, 0, 0] 1, c8 [0, 0, 0] 2] 67 3 (c8 [0, 0, 0]) (row3_new w [0, 0, 0] 67))
 have I0 := hide (int_lit cb a len cap xs (w.alloc (Obj.cells #[c8 [0, 0, 0] 0, c8 [0, 0, 0] 1, c8 [0, 0, 0] 2] 67)) (uh E0).cur [0, 0, 1, 2, 3, 4, 5, 6, 7, 2] 10 rfl (by omega) (by omega) (w.heap.size + 1) (by simp) _ rfl)
 clear hc
 go_enter Tryz.func99, Tryz.ntmps99
 go_wp2_with fail
 refine (uh I0).mono ?_
 rintro e w1 ⟨j1, hj1, rfl, hc1, hg1⟩
 have hmb := modes_bd ⟨j1, hj1⟩
 simp only at hmb
 generalize nAt [0, 0, 1, 2, 3, 4, 5, 6, 7, 2] j1 = m at hmb ⊢
 have E1 := hide (((uh E0).alloc _).draw hc1 hg1)
 have I1 := hide (int_lit cb a len cap xs w1 hc1 [0, 1, 2, 5, 6, 7, 7] 7 rfl (by omega) (by omega) w1.heap.size rfl _ rfl)
 clear hc1 hg1 I0 E0 hj1
 go_wp2_with fail
 refine (uh I1).mono ?_
 rintro e w2 ⟨j2, hj2, rfl, hc2, hg2⟩
 have hrb := regs_bd ⟨j2, hj2⟩
 simp only at hrb
 generalize nAt [0, 1, 2, 5, 6, 7, 7] j2 = r at hrb ⊢
 have E2 := hide ((((uh E1).alloc _).draw hc2 hg2).alloc (Obj.cells #[c8 [m, r, 0] 0, c8 [m, r, 0] 1, c8 [m, r, 0] 2] 67))
 have R2 := hide (row3_new w2 [m, r, 0] 67)
 have s2 : w.heap.size < w2.heap.size := by
  have h1 := (uh E1).res.lt
  have h2 := hg2.size
  simp at h2
  omega
 clear hc2 hg2 I1 E1 hj2
 go_wp2_with fail
 refine (hasX_any ⟨m, r, 0⟩ _).mono ?_
 rintro e w3 ⟨rfl, hb3⟩
 have E3 := hide ((uh E2).later hb3)
 have R3 := hide (row_later (uh R2) hb3)
 clear hb3 E2 R2
 cases hX : Od.hasX ⟨m, r, 0⟩
 ·
  have rr := uh R3
  have ee := (uh E3).res
  have x0 : w3.cell? ⟨w2.heap.size, 0, none⟩ = some (.int .i64 (m)) := rr.cell (i := 0) (by omega)
  have g0 := rr.frozen 0
  have c0 : w3.cell? ⟨w.heap.size, 0, none⟩ = some (.int .i64 0) := ee.cell (i := 0) (by omega)
  have f0 := ee.frozen 0
  have x1 : w3.cell? ⟨w2.heap.size, 1, none⟩ = some (.int .i64 (r)) := rr.cell (i := 1) (by omega)
  have g1 := rr.frozen 1
  have c1 : w3.cell? ⟨w.heap.size, 1, none⟩ = some (.int .i64 0) := ee.cell (i := 1) (by omega)
  have f1 := ee.frozen 1
  have x2 : w3.cell? ⟨w2.heap.size, 2, none⟩ = some (.int .i64 (0)) := rr.cell (i := 2) (by omega)
  have g2 := rr.frozen 2
  have c2 : w3.cell? ⟨w.heap.size, 2, none⟩ = some (.int .i64 0) := ee.cell (i := 2) (by omega)
  have f2 := ee.frozen 2
  clear rr ee
  have EF := hide ((((((uh E3).setR 0 _ (c8 [m, 0, 0]) (row3_set (uh E3).res 0 _ (fun j hj => by rcases j with _ | _ | _ | j <;> first | rfl | omega)))).setR 1 _ (c8 [m, r, 0]) (row3_set (((uh E3).setR 0 _ (c8 [m, 0, 0]) (row3_set (uh E3).res 0 _ (fun j hj => by rcases j with _ | _ | _ | j <;> first | rfl | omega)))).res 1 _ (fun j hj => by rcases j with _ | _ | _ | j <;> first | rfl | omega)))).setR 2 _ (c8 [m, r, 0]) (row3_set (((((uh E3).setR 0 _ (c8 [m, 0, 0]) (row3_set (uh E3).res 0 _ (fun j hj => by rcases j with _ | _ | _ | j <;> first | rfl | omega)))).setR 1 _ (c8 [m, r, 0]) (row3_set (((uh E3).setR 0 _ (c8 [m, 0, 0]) (row3_set (uh E3).res 0 _ (fun j hj => by rcases j with _ | _ | _ | j <;> first | rfl | omega)))).res 1 _ (fun j hj => by rcases j with _ | _ | _ | j <;> first | rfl | omega)))).res 2 _ (fun j hj => by rcases j with _ | _ | _ | j <;> first | rfl | omega)))
  go_wp2
  refine bodyPost_ret (results_cell_row (P := Tryz.prog) rfl _ _ w.heap.size 67 #[.int .i64 (m), .int .i64 (r), .int .i64 (0)] (0, 0) _ rfl (row3_heap (uh EF).res) Tryz.underlying67 rfl (by kernel_rfl)) rfl ?_
  exact ⟨⟨m, r, 0⟩, od_okI hmb hrb (by simp) (.inr rfl), rfl, (uh EF).cur, (uh EF).gr⟩
 ·
  have W3 := hide (word_any cb a len cap xs w3 (uh E3).cur)
  go_wp2_with fail
  refine (uh W3).mono ?_
  rintro e w4 ⟨x, hx0, hx1, rfl, hc4, hg4⟩
  have E4 := hide (((uh E3).draw hc4 hg4).setO s2 2 (.int .i64 x))
  have R3' := hide (row_draw (uh R3) hg4 (by omega))
  have R4 := hide (row3_set (uh R3') 2 x (l' := [m, r, x]) (fun j hj => by rcases j with _ | _ | _ | j <;> first | rfl | omega))
  have ee3 := (uh E3).draw hc4 hg4
  clear hc4 hg4 W3 E3 R3
  have x0 : w4.cell? ⟨w2.heap.size, 0, none⟩ = some (.int .i64 (m)) := (uh R3').cell (i := 0) (by omega)
  have g0 := (uh R3').frozen 0
  have c0 : w4.cell? ⟨w.heap.size, 0, none⟩ = some (.int .i64 0) := ee3.res.cell (i := 0) (by omega)
  have f0 := ee3.res.frozen 0
  have x1 : w4.cell? ⟨w2.heap.size, 1, none⟩ = some (.int .i64 (r)) := (uh R3').cell (i := 1) (by omega)
  have g1 := (uh R3').frozen 1
  have c1 : w4.cell? ⟨w.heap.size, 1, none⟩ = some (.int .i64 0) := ee3.res.cell (i := 1) (by omega)
  have f1 := ee3.res.frozen 1
  have x2 : w4.cell? ⟨w2.heap.size, 2, none⟩ = some (.int .i64 (0)) := (uh R3').cell (i := 2) (by omega)
  have g2 := (uh R3').frozen 2
  have c2 : w4.cell? ⟨w.heap.size, 2, none⟩ = some (.int .i64 0) := ee3.res.cell (i := 2) (by omega)
  have f2 := ee3.res.frozen 2
  clear ee3
  have EF := hide ((((((uh E4).setR 0 _ (c8 [m, 0, 0]) (row3_set (uh E4).res 0 _ (fun j hj => by rcases j with _ | _ | _ | j <;> first | rfl | omega)))).setR 1 _ (c8 [m, r, 0]) (row3_set (((uh E4).setR 0 _ (c8 [m, 0, 0]) (row3_set (uh E4).res 0 _ (fun j hj => by rcases j with _ | _ | _ | j <;> first | rfl | omega)))).res 1 _ (fun j hj => by rcases j with _ | _ | _ | j <;> first | rfl | omega)))).setR 2 _ (c8 [m, r, x]) (row3_set (((((uh E4).setR 0 _ (c8 [m, 0, 0]) (row3_set (uh E4).res 0 _ (fun j hj => by rcases j with _ | _ | _ | j <;> first | rfl | omega)))).setR 1 _ (c8 [m, r, 0]) (row3_set (((uh E4).setR 0 _ (c8 [m, 0, 0]) (row3_set (uh E4).res 0 _ (fun j hj => by rcases j with _ | _ | _ | j <;> first | rfl | omega)))).res 1 _ (fun j hj => by rcases j with _ | _ | _ | j <;> first | rfl | omega)))).res 2 _ (fun j hj => by rcases j with _ | _ | _ | j <;> first | rfl | omega)))
  have hne : w.heap.size ≠ w2.heap.size := by omega
  go_wp2
  refine bodyPost_ret (results_cell_row (P := Tryz.prog) rfl _ _ w.heap.size 67 #[.int .i64 m, .int .i64 r, .int .i64 x] (0, 0) _ rfl (row3_heap (uh EF).res) Tryz.underlying67 rfl (by kernel_rfl)) rfl ?_
  exact ⟨⟨m, r, x⟩, od_okI hmb hrb ⟨hx0, hx1⟩ (.inl hX), rfl, (uh EF).cur, (uh EF).gr⟩
def Md.ldB (d : Md) (r a : Int) : Bool := if r = -1 then d.has a else (inB r 0 ((d.r.length : Int) - 1) && (a == -1))
def Md.ldV (d : Md) (r a : Int) : Int := if r = -1 then d.get a else if d.ldB r a = true then nAt d.r r.toNat else 0
structure Bp (w wr : World) (x : Mv) (r a : Int) : Prop where
 bx : wr.heap[w.heap.size]? = some (.cells x.cs 26 (0, 0))
 bp : wr.heap[w.heap.size + 1]? = some (.cells #[.int .i64 r, .int .i64 a] 97 (0, 0))
 bel : Below w.heap.size w wr
 sz : w.heap.size + 2 ≤ wr.heap.size
theorem bp_new (w : World) (x : Mv) (r a : Int) : Bp w ((w.alloc (.cells x.cs 26)).alloc (.cells #[.int .i64 r, .int .i64 a] 97)) x r a :=
 ⟨row_lat (heap_alloc_last w _) ((Below.refl _ _).alloc (Nat.le_refl _) _), by have := heap_alloc_last (w.alloc (.cells x.cs 26)) (.cells #[.int .i64 r, .int .i64 a] 97); simpa using this, ((Below.refl _ _).alloc (Nat.le_refl _) _).alloc (by simp) _, by simp⟩
theorem Bp.later {w wr w' : World} {x : Mv} {r a : Int} (h : Bp w wr x r a) (hb : Below wr.heap.size wr w') : Bp w w' x r a :=
 ⟨row_lat h.bx hb, row_lat h.bp hb, h.bel.trans (hb.mono (by have := h.sz; omega)), Nat.le_trans h.sz hb.size⟩
theorem loadS_any (x : Mv) (d : Md) (r a : Int) (w : World) (hs : x.small) (hr : RdM w x d) :
  Calls Tryz.prog 90 #[.agg x.cs, .agg #[.int .i64 r, .int .i64 a]] w fun e w' => e = .returned (.tuple #[.int .i64 (d.ldV r a), .bool (d.ldB r a)]) ∧ Below w.heap.size w w' := by
 have B := hide (bp_new w x r a)
 have X := hide (hr.later (uh B).bel)
 have R := hide (fun w (h : RdM w x d) => readS_any x d a w hs h)
 by_cases h1 : r = -1
 ·
  subst h1
  unfold Md.ldV Md.ldB
  rw [if_pos rfl, if_pos rfl]
  go_enter Tryz.func90, Tryz.ntmps90
  go_wp2_with (first | (refine wpList_load_row rfl 26 _ rfl w.heap.size rfl 26 x.cs (0, 0) _ (uh B).bx Tryz.underlying26 rfl (by kernel_rfl) ?_) | (go_at_call 48; refine (uh R _ (uh X)).mono ?_; rintro e w' ⟨rfl, hb⟩; have BB := hide ((uh B).later hb).bel; clear hb))
  go_ret2
  exact ⟨rfl, uh BB⟩
 ·
  have c1 : x.cs[1]? = some (.slice x.r.a x.r.n x.r.c) := rfl
  have I := hide (fun w => in_any r 0 ((x.r.n : Int) - 1) w)
  have hn := hs.2.1
  have hw1 : IntKind.i64.wrap ((x.r.n : Int) - 1) = (x.r.n : Int) - 1 := by rw [IntKind.wrap_i64]; omega
  unfold Md.ldV Md.ldB
  rw [if_neg h1, if_neg h1, hr.rl]
  obtain ⟨q, hq⟩ : ∃ q, inB r 0 ((x.r.n : Int) - 1) = q := ⟨_, rfl⟩
  rw [hq] at I ⊢
  cases q
  ·
   clear hq hr hs R X
   go_enter Tryz.func90, Tryz.ntmps90
   go_wp2_with (go_at_call 31; refine (uh I _).mono ?_; rintro e w' ⟨rfl, hw'⟩; rw [hw']; clear hw' w')
   go_ret2
   exact ⟨rfl, (uh B).bel⟩
  ·
   by_cases ha : a = -1
   ·
    subst ha
    obtain ⟨r0, r1⟩ : 0 ≤ r ∧ r ≤ (x.r.n : Int) - 1 := by unfold inB at hq; simpa using hq
    obtain ⟨k, rfl⟩ := Int.eq_ofNat_of_zero_le r0
    have hkl : k < x.r.n := by omega
    have hrl := hr.rl
    rcases (uh X).r with h00 | ⟨b, off, hra, hbl, hc⟩
    · rw [h00] at hrl; simp at hrl; omega
    have hcx := hc k (by omega)
    have hki : (k : Int) < (x.r.n : Int) := by omega
    rw [hra] at c1
    rw [show ((k : Int)).toNat = k by omega]
    clear hq hr hs R X hra hc hrl
    go_enter Tryz.func90, Tryz.ntmps90
    go_wp2_with (go_at_call 31; refine (uh I _).mono ?_; rintro e w' ⟨rfl, hw'⟩; rw [hw']; clear hw' w')
    go_ret2
    exact ⟨rfl, (uh B).bel⟩
   ·
    rw [show (a == -1) = false by simpa using ha]
    clear hq hr hs R X
    go_enter Tryz.func90, Tryz.ntmps90
    go_wp2_with (go_at_call 31; refine (uh I _).mono ?_; rintro e w' ⟨rfl, hw'⟩; rw [hw']; clear hw' w')
    go_ret2
    exact ⟨rfl, (uh B).bel⟩
section
def zA (n : Nat) : Array Value := (cellsN (List.replicate n 0)).toArray
theorem zA_size (n : Nat) : (zA n).size = n := by simp [zA, cellsN]
theorem made256 : madeCells #[Value.int .i64 0] 256 = zA 256 := by kernel_rfl
theorem made8 : madeCells #[Value.int .i64 0] 8 = zA 8 := by kernel_rfl
section
variable {o : Oper} {a : Act} {w : World} {K : Act → World → Prop} {Q : Exit → Act → World → Prop}
theorem wp_make (n : Nat) (hn : madeCells #[Value.int .i64 0] n = zA n) (hb : n ≤ 1048576) (ho : o.op = .makeSlice 24 (.const (.int .i64 (n : Int))) (.const (.int .i64 (n : Int))))
  (h : K (a.put o.dst (.slice (some ⟨w.heap.size, 0, none⟩) n n)) (w.alloc (.cells (zA n) 3))) : o.wp Tryz.prog a w K Q := by
 have hr := run_make_row' (P := Tryz.prog) 24 3 (.int .i64 0) 8 Tryz.underlying24 info3 rfl .i64 .i64 n (by omega) (by omega) w
 rw [hn] at hr
 unfold Oper.wp execOp
 simp only [ho, Act.eval, hr, Sem.run_bind, Sem.run_pure, Result.andThen_ok]
 exact h
theorem wp_app (p q : Operand) (ho : o.op = .call { callee := .builtin .append, args := #[p, q], argTypes := #[24, 24] })
  (B : Nat) (v : Value) (xs : List Int) (hs : a.eval p = v) (hown : OwnN w B v xs) (s : Sl) (ns : List Int) (hx : a.eval q = .slice s.a s.n s.c) (hr : RdN w s.a ns) (hl : ns.length = s.n) (hz : s.nz) (hm : xs.length + s.n ≤ 4194304) (hB : B ≤ w.heap.size)
  (h : ∀ v' w', OwnN w' B v' (xs ++ ns) → w.grownBy w' v.ownBlock → (v'.ownBlock = v.ownBlock ∨ v'.ownBlock = some w.heap.size) → K (a.put o.dst v') w') : o.wp Tryz.prog a w K Q := by
 obtain ⟨i0, hi, hz0, hz1, hz2⟩ := info_parts info3
 obtain ⟨sa, sn, sc⟩ := s
 simp only at hx hr hl hm
 cases sa with
 | none =>
  have h0 : ns = [] := by
   rcases hr with h0 | ⟨_, _, e, _⟩
   · exact h0
   · cases e
  subst h0
  have hn : sn = 0 := by simp at hl; omega
  have hc : sc = 0 := hz rfl
  subst hn hc
  have hrun := run_append_owned_none (P := Tryz.prog) (w := w) B 24 o.type 3 i0 1 Tryz.underlying24 hi v xs.length (cellsN xs) hown
  have hk := h v w (by rw [List.append_nil]; exact hown) (World.grownBy.refl _ _) (.inl rfl)
  unfold Oper.wp
  simp [execOp, ho, resolve, invoke, builtin, hs, hx, hrun, Result.andThen]
  exact hk
 | some ad =>
  obtain ⟨v', w', hr', h2, h3, _, h5⟩ := run_append_own_at (P := Tryz.prog) w B 24 o.type 3 i0 (.int .i64 0) 1 8 Tryz.underlying24 hi hz0 hz1 hz2 rfl (by decide) v xs.length (cellsN xs) hown ad sn sc (cellsN ns) (by rw [cellsN_length]; omega) (rdN_cells hr) (cellsN_one _) (by unfold maxLen; omega) (by omega) hB
  unfold Oper.wp execOp
  simp only [ho, resolve, invoke, builtin, Sem.run_bind, Sem.run_pure, Result.andThen_ok, List.map_toArray, List.map_cons, List.map_nil, hs, hx, hr']
  refine h v' w' ?_ h3 h5
  unfold OwnN
  rw [cellsN_append, List.length_append, hl]
  exact h2
theorem wp_empty (ho : o.op = .buildSlice 24 0 #[]) (h : K (a.put o.dst (.slice (some ⟨w.heap.size, 0, none⟩) 0 0)) (w.alloc (.cells #[] 3))) : o.wp Tryz.prog a w K Q := by
 obtain ⟨i0, hi, hz0, hz1, hz2⟩ := info_parts info3
 unfold Oper.wp execOp
 simp only [ho]
 go_simp
 exact h
theorem zero28 : (Tryz.prog.info? 26).map (fun i => (i.zero, i.size)) = some (some (.agg zMv.cs), 9) := by kernel_rfl
theorem wp_alloc28 (ho : o.op = .alloc 26) (h : K (a.put o.dst (.pointer (some ⟨w.heap.size, 0, none⟩))) (w.alloc (.cells zMv.cs 26))) : o.wp Tryz.prog a w K Q := by
 have hz := (zero_of_info zero28).1
 unfold Oper.wp execOp
 simp only [ho, Instr.alloc, hz, Sem.run_bind, Sem.run_pure, Result.andThen_ok]
 simp [go_sem]
 exact h
theorem wp_move (x : Operand) (ho : o.op = .move x) (h : K (a.put o.dst (a.eval x)) w) : o.wp Tryz.prog a w K Q := by
 unfold Oper.wp execOp
 simp only [ho, Sem.run_bind, Sem.run_pure, Result.andThen_ok]
 exact h
end
theorem own_made {w : World} {g n B : Nat} (h : w.heap[g]? = some (.cells (zA n) 3 (0, 0))) (hB : B ≤ g) (hn : n ≤ 1048576) : OwnN w B (.slice (some ⟨g, 0, none⟩) n n) (List.replicate n 0) := by
 unfold OwnN
 rw [List.length_replicate]
 refine ⟨by rw [cellsN_length, List.length_replicate]; omega, .inr ⟨g, n, zA n, rfl, hB, h, Nat.le_refl _, by unfold maxLen; omega, by rw [zA_size]; omega, ?_⟩⟩
 unfold zA
 rw [List.toList_toArray, List.take_of_length_le (by rw [cellsN_length, List.length_replicate]; omega)]
theorem own_bare {w : World} {g B : Nat} (h : w.heap[g]? = some (.cells #[] 3 (0, 0))) (hB : B ≤ g) : OwnN w B (.slice (some ⟨g, 0, none⟩) 0 0) [] :=
 ⟨rfl, .inr ⟨g, 0, #[], rfl, hB, h, Nat.le_refl _, Nat.zero_le _, rfl, rfl⟩⟩
theorem ne_of_rows {w : World} {g g' : Nat} {o o' : Obj} (h : w.heap[g]? = some o) (h' : w.heap[g']? = some o') (hne : o ≠ o') : g ≠ g' := fun e => by
 subst e
 rw [h] at h'
 exact hne (Option.some.inj h')
theorem ne_size {c c' : Array Value} {t t' : TypeId} {f f' : Nat × Nat} (h : c.size ≠ c'.size) : Obj.cells c t f ≠ Obj.cells c' t' f' := fun e => by
 injection e with e1
 exact h (by rw [e1])
end
section
theorem newB_parts {im : List Int} {a st : Int} {ins : List Int} (h : newB im a st ins = true) : inB a 0 510 = true ∧ a % 2 = 0 ∧ (im.length : Int) ≤ 256 - a / 2 ∧ wdB im = true ∧ inB st 0 65535 = true ∧ (ins.length : Int) ≤ 50 ∧ wdB ins = true := by
 unfold newB at h
 simpa using h
structure Ir (w : World) (ins : Sl) (nn : List Int) (w' : World) (b0 b1 b2 b3 b4 b5 b6 b7 : Bool) (v9 v48 v49 v50 v51 v52 v53 : Value) : Prop where
 bel : Below (w.heap.size + 1) (w.alloc (.cells zMv.cs 26)) w'
 h0 : b0 = true → ∃ g, v48 = .slice (some ⟨g, 0, none⟩) 256 256 ∧ w.heap.size < g ∧ w'.heap[g]? = some (.cells (zA 256) 3 (0, 0))
 h1 : b1 = true → ∃ g, v49 = .slice (some ⟨g, 0, none⟩) 8 8 ∧ w.heap.size < g ∧ w'.heap[g]? = some (.cells (zA 8) 3 (0, 0))
 h2 : b2 = true → b4 = false → ∃ g, v50 = .slice (some ⟨g, 0, none⟩) 0 0 ∧ w.heap.size < g ∧ w'.heap[g]? = some (.cells #[] 3 (0, 0))
 h3 : b3 = true → v51 = .slice ins.a ins.n ins.c
 h4 : b4 = true → ∃ s : Sl, v52 = s.v ∧ OwnN w' (w.heap.size + 1) s.v nn
 x4 : b4 = true → ∀ g, v52.ownBlock = some g → (b0 = true → v48.ownBlock ≠ some g) ∧ (b1 = true → v49.ownBlock ≠ some g) ∧ (b6 = true → v9 ≠ .pointer (some ⟨g, 0, none⟩))
 h5 : b5 = true → v53 = .agg #[v48, v49, .bool false, .bool false, .bool false, .bool false, v52, .slice none 0 0, .int .i64 0]
 h6 : b6 = true → b7 = false → ∃ g, v9 = .pointer (some ⟨g, 0, none⟩) ∧ w.heap.size < g ∧ w'.heap[g]? = some (.cells zMv.cs 26 (0, 0))
 h7 : b7 = true → ∃ g, v9 = .pointer (some ⟨g, 0, none⟩) ∧ w.heap.size < g ∧ w'.heap[g]? = some (.cells #[v48, v49, .bool false, .bool false, .bool false, .bool false, v52, .slice none 0 0, .int .i64 0] 26 (0, 0))
section
variable {w w' : World} {ins : Sl} {nn : List Int} {b0 b1 b2 b3 b4 b5 b6 b7 : Bool} {v9 v48 v49 v50 v51 v52 v53 : Value}
theorem Ir.low (J : Ir w ins nn w' b0 b1 b2 b3 b4 b5 b6 b7 v9 v48 v49 v50 v51 v52 v53) : Below w.heap.size w w' := (below_new w (.cells zMv.cs 26)).trans (J.bel.mono (by omega))
theorem Ir.size (J : Ir w ins nn w' b0 b1 b2 b3 b4 b5 b6 b7 v9 v48 v49 v50 v51 v52 v53) : w.heap.size + 1 ≤ w'.heap.size := by have := J.bel.size; have := alloc_size w (.cells zMv.cs 26); omega
theorem row_al {w : World} {g : Nat} {o o' : Obj} (h : w.heap[g]? = some o) : (w.alloc o').heap[g]? = some o := row_lat h (below_new w o')
theorem Ir.op0 (J : Ir w ins nn w' b0 b1 b2 b3 b4 false b6 false v9 v48 v49 v50 v51 v52 v53) : Ir w ins nn (w'.alloc (.cells (zA 256) 3)) true b1 b2 b3 b4 false b6 false v9 (.slice (some ⟨w'.heap.size, 0, none⟩) 256 256) v49 v50 v51 v52 v53 := by
 have sz := J.size
 refine ⟨J.bel.alloc sz _, fun _ => ⟨_, rfl, by omega, heap_alloc_last w' _⟩, fun h => ?_, fun h k => ?_, J.h3, fun h => ?_, fun h g e => ⟨fun _ => ?_, fun k => ((J.x4 h g e).2.1 k), fun k => ((J.x4 h g e).2.2 k)⟩, fun h => by (cases h), fun h k => ?_, fun h => by cases h⟩
 · obtain ⟨g, e, l, r⟩ := J.h1 h; exact ⟨g, e, l, row_al r⟩
 · obtain ⟨g, e, l, r⟩ := J.h2 h k; exact ⟨g, e, l, row_al r⟩
 · obtain ⟨s, e, l⟩ := J.h4 h; exact ⟨s, e, l.later (below_new _ _)⟩
 ·
  obtain ⟨s, e', l⟩ := J.h4 h
  rw [e'] at e
  have := (l.lt e).2
  simp [Value.ownBlock]
  omega
 · obtain ⟨g, e, l, r⟩ := J.h6 h k; exact ⟨g, e, l, row_al r⟩
theorem Ir.op1 (J : Ir w ins nn w' b0 b1 b2 b3 b4 false b6 false v9 v48 v49 v50 v51 v52 v53) : Ir w ins nn (w'.alloc (.cells (zA 8) 3)) b0 true b2 b3 b4 false b6 false v9 v48 (.slice (some ⟨w'.heap.size, 0, none⟩) 8 8) v50 v51 v52 v53 := by
 have sz := J.size
 refine ⟨J.bel.alloc sz _, fun h => ?_, fun _ => ⟨_, rfl, by omega, heap_alloc_last w' _⟩, fun h k => ?_, J.h3, fun h => ?_, fun h g e => ⟨fun k => ((J.x4 h g e).1 k), fun _ => ?_, fun k => ((J.x4 h g e).2.2 k)⟩, fun h => by (cases h), fun h k => ?_, fun h => by cases h⟩
 · obtain ⟨g, e, l, r⟩ := J.h0 h; exact ⟨g, e, l, row_al r⟩
 · obtain ⟨g, e, l, r⟩ := J.h2 h k; exact ⟨g, e, l, row_al r⟩
 · obtain ⟨s, e, l⟩ := J.h4 h; exact ⟨s, e, l.later (below_new _ _)⟩
 ·
  obtain ⟨s, e', l⟩ := J.h4 h
  rw [e'] at e
  have := (l.lt e).2
  simp [Value.ownBlock]
  omega
 · obtain ⟨g, e, l, r⟩ := J.h6 h k; exact ⟨g, e, l, row_al r⟩
theorem Ir.op2 (J : Ir w ins nn w' b0 b1 b2 b3 false false b6 false v9 v48 v49 v50 v51 v52 v53) : Ir w ins nn (w'.alloc (.cells #[] 3)) b0 b1 true b3 false false b6 false v9 v48 v49 (.slice (some ⟨w'.heap.size, 0, none⟩) 0 0) v51 v52 v53 := by
 have sz := J.size
 refine ⟨J.bel.alloc sz _, fun h => ?_, fun h => ?_, fun _ _ => ⟨_, rfl, by omega, heap_alloc_last w' _⟩, J.h3, fun h => by (cases h), fun h => by (cases h), fun h => by (cases h), fun h k => ?_, fun h => by cases h⟩
 · obtain ⟨g, e, l, r⟩ := J.h0 h; exact ⟨g, e, l, row_al r⟩
 · obtain ⟨g, e, l, r⟩ := J.h1 h; exact ⟨g, e, l, row_al r⟩
 · obtain ⟨g, e, l, r⟩ := J.h6 h k; exact ⟨g, e, l, row_al r⟩
theorem Ir.op3 (J : Ir w ins nn w' b0 b1 b2 b3 false b5 b6 b7 v9 v48 v49 v50 v51 v52 v53) : Ir w ins nn w' b0 b1 b2 true false b5 b6 b7 v9 v48 v49 v50 (.slice ins.a ins.n ins.c) v52 v53 :=
 { J with h3 := fun _ => rfl }
theorem Ir.op4 (J : Ir w ins nn w' b0 b1 true true false false b6 false v9 v48 v49 v50 v51 v52 v53) {g50 : Nat} (e50 : v50 = .slice (some ⟨g50, 0, none⟩) 0 0) (l50 : w.heap.size < g50) (r50 : w'.heap[g50]? = some (.cells #[] 3 (0, 0))) {s : Sl} {w2 : World}
  (ho : OwnN w2 (w.heap.size + 1) s.v nn) (hg : w'.grownBy w2 (some g50)) (hb : s.v.ownBlock = some g50 ∨ s.v.ownBlock = some w'.heap.size) : Ir w ins nn w2 b0 b1 true true true false b6 false v9 v48 v49 v50 v51 s.v v53 := by
 have keep : ∀ {g : Nat} {o : Obj}, w'.heap[g]? = some o → g ≠ g50 → w2.heap[g]? = some o := fun h hne => (hg.block _ (row_lt h) (by simpa using hne)).trans h
 have n0 : ∀ {g : Nat}, w'.heap[g]? = some (.cells (zA 256) 3 (0, 0)) → g ≠ g50 := fun h => ne_of_rows h r50 (ne_size (by rw [zA_size]; simp))
 have n1 : ∀ {g : Nat}, w'.heap[g]? = some (.cells (zA 8) 3 (0, 0)) → g ≠ g50 := fun h => ne_of_rows h r50 (ne_size (by rw [zA_size]; simp))
 have n6 : ∀ {g : Nat}, w'.heap[g]? = some (.cells zMv.cs 26 (0, 0)) → g ≠ g50 := fun h => ne_of_rows h r50 (ne_size (by rw [Mv.cs_size]; simp))
 have off : ∀ {g b : Nat} {o : Obj}, w'.heap[g]? = some o → g ≠ g50 → s.v.ownBlock = some b → g ≠ b := fun h hne e => by
  have := row_lt h
  rcases hb with hb | hb
  · rw [hb] at e; simp at e; omega
  · rw [hb] at e; simp at e; omega
 refine ⟨J.bel.grown hg J.size (fun k e => by cases e; omega), fun h => ?_, fun h => ?_, fun _ k => by (cases k), J.h3, fun _ => ⟨s, rfl, ho⟩, fun _ b e => ⟨fun h => ?_, fun h => ?_, fun h => ?_⟩, fun h => by (cases h), fun h k => ?_, fun h => by cases h⟩
 · obtain ⟨g, e, l, r⟩ := J.h0 h; exact ⟨g, e, l, keep r (n0 r)⟩
 · obtain ⟨g, e, l, r⟩ := J.h1 h; exact ⟨g, e, l, keep r (n1 r)⟩
 · obtain ⟨g, e', l, r⟩ := J.h0 h; rw [e']; simpa [Value.ownBlock] using off r (n0 r) e
 · obtain ⟨g, e', l, r⟩ := J.h1 h; rw [e']; simpa [Value.ownBlock] using off r (n1 r) e
 · obtain ⟨g, e', l, r⟩ := J.h6 h rfl; rw [e']; simpa using off r (n6 r) e
 · obtain ⟨g, e, l, r⟩ := J.h6 h k; exact ⟨g, e, l, keep r (n6 r)⟩
theorem Ir.op5 (J : Ir w ins nn w' b0 b1 b2 b3 b4 b5 b6 b7 v9 v48 v49 v50 v51 v52 v53) : Ir w ins nn w' b0 b1 b2 b3 b4 true b6 b7 v9 v48 v49 v50 v51 v52 (.agg #[v48, v49, .bool false, .bool false, .bool false, .bool false, v52, .slice none 0 0, .int .i64 0]) :=
 { J with h5 := fun _ => rfl }
theorem Ir.op6 (J : Ir w ins nn w' b0 b1 b2 b3 b4 b5 b6 false v9 v48 v49 v50 v51 v52 v53) : Ir w ins nn (w'.alloc (.cells zMv.cs 26)) b0 b1 b2 b3 b4 b5 true false (.pointer (some ⟨w'.heap.size, 0, none⟩)) v48 v49 v50 v51 v52 v53 := by
 have sz := J.size
 refine ⟨J.bel.alloc sz _, fun h => ?_, fun h => ?_, fun h k => ?_, J.h3, fun h => ?_, fun h g e => ⟨(J.x4 h g e).1, (J.x4 h g e).2.1, fun _ => ?_⟩, J.h5, fun _ _ => ⟨_, rfl, by omega, heap_alloc_last w' _⟩, fun h => by cases h⟩
 · obtain ⟨g, e, l, r⟩ := J.h0 h; exact ⟨g, e, l, row_al r⟩
 · obtain ⟨g, e, l, r⟩ := J.h1 h; exact ⟨g, e, l, row_al r⟩
 · obtain ⟨g, e, l, r⟩ := J.h2 h k; exact ⟨g, e, l, row_al r⟩
 · obtain ⟨s, e, l⟩ := J.h4 h; exact ⟨s, e, l.later (below_new _ _)⟩
 ·
  obtain ⟨s, e', l⟩ := J.h4 h
  rw [e'] at e
  have := (l.lt e).2
  intro e2
  cases e2
  omega
structure Ie (w w' : World) (nn : List Int) (v9 : Value) (g9 : Nat) (y : Mv) : Prop where
 bel : Below (w.heap.size + 1) (w.alloc (.cells zMv.cs 26)) w'
 p9 : v9 = .pointer (some ⟨g9, 0, none⟩)
 l9 : w.heap.size < g9
 r9 : w'.heap[g9]? = some (.cells y.cs 26 (0, 0))
 own : OwnM w' (w.heap.size + 1) y ⟨List.replicate 256 0, List.replicate 8 0, nn, []⟩
 fl : y.fl = zMv.fl
 ne : ∀ b, y.at b → b ≠ g9
 ym : ∃ gm, y.m = ⟨some ⟨gm, 0, none⟩, 256, 256⟩
 yr : ∃ gr, y.r = ⟨some ⟨gr, 0, none⟩, 8, 8⟩
theorem Ir.op7 (J : Ir w ins nn w' true true true true true true true false v9 v48 v49 v50 v51 v52 v53) : ∃ (g9 : Nat) (y : Mv), v9 = .pointer (some ⟨g9, 0, none⟩) ∧ v53 = .agg y.cs ∧ w'.heap[g9]? = some (.cells zMv.cs 26 (0, 0)) ∧ Ie w (w'.setRow g9 y.cs) nn v9 g9 y := by
 obtain ⟨g48, e48, l48, r48⟩ := J.h0 rfl
 obtain ⟨g49, e49, l49, r49⟩ := J.h1 rfl
 obtain ⟨s, e52, o52⟩ := J.h4 rfl
 obtain ⟨g9, e9, l9, r9⟩ := J.h6 rfl rfl
 have h53 := J.h5 rfl
 have x4 := J.x4 rfl
 subst e48 e49 e52 e9
 have n1 : g48 ≠ g49 := ne_of_rows r48 r49 (ne_size (by rw [zA_size, zA_size]; omega))
 have n2 : g48 ≠ g9 := ne_of_rows r48 r9 (ne_size (by rw [zA_size, Mv.cs_size]; omega))
 have n3 : g49 ≠ g9 := ne_of_rows r49 r9 (ne_size (by rw [zA_size, Mv.cs_size]; omega))
 have n4 : ∀ g, s.v.ownBlock = some g → g ≠ g48 ∧ g ≠ g49 ∧ g ≠ g9 := fun g e => by
  have := x4 g e
  simp [Value.ownBlock] at this
  omega
 refine ⟨g9, ⟨⟨some ⟨g48, 0, none⟩, 256, 256⟩, ⟨some ⟨g49, 0, none⟩, 8, 8⟩, false, false, false, false, s, ⟨none, 0, 0⟩, 0⟩, rfl, h53, r9, ?_⟩
 have k48 := (setRow_other w' g9 g48 (Mv.cs ⟨⟨some ⟨g48, 0, none⟩, 256, 256⟩, ⟨some ⟨g49, 0, none⟩, 8, 8⟩, false, false, false, false, s, ⟨none, 0, 0⟩, 0⟩) n2).trans r48
 have k49 := (setRow_other w' g9 g49 (Mv.cs ⟨⟨some ⟨g48, 0, none⟩, 256, 256⟩, ⟨some ⟨g49, 0, none⟩, 8, 8⟩, false, false, false, false, s, ⟨none, 0, 0⟩, 0⟩) n3).trans r49
 refine ⟨below_setRow J.bel (by omega) _, rfl, l9, setRow_heap w' g9 _ _ 26 _ r9, ⟨own_made (n := 256) k48 (by omega) (by omega), own_made (n := 8) k49 (by omega) (by omega), o52.keep fun g hv _ => setRow_other w' g9 g _ (n4 g hv).2.2, ownN_none _ _, ?_, ?_, fun g _ e => by (simp [Sl.v, Value.ownBlock] at e), ?_, fun g _ e => by (simp [Sl.v, Value.ownBlock] at e), fun g _ e => by (simp [Sl.v, Value.ownBlock] at e)⟩, rfl, ?_, ⟨g48, rfl⟩, ⟨g49, rfl⟩⟩
 ·
  intro g e1 e2
  simp [Sl.v, Value.ownBlock] at e1 e2
  omega
 ·
  intro g e1 e2
  have := n4 g e2
  simp [Sl.v, Value.ownBlock] at e1
  omega
 ·
  intro g e1 e2
  have := n4 g e2
  simp [Sl.v, Value.ownBlock] at e1
  omega
 ·
  intro b hb
  rcases hb with hb | hb | hb | hb
  · simp [Sl.v, Value.ownBlock] at hb; omega
  · simp [Sl.v, Value.ownBlock] at hb; omega
  · exact (n4 b hb).2.2
  · simp [Sl.v, Value.ownBlock] at hb
end
end
section
structure Dp (f : Nat → Bool) : Prop where
 d4 : f 4 = true → f 2 = true ∧ f 3 = true
 d5 : f 5 = true → f 0 = true ∧ f 1 = true ∧ f 4 = true
 d7 : f 7 = true → f 0 = true ∧ f 1 = true ∧ f 2 = true ∧ f 3 = true ∧ f 4 = true ∧ f 5 = true ∧ f 6 = true
theorem no {p : Prop} (h : false = true) : p := by cases h
theorem dp_new : Dp (fun _ => false) := ⟨fun h => no h, fun h => no h, fun h => no h⟩
theorem f_no {b c : Bool} (h : b = true → c = true) (hc : c = false) : b = false := by
 cases hb : b
 · rfl
 · rw [h hb] at hc; cases hc
theorem built28 (s0 s1 s2 : Sl) : Tryz.prog.built 26 [(0, s0.v), (1, s1.v), (6, s2.v)] = some #[s0.v, s1.v, .bool false, .bool false, .bool false, .bool false, s2.v, .slice none 0 0, .int .i64 0] := by kernel_rfl
theorem wp_build28 {o : Oper} {a : Act} {w : World} {K : Act → World → Prop} {Q : Exit → Act → World → Prop} (x0 x1 x2 : Operand) (ho : o.op = .build 26 #[(0, x0), (1, x1), (6, x2)]) (s0 s1 s2 : Sl) (h0 : a.eval x0 = s0.v) (h1 : a.eval x1 = s1.v) (h2 : a.eval x2 = s2.v)
  (h : K (a.put o.dst (.agg #[s0.v, s1.v, .bool false, .bool false, .bool false, .bool false, s2.v, .slice none 0 0, .int .i64 0])) w) : o.wp Tryz.prog a w K Q := by
 have e : Tryz.prog.built 26 ((#[(0, x0), (1, x1), (6, x2)] : Array (Nat × Operand)).map fun (i, x) => (i, a.eval x)).toList = some #[s0.v, s1.v, .bool false, .bool false, .bool false, .bool false, s2.v, .slice none 0 0, .int .i64 0] := by
  simp only [List.map_toArray, List.map_cons, List.map_nil, h0, h1, h2]
  exact built28 s0 s1 s2
 refine wp_build 26 _ ho (by rw [e]; rfl) ?_
 rw [e]
 exact h
theorem over_nil (ns : List Int) (k : Nat) : over ns k [] = ns := by simp [over]
theorem over_len (ns im : List Int) (k : Nat) (h : k + im.length ≤ ns.length) : (over ns k im).length = ns.length := by
 unfold over
 simp only [List.length_append, List.length_take, List.length_drop]
 omega
theorem over_set (ns im : List Int) (k j : Nat) (hj : j < im.length) (h : k + im.length ≤ ns.length) : (over ns k (im.take j)).set (k + j) (nAt im j) = over ns k (im.take (j + 1)) := by
 have e1 : (im.take j).length = j := by rw [List.length_take]; omega
 have e2 : (im.take (j + 1)).length = j + 1 := by rw [List.length_take]; omega
 have e3 : (ns.take k).length = k := by rw [List.length_take]; omega
 unfold over
 rw [e1, e2, take_nAt im j hj]
 have e4 : ns.drop (k + j) = ns[k + j]'(by omega) :: ns.drop (k + (j + 1)) := List.drop_eq_getElem_cons (by omega)
 rw [e4, List.set_append_right _ _ (by omega), e3, List.set_append_right _ _ (by omega), e1, show k + j - k - j = 0 by omega, List.set_cons_zero, List.append_assoc]
 rfl
structure Nl (w wr : World) (y : Mv) (g9 : Nat) (d : Md) : Prop where
 bel : Below (w.heap.size + 1) (w.alloc (.cells zMv.cs 26)) wr
 r9 : wr.heap[g9]? = some (.cells y.cs 26 (0, 0))
 own : OwnM wr (w.heap.size + 1) y d
theorem Nl.low {w wr : World} {y : Mv} {g9 : Nat} {d : Md} (h : Nl w wr y g9 d) : Below w.heap.size w wr := (below_new w (.cells zMv.cs 26)).trans (h.bel.mono (by omega))
theorem Nl.re {w wr : World} {y : Mv} {g9 : Nat} {d : Md} (h : Nl w wr y g9 d) : wr.heap[w.heap.size]? = some (.cells zMv.cs 26 (0, 0)) := (h.bel.block w.heap.size (by omega)).trans (heap_alloc_last w _)
theorem Nl.later {w wr w' : World} {y : Mv} {g9 : Nat} {d : Md} (h : Nl w wr y g9 d) (hb : Below wr.heap.size wr w') : Nl w w' y g9 d :=
 ⟨h.bel.trans (hb.mono (by have := h.bel.size; have := alloc_size w (.cells zMv.cs 26); omega)), row_lat h.r9 hb, h.own.later hb⟩
theorem Nl.setM {w wr : World} {y : Mv} {g9 gm n c : Nat} {d : Md} (h : Nl w wr y g9 d) (hm : y.m = ⟨some ⟨gm, 0, none⟩, n, c⟩) (hne : ∀ b, y.at b → b ≠ g9) (k : Nat) (v : Int) (hk : k < d.m.length) : Nl w (wr.setCell ⟨gm, k, none⟩ (.int .i64 v)) y g9 ⟨d.m.set k v, d.r, d.i, d.o⟩ := by
 have e : y.m.v = .slice (some ⟨gm, 0, none⟩) n c := by rw [hm]; rfl
 have o := h.own.m
 rw [e] at o
 have s := o.set k v hk
 have hat : y.at gm := .inl (by rw [e]; rfl)
 have := h.own.lo hat
 exact ⟨h.bel.setCell (p := ⟨gm, k, none⟩) this.1 _, row_keep h.r9 (fun e => hne gm hat e.symm), h.own.putM (by rw [e]; exact s.2) (by rw [e]; exact s.1)⟩
theorem OwnM.putR {w w' : World} {B : Nat} {x : Mv} {d : Md} {ns : List Int} (h : OwnM w B x d) (hg : w.grownBy w' x.r.v.ownBlock) (hn : OwnN w' B x.r.v ns) : OwnM w' B x ⟨d.m, ns, d.i, d.o⟩ :=
 { h with
  r := hn
  m := h.m.keep fun q hv hq => hg.block q hq (fun e => h.mr q hv e.symm)
  i := h.i.keep fun q hv hq => hg.block q hq (fun e => h.ri q e.symm hv)
  o := h.o.keep fun q hv hq => hg.block q hq (fun e => h.ro q e.symm hv) }
theorem Nl.setR {w wr : World} {y : Mv} {g9 gr n c : Nat} {d : Md} (h : Nl w wr y g9 d) (hm : y.r = ⟨some ⟨gr, 0, none⟩, n, c⟩) (hne : ∀ b, y.at b → b ≠ g9) (k : Nat) (v : Int) (hk : k < d.r.length) : Nl w (wr.setCell ⟨gr, k, none⟩ (.int .i64 v)) y g9 ⟨d.m, d.r.set k v, d.i, d.o⟩ := by
 have e : y.r.v = .slice (some ⟨gr, 0, none⟩) n c := by rw [hm]; rfl
 have o := h.own.r
 rw [e] at o
 have s := o.set k v hk
 have hat : y.at gr := .inr (.inl (by rw [e]; rfl))
 have := h.own.lo hat
 exact ⟨h.bel.setCell (p := ⟨gr, k, none⟩) this.1 _, row_keep h.r9 (fun e => hne gr hat e.symm), h.own.putR (by rw [e]; exact s.2) (by rw [e]; exact s.1)⟩
theorem Nl.cellM {w wr : World} {y : Mv} {g9 gm n c : Nat} {d : Md} (h : Nl w wr y g9 d) (hm : y.m = ⟨some ⟨gm, 0, none⟩, n, c⟩) (k : Nat) (hk : k < d.m.length) : wr.cell? ⟨gm, k, none⟩ = some (.int .i64 (nAt d.m k)) ∧ wr.frozen? ⟨gm, k, none⟩ = false := by
 have o := h.own.m
 rw [hm] at o
 exact OwnN.cellAt (b := gm) (n := n) (cap := c) o k hk
theorem Nl.cellR {w wr : World} {y : Mv} {g9 gr n c : Nat} {d : Md} (h : Nl w wr y g9 d) (hm : y.r = ⟨some ⟨gr, 0, none⟩, n, c⟩) (k : Nat) (hk : k < d.r.length) : wr.cell? ⟨gr, k, none⟩ = some (.int .i64 (nAt d.r k)) ∧ wr.frozen? ⟨gr, k, none⟩ = false := by
 have o := h.own.r
 rw [hm] at o
 exact OwnN.cellAt (b := gr) (n := n) (cap := c) o k hk
def Ji (w : World) (ins : Sl) (nn : List Int) (w' : World) (f : Nat → Bool) (v9 v48 v49 v50 v51 v52 v53 : Value) : Prop :=
 Dp f ∧ (f 7 = false → Ir w ins nn w' (f 0) (f 1) (f 2) (f 3) (f 4) (f 5) (f 6) (f 7) v9 v48 v49 v50 v51 v52 v53) ∧ (f 7 = true → ∃ (g9 : Nat) (y : Mv), Ie w w' nn v9 g9 y)
section
variable {w w' : World} {ins : Sl} {nn : List Int} {f : Nat → Bool} {v9 v48 v49 v50 v51 v52 v53 : Value}
theorem ji_new (h : Below (w.heap.size + 1) (w.alloc (.cells zMv.cs 26)) w') : Ji w ins nn w' (fun _ => false) v9 v48 v49 v50 v51 v52 v53 :=
 ⟨dp_new, fun _ => ⟨h, fun h => no h, fun h => no h, fun h => no h, fun h => no h, fun h => no h, fun h => no h, fun h => no h, fun h => no h, fun h => no h⟩, fun h => no h⟩
theorem Ji.op0 (J : Ji w ins nn w' f v9 v48 v49 v50 v51 v52 v53) (hf : f 0 = false) : Ji w ins nn (w'.alloc (.cells (zA 256) 3)) (fun j => if j = 0 then true else f j) v9 (.slice (some ⟨w'.heap.size, 0, none⟩) 256 256) v49 v50 v51 v52 v53 := by
 have f5 := f_no (fun h => (J.1.d5 h).1) hf
 have f7 := f_no (fun h => (J.1.d7 h).1) hf
 have i := J.2.1 f7
 rw [f5, f7] at i
 refine ⟨⟨J.1.d4, fun h => ⟨rfl, (J.1.d5 h).2⟩, fun h => ⟨rfl, (J.1.d7 h).2⟩⟩, fun _ => ?_, fun h => no (f7.symm.trans h)⟩
 have k := i.op0
 show Ir w ins nn _ true (f 1) (f 2) (f 3) (f 4) (f 5) (f 6) (f 7) _ _ _ _ _ _ _
 rw [f5, f7]
 exact k
theorem Ji.op1 (J : Ji w ins nn w' f v9 v48 v49 v50 v51 v52 v53) (hf : f 1 = false) : Ji w ins nn (w'.alloc (.cells (zA 8) 3)) (fun j => if j = 1 then true else f j) v9 v48 (.slice (some ⟨w'.heap.size, 0, none⟩) 8 8) v50 v51 v52 v53 := by
 have f5 := f_no (fun h => (J.1.d5 h).2.1) hf
 have f7 := f_no (fun h => (J.1.d7 h).2.1) hf
 have i := J.2.1 f7
 rw [f5, f7] at i
 refine ⟨⟨J.1.d4, fun h => ⟨(J.1.d5 h).1, rfl, (J.1.d5 h).2.2⟩, fun h => ⟨(J.1.d7 h).1, rfl, (J.1.d7 h).2.2⟩⟩, fun _ => ?_, fun h => no (f7.symm.trans h)⟩
 have k := i.op1
 show Ir w ins nn _ (f 0) true (f 2) (f 3) (f 4) (f 5) (f 6) (f 7) _ _ _ _ _ _ _
 rw [f5, f7]
 exact k
theorem Ji.op2 (J : Ji w ins nn w' f v9 v48 v49 v50 v51 v52 v53) (hf : f 2 = false) : Ji w ins nn (w'.alloc (.cells #[] 3)) (fun j => if j = 2 then true else f j) v9 v48 v49 (.slice (some ⟨w'.heap.size, 0, none⟩) 0 0) v51 v52 v53 := by
 have f4 := f_no (fun h => (J.1.d4 h).1) hf
 have f5 := f_no (fun h => (J.1.d5 h).2.2) f4
 have f7 := f_no (fun h => (J.1.d7 h).2.2.1) hf
 have i := J.2.1 f7
 rw [f4, f5, f7] at i
 refine ⟨⟨fun h => ⟨rfl, (J.1.d4 h).2⟩, J.1.d5, fun h => ⟨(J.1.d7 h).1, (J.1.d7 h).2.1, rfl, (J.1.d7 h).2.2.2⟩⟩, fun _ => ?_, fun h => no (f7.symm.trans h)⟩
 have k := i.op2
 show Ir w ins nn _ (f 0) (f 1) true (f 3) (f 4) (f 5) (f 6) (f 7) _ _ _ _ _ _ _
 rw [f4, f5, f7]
 exact k
theorem Ji.op3 (J : Ji w ins nn w' f v9 v48 v49 v50 v51 v52 v53) (hf : f 3 = false) : Ji w ins nn w' (fun j => if j = 3 then true else f j) v9 v48 v49 v50 (.slice ins.a ins.n ins.c) v52 v53 := by
 have f4 := f_no (fun h => (J.1.d4 h).2) hf
 have f7 := f_no (fun h => (J.1.d7 h).2.2.2.1) hf
 have i := J.2.1 f7
 rw [f4] at i
 refine ⟨⟨fun h => ⟨(J.1.d4 h).1, rfl⟩, J.1.d5, fun h => ⟨(J.1.d7 h).1, (J.1.d7 h).2.1, (J.1.d7 h).2.2.1, rfl, (J.1.d7 h).2.2.2.2⟩⟩, fun _ => ?_, fun h => no (f7.symm.trans h)⟩
 have k := i.op3
 show Ir w ins nn _ (f 0) (f 1) (f 2) true (f 4) (f 5) (f 6) (f 7) _ _ _ _ _ _ _
 rw [f4]
 exact k
theorem Ji.at4 (J : Ji w ins nn w' f v9 v48 v49 v50 v51 v52 v53) (hf : f 4 = false) (h2 : f 2 = true) (h3 : f 3 = true) : v51 = .slice ins.a ins.n ins.c ∧ w.heap.size + 1 ≤ w'.heap.size ∧ Below w.heap.size w w' ∧ ∃ g, v50 = .slice (some ⟨g, 0, none⟩) 0 0 ∧ OwnN w' (w.heap.size + 1) v50 [] ∧
  ∀ (v : Value) (w2 : World), OwnN w2 (w.heap.size + 1) v nn → w'.grownBy w2 (some g) → (v.ownBlock = some g ∨ v.ownBlock = some w'.heap.size) → Ji w ins nn w2 (fun j => if j = 4 then true else f j) v9 v48 v49 v50 v51 v v53 := by
 have f5 := f_no (fun h => (J.1.d5 h).2.2) hf
 have f7 := f_no (fun h => (J.1.d7 h).2.2.2.2.1) hf
 have i := J.2.1 f7
 rw [hf, f5, f7, h2, h3] at i
 obtain ⟨g, e, l, r⟩ := i.h2 rfl rfl
 refine ⟨i.h3 rfl, i.size, i.low, g, e, by rw [e]; exact own_bare r (by omega), fun v w2 ho hg hb => ?_⟩
 refine ⟨⟨fun _ => ⟨h2, h3⟩, fun h => ⟨(J.1.d5 h).1, (J.1.d5 h).2.1, rfl⟩, fun h => no (f7.symm.trans h)⟩, fun _ => ?_, fun h => no (f7.symm.trans h)⟩
 obtain ⟨a, c, ev, _⟩ := ho.rd
 have ev' : v = (Sl.mk a nn.length c).v := ev
 rw [ev'] at ho hb
 have k := i.op4 e l r ho hg hb
 show Ir w ins nn _ (f 0) (f 1) (f 2) (f 3) true (f 5) (f 6) (f 7) _ _ _ _ _ _ _
 rw [f5, f7, h2, h3, ev']
 exact k
theorem Ji.op5 (J : Ji w ins nn w' f v9 v48 v49 v50 v51 v52 v53) (hf : f 5 = false) (h0 : f 0 = true) (h1 : f 1 = true) (h4 : f 4 = true) : Ji w ins nn w' (fun j => if j = 5 then true else f j) v9 v48 v49 v50 v51 v52 (.agg #[v48, v49, .bool false, .bool false, .bool false, .bool false, v52, .slice none 0 0, .int .i64 0]) := by
 have f7 := f_no (fun h => (J.1.d7 h).2.2.2.2.2.1) hf
 have i := J.2.1 f7
 refine ⟨⟨J.1.d4, fun _ => ⟨h0, h1, h4⟩, fun h => no (f7.symm.trans h)⟩, fun _ => i.op5, fun h => no (f7.symm.trans h)⟩
theorem Ji.at5 (J : Ji w ins nn w' f v9 v48 v49 v50 v51 v52 v53) (hf : f 5 = false) (h0 : f 0 = true) (h1 : f 1 = true) (h4 : f 4 = true) : ∃ s0 s1 s2 : Sl, v48 = s0.v ∧ v49 = s1.v ∧ v52 = s2.v := by
 have f7 := f_no (fun h => (J.1.d7 h).2.2.2.2.2.1) hf
 have i := J.2.1 f7
 obtain ⟨g, e, _⟩ := i.h0 h0
 obtain ⟨g', e', _⟩ := i.h1 h1
 obtain ⟨s, e'', _⟩ := i.h4 h4
 exact ⟨⟨_, _, _⟩, ⟨_, _, _⟩, s, e, e', e''⟩
theorem Ji.op6 (J : Ji w ins nn w' f v9 v48 v49 v50 v51 v52 v53) (hf : f 6 = false) : Ji w ins nn (w'.alloc (.cells zMv.cs 26)) (fun j => if j = 6 then true else f j) (.pointer (some ⟨w'.heap.size, 0, none⟩)) v48 v49 v50 v51 v52 v53 := by
 have f7 := f_no (fun h => (J.1.d7 h).2.2.2.2.2.2) hf
 have i := J.2.1 f7
 rw [f7] at i
 refine ⟨⟨J.1.d4, J.1.d5, fun h => no (f7.symm.trans h)⟩, fun _ => ?_, fun h => no (f7.symm.trans h)⟩
 have k := i.op6
 show Ir w ins nn _ (f 0) (f 1) (f 2) (f 3) (f 4) (f 5) true (f 7) _ _ _ _ _ _ _
 rw [f7]
 exact k
theorem Ji.at7 (J : Ji w ins nn w' f v9 v48 v49 v50 v51 v52 v53) (hf : f 7 = false) (h5 : f 5 = true) (h6 : f 6 = true) : ∃ (g9 : Nat) (y : Mv), v9 = .pointer (some ⟨g9, 0, none⟩) ∧ v53 = .agg y.cs ∧ w'.heap[g9]? = some (.cells zMv.cs 26 (0, 0)) ∧ Ji w ins nn (w'.setRow g9 y.cs) (fun j => if j = 7 then true else f j) v9 v48 v49 v50 v51 v52 v53 := by
 obtain ⟨h0, h1, h4⟩ := J.1.d5 h5
 obtain ⟨h2, h3⟩ := J.1.d4 h4
 have i := J.2.1 hf
 rw [h0, h1, h2, h3, h4, h5, h6, hf] at i
 obtain ⟨g9, y, e1, e2, r, k⟩ := i.op7
 exact ⟨g9, y, e1, e2, r, ⟨J.1.d4, J.1.d5, fun _ => ⟨h0, h1, h2, h3, h4, h5, h6⟩⟩, fun h => no h.symm, fun _ => ⟨g9, y, k⟩⟩
end
theorem newS_yes (im ins : Sl) (ni nn : List Int) (a st : Int) (w : World) (hi : RdN w im.a ni) (hn : RdN w ins.a nn) (li : ni.length = im.n) (ln : nn.length = ins.n) (nz : ins.nz) (hb : newB ni a st nn = true) :
  Calls Tryz.prog 39 #[.slice im.a im.n im.c, .int .i64 a, .int .i64 st, .slice ins.a ins.n ins.c] w fun e w' => ∃ y : Mv, e = .returned (.agg y.cs) ∧ y.fl = zMv.fl ∧ OwnM w' (w.heap.size + 1) y ⟨over z256 (a / 2).toNat ni, newR st, nn, []⟩ ∧ Below w.heap.size w w' := by
 obtain ⟨p0, p1, p2, p3, p4, p5, p6⟩ := newB_parts hb
 have HB := hide (below_new w (.cells #[Value.slice none 0 0, Value.slice none 0 0, Value.bool false, Value.bool false, Value.bool false, Value.bool false, Value.slice none 0 0, Value.slice none 0 0, Value.int .i64 0] 26))
 obtain ⟨a0, a1⟩ := inB_b p0
 have W0 := hide (p3 ▸ wordsS_any im.a im.n im.c ni _ li (by omega) (hi.later (uh HB)))
 have W1 := hide (p6 ▸ wordsS_any ins.a ins.n ins.c nn _ ln (by omega) (hn.later (uh HB)))
 have I0 := hide (fun w => p0 ▸ in_any a 0 510 w)
 have I1 := hide (fun w => p4 ▸ in_any st 0 65535 w)
 have HI := hide hi
 have HN := hide hn
 have LI := hide li
 have LN := hide ln
 rw [li] at p2
 rw [ln] at p5
 have g0 : 0 ≤ a % 2 := by omega
 have g1 : a % 2 ≤ 0 := by omega
 have NZ := hide nz
 clear hi hn li ln p0 p1 p3 p4 p6 hb nz
 go_enter Tryz.func39, Tryz.ntmps39
 go_wp2_with (first | (go_at_call_of 31 (Value.int IntKind.i64 a); refine (uh I0 _).mono ?_; rintro e w' ⟨rfl, rfl⟩) | (go_at_call_of 31 (Value.int IntKind.i64 st); refine (uh I1 _).mono ?_; rintro e w' ⟨rfl, rfl⟩) | (go_at_call_of 30 (Value.slice im.a im.n im.c); refine (uh W0).mono ?_; rintro e w' ⟨rfl, rfl⟩) | (go_at_call_of 30 (Value.slice ins.a ins.n ins.c); refine (uh W1).mono ?_; rintro e w' ⟨rfl, rfl⟩))
 refine wp_region_inv (fun f a' w' => ∃ v9 v48 v49 v50 v51 v52 v53 : Value, a' = ⟨#[_, _, _, _, _, _, _, _, _, v9, _, _, _, _, _, _, _, _, _, _, _, _, _, _, _, _, _, _, _, _, _, _, _, _, _, _, _, _, _, _, _, _, _, _, _, _, _, _, v48, v49, v50, v51, v52, v53, _, _, _, _, _, _, _, _, _, _, _, _, _, _, _, _, _, _, _, _, _, _, _, _, _], []⟩ ∧ Ji w ins nn w' f v9 v48 v49 v50 v51 v52 v53) (by kernel_rfl) ⟨undef, undef, undef, undef, undef, undef, undef, rfl, ji_new ⟨rfl, rfl, rfl, Nat.le_refl _, fun _ _ => rfl⟩⟩ (by kernel_rfl) ?_ ?_
 ·
  intro i o ho f a' w' hI hf hd K2 hK2
  obtain ⟨v9, v48, v49, v50, v51, v52, v53, rfl, J⟩ := hI
  have hi8 : i < 8 := by have := (Array.getElem?_eq_some_iff.1 ho).1; simpa using this
  obtain rfl | rfl | rfl | rfl | rfl | rfl | rfl | rfl : i = 0 ∨ i = 1 ∨ i = 2 ∨ i = 3 ∨ i = 4 ∨ i = 5 ∨ i = 6 ∨ i = 7 := by omega
  ·
   obtain rfl := Option.some.inj ho
   rw [if_pos (by rfl)]
   refine wp_make 256 made256 (by omega) rfl ?_
   exact hK2 _ _ ⟨v9, _, v49, v50, v51, v52, v53, rfl, J.op0 hf⟩
  ·
   obtain rfl := Option.some.inj ho
   rw [if_pos (by rfl)]
   refine wp_make 8 made8 (by omega) rfl ?_
   exact hK2 _ _ ⟨v9, v48, _, v50, v51, v52, v53, rfl, J.op1 hf⟩
  ·
   obtain rfl := Option.some.inj ho
   rw [if_pos (by rfl)]
   refine wp_empty rfl ?_
   exact hK2 _ _ ⟨v9, v48, v49, _, v51, v52, v53, rfl, J.op2 hf⟩
  ·
   obtain rfl := Option.some.inj ho
   rw [if_pos (by rfl)]
   refine wp_move _ rfl ?_
   exact hK2 _ _ ⟨v9, v48, v49, v50, _, v52, v53, rfl, J.op3 hf⟩
  ·
   obtain rfl := Option.some.inj ho
   rw [if_pos (by rfl)]
   obtain ⟨e51, z1, bl, g, e50, ow, step⟩ := J.at4 hf (hd ⟨2, .data⟩ (by simp) rfl) (hd ⟨3, .data⟩ (by simp) rfl)
   refine wp_app _ _ rfl (w.heap.size + 1) v50 [] rfl ow ins nn e51 ((uh HN).later bl) (uh LN) (uh NZ) (by simp; omega) z1 ?_
   intro v' w2 o1 o2 o3
   rw [e50] at o2 o3
   exact hK2 _ _ ⟨v9, v48, v49, v50, v51, _, v53, rfl, step v' w2 o1 o2 o3⟩
  ·
   obtain rfl := Option.some.inj ho
   rw [if_pos (by rfl)]
   obtain ⟨s0, s1, s2, e0, e1, e2⟩ := J.at5 hf (hd ⟨0, .data⟩ (by simp) rfl) (hd ⟨1, .data⟩ (by simp) rfl) (hd ⟨4, .data⟩ (by simp) rfl)
   refine wp_build28 _ _ _ rfl s0 s1 s2 e0 e1 e2 ?_
   have J5 := J.op5 hf (hd ⟨0, .data⟩ (by simp) rfl) (hd ⟨1, .data⟩ (by simp) rfl) (hd ⟨4, .data⟩ (by simp) rfl)
   rw [← e0, ← e1, ← e2]
   exact hK2 _ _ ⟨v9, v48, v49, v50, v51, v52, _, rfl, J5⟩
  ·
   obtain rfl := Option.some.inj ho
   rw [if_pos (by rfl)]
   refine wp_alloc28 rfl ?_
   exact hK2 _ _ ⟨_, v48, v49, v50, v51, v52, v53, rfl, J.op6 hf⟩
  ·
   obtain rfl := Option.some.inj ho
   rw [if_pos (by rfl)]
   obtain ⟨g9, y, e9, e53, r9, k⟩ := J.at7 hf (hd ⟨5, .data⟩ (by simp) rfl) (hd ⟨6, .data⟩ (by simp) rfl)
   refine wp_store_row 26 _ _ rfl g9 y.cs e9 e53 26 zMv.cs r9 (by kernel_rfl) rfl (Mv.cs_one _) ?_
   exact hK2 _ _ ⟨v9, v48, v49, v50, v51, v52, v53, rfl, k⟩
 ·
  intro f a' w' hI hall
  obtain ⟨v9, v48, v49, v50, v51, v52, v53, rfl, J⟩ := hI
  obtain ⟨g9, y, E⟩ := J.2.2 (hall 7 (by simp))
  obtain ⟨gm, hgm⟩ := E.ym
  obtain ⟨gr, hgr⟩ := E.yr
  obtain ⟨k, hk⟩ := Int.eq_ofNat_of_zero_le (show 0 ≤ a / 2 by omega)
  have N0 := hide (show Nl w w' y g9 ⟨over z256 k (ni.take 0), List.replicate 8 0, nn, []⟩ from ⟨E.bel, E.r9, by rw [List.take_zero, over_nil]; exact E.own⟩)
  have e9 := E.p9
  subst e9
  have NE := hide E.ne
  have FL := hide E.fl
  have L9 := hide E.l9
  have GM := hide hgm
  have GR := hide hgr
  have HK := hide hk
  have QU := hide (quo2 a0 (by omega) hk)
  have kb : k + im.n ≤ 256 := by omega
  clear E J hall hgm hgr hk W0 W1 I0 I1 HB
  go_wp2
  go_loopw [10] (fun i wr => ∃ j : Nat, j ≤ im.n ∧ i = .int .i64 j ∧ Nl w wr y g9 ⟨over z256 k (ni.take j), List.replicate 8 0, nn, []⟩) (fun i _ => im.n - (intOf i).toNat)
  case atStart => exact ⟨0, Nat.zero_le _, rfl, uh N0⟩
  case round =>
   obtain ⟨j, hj, rfl, hN⟩ := hrel
   have NR := hide hN
   clear hN N0
   by_cases hlt : j < im.n
   ·
    have LI' := uh LI
    rcases (uh HI).later (uh NR).low with h0 | ⟨b, off, hia, hbl, hcl⟩
    · rw [h0] at LI'; simp at LI'; omega
    have hb0 : b < w.heap.size := by
     rcases (uh HI) with h0 | ⟨b', off', e', hb', _⟩
     · rw [h0] at LI'; simp at LI'; omega
     · rw [hia] at e'; cases e'; exact hb'
    have HIA := hide hia
    have C9 := hide (show wr.cell? ⟨g9, 0, none⟩ = some (.slice (some ⟨gm, 0, none⟩) 256 256) by rw [row_m (uh NR).r9, uh GM])
    have CI := hide (hcl j (by omega))
    have hlen : (over z256 k (ni.take j)).length = 256 := by rw [over_len _ _ _ (by rw [z256_len, List.length_take]; omega), z256_len]
    have CM := hide ((uh NR).cellM (uh GM) (k + j) (by show k + j < (over z256 k (ni.take j)).length; omega))
    have nd := ((uh NR).later (below_drew (w := wr))).setM (uh GM) (uh NE) (k + j) (nAt ni j) (by show k + j < (over z256 k (ni.take j)).length; omega)
    have nd2 : Nl w (wr.drew.setCell ⟨gm, k + j, none⟩ (.int .i64 (nAt ni j))) y g9 ⟨over z256 k (ni.take (j + 1)), List.replicate 8 0, nn, []⟩ := by
     rw [← over_set z256 ni k j (by omega) (by rw [z256_len]; omega)]
     exact nd
    have ND := hide nd2
    have hadd : Hid (IntKind.i64.wrap ((k : Int) + (j : Int)) = (k : Int) + (j : Int)) := hide (by rw [IntKind.wrap_i64]; omega)
    have htn : Hid (((k : Int) + (j : Int)).toNat = k + j) := hide (by omega)
    have S2 := hide (show (wr.drew.setCell ⟨gm, k + j, none⟩ (.int .i64 (nAt ni j))).cell? ⟨b, off + j, none⟩ = some (.int .i64 (nAt ni j)) by
     have hat : y.at gm := .inl (by rw [uh GM]; rfl)
     have := ((uh NR).own.lo hat).1
     rw [World.cell?_of_block (w := wr.drew) (Below.heap_setCell wr.drew ⟨gm, k + j, none⟩ _ b (by show b ≠ gm; omega))]
     exact uh CI)
    clear hcl nd nd2 hbl hia
    generalize nAt ni j = q at CI ND S2 ⊢
    go_wp2_with fail
    refine wp_region_held_drew (S := fun w' => w'.cell? ⟨g9, 0, none⟩ = some (.slice (some ⟨gm, 0, none⟩) 256 256) ∧ w'.cell? ⟨b, off + j, none⟩ = some (.int .i64 q)) (by kernel_rfl) ⟨uh C9, uh CI⟩ (fun hS => ?_)
    have HS := hide hS
    clear hS
    refine tkB 0 (.pointer (some ⟨g9, 0, none⟩)) rfl (uh HS) ?_
    go_simp
    refine tkA 1 (.slice (some ⟨gm, 0, none⟩) 256 256) rfl (.inl ⟨by rfl, fun w hc => ?_⟩) (uh HS) ?_
    · obtain ⟨hc1, hc2⟩ := hc; go_simp
    go_simp
    refine tkB 2 (.int .i64 a) rfl (uh HS) ?_
    go_simp
    refine tkA 3 (.int .i64 (k : Int)) rfl (.inl ⟨by rfl, fun w hc => ?_⟩) (uh HS) ?_
    · clear hc; have hq := uh QU; go_simp
    go_simp
    refine tkB 4 (.int .i64 (j : Int)) rfl (uh HS) ?_
    go_simp
    refine tkA 5 (.int .i64 ((k : Int) + (j : Int))) rfl (.inl ⟨by rfl, fun w hc => ?_⟩) (uh HS) ?_
    · clear hc; have hq := uh hadd; go_simp
    go_simp
    refine tkB 6 (.slice im.a im.n im.c) rfl (uh HS) ?_
    go_simp
    refine tkB 7 (.int .i64 (j : Int)) rfl (uh HS) ?_
    go_simp
    refine tkA 8 (.pointer (some ⟨b, off + j, none⟩)) rfl (.inl ⟨by rfl, fun w hc => ?_⟩) (uh HS) ?_
    · clear hc; have hq := uh HIA; go_simp
    go_simp
    refine tkA 9 (.int .i64 q) rfl (.inl ⟨by rfl, fun w hc => ?_⟩) (uh HS) ?_
    · obtain ⟨hc1, hc2⟩ := hc; go_simp
    go_simp
    refine tkA 10 (.pointer (some ⟨gm, k + j, none⟩)) rfl (.inl ⟨by rfl, fun w hc => ?_⟩) (uh HS) ?_
    · clear hc; have hq := uh htn; have hq2 : (k : Int) + (j : Int) < 256 := (by omega); go_simp; intro h; omega
    go_simp
    refine wpAnyH_ready (rs := [11]) (by kernel_rfl) (by simp) ?_
    refine AllReadyH.cons rfl (fun K2 hK => ?_) AllReadyH.nil
    obtain ⟨cm1, cm2⟩ := uh CM
    go_simp
    refine hK.out _ _ ⟨(row_m (uh ND).r9).trans (by rw [uh GM]), uh S2⟩ (fun _ => ?_)
    clear hK K2 cm1 cm2
    refine wpAnyH_done (by kernel_rfl) ?_ _
    go_wp2
    go_roundw
    case rel => exact ⟨j + 1, by omega, by go_num, uh ND⟩
    case measure => simp [intOf]; omega
   ·
    obtain rfl : j = im.n := by omega
    have LI' := uh LI
    have N1 := hide (show Nl w wr y g9 ⟨over z256 k ni, List.replicate 8 0, nn, []⟩ by
     have := uh NR
     rw [List.take_of_length_le (by omega)] at this
     exact this)
    have N2 := hide ((uh N1).setR (uh GR) (uh NE) 6 512 (by simp))
    have N3 := hide ((uh N2).setR (uh GR) (uh NE) 7 st (by simp))
    have hat : y.at gr := .inr (.inl (by rw [uh GR]; rfl))
    have ng := uh NE gr hat
    have ng2 : g9 ≠ gr := fun e => ng e.symm
    obtain ⟨c6, f6⟩ := (uh N1).cellR (uh GR) 6 (by simp)
    obtain ⟨c7, f7⟩ := (uh N1).cellR (uh GR) 7 (by simp)
    have c9 : wr.cell? ⟨g9, 1, none⟩ = some (.slice (some ⟨gr, 0, none⟩) 8 8) := by rw [row_r (uh N1).r9, uh GR]
    clear NR hat LI'
    go_wp2_with (first | (refine wpList_load_row rfl 26 _ rfl g9 rfl 26 y.cs (0, 0) _ (uh N3).r9 Tryz.underlying26 rfl (by kernel_rfl) ?_) | (refine wpList_store_row rfl 26 _ _ rfl w.heap.size y.cs rfl rfl 26 zMv.cs (uh N3).re (by kernel_rfl) rfl (Mv.cs_one _) ?_))
    refine bodyPost_ret (results_cell_row (P := Tryz.prog) rfl _ _ w.heap.size 26 y.cs (0, 0) _ rfl (setRow_heap _ _ _ _ 26 _ (uh N3).re) Tryz.underlying26 rfl (by kernel_rfl)) rfl ?_
    refine ⟨y, rfl, uh FL, ?_, below_setRow (uh N3).low (Nat.le_refl _) _⟩
    rw [show (a / 2).toNat = k by have := uh HK; omega]
    exact (uh N3).own.row (by omega) _
end
end Go.Proofs.YtjpbjbnialehbaaGreatDoor
