/- Contracts over this seat's translation, laid together; conditions stand as hypotheses of each. -/
import Derived.Test.YtkolflcjkofleaaDoorTxA
import Derived.Test.YtkolflcjkofleaaDoorTxB
import Derived.Test.YtkolflcjkofleaaDoorTxC
import Derived.Test.YtkolflcjkofleaaDoorTxE
import Derived.Test.YtkolflcjkofleaaDoorTxG
import Derived.SliceStrings

namespace Go.Proofs.YtkolflcjkofleaaDoor
open Go.ChangeShapes Go.WideShapes Go.ChangeAt Go.RowKit
set_option linter.unusedVariables false
set_option maxRecDepth 8000
set_option linter.unusedSimpArgs false

set_option maxHeartbeats 2000000 in
theorem numN (cb : Nat) (a : Option Addr) (len cap : Nat) (xs : List UInt8) (w : World) (hc : Cur w cb a len cap xs) :
    Calls Tryd.prog 61 #[.pointer (some ⟨cb, 0, none⟩)] w fun e w' => ∃ x : Int, e = .returned (.int .i64 x) ∧ Cur w' cb a len cap xs ∧ w.grownBy w' (some cb) := by
  go_enter Tryd.func61, Tryd.ntmps61
  go_wp2_with fail
  refine (below_any cb a len cap xs 65536 w (by omega) hc).mono ?_
  rintro e w1 ⟨x, hx0, hx1, rfl, hc1, hg1⟩
  obtain ⟨hx2, hx3⟩ := hx0 (by omega)
  have hlt := hc1.lt
  have I1 := hide (int_any cb a len cap xs (some ⟨w1.heap.size, 0, none⟩) 17 17 [0, 1, 2, -1, 7, 8, 255, 256, 32767, 32768, 65535, 65536, -32768, -65537, 9223372036854775807, -9223372036854775808, x] (w1.alloc (.cells ([0, 1, 2, -1, 7, 8, 255, 256, 32767, 32768, 65535, 65536, -32768, -65537, 9223372036854775807, -9223372036854775808, x].map (Value.int .i64)).toArray 3)) (hc1.later ((Below.refl _ _).alloc (Nat.le_refl _) _)) (RdN_lit w1 _) (fun ad e => by cases e; show w1.heap.size ≠ cb; omega) rfl (by omega) (by omega))
  have G1 := hide (grownBy_trans hg1 (World.grownBy_alloc w1 (.cells ([0, 1, 2, -1, 7, 8, 255, 256, 32767, 32768, 65535, 65536, -32768, -65537, 9223372036854775807, -9223372036854775808, x].map (Value.int .i64)).toArray 3) (some cb)))
  clear hc1 hg1 hx0 hx1
  go_wp2_with fail
  refine (unhide I1).mono ?_
  rintro e w2 ⟨j, hj, rfl, hc2, hg2⟩
  generalize nAt [0, 1, 2, -1, 7, 8, 255, 256, 32767, 32768, 65535, 65536, -32768, -65537, 9223372036854775807, -9223372036854775808, x] j = y at *
  have G2 := hide (grownBy_trans (unhide G1) hg2)
  have C2 := hide hc2
  clear hc2 hg2 I1 G1
  go_wp2
  go_ret
  exact ⟨y, rfl, unhide C2, unhide G2⟩
theorem Cur.far {w w' : World} {cb r : Nat} {a : Option Addr} {len cap : Nat} {xs : List UInt8} (h : Cur w cb a len cap xs) (hg : w.grownBy w' (some r)) (hr : r ≠ cb) (hc : xs = [] ∨ ∀ ad, a = some ad → ad.block ≠ r) : Cur w' cb a len cap xs := by
  have hlt := h.lt
  have hb : w'.heap[cb]? = w.heap[cb]? := hg.block cb hlt (fun e => by simp at e; omega)
  have hcell : ∀ o, w'.cell? ⟨cb, o, none⟩ = w.cell? ⟨cb, o, none⟩ := fun o => World.cell?_of_block (w := w) hb
  have hfr : ∀ o, w'.frozen? ⟨cb, o, none⟩ = w.frozen? ⟨cb, o, none⟩ := fun o => World.frozen?_of_block (w := w) hb
  refine ⟨(hcell 0).trans h.c0, ?_, ?_, (hfr 1).trans h.f1, (hfr 2).trans h.f2, ?_, h.ln, h.lm, h.ne⟩
  · obtain ⟨i, hi, c1⟩ := h.c1; exact ⟨i, hi, (hcell 1).trans c1⟩
  · obtain ⟨i, c2⟩ := h.c2; exact ⟨i, (hcell 2).trans c2⟩
  · exact h.rd.past' hg hc
theorem results_row4 {P : Program} {fn : Func} {p r s u : Tmp} {ty : TypeId} (h : fn.results = #[.cell p ty, .tmp r, .tmp s, .tmp u]) (tmps : Array Value) (w : World) (g : Nat) (t : TypeId) (cs : Array Value) (fr : Nat × Nat) (d : TypeDesc)
    (hp : tmps.getD p undef = .pointer (some ⟨g, 0, none⟩)) (hg : w.heap[g]? = some (.cells cs t fr))
    (hu : P.underlying ty = some d) (hd : (match d with | .struct _ | .array _ _ => true | _ => false) = true) (hi : (P.info? ty).map (·.size) = some cs.size) :
    (results fn tmps).run P w = .ok (.tuple #[.agg cs, tmps.getD r undef, tmps.getD s undef, tmps.getD u undef]) w := by
  have hp' : tmps[p]?.getD undef = .pointer (some ⟨g, 0, none⟩) := by simpa using hp
  simp [results, h, hp', asAddr, run_loadVar_row w g t ty cs fr d hg hu hd hi]
theorem RdN.taken {w : World} {a : Option Addr} {L : List Int} (h : RdN w a L) (k : Nat) : RdN w a (L.take k) := by
  rcases h with h | ⟨b, off, ha, hlt, hc⟩
  · exact .inl (by rw [h]; simp)
  · refine .inr ⟨b, off, ha, hlt, fun i hi => ?_⟩
    rw [List.length_take] at hi
    rw [hc i (by omega)]
    congr 2
    unfold nAt
    rw [List.getD_eq_getElem?_getD, List.getD_eq_getElem?_getD, List.getElem?_take_of_lt (by omega)]
/-- A new row of numbers beyond the cursor. -/
def Nr (w : World) (cb n cap : Nat) (v : Value) : Prop := ∃ (g : Nat) (L : List Int), v = .slice (some ⟨g, 0, none⟩) n cap ∧ L.length = n ∧ RdN w (some ⟨g, 0, none⟩) L ∧ cb < g
theorem Nr.go {w w' : World} {cb n cap r : Nat} {v : Value} (h : Nr w cb n cap v) (hg : w.grownBy w' (some r)) (hr : r ≤ cb) : Nr w' cb n cap v := by
  obtain ⟨g, L, h1, h2, h3, h4⟩ := h
  exact ⟨g, L, h1, h2, h3.past hg (fun ad e => by cases e; show g ≠ r; omega), h4⟩
/-- What holds of the region, whatever part of it has come up. -/
structure Wj (w : World) (cb ge : Nat) (a : Option Addr) (len cap : Nat) (xs : List UInt8) (x : Ex) (c : Option Addr) (cp : Nat) (wr : World) (f : Nat → Bool) (v0 v1 v2 v3 v4 v5 v6 v7 v8 v9 v10 v11 v12 v13 v14 v15 v16 v17 v18 v19 v20 v21 v23 v24 v25 : Value) : Prop where
  bel : Below w.heap.size w wr
  cur : Cur wr cb a len cap xs
  lo : w.heap.size < cb
  hi : cb < ge
  box : wr.heap[ge]? = some (.cells #[.int .i64 x.k, .int .i64 x.n, .string x.s, .slice c x.l.length cp] 26 (0, 0))
  new : RdX wr (cb + 1) x c
  r0 : f 22 = false → wr.heap[w.heap.size]? = some (.cells #[.int .i64 0, .int .i64 0, .string ⟨#[]⟩, .slice none 0 0] 26 (0, 0))
  r1 : f 22 = true → wr.heap[w.heap.size]? = some (.cells #[.int .i64 x.k, .int .i64 x.n, .string x.s, .slice c x.l.length cp] 26 (0, 0))
  h0 : f 0 = true → v0 = .agg #[.int .i64 x.k, .int .i64 x.n, .string x.s, .slice c x.l.length cp]
  h1 : f 1 = true → v1 = .pointer (some ⟨cb, 0, none⟩)
  h2 : f 2 = true → ∃ n : Int, v2 = .int .i64 n
  h3 : f 3 = true → v3 = .pointer (some ⟨cb, 0, none⟩)
  h4 : f 4 = true → ∃ n : Int, v4 = .int .i64 n
  h5 : f 5 = true → v5 = .pointer (some ⟨cb, 0, none⟩)
  h6 : f 6 = true → ∃ n : Int, v6 = .int .i64 n
  h7 : f 7 = true → Nr wr cb 3 3 v7
  h8 : f 8 = true → v8 = .pointer (some ⟨cb, 0, none⟩)
  h9 : f 9 = true → ∃ g : Nat, v9 = .slice (some ⟨g, 0, none⟩) 4 4 ∧ RdN wr (some ⟨g, 0, none⟩) [3, 3, 3, 1] ∧ cb < g
  h10 : f 10 = true → ∃ k : Nat, v10 = .int .i64 (k : Int) ∧ 0 < k ∧ k ≤ 3
  h11 : f 11 = true → ∃ k : Nat, (0 < k ∧ k ≤ 3) ∧ Nr wr cb k 3 v11
  h12 : f 12 = true → ∃ g : Nat, v12 = .slice (some ⟨g, 0, none⟩) 2 2 ∧ wr.heap[g]? = some (.cells #[.string ⟨#[103]⟩, .string ⟨#[104]⟩] 9 (0, 0)) ∧ cb < g
  h13 : f 13 = true → v13 = .pointer (some ⟨cb, 0, none⟩)
  h14 : f 14 = true → ∃ n : Int, v14 = .int .i64 n
  h15 : f 15 = true → v15 = .pointer (some ⟨cb, 0, none⟩)
  h16 : f 16 = true → ∃ n : Int, v16 = .int .i64 n
  h17 : f 17 = true → Nr wr cb 2 2 v17
  h18 : f 18 = true → v18 = .pointer (some ⟨cb, 0, none⟩)
  h19 : f 19 = true → ∃ g : Nat, v19 = .slice (some ⟨g, 0, none⟩) 4 4 ∧ RdN wr (some ⟨g, 0, none⟩) [2, 2, 2, 1] ∧ cb < g
  h20 : f 20 = true → ∃ k : Nat, v20 = .int .i64 (k : Int) ∧ 0 < k ∧ k ≤ 2
  h21 : f 21 = true → ∃ k : Nat, (0 < k ∧ k ≤ 2) ∧ Nr wr cb k 2 v21
  h23 : f 23 = true → ∃ k : Nat, (0 < k ∧ k ≤ 3) ∧ Nr wr cb k 3 v23
  h24 : f 24 = true → ∃ g : Nat, v24 = .slice (some ⟨g, 0, none⟩) 2 2 ∧ wr.heap[g]? = some (.cells #[.string ⟨#[103]⟩, .string ⟨#[104]⟩] 9 (0, 0)) ∧ cb < g
  h25 : f 25 = true → ∃ k : Nat, (0 < k ∧ k ≤ 2) ∧ Nr wr cb k 2 v25
theorem Wj.go {w : World} {cb ge : Nat} {a : Option Addr} {len cap : Nat} {xs : List UInt8} {x : Ex} {c : Option Addr} {cp : Nat} {wr w2 : World} {f : Nat → Bool} {v0 v1 v2 v3 v4 v5 v6 v7 v8 v9 v10 v11 v12 v13 v14 v15 v16 v17 v18 v19 v20 v21 v23 v24 v25 : Value} (J : Wj w cb ge a len cap xs x c cp wr f v0 v1 v2 v3 v4 v5 v6 v7 v8 v9 v10 v11 v12 v13 v14 v15 v16 v17 v18 v19 v20 v21 v23 v24 v25) (hc : Cur w2 cb a len cap xs) (hg : wr.grownBy w2 (some cb)) : Wj w cb ge a len cap xs x c cp w2 f v0 v1 v2 v3 v4 v5 v6 v7 v8 v9 v10 v11 v12 v13 v14 v15 v16 v17 v18 v19 v20 v21 v23 v24 v25 :=
  ⟨J.bel.grown hg J.bel.size (fun k e => by cases e; have := J.lo; omega), hc, J.lo, J.hi, (hg.block _ (Array.getElem?_eq_some_iff.1 J.box).1 (fun e => by simp at e; have := J.hi; omega)).trans J.box, rd_drawn J.new hg (Nat.lt_succ_self _),
    (fun h => (hg.block _ (Array.getElem?_eq_some_iff.1 (J.r0 h)).1 (fun e => by simp at e; have := J.lo; omega)).trans (J.r0 h)), (fun h => (hg.block _ (Array.getElem?_eq_some_iff.1 (J.r1 h)).1 (fun e => by simp at e; have := J.lo; omega)).trans (J.r1 h)),
    J.h0, J.h1, J.h2, J.h3, J.h4, J.h5, J.h6, (fun h => (J.h7 h).go hg (Nat.le_refl _)), J.h8, (fun h => by obtain ⟨g, e1, e2, e3⟩ := J.h9 h; exact ⟨g, e1, e2.past hg (fun ad e => by cases e; show g ≠ _; have := J.lo; omega), e3⟩), J.h10, (fun h => by obtain ⟨k, e1, e2⟩ := J.h11 h; exact ⟨k, e1, e2.go hg (Nat.le_refl _)⟩), (fun h => by obtain ⟨g, e1, e2, e3⟩ := J.h12 h; exact ⟨g, e1, (hg.block _ (Array.getElem?_eq_some_iff.1 e2).1 (fun e => by simp at e; have := J.lo; omega)).trans e2, e3⟩), J.h13, J.h14, J.h15, J.h16, (fun h => (J.h17 h).go hg (Nat.le_refl _)), J.h18, (fun h => by obtain ⟨g, e1, e2, e3⟩ := J.h19 h; exact ⟨g, e1, e2.past hg (fun ad e => by cases e; show g ≠ _; have := J.lo; omega), e3⟩), J.h20, (fun h => by obtain ⟨k, e1, e2⟩ := J.h21 h; exact ⟨k, e1, e2.go hg (Nat.le_refl _)⟩), (fun h => by obtain ⟨k, e1, e2⟩ := J.h23 h; exact ⟨k, e1, e2.go hg (Nat.le_refl _)⟩), (fun h => by obtain ⟨g, e1, e2, e3⟩ := J.h24 h; exact ⟨g, e1, (hg.block _ (Array.getElem?_eq_some_iff.1 e2).1 (fun e => by simp at e; have := J.lo; omega)).trans e2, e3⟩), (fun h => by obtain ⟨k, e1, e2⟩ := J.h25 h; exact ⟨k, e1, e2.go hg (Nat.le_refl _)⟩)⟩
theorem Wj.later {w : World} {cb ge : Nat} {a : Option Addr} {len cap : Nat} {xs : List UInt8} {x : Ex} {c : Option Addr} {cp : Nat} {wr w2 : World} {f : Nat → Bool} {v0 v1 v2 v3 v4 v5 v6 v7 v8 v9 v10 v11 v12 v13 v14 v15 v16 v17 v18 v19 v20 v21 v23 v24 v25 : Value} (J : Wj w cb ge a len cap xs x c cp wr f v0 v1 v2 v3 v4 v5 v6 v7 v8 v9 v10 v11 v12 v13 v14 v15 v16 v17 v18 v19 v20 v21 v23 v24 v25) (hb : Below wr.heap.size wr w2) : Wj w cb ge a len cap xs x c cp w2 f v0 v1 v2 v3 v4 v5 v6 v7 v8 v9 v10 v11 v12 v13 v14 v15 v16 v17 v18 v19 v20 v21 v23 v24 v25 := J.go (J.cur.later hb) (grownBy_below hb)
theorem Wj.p0 {w : World} {cb ge : Nat} {a : Option Addr} {len cap : Nat} {xs : List UInt8} {x : Ex} {c : Option Addr} {cp : Nat} {wr : World} {f : Nat → Bool} {v0 v1 v2 v3 v4 v5 v6 v7 v8 v9 v10 v11 v12 v13 v14 v15 v16 v17 v18 v19 v20 v21 v23 v24 v25 : Value} (J : Wj w cb ge a len cap xs x c cp wr f v0 v1 v2 v3 v4 v5 v6 v7 v8 v9 v10 v11 v12 v13 v14 v15 v16 v17 v18 v19 v20 v21 v23 v24 v25) {u : Value} (hu : u = .agg #[.int .i64 x.k, .int .i64 x.n, .string x.s, .slice c x.l.length cp]) : Wj w cb ge a len cap xs x c cp wr (fun j => if j = 0 then true else f j) u v1 v2 v3 v4 v5 v6 v7 v8 v9 v10 v11 v12 v13 v14 v15 v16 v17 v18 v19 v20 v21 v23 v24 v25 :=
  ⟨J.bel, J.cur, J.lo, J.hi, J.box, J.new, J.r0, J.r1, (fun _ => hu), J.h1, J.h2, J.h3, J.h4, J.h5, J.h6, J.h7, J.h8, J.h9, J.h10, J.h11, J.h12, J.h13, J.h14, J.h15, J.h16, J.h17, J.h18, J.h19, J.h20, J.h21, J.h23, J.h24, J.h25⟩
theorem Wj.p1 {w : World} {cb ge : Nat} {a : Option Addr} {len cap : Nat} {xs : List UInt8} {x : Ex} {c : Option Addr} {cp : Nat} {wr : World} {f : Nat → Bool} {v0 v1 v2 v3 v4 v5 v6 v7 v8 v9 v10 v11 v12 v13 v14 v15 v16 v17 v18 v19 v20 v21 v23 v24 v25 : Value} (J : Wj w cb ge a len cap xs x c cp wr f v0 v1 v2 v3 v4 v5 v6 v7 v8 v9 v10 v11 v12 v13 v14 v15 v16 v17 v18 v19 v20 v21 v23 v24 v25) {u : Value} (hu : u = .pointer (some ⟨cb, 0, none⟩)) : Wj w cb ge a len cap xs x c cp wr (fun j => if j = 1 then true else f j) v0 u v2 v3 v4 v5 v6 v7 v8 v9 v10 v11 v12 v13 v14 v15 v16 v17 v18 v19 v20 v21 v23 v24 v25 :=
  ⟨J.bel, J.cur, J.lo, J.hi, J.box, J.new, J.r0, J.r1, J.h0, (fun _ => hu), J.h2, J.h3, J.h4, J.h5, J.h6, J.h7, J.h8, J.h9, J.h10, J.h11, J.h12, J.h13, J.h14, J.h15, J.h16, J.h17, J.h18, J.h19, J.h20, J.h21, J.h23, J.h24, J.h25⟩
theorem Wj.p2 {w : World} {cb ge : Nat} {a : Option Addr} {len cap : Nat} {xs : List UInt8} {x : Ex} {c : Option Addr} {cp : Nat} {wr : World} {f : Nat → Bool} {v0 v1 v2 v3 v4 v5 v6 v7 v8 v9 v10 v11 v12 v13 v14 v15 v16 v17 v18 v19 v20 v21 v23 v24 v25 : Value} (J : Wj w cb ge a len cap xs x c cp wr f v0 v1 v2 v3 v4 v5 v6 v7 v8 v9 v10 v11 v12 v13 v14 v15 v16 v17 v18 v19 v20 v21 v23 v24 v25) {u : Value} (hu : ∃ n : Int, u = .int .i64 n) : Wj w cb ge a len cap xs x c cp wr (fun j => if j = 2 then true else f j) v0 v1 u v3 v4 v5 v6 v7 v8 v9 v10 v11 v12 v13 v14 v15 v16 v17 v18 v19 v20 v21 v23 v24 v25 :=
  ⟨J.bel, J.cur, J.lo, J.hi, J.box, J.new, J.r0, J.r1, J.h0, J.h1, (fun _ => hu), J.h3, J.h4, J.h5, J.h6, J.h7, J.h8, J.h9, J.h10, J.h11, J.h12, J.h13, J.h14, J.h15, J.h16, J.h17, J.h18, J.h19, J.h20, J.h21, J.h23, J.h24, J.h25⟩
theorem Wj.p3 {w : World} {cb ge : Nat} {a : Option Addr} {len cap : Nat} {xs : List UInt8} {x : Ex} {c : Option Addr} {cp : Nat} {wr : World} {f : Nat → Bool} {v0 v1 v2 v3 v4 v5 v6 v7 v8 v9 v10 v11 v12 v13 v14 v15 v16 v17 v18 v19 v20 v21 v23 v24 v25 : Value} (J : Wj w cb ge a len cap xs x c cp wr f v0 v1 v2 v3 v4 v5 v6 v7 v8 v9 v10 v11 v12 v13 v14 v15 v16 v17 v18 v19 v20 v21 v23 v24 v25) {u : Value} (hu : u = .pointer (some ⟨cb, 0, none⟩)) : Wj w cb ge a len cap xs x c cp wr (fun j => if j = 3 then true else f j) v0 v1 v2 u v4 v5 v6 v7 v8 v9 v10 v11 v12 v13 v14 v15 v16 v17 v18 v19 v20 v21 v23 v24 v25 :=
  ⟨J.bel, J.cur, J.lo, J.hi, J.box, J.new, J.r0, J.r1, J.h0, J.h1, J.h2, (fun _ => hu), J.h4, J.h5, J.h6, J.h7, J.h8, J.h9, J.h10, J.h11, J.h12, J.h13, J.h14, J.h15, J.h16, J.h17, J.h18, J.h19, J.h20, J.h21, J.h23, J.h24, J.h25⟩
theorem Wj.p4 {w : World} {cb ge : Nat} {a : Option Addr} {len cap : Nat} {xs : List UInt8} {x : Ex} {c : Option Addr} {cp : Nat} {wr : World} {f : Nat → Bool} {v0 v1 v2 v3 v4 v5 v6 v7 v8 v9 v10 v11 v12 v13 v14 v15 v16 v17 v18 v19 v20 v21 v23 v24 v25 : Value} (J : Wj w cb ge a len cap xs x c cp wr f v0 v1 v2 v3 v4 v5 v6 v7 v8 v9 v10 v11 v12 v13 v14 v15 v16 v17 v18 v19 v20 v21 v23 v24 v25) {u : Value} (hu : ∃ n : Int, u = .int .i64 n) : Wj w cb ge a len cap xs x c cp wr (fun j => if j = 4 then true else f j) v0 v1 v2 v3 u v5 v6 v7 v8 v9 v10 v11 v12 v13 v14 v15 v16 v17 v18 v19 v20 v21 v23 v24 v25 :=
  ⟨J.bel, J.cur, J.lo, J.hi, J.box, J.new, J.r0, J.r1, J.h0, J.h1, J.h2, J.h3, (fun _ => hu), J.h5, J.h6, J.h7, J.h8, J.h9, J.h10, J.h11, J.h12, J.h13, J.h14, J.h15, J.h16, J.h17, J.h18, J.h19, J.h20, J.h21, J.h23, J.h24, J.h25⟩
theorem Wj.p5 {w : World} {cb ge : Nat} {a : Option Addr} {len cap : Nat} {xs : List UInt8} {x : Ex} {c : Option Addr} {cp : Nat} {wr : World} {f : Nat → Bool} {v0 v1 v2 v3 v4 v5 v6 v7 v8 v9 v10 v11 v12 v13 v14 v15 v16 v17 v18 v19 v20 v21 v23 v24 v25 : Value} (J : Wj w cb ge a len cap xs x c cp wr f v0 v1 v2 v3 v4 v5 v6 v7 v8 v9 v10 v11 v12 v13 v14 v15 v16 v17 v18 v19 v20 v21 v23 v24 v25) {u : Value} (hu : u = .pointer (some ⟨cb, 0, none⟩)) : Wj w cb ge a len cap xs x c cp wr (fun j => if j = 5 then true else f j) v0 v1 v2 v3 v4 u v6 v7 v8 v9 v10 v11 v12 v13 v14 v15 v16 v17 v18 v19 v20 v21 v23 v24 v25 :=
  ⟨J.bel, J.cur, J.lo, J.hi, J.box, J.new, J.r0, J.r1, J.h0, J.h1, J.h2, J.h3, J.h4, (fun _ => hu), J.h6, J.h7, J.h8, J.h9, J.h10, J.h11, J.h12, J.h13, J.h14, J.h15, J.h16, J.h17, J.h18, J.h19, J.h20, J.h21, J.h23, J.h24, J.h25⟩
theorem Wj.p6 {w : World} {cb ge : Nat} {a : Option Addr} {len cap : Nat} {xs : List UInt8} {x : Ex} {c : Option Addr} {cp : Nat} {wr : World} {f : Nat → Bool} {v0 v1 v2 v3 v4 v5 v6 v7 v8 v9 v10 v11 v12 v13 v14 v15 v16 v17 v18 v19 v20 v21 v23 v24 v25 : Value} (J : Wj w cb ge a len cap xs x c cp wr f v0 v1 v2 v3 v4 v5 v6 v7 v8 v9 v10 v11 v12 v13 v14 v15 v16 v17 v18 v19 v20 v21 v23 v24 v25) {u : Value} (hu : ∃ n : Int, u = .int .i64 n) : Wj w cb ge a len cap xs x c cp wr (fun j => if j = 6 then true else f j) v0 v1 v2 v3 v4 v5 u v7 v8 v9 v10 v11 v12 v13 v14 v15 v16 v17 v18 v19 v20 v21 v23 v24 v25 :=
  ⟨J.bel, J.cur, J.lo, J.hi, J.box, J.new, J.r0, J.r1, J.h0, J.h1, J.h2, J.h3, J.h4, J.h5, (fun _ => hu), J.h7, J.h8, J.h9, J.h10, J.h11, J.h12, J.h13, J.h14, J.h15, J.h16, J.h17, J.h18, J.h19, J.h20, J.h21, J.h23, J.h24, J.h25⟩
theorem Wj.p7 {w : World} {cb ge : Nat} {a : Option Addr} {len cap : Nat} {xs : List UInt8} {x : Ex} {c : Option Addr} {cp : Nat} {wr : World} {f : Nat → Bool} {v0 v1 v2 v3 v4 v5 v6 v7 v8 v9 v10 v11 v12 v13 v14 v15 v16 v17 v18 v19 v20 v21 v23 v24 v25 : Value} (J : Wj w cb ge a len cap xs x c cp wr f v0 v1 v2 v3 v4 v5 v6 v7 v8 v9 v10 v11 v12 v13 v14 v15 v16 v17 v18 v19 v20 v21 v23 v24 v25) {u : Value} (hu : Nr wr cb 3 3 u) : Wj w cb ge a len cap xs x c cp wr (fun j => if j = 7 then true else f j) v0 v1 v2 v3 v4 v5 v6 u v8 v9 v10 v11 v12 v13 v14 v15 v16 v17 v18 v19 v20 v21 v23 v24 v25 :=
  ⟨J.bel, J.cur, J.lo, J.hi, J.box, J.new, J.r0, J.r1, J.h0, J.h1, J.h2, J.h3, J.h4, J.h5, J.h6, (fun _ => hu), J.h8, J.h9, J.h10, J.h11, J.h12, J.h13, J.h14, J.h15, J.h16, J.h17, J.h18, J.h19, J.h20, J.h21, J.h23, J.h24, J.h25⟩
theorem Wj.p8 {w : World} {cb ge : Nat} {a : Option Addr} {len cap : Nat} {xs : List UInt8} {x : Ex} {c : Option Addr} {cp : Nat} {wr : World} {f : Nat → Bool} {v0 v1 v2 v3 v4 v5 v6 v7 v8 v9 v10 v11 v12 v13 v14 v15 v16 v17 v18 v19 v20 v21 v23 v24 v25 : Value} (J : Wj w cb ge a len cap xs x c cp wr f v0 v1 v2 v3 v4 v5 v6 v7 v8 v9 v10 v11 v12 v13 v14 v15 v16 v17 v18 v19 v20 v21 v23 v24 v25) {u : Value} (hu : u = .pointer (some ⟨cb, 0, none⟩)) : Wj w cb ge a len cap xs x c cp wr (fun j => if j = 8 then true else f j) v0 v1 v2 v3 v4 v5 v6 v7 u v9 v10 v11 v12 v13 v14 v15 v16 v17 v18 v19 v20 v21 v23 v24 v25 :=
  ⟨J.bel, J.cur, J.lo, J.hi, J.box, J.new, J.r0, J.r1, J.h0, J.h1, J.h2, J.h3, J.h4, J.h5, J.h6, J.h7, (fun _ => hu), J.h9, J.h10, J.h11, J.h12, J.h13, J.h14, J.h15, J.h16, J.h17, J.h18, J.h19, J.h20, J.h21, J.h23, J.h24, J.h25⟩
theorem Wj.p9 {w : World} {cb ge : Nat} {a : Option Addr} {len cap : Nat} {xs : List UInt8} {x : Ex} {c : Option Addr} {cp : Nat} {wr : World} {f : Nat → Bool} {v0 v1 v2 v3 v4 v5 v6 v7 v8 v9 v10 v11 v12 v13 v14 v15 v16 v17 v18 v19 v20 v21 v23 v24 v25 : Value} (J : Wj w cb ge a len cap xs x c cp wr f v0 v1 v2 v3 v4 v5 v6 v7 v8 v9 v10 v11 v12 v13 v14 v15 v16 v17 v18 v19 v20 v21 v23 v24 v25) {u : Value} (hu : ∃ g : Nat, u = .slice (some ⟨g, 0, none⟩) 4 4 ∧ RdN wr (some ⟨g, 0, none⟩) [3, 3, 3, 1] ∧ cb < g) : Wj w cb ge a len cap xs x c cp wr (fun j => if j = 9 then true else f j) v0 v1 v2 v3 v4 v5 v6 v7 v8 u v10 v11 v12 v13 v14 v15 v16 v17 v18 v19 v20 v21 v23 v24 v25 :=
  ⟨J.bel, J.cur, J.lo, J.hi, J.box, J.new, J.r0, J.r1, J.h0, J.h1, J.h2, J.h3, J.h4, J.h5, J.h6, J.h7, J.h8, (fun _ => hu), J.h10, J.h11, J.h12, J.h13, J.h14, J.h15, J.h16, J.h17, J.h18, J.h19, J.h20, J.h21, J.h23, J.h24, J.h25⟩
theorem Wj.p10 {w : World} {cb ge : Nat} {a : Option Addr} {len cap : Nat} {xs : List UInt8} {x : Ex} {c : Option Addr} {cp : Nat} {wr : World} {f : Nat → Bool} {v0 v1 v2 v3 v4 v5 v6 v7 v8 v9 v10 v11 v12 v13 v14 v15 v16 v17 v18 v19 v20 v21 v23 v24 v25 : Value} (J : Wj w cb ge a len cap xs x c cp wr f v0 v1 v2 v3 v4 v5 v6 v7 v8 v9 v10 v11 v12 v13 v14 v15 v16 v17 v18 v19 v20 v21 v23 v24 v25) {u : Value} (hu : ∃ k : Nat, u = .int .i64 (k : Int) ∧ 0 < k ∧ k ≤ 3) : Wj w cb ge a len cap xs x c cp wr (fun j => if j = 10 then true else f j) v0 v1 v2 v3 v4 v5 v6 v7 v8 v9 u v11 v12 v13 v14 v15 v16 v17 v18 v19 v20 v21 v23 v24 v25 :=
  ⟨J.bel, J.cur, J.lo, J.hi, J.box, J.new, J.r0, J.r1, J.h0, J.h1, J.h2, J.h3, J.h4, J.h5, J.h6, J.h7, J.h8, J.h9, (fun _ => hu), J.h11, J.h12, J.h13, J.h14, J.h15, J.h16, J.h17, J.h18, J.h19, J.h20, J.h21, J.h23, J.h24, J.h25⟩
theorem Wj.p11 {w : World} {cb ge : Nat} {a : Option Addr} {len cap : Nat} {xs : List UInt8} {x : Ex} {c : Option Addr} {cp : Nat} {wr : World} {f : Nat → Bool} {v0 v1 v2 v3 v4 v5 v6 v7 v8 v9 v10 v11 v12 v13 v14 v15 v16 v17 v18 v19 v20 v21 v23 v24 v25 : Value} (J : Wj w cb ge a len cap xs x c cp wr f v0 v1 v2 v3 v4 v5 v6 v7 v8 v9 v10 v11 v12 v13 v14 v15 v16 v17 v18 v19 v20 v21 v23 v24 v25) {u : Value} (hu : ∃ k : Nat, (0 < k ∧ k ≤ 3) ∧ Nr wr cb k 3 u) : Wj w cb ge a len cap xs x c cp wr (fun j => if j = 11 then true else f j) v0 v1 v2 v3 v4 v5 v6 v7 v8 v9 v10 u v12 v13 v14 v15 v16 v17 v18 v19 v20 v21 v23 v24 v25 :=
  ⟨J.bel, J.cur, J.lo, J.hi, J.box, J.new, J.r0, J.r1, J.h0, J.h1, J.h2, J.h3, J.h4, J.h5, J.h6, J.h7, J.h8, J.h9, J.h10, (fun _ => hu), J.h12, J.h13, J.h14, J.h15, J.h16, J.h17, J.h18, J.h19, J.h20, J.h21, J.h23, J.h24, J.h25⟩
theorem Wj.p12 {w : World} {cb ge : Nat} {a : Option Addr} {len cap : Nat} {xs : List UInt8} {x : Ex} {c : Option Addr} {cp : Nat} {wr : World} {f : Nat → Bool} {v0 v1 v2 v3 v4 v5 v6 v7 v8 v9 v10 v11 v12 v13 v14 v15 v16 v17 v18 v19 v20 v21 v23 v24 v25 : Value} (J : Wj w cb ge a len cap xs x c cp wr f v0 v1 v2 v3 v4 v5 v6 v7 v8 v9 v10 v11 v12 v13 v14 v15 v16 v17 v18 v19 v20 v21 v23 v24 v25) {u : Value} (hu : ∃ g : Nat, u = .slice (some ⟨g, 0, none⟩) 2 2 ∧ wr.heap[g]? = some (.cells #[.string ⟨#[103]⟩, .string ⟨#[104]⟩] 9 (0, 0)) ∧ cb < g) : Wj w cb ge a len cap xs x c cp wr (fun j => if j = 12 then true else f j) v0 v1 v2 v3 v4 v5 v6 v7 v8 v9 v10 v11 u v13 v14 v15 v16 v17 v18 v19 v20 v21 v23 v24 v25 :=
  ⟨J.bel, J.cur, J.lo, J.hi, J.box, J.new, J.r0, J.r1, J.h0, J.h1, J.h2, J.h3, J.h4, J.h5, J.h6, J.h7, J.h8, J.h9, J.h10, J.h11, (fun _ => hu), J.h13, J.h14, J.h15, J.h16, J.h17, J.h18, J.h19, J.h20, J.h21, J.h23, J.h24, J.h25⟩
theorem Wj.p13 {w : World} {cb ge : Nat} {a : Option Addr} {len cap : Nat} {xs : List UInt8} {x : Ex} {c : Option Addr} {cp : Nat} {wr : World} {f : Nat → Bool} {v0 v1 v2 v3 v4 v5 v6 v7 v8 v9 v10 v11 v12 v13 v14 v15 v16 v17 v18 v19 v20 v21 v23 v24 v25 : Value} (J : Wj w cb ge a len cap xs x c cp wr f v0 v1 v2 v3 v4 v5 v6 v7 v8 v9 v10 v11 v12 v13 v14 v15 v16 v17 v18 v19 v20 v21 v23 v24 v25) {u : Value} (hu : u = .pointer (some ⟨cb, 0, none⟩)) : Wj w cb ge a len cap xs x c cp wr (fun j => if j = 13 then true else f j) v0 v1 v2 v3 v4 v5 v6 v7 v8 v9 v10 v11 v12 u v14 v15 v16 v17 v18 v19 v20 v21 v23 v24 v25 :=
  ⟨J.bel, J.cur, J.lo, J.hi, J.box, J.new, J.r0, J.r1, J.h0, J.h1, J.h2, J.h3, J.h4, J.h5, J.h6, J.h7, J.h8, J.h9, J.h10, J.h11, J.h12, (fun _ => hu), J.h14, J.h15, J.h16, J.h17, J.h18, J.h19, J.h20, J.h21, J.h23, J.h24, J.h25⟩
theorem Wj.p14 {w : World} {cb ge : Nat} {a : Option Addr} {len cap : Nat} {xs : List UInt8} {x : Ex} {c : Option Addr} {cp : Nat} {wr : World} {f : Nat → Bool} {v0 v1 v2 v3 v4 v5 v6 v7 v8 v9 v10 v11 v12 v13 v14 v15 v16 v17 v18 v19 v20 v21 v23 v24 v25 : Value} (J : Wj w cb ge a len cap xs x c cp wr f v0 v1 v2 v3 v4 v5 v6 v7 v8 v9 v10 v11 v12 v13 v14 v15 v16 v17 v18 v19 v20 v21 v23 v24 v25) {u : Value} (hu : ∃ n : Int, u = .int .i64 n) : Wj w cb ge a len cap xs x c cp wr (fun j => if j = 14 then true else f j) v0 v1 v2 v3 v4 v5 v6 v7 v8 v9 v10 v11 v12 v13 u v15 v16 v17 v18 v19 v20 v21 v23 v24 v25 :=
  ⟨J.bel, J.cur, J.lo, J.hi, J.box, J.new, J.r0, J.r1, J.h0, J.h1, J.h2, J.h3, J.h4, J.h5, J.h6, J.h7, J.h8, J.h9, J.h10, J.h11, J.h12, J.h13, (fun _ => hu), J.h15, J.h16, J.h17, J.h18, J.h19, J.h20, J.h21, J.h23, J.h24, J.h25⟩
theorem Wj.p15 {w : World} {cb ge : Nat} {a : Option Addr} {len cap : Nat} {xs : List UInt8} {x : Ex} {c : Option Addr} {cp : Nat} {wr : World} {f : Nat → Bool} {v0 v1 v2 v3 v4 v5 v6 v7 v8 v9 v10 v11 v12 v13 v14 v15 v16 v17 v18 v19 v20 v21 v23 v24 v25 : Value} (J : Wj w cb ge a len cap xs x c cp wr f v0 v1 v2 v3 v4 v5 v6 v7 v8 v9 v10 v11 v12 v13 v14 v15 v16 v17 v18 v19 v20 v21 v23 v24 v25) {u : Value} (hu : u = .pointer (some ⟨cb, 0, none⟩)) : Wj w cb ge a len cap xs x c cp wr (fun j => if j = 15 then true else f j) v0 v1 v2 v3 v4 v5 v6 v7 v8 v9 v10 v11 v12 v13 v14 u v16 v17 v18 v19 v20 v21 v23 v24 v25 :=
  ⟨J.bel, J.cur, J.lo, J.hi, J.box, J.new, J.r0, J.r1, J.h0, J.h1, J.h2, J.h3, J.h4, J.h5, J.h6, J.h7, J.h8, J.h9, J.h10, J.h11, J.h12, J.h13, J.h14, (fun _ => hu), J.h16, J.h17, J.h18, J.h19, J.h20, J.h21, J.h23, J.h24, J.h25⟩
theorem Wj.p16 {w : World} {cb ge : Nat} {a : Option Addr} {len cap : Nat} {xs : List UInt8} {x : Ex} {c : Option Addr} {cp : Nat} {wr : World} {f : Nat → Bool} {v0 v1 v2 v3 v4 v5 v6 v7 v8 v9 v10 v11 v12 v13 v14 v15 v16 v17 v18 v19 v20 v21 v23 v24 v25 : Value} (J : Wj w cb ge a len cap xs x c cp wr f v0 v1 v2 v3 v4 v5 v6 v7 v8 v9 v10 v11 v12 v13 v14 v15 v16 v17 v18 v19 v20 v21 v23 v24 v25) {u : Value} (hu : ∃ n : Int, u = .int .i64 n) : Wj w cb ge a len cap xs x c cp wr (fun j => if j = 16 then true else f j) v0 v1 v2 v3 v4 v5 v6 v7 v8 v9 v10 v11 v12 v13 v14 v15 u v17 v18 v19 v20 v21 v23 v24 v25 :=
  ⟨J.bel, J.cur, J.lo, J.hi, J.box, J.new, J.r0, J.r1, J.h0, J.h1, J.h2, J.h3, J.h4, J.h5, J.h6, J.h7, J.h8, J.h9, J.h10, J.h11, J.h12, J.h13, J.h14, J.h15, (fun _ => hu), J.h17, J.h18, J.h19, J.h20, J.h21, J.h23, J.h24, J.h25⟩
theorem Wj.p17 {w : World} {cb ge : Nat} {a : Option Addr} {len cap : Nat} {xs : List UInt8} {x : Ex} {c : Option Addr} {cp : Nat} {wr : World} {f : Nat → Bool} {v0 v1 v2 v3 v4 v5 v6 v7 v8 v9 v10 v11 v12 v13 v14 v15 v16 v17 v18 v19 v20 v21 v23 v24 v25 : Value} (J : Wj w cb ge a len cap xs x c cp wr f v0 v1 v2 v3 v4 v5 v6 v7 v8 v9 v10 v11 v12 v13 v14 v15 v16 v17 v18 v19 v20 v21 v23 v24 v25) {u : Value} (hu : Nr wr cb 2 2 u) : Wj w cb ge a len cap xs x c cp wr (fun j => if j = 17 then true else f j) v0 v1 v2 v3 v4 v5 v6 v7 v8 v9 v10 v11 v12 v13 v14 v15 v16 u v18 v19 v20 v21 v23 v24 v25 :=
  ⟨J.bel, J.cur, J.lo, J.hi, J.box, J.new, J.r0, J.r1, J.h0, J.h1, J.h2, J.h3, J.h4, J.h5, J.h6, J.h7, J.h8, J.h9, J.h10, J.h11, J.h12, J.h13, J.h14, J.h15, J.h16, (fun _ => hu), J.h18, J.h19, J.h20, J.h21, J.h23, J.h24, J.h25⟩
theorem Wj.p18 {w : World} {cb ge : Nat} {a : Option Addr} {len cap : Nat} {xs : List UInt8} {x : Ex} {c : Option Addr} {cp : Nat} {wr : World} {f : Nat → Bool} {v0 v1 v2 v3 v4 v5 v6 v7 v8 v9 v10 v11 v12 v13 v14 v15 v16 v17 v18 v19 v20 v21 v23 v24 v25 : Value} (J : Wj w cb ge a len cap xs x c cp wr f v0 v1 v2 v3 v4 v5 v6 v7 v8 v9 v10 v11 v12 v13 v14 v15 v16 v17 v18 v19 v20 v21 v23 v24 v25) {u : Value} (hu : u = .pointer (some ⟨cb, 0, none⟩)) : Wj w cb ge a len cap xs x c cp wr (fun j => if j = 18 then true else f j) v0 v1 v2 v3 v4 v5 v6 v7 v8 v9 v10 v11 v12 v13 v14 v15 v16 v17 u v19 v20 v21 v23 v24 v25 :=
  ⟨J.bel, J.cur, J.lo, J.hi, J.box, J.new, J.r0, J.r1, J.h0, J.h1, J.h2, J.h3, J.h4, J.h5, J.h6, J.h7, J.h8, J.h9, J.h10, J.h11, J.h12, J.h13, J.h14, J.h15, J.h16, J.h17, (fun _ => hu), J.h19, J.h20, J.h21, J.h23, J.h24, J.h25⟩
theorem Wj.p19 {w : World} {cb ge : Nat} {a : Option Addr} {len cap : Nat} {xs : List UInt8} {x : Ex} {c : Option Addr} {cp : Nat} {wr : World} {f : Nat → Bool} {v0 v1 v2 v3 v4 v5 v6 v7 v8 v9 v10 v11 v12 v13 v14 v15 v16 v17 v18 v19 v20 v21 v23 v24 v25 : Value} (J : Wj w cb ge a len cap xs x c cp wr f v0 v1 v2 v3 v4 v5 v6 v7 v8 v9 v10 v11 v12 v13 v14 v15 v16 v17 v18 v19 v20 v21 v23 v24 v25) {u : Value} (hu : ∃ g : Nat, u = .slice (some ⟨g, 0, none⟩) 4 4 ∧ RdN wr (some ⟨g, 0, none⟩) [2, 2, 2, 1] ∧ cb < g) : Wj w cb ge a len cap xs x c cp wr (fun j => if j = 19 then true else f j) v0 v1 v2 v3 v4 v5 v6 v7 v8 v9 v10 v11 v12 v13 v14 v15 v16 v17 v18 u v20 v21 v23 v24 v25 :=
  ⟨J.bel, J.cur, J.lo, J.hi, J.box, J.new, J.r0, J.r1, J.h0, J.h1, J.h2, J.h3, J.h4, J.h5, J.h6, J.h7, J.h8, J.h9, J.h10, J.h11, J.h12, J.h13, J.h14, J.h15, J.h16, J.h17, J.h18, (fun _ => hu), J.h20, J.h21, J.h23, J.h24, J.h25⟩
theorem Wj.p20 {w : World} {cb ge : Nat} {a : Option Addr} {len cap : Nat} {xs : List UInt8} {x : Ex} {c : Option Addr} {cp : Nat} {wr : World} {f : Nat → Bool} {v0 v1 v2 v3 v4 v5 v6 v7 v8 v9 v10 v11 v12 v13 v14 v15 v16 v17 v18 v19 v20 v21 v23 v24 v25 : Value} (J : Wj w cb ge a len cap xs x c cp wr f v0 v1 v2 v3 v4 v5 v6 v7 v8 v9 v10 v11 v12 v13 v14 v15 v16 v17 v18 v19 v20 v21 v23 v24 v25) {u : Value} (hu : ∃ k : Nat, u = .int .i64 (k : Int) ∧ 0 < k ∧ k ≤ 2) : Wj w cb ge a len cap xs x c cp wr (fun j => if j = 20 then true else f j) v0 v1 v2 v3 v4 v5 v6 v7 v8 v9 v10 v11 v12 v13 v14 v15 v16 v17 v18 v19 u v21 v23 v24 v25 :=
  ⟨J.bel, J.cur, J.lo, J.hi, J.box, J.new, J.r0, J.r1, J.h0, J.h1, J.h2, J.h3, J.h4, J.h5, J.h6, J.h7, J.h8, J.h9, J.h10, J.h11, J.h12, J.h13, J.h14, J.h15, J.h16, J.h17, J.h18, J.h19, (fun _ => hu), J.h21, J.h23, J.h24, J.h25⟩
theorem Wj.p21 {w : World} {cb ge : Nat} {a : Option Addr} {len cap : Nat} {xs : List UInt8} {x : Ex} {c : Option Addr} {cp : Nat} {wr : World} {f : Nat → Bool} {v0 v1 v2 v3 v4 v5 v6 v7 v8 v9 v10 v11 v12 v13 v14 v15 v16 v17 v18 v19 v20 v21 v23 v24 v25 : Value} (J : Wj w cb ge a len cap xs x c cp wr f v0 v1 v2 v3 v4 v5 v6 v7 v8 v9 v10 v11 v12 v13 v14 v15 v16 v17 v18 v19 v20 v21 v23 v24 v25) {u : Value} (hu : ∃ k : Nat, (0 < k ∧ k ≤ 2) ∧ Nr wr cb k 2 u) : Wj w cb ge a len cap xs x c cp wr (fun j => if j = 21 then true else f j) v0 v1 v2 v3 v4 v5 v6 v7 v8 v9 v10 v11 v12 v13 v14 v15 v16 v17 v18 v19 v20 u v23 v24 v25 :=
  ⟨J.bel, J.cur, J.lo, J.hi, J.box, J.new, J.r0, J.r1, J.h0, J.h1, J.h2, J.h3, J.h4, J.h5, J.h6, J.h7, J.h8, J.h9, J.h10, J.h11, J.h12, J.h13, J.h14, J.h15, J.h16, J.h17, J.h18, J.h19, J.h20, (fun _ => hu), J.h23, J.h24, J.h25⟩
theorem Wj.p23 {w : World} {cb ge : Nat} {a : Option Addr} {len cap : Nat} {xs : List UInt8} {x : Ex} {c : Option Addr} {cp : Nat} {wr : World} {f : Nat → Bool} {v0 v1 v2 v3 v4 v5 v6 v7 v8 v9 v10 v11 v12 v13 v14 v15 v16 v17 v18 v19 v20 v21 v23 v24 v25 : Value} (J : Wj w cb ge a len cap xs x c cp wr f v0 v1 v2 v3 v4 v5 v6 v7 v8 v9 v10 v11 v12 v13 v14 v15 v16 v17 v18 v19 v20 v21 v23 v24 v25) {u : Value} (hu : ∃ k : Nat, (0 < k ∧ k ≤ 3) ∧ Nr wr cb k 3 u) : Wj w cb ge a len cap xs x c cp wr (fun j => if j = 23 then true else f j) v0 v1 v2 v3 v4 v5 v6 v7 v8 v9 v10 v11 v12 v13 v14 v15 v16 v17 v18 v19 v20 v21 u v24 v25 :=
  ⟨J.bel, J.cur, J.lo, J.hi, J.box, J.new, J.r0, J.r1, J.h0, J.h1, J.h2, J.h3, J.h4, J.h5, J.h6, J.h7, J.h8, J.h9, J.h10, J.h11, J.h12, J.h13, J.h14, J.h15, J.h16, J.h17, J.h18, J.h19, J.h20, J.h21, (fun _ => hu), J.h24, J.h25⟩
theorem Wj.p24 {w : World} {cb ge : Nat} {a : Option Addr} {len cap : Nat} {xs : List UInt8} {x : Ex} {c : Option Addr} {cp : Nat} {wr : World} {f : Nat → Bool} {v0 v1 v2 v3 v4 v5 v6 v7 v8 v9 v10 v11 v12 v13 v14 v15 v16 v17 v18 v19 v20 v21 v23 v24 v25 : Value} (J : Wj w cb ge a len cap xs x c cp wr f v0 v1 v2 v3 v4 v5 v6 v7 v8 v9 v10 v11 v12 v13 v14 v15 v16 v17 v18 v19 v20 v21 v23 v24 v25) {u : Value} (hu : ∃ g : Nat, u = .slice (some ⟨g, 0, none⟩) 2 2 ∧ wr.heap[g]? = some (.cells #[.string ⟨#[103]⟩, .string ⟨#[104]⟩] 9 (0, 0)) ∧ cb < g) : Wj w cb ge a len cap xs x c cp wr (fun j => if j = 24 then true else f j) v0 v1 v2 v3 v4 v5 v6 v7 v8 v9 v10 v11 v12 v13 v14 v15 v16 v17 v18 v19 v20 v21 v23 u v25 :=
  ⟨J.bel, J.cur, J.lo, J.hi, J.box, J.new, J.r0, J.r1, J.h0, J.h1, J.h2, J.h3, J.h4, J.h5, J.h6, J.h7, J.h8, J.h9, J.h10, J.h11, J.h12, J.h13, J.h14, J.h15, J.h16, J.h17, J.h18, J.h19, J.h20, J.h21, J.h23, (fun _ => hu), J.h25⟩
theorem Wj.p25 {w : World} {cb ge : Nat} {a : Option Addr} {len cap : Nat} {xs : List UInt8} {x : Ex} {c : Option Addr} {cp : Nat} {wr : World} {f : Nat → Bool} {v0 v1 v2 v3 v4 v5 v6 v7 v8 v9 v10 v11 v12 v13 v14 v15 v16 v17 v18 v19 v20 v21 v23 v24 v25 : Value} (J : Wj w cb ge a len cap xs x c cp wr f v0 v1 v2 v3 v4 v5 v6 v7 v8 v9 v10 v11 v12 v13 v14 v15 v16 v17 v18 v19 v20 v21 v23 v24 v25) {u : Value} (hu : ∃ k : Nat, (0 < k ∧ k ≤ 2) ∧ Nr wr cb k 2 u) : Wj w cb ge a len cap xs x c cp wr (fun j => if j = 25 then true else f j) v0 v1 v2 v3 v4 v5 v6 v7 v8 v9 v10 v11 v12 v13 v14 v15 v16 v17 v18 v19 v20 v21 v23 v24 u :=
  ⟨J.bel, J.cur, J.lo, J.hi, J.box, J.new, J.r0, J.r1, J.h0, J.h1, J.h2, J.h3, J.h4, J.h5, J.h6, J.h7, J.h8, J.h9, J.h10, J.h11, J.h12, J.h13, J.h14, J.h15, J.h16, J.h17, J.h18, J.h19, J.h20, J.h21, J.h23, J.h24, (fun _ => hu)⟩
theorem Wj.s22 {w : World} {cb ge : Nat} {a : Option Addr} {len cap : Nat} {xs : List UInt8} {x : Ex} {c : Option Addr} {cp : Nat} {wr : World} {f : Nat → Bool} {v0 v1 v2 v3 v4 v5 v6 v7 v8 v9 v10 v11 v12 v13 v14 v15 v16 v17 v18 v19 v20 v21 v23 v24 v25 : Value} (J : Wj w cb ge a len cap xs x c cp wr f v0 v1 v2 v3 v4 v5 v6 v7 v8 v9 v10 v11 v12 v13 v14 v15 v16 v17 v18 v19 v20 v21 v23 v24 v25) (h0 : f 22 = false) (hcode : xs = [] ∨ ∀ ad, a = some ad → ad.block < w.heap.size) : Wj w cb ge a len cap xs x c cp (wr.setRow w.heap.size #[.int .i64 x.k, .int .i64 x.n, .string x.s, .slice c x.l.length cp]) (fun j => if j = 22 then true else f j) v0 v1 v2 v3 v4 v5 v6 v7 v8 v9 v10 v11 v12 v13 v14 v15 v16 v17 v18 v19 v20 v21 v23 v24 v25 := by
  have hg := grownBy_row (W := wr) (g := w.heap.size) #[.int .i64 x.k, .int .i64 x.n, .string x.s, .slice c x.l.length cp]
  have hlo := J.lo
  refine ⟨J.bel.grown hg J.bel.size (fun k e => by cases e; omega), ?_, J.lo, J.hi, (hg.block _ (Array.getElem?_eq_some_iff.1 J.box).1 (fun e => by simp at e; have := J.hi; omega)).trans J.box, rd_drawn J.new hg (by omega), (fun h => noB h.symm), (fun _ => setRow_heap _ _ _ _ _ _ (J.r0 h0)),
    J.h0, J.h1, J.h2, J.h3, J.h4, J.h5, J.h6, (fun h => (J.h7 h).go hg (by omega)), J.h8, (fun h => by obtain ⟨g, e1, e2, e3⟩ := J.h9 h; exact ⟨g, e1, e2.past hg (fun ad e => by cases e; show g ≠ _; have := J.lo; omega), e3⟩), J.h10, (fun h => by obtain ⟨k, e1, e2⟩ := J.h11 h; exact ⟨k, e1, e2.go hg (by omega)⟩), (fun h => by obtain ⟨g, e1, e2, e3⟩ := J.h12 h; exact ⟨g, e1, (hg.block _ (Array.getElem?_eq_some_iff.1 e2).1 (fun e => by simp at e; have := J.lo; omega)).trans e2, e3⟩), J.h13, J.h14, J.h15, J.h16, (fun h => (J.h17 h).go hg (by omega)), J.h18, (fun h => by obtain ⟨g, e1, e2, e3⟩ := J.h19 h; exact ⟨g, e1, e2.past hg (fun ad e => by cases e; show g ≠ _; have := J.lo; omega), e3⟩), J.h20, (fun h => by obtain ⟨k, e1, e2⟩ := J.h21 h; exact ⟨k, e1, e2.go hg (by omega)⟩), (fun h => by obtain ⟨k, e1, e2⟩ := J.h23 h; exact ⟨k, e1, e2.go hg (by omega)⟩), (fun h => by obtain ⟨g, e1, e2, e3⟩ := J.h24 h; exact ⟨g, e1, (hg.block _ (Array.getElem?_eq_some_iff.1 e2).1 (fun e => by simp at e; have := J.lo; omega)).trans e2, e3⟩), (fun h => by obtain ⟨k, e1, e2⟩ := J.h25 h; exact ⟨k, e1, e2.go hg (by omega)⟩)⟩
  exact J.cur.far hg (by omega) (hcode.imp id (fun h ad e => by have := h ad e; omega))
theorem Wj.mk0 {w : World} {cb ge : Nat} {a : Option Addr} {len cap : Nat} {xs : List UInt8} {x : Ex} {c : Option Addr} {cp : Nat} {wr : World} {v0 v1 v2 v3 v4 v5 v6 v7 v8 v9 v10 v11 v12 v13 v14 v15 v16 v17 v18 v19 v20 v21 v23 v24 v25 : Value} (h1 : Below w.heap.size w wr) (h2 : Cur wr cb a len cap xs) (h3 : w.heap.size < cb) (h4 : cb < ge) (h5 : wr.heap[ge]? = some (.cells #[.int .i64 x.k, .int .i64 x.n, .string x.s, .slice c x.l.length cp] 26 (0, 0))) (h6 : RdX wr (cb + 1) x c) (h7 : wr.heap[w.heap.size]? = some (.cells #[.int .i64 0, .int .i64 0, .string ⟨#[]⟩, .slice none 0 0] 26 (0, 0))) : Wj w cb ge a len cap xs x c cp wr (fun _ => false) v0 v1 v2 v3 v4 v5 v6 v7 v8 v9 v10 v11 v12 v13 v14 v15 v16 v17 v18 v19 v20 v21 v23 v24 v25 :=
  ⟨h1, h2, h3, h4, h5, h6, (fun _ => h7), (fun h => noB h), (fun h => noB h), (fun h => noB h), (fun h => noB h), (fun h => noB h), (fun h => noB h), (fun h => noB h), (fun h => noB h), (fun h => noB h), (fun h => noB h), (fun h => noB h), (fun h => noB h), (fun h => noB h), (fun h => noB h), (fun h => noB h), (fun h => noB h), (fun h => noB h), (fun h => noB h), (fun h => noB h), (fun h => noB h), (fun h => noB h), (fun h => noB h), (fun h => noB h), (fun h => noB h), (fun h => noB h), (fun h => noB h)⟩
theorem pick3 (j : Nat) (hj : j < 4) : ∃ k : Nat, nAt [3, 3, 3, 1] j = (k : Int) ∧ 0 < k ∧ k ≤ 3 := by
  have : j = 0 ∨ j = 1 ∨ j = 2 ∨ j = 3 := by omega
  rcases this with rfl | rfl | rfl | rfl
  · exact ⟨3, rfl, by omega, by omega⟩
  · exact ⟨3, rfl, by omega, by omega⟩
  · exact ⟨3, rfl, by omega, by omega⟩
  · exact ⟨1, rfl, by omega, by omega⟩
theorem pick2 (j : Nat) (hj : j < 4) : ∃ k : Nat, nAt [2, 2, 2, 1] j = (k : Int) ∧ 0 < k ∧ k ≤ 2 := by
  have : j = 0 ∨ j = 1 ∨ j = 2 ∨ j = 3 := by omega
  rcases this with rfl | rfl | rfl | rfl
  · exact ⟨2, rfl, by omega, by omega⟩
  · exact ⟨2, rfl, by omega, by omega⟩
  · exact ⟨2, rfl, by omega, by omega⟩
  · exact ⟨1, rfl, by omega, by omega⟩
end Go.Proofs.YtkolflcjkofleaaDoor

namespace Go.Proofs.YtkolflcjkofleaaDoor
open Go.ChangeShapes Go.WideShapes Go.ChangeAt Go.RowKit
set_option linter.unusedVariables false
set_option maxRecDepth 8000
set_option linter.unusedSimpArgs false

theorem szD3 : szD 3 = 22 := rfl
set_option maxHeartbeats 16000000 in
theorem drawWorth_any (a : Option Addr) (len cap : Nat) (xs : List UInt8) (w : World) (hl : xs.length = len) (hm : len ≤ 1048576) (hr : Rd w a xs) :
    Calls Tryd.prog 23 #[.slice a len cap] w fun r w' => ∃ (x : Ex) (c : Option Addr) (cp g1 k1 : Nat) (L1 : List Int) (g2 g3 k3 : Nat) (L3 : List Int), r = .returned (.tuple #[.agg (x.cs c cp), .slice (some ⟨g1, 0, none⟩) k1 3, .slice (some ⟨g2, 0, none⟩) 2 2, .slice (some ⟨g3, 0, none⟩) k3 2]) ∧ x.sz ≤ 45 ∧ L1.length = k1 ∧ (0 < k1 ∧ k1 ≤ 3) ∧ L3.length = k3 ∧ (0 < k3 ∧ k3 ≤ 2) ∧ RdX w' 0 x c ∧ RdN w' (some ⟨g1, 0, none⟩) L1 ∧ w'.heap[g2]? = some (.cells #[.string ⟨#[103]⟩, .string ⟨#[104]⟩] 9 (0, 0)) ∧ RdN w' (some ⟨g3, 0, none⟩) L3 ∧ Below w.heap.size w w' := by
  have hcode : xs = [] ∨ ∀ ad, a = some ad → ad.block < w.heap.size := by
    rcases hr with h | ⟨b, off, ha, hb, _⟩
    · exact .inl h
    · exact .inr (fun ad e => by rw [ha] at e; cases e; exact hb)
  have B0 := hide (below_new w (.cells #[.int .i64 0, .int .i64 0, .string ⟨#[]⟩, .slice none 0 0] 26))
  have R0 := hide (show (w.alloc (.cells #[.int .i64 0, .int .i64 0, .string ⟨#[]⟩, .slice none 0 0] 26)).heap[w.heap.size]? = some (.cells #[.int .i64 0, .int .i64 0, .string ⟨#[]⟩, .slice none 0 0] 26 (0, 0)) from Array.getElem?_push_size)
  have hz0 : (w.alloc (.cells #[.int .i64 0, .int .i64 0, .string ⟨#[]⟩, .slice none 0 0] 26)).heap.size = w.heap.size + 1 := by simp
  have HZ := hide hz0
  clear hz0
  have N0 := hide (new_any a len cap xs _ hl hm (hr.later (unhide B0)))
  clear hr
  go_enter Tryd.func23, Tryd.ntmps23
  go_wp2_with fail
  generalize w.alloc (.cells #[.int .i64 0, .int .i64 0, .string ⟨#[]⟩, .slice none 0 0] 26) = W at *
  refine (unhide N0).mono ?_
  rintro e w1 ⟨rfl, hc1, hb1⟩
  have R1 := hide ((hb1.block _ (Array.getElem?_eq_some_iff.1 (unhide R0)).1).trans (unhide R0))
  have B1 := hide ((unhide B0).trans (hb1.mono (unhide B0).size))
  have o1 : w.heap.size < W.heap.size := by have := unhide HZ; omega
  have o2 : W.heap.size < w1.heap.size := hc1.lt
  have A1 := hide (flatD 3 (by omega) (by decide) drawX3 W.heap.size a len cap xs w1 hc1)
  rw [show 2 * szD 3 + 1 = 45 by decide] at A1
  unfold DrX at A1
  generalize W.heap.size = cb at *
  clear hc1 hb1 N0 R0 B0 HZ
  go_wp2_with fail
  refine (unhide A1).mono ?_
  rintro e w2 ⟨y, d, dp, rfl, hzy, hny, hc2, hg2⟩
  unfold Ex.cs
  clear A1
  have B2 := hide ((unhide B1).grown hg2 (unhide B1).size (fun k e => by cases e; omega))
  have R2 := hide ((hg2.block _ (Array.getElem?_eq_some_iff.1 (unhide R1)).1 (fun e => by simp at e; omega)).trans (unhide R1))
  have N2 := hide ((hny.lower (C := cb + 1) (by omega)).rd)
  have C2 := hide hc2
  have hs2 := hg2.size
  have hb3 := below_new w2 (.cells #[.int .i64 y.k, .int .i64 y.n, .string y.s, .slice d y.l.length dp] 26)
  have G3 := hide (show (w2.alloc (.cells #[.int .i64 y.k, .int .i64 y.n, .string y.s, .slice d y.l.length dp] 26)).heap[w2.heap.size]? = some (.cells #[.int .i64 y.k, .int .i64 y.n, .string y.s, .slice d y.l.length dp] 26 (0, 0)) from Array.getElem?_push_size)
  have B3 := hide ((unhide B2).trans (hb3.mono (unhide B2).size))
  have R3 := hide (row_keep (unhide R2) hb3)
  have N3 := hide ((unhide N2).later hb3)
  have C3 := hide ((unhide C2).later hb3)
  have A3 := hide (once_any cb a len cap xs 6 _ (by omega) (unhide C3))
  clear hny hc2 hg2 hb3 B1 R1 B2 R2 N2 C2
  have hl3 : w2.heap.size < (w2.alloc (.cells #[.int .i64 y.k, .int .i64 y.n, .string y.s, .slice d y.l.length dp] 26)).heap.size := by simp
  go_wp2_with fail
  generalize w2.alloc (.cells #[.int .i64 y.k, .int .i64 y.n, .string y.s, .slice d y.l.length dp] 26) = w3 at *
  have hge : cb < w2.heap.size := by omega
  generalize w2.heap.size = ge at *
  refine (unhide A3).mono ?_
  rintro e w4 ⟨q, rfl, hc4, hg4⟩
  clear A3
  have B4 := hide ((unhide B3).grown hg4 (unhide B3).size (fun k e => by cases e; omega))
  have R4 := hide ((hg4.block _ (Array.getElem?_eq_some_iff.1 (unhide R3)).1 (fun e => by simp at e; omega)).trans (unhide R3))
  have G4 := hide ((hg4.block _ (Array.getElem?_eq_some_iff.1 (unhide G3)).1 (fun e => by simp at e; omega)).trans (unhide G3))
  have N4 := hide (rd_drawn (unhide N3) hg4 (Nat.lt_succ_self _))
  have C4 := hide hc4
  have hs4 := hg4.size
  have hlo : w.heap.size < cb := by omega
  clear hc4 hg4 B3 R3 G3 N3 C3
  cases q with
  | false =>
    go_wp2_with fail
    have hbd := below_drew (w := w4)
    have B5 := hide ((unhide B4).trans (hbd.mono (unhide B4).size))
    have R5 := hide (row_keep (unhide R4) hbd)
    have G5 := hide (row_keep (unhide G4) hbd)
    have N5 := hide ((unhide N4).later hbd)
    have C5 := hide ((unhide C4).later hbd)
    have hhi := hge
    have hzx := hzy
    clear hbd B4 R4 G4 N4 C4
    generalize y = x at *
    generalize d = c at *
    generalize dp = cp at *
    refine wp_region_shut (fun f a2 w2 => ∃ v0 v1 v2 v3 v4 v5 v6 v7 v8 v9 v10 v11 v12 v13 v14 v15 v16 v17 v18 v19 v20 v21 v23 v24 v25 : Value, a2 = ⟨#[_, _, _, v23, v24, v25, _, _, _, _, _, _, _, _, _, _, v0, v1, v2, v3, v4, v5, v6, v7, v8, v9, v10, v11, v12, v13, v14, v15, v16, v17, v18, v19, v20, v21], []⟩ ∧ Wj w cb ge a len cap xs x c cp w2 f v0 v1 v2 v3 v4 v5 v6 v7 v8 v9 v10 v11 v12 v13 v14 v15 v16 v17 v18 v19 v20 v21 v23 v24 v25) (by kernel_rfl) ⟨undef, undef, undef, undef, undef, undef, undef, undef, undef, undef, undef, undef, undef, undef, undef, undef, undef, undef, undef, undef, undef, undef, .slice none 0 0, .slice none 0 0, .slice none 0 0, rfl, Wj.mk0 (unhide B5) (unhide C5) hlo hhi (unhide G5) (unhide N5) (unhide R5)⟩ (by kernel_rfl) ?_ ?_
    · intro i o ho f a2 w2 hI hsh hf hd K2 hK2
      obtain ⟨v0, v1, v2, v3, v4, v5, v6, v7, v8, v9, v10, v11, v12, v13, v14, v15, v16, v17, v18, v19, v20, v21, v23, v24, v25, rfl, J⟩ := hI
      have hin : i < 26 := by have := (Array.getElem?_eq_some_iff.1 ho).1; simpa using this
      obtain rfl | rfl | rfl | rfl | rfl | rfl | rfl | rfl | rfl | rfl | rfl | rfl | rfl | rfl | rfl | rfl | rfl | rfl | rfl | rfl | rfl | rfl | rfl | rfl | rfl | rfl : i = 0 ∨ i = 1 ∨ i = 2 ∨ i = 3 ∨ i = 4 ∨ i = 5 ∨ i = 6 ∨ i = 7 ∨ i = 8 ∨ i = 9 ∨ i = 10 ∨ i = 11 ∨ i = 12 ∨ i = 13 ∨ i = 14 ∨ i = 15 ∨ i = 16 ∨ i = 17 ∨ i = 18 ∨ i = 19 ∨ i = 20 ∨ i = 21 ∨ i = 22 ∨ i = 23 ∨ i = 24 ∨ i = 25 := by omega
      · obtain rfl := Option.some.inj ho
        rw [if_pos (by rfl)]
        have k0 := Lib.cell_of_heap J.box 0
        have k1 := Lib.cell_of_heap J.box 1
        have k2 := Lib.cell_of_heap J.box 2
        have k3 := Lib.cell_of_heap J.box 3
        go_simp
        exact hK2 _ _ ⟨_, _, _, _, _, _, _, _, _, _, _, _, _, _, _, _, _, _, _, _, _, _, _, _, _, rfl, J.p0 rfl⟩
      · obtain rfl := Option.some.inj ho
        rw [if_pos (by rfl)]
        go_simp
        exact hK2 _ _ ⟨_, _, _, _, _, _, _, _, _, _, _, _, _, _, _, _, _, _, _, _, _, _, _, _, _, rfl, J.p1 rfl⟩
      · obtain rfl := Option.some.inj ho
        rw [if_pos (by rfl)]
        have e := J.h1 (hd ⟨1, .data⟩ (by simp) rfl)
        subst e
        go_simp
        refine (wordD cb a len cap xs w2 J.cur).mono ?_
        rintro r w3 ⟨n, _, _, rfl, hc, hg⟩
        exact hK2 _ _ ⟨_, _, _, _, _, _, _, _, _, _, _, _, _, _, _, _, _, _, _, _, _, _, _, _, _, rfl, (J.go hc hg).p2 ⟨n, rfl⟩⟩
      · obtain rfl := Option.some.inj ho
        rw [if_pos (by rfl)]
        go_simp
        exact hK2 _ _ ⟨_, _, _, _, _, _, _, _, _, _, _, _, _, _, _, _, _, _, _, _, _, _, _, _, _, rfl, J.p3 rfl⟩
      · obtain rfl := Option.some.inj ho
        rw [if_pos (by rfl)]
        have e := J.h3 (hd ⟨3, .data⟩ (by simp) rfl)
        subst e
        go_simp
        refine (wordD cb a len cap xs w2 J.cur).mono ?_
        rintro r w3 ⟨n, _, _, rfl, hc, hg⟩
        exact hK2 _ _ ⟨_, _, _, _, _, _, _, _, _, _, _, _, _, _, _, _, _, _, _, _, _, _, _, _, _, rfl, (J.go hc hg).p4 ⟨n, rfl⟩⟩
      · obtain rfl := Option.some.inj ho
        rw [if_pos (by rfl)]
        go_simp
        exact hK2 _ _ ⟨_, _, _, _, _, _, _, _, _, _, _, _, _, _, _, _, _, _, _, _, _, _, _, _, _, rfl, J.p5 rfl⟩
      · obtain rfl := Option.some.inj ho
        rw [if_pos (by rfl)]
        have e := J.h5 (hd ⟨5, .data⟩ (by simp) rfl)
        subst e
        go_simp
        refine (numN cb a len cap xs w2 J.cur).mono ?_
        rintro r w3 ⟨n, rfl, hc, hg⟩
        exact hK2 _ _ ⟨_, _, _, _, _, _, _, _, _, _, _, _, _, _, _, _, _, _, _, _, _, _, _, _, _, rfl, (J.go hc hg).p6 ⟨n, rfl⟩⟩
      · obtain rfl := Option.some.inj ho
        rw [if_pos (by rfl)]
        obtain ⟨n2, e⟩ := J.h2 (hd ⟨2, .data⟩ (by simp) rfl)
        subst e
        obtain ⟨n4, e⟩ := J.h4 (hd ⟨4, .data⟩ (by simp) rfl)
        subst e
        obtain ⟨n6, e⟩ := J.h6 (hd ⟨6, .data⟩ (by simp) rfl)
        subst e
        go_simp
        exact hK2 _ _ ⟨_, _, _, _, _, _, _, _, _, _, _, _, _, _, _, _, _, _, _, _, _, _, _, _, _, rfl, (J.later (below_new w2 (.cells #[.int .i64 n2, .int .i64 n4, .int .i64 n6] 3))).p7 ⟨w2.heap.size, [n2, n4, n6], rfl, rfl, RdN_lit w2 [n2, n4, n6], J.cur.lt⟩⟩
      · obtain rfl := Option.some.inj ho
        rw [if_pos (by rfl)]
        go_simp
        exact hK2 _ _ ⟨_, _, _, _, _, _, _, _, _, _, _, _, _, _, _, _, _, _, _, _, _, _, _, _, _, rfl, J.p8 rfl⟩
      · obtain rfl := Option.some.inj ho
        rw [if_pos (by rfl)]
        go_simp
        exact hK2 _ _ ⟨_, _, _, _, _, _, _, _, _, _, _, _, _, _, _, _, _, _, _, _, _, _, _, _, _, rfl, (J.later (below_new w2 (.cells #[.int .i64 3, .int .i64 3, .int .i64 3, .int .i64 1] 3))).p9 ⟨w2.heap.size, rfl, RdN_lit w2 [3, 3, 3, 1], J.cur.lt⟩⟩
      · obtain rfl := Option.some.inj ho
        rw [if_pos (by rfl)]
        have e := J.h8 (hd ⟨8, .data⟩ (by simp) rfl)
        subst e
        obtain ⟨g, e, hrd, hlt⟩ := J.h9 (hd ⟨9, .data⟩ (by simp) rfl)
        subst e
        go_simp
        refine (int_any cb a len cap xs (some ⟨g, 0, none⟩) 4 4 [3, 3, 3, 1] w2 J.cur hrd (fun ad e => by cases e; show g ≠ cb; omega) rfl (by omega) (by omega)).mono ?_
        rintro r w3 ⟨j, hj, rfl, hc, hg⟩
        obtain ⟨k, hk, hk2⟩ := pick3 j hj
        rw [hk]
        exact hK2 _ _ ⟨_, _, _, _, _, _, _, _, _, _, _, _, _, _, _, _, _, _, _, _, _, _, _, _, _, rfl, (J.go hc hg).p10 ⟨k, rfl, hk2⟩⟩
      · obtain rfl := Option.some.inj ho
        rw [if_pos (by rfl)]
        obtain ⟨g, L, e, hll, hrd, hlt⟩ := J.h7 (hd ⟨7, .data⟩ (by simp) rfl)
        subst e
        obtain ⟨k, e, hk⟩ := J.h10 (hd ⟨10, .data⟩ (by simp) rfl)
        subst e
        have hk1 : (k : Int) ≤ 3 := by omega
        have hk2 : (0 : Int) ≤ (k : Int) := by omega
        have hk3 : ¬ ((k : Int) < 0) := by omega
        have hk4 : ¬ (3 < (k : Int)) := by omega
        go_simp
        exact hK2 _ _ ⟨_, _, _, _, _, _, _, _, _, _, _, _, _, _, _, _, _, _, _, _, _, _, _, _, _, rfl, J.p11 ⟨k, hk, g, L.take k, rfl, by rw [List.length_take]; omega, hrd.taken k, hlt⟩⟩
      · obtain rfl := Option.some.inj ho
        rw [if_pos (by rfl)]
        go_simp
        exact hK2 _ _ ⟨_, _, _, _, _, _, _, _, _, _, _, _, _, _, _, _, _, _, _, _, _, _, _, _, _, rfl, (J.later (below_new w2 (.cells #[.string ⟨#[103]⟩, .string ⟨#[104]⟩] 9))).p12 ⟨w2.heap.size, rfl, Array.getElem?_push_size, J.cur.lt⟩⟩
      · obtain rfl := Option.some.inj ho
        rw [if_pos (by rfl)]
        go_simp
        exact hK2 _ _ ⟨_, _, _, _, _, _, _, _, _, _, _, _, _, _, _, _, _, _, _, _, _, _, _, _, _, rfl, J.p13 rfl⟩
      · obtain rfl := Option.some.inj ho
        rw [if_pos (by rfl)]
        have e := J.h13 (hd ⟨13, .data⟩ (by simp) rfl)
        subst e
        go_simp
        refine (wordD cb a len cap xs w2 J.cur).mono ?_
        rintro r w3 ⟨n, _, _, rfl, hc, hg⟩
        exact hK2 _ _ ⟨_, _, _, _, _, _, _, _, _, _, _, _, _, _, _, _, _, _, _, _, _, _, _, _, _, rfl, (J.go hc hg).p14 ⟨n, rfl⟩⟩
      · obtain rfl := Option.some.inj ho
        rw [if_pos (by rfl)]
        go_simp
        exact hK2 _ _ ⟨_, _, _, _, _, _, _, _, _, _, _, _, _, _, _, _, _, _, _, _, _, _, _, _, _, rfl, J.p15 rfl⟩
      · obtain rfl := Option.some.inj ho
        rw [if_pos (by rfl)]
        have e := J.h15 (hd ⟨15, .data⟩ (by simp) rfl)
        subst e
        go_simp
        refine (numN cb a len cap xs w2 J.cur).mono ?_
        rintro r w3 ⟨n, rfl, hc, hg⟩
        exact hK2 _ _ ⟨_, _, _, _, _, _, _, _, _, _, _, _, _, _, _, _, _, _, _, _, _, _, _, _, _, rfl, (J.go hc hg).p16 ⟨n, rfl⟩⟩
      · obtain rfl := Option.some.inj ho
        rw [if_pos (by rfl)]
        obtain ⟨n14, e⟩ := J.h14 (hd ⟨14, .data⟩ (by simp) rfl)
        subst e
        obtain ⟨n16, e⟩ := J.h16 (hd ⟨16, .data⟩ (by simp) rfl)
        subst e
        go_simp
        exact hK2 _ _ ⟨_, _, _, _, _, _, _, _, _, _, _, _, _, _, _, _, _, _, _, _, _, _, _, _, _, rfl, (J.later (below_new w2 (.cells #[.int .i64 n14, .int .i64 n16] 3))).p17 ⟨w2.heap.size, [n14, n16], rfl, rfl, RdN_lit w2 [n14, n16], J.cur.lt⟩⟩
      · obtain rfl := Option.some.inj ho
        rw [if_pos (by rfl)]
        go_simp
        exact hK2 _ _ ⟨_, _, _, _, _, _, _, _, _, _, _, _, _, _, _, _, _, _, _, _, _, _, _, _, _, rfl, J.p18 rfl⟩
      · obtain rfl := Option.some.inj ho
        rw [if_pos (by rfl)]
        go_simp
        exact hK2 _ _ ⟨_, _, _, _, _, _, _, _, _, _, _, _, _, _, _, _, _, _, _, _, _, _, _, _, _, rfl, (J.later (below_new w2 (.cells #[.int .i64 2, .int .i64 2, .int .i64 2, .int .i64 1] 3))).p19 ⟨w2.heap.size, rfl, RdN_lit w2 [2, 2, 2, 1], J.cur.lt⟩⟩
      · obtain rfl := Option.some.inj ho
        rw [if_pos (by rfl)]
        have e := J.h18 (hd ⟨18, .data⟩ (by simp) rfl)
        subst e
        obtain ⟨g, e, hrd, hlt⟩ := J.h19 (hd ⟨19, .data⟩ (by simp) rfl)
        subst e
        go_simp
        refine (int_any cb a len cap xs (some ⟨g, 0, none⟩) 4 4 [2, 2, 2, 1] w2 J.cur hrd (fun ad e => by cases e; show g ≠ cb; omega) rfl (by omega) (by omega)).mono ?_
        rintro r w3 ⟨j, hj, rfl, hc, hg⟩
        obtain ⟨k, hk, hk2⟩ := pick2 j hj
        rw [hk]
        exact hK2 _ _ ⟨_, _, _, _, _, _, _, _, _, _, _, _, _, _, _, _, _, _, _, _, _, _, _, _, _, rfl, (J.go hc hg).p20 ⟨k, rfl, hk2⟩⟩
      · obtain rfl := Option.some.inj ho
        rw [if_pos (by rfl)]
        obtain ⟨g, L, e, hll, hrd, hlt⟩ := J.h17 (hd ⟨17, .data⟩ (by simp) rfl)
        subst e
        obtain ⟨k, e, hk⟩ := J.h20 (hd ⟨20, .data⟩ (by simp) rfl)
        subst e
        have hk1 : (k : Int) ≤ 2 := by omega
        have hk2 : (0 : Int) ≤ (k : Int) := by omega
        have hk3 : ¬ ((k : Int) < 0) := by omega
        have hk4 : ¬ (2 < (k : Int)) := by omega
        go_simp
        exact hK2 _ _ ⟨_, _, _, _, _, _, _, _, _, _, _, _, _, _, _, _, _, _, _, _, _, _, _, _, _, rfl, J.p21 ⟨k, hk, g, L.take k, rfl, by rw [List.length_take]; omega, hrd.taken k, hlt⟩⟩
      · obtain rfl := Option.some.inj ho
        rw [if_pos (by rfl)]
        have e := J.h0 (hd ⟨0, .data⟩ (by simp) rfl)
        subst e
        refine wp_store_row 26 _ _ rfl w.heap.size #[.int .i64 x.k, .int .i64 x.n, .string x.s, .slice c x.l.length cp] rfl rfl 26 _ (J.r0 hf) szE rfl (ex_one _ _ _ _ _ _) ?_
        exact hK2 _ _ ⟨_, _, _, _, _, _, _, _, _, _, _, _, _, _, _, _, _, _, _, _, _, _, _, _, _, rfl, J.s22 hf hcode⟩
      · obtain rfl := Option.some.inj ho
        rw [if_pos (by rfl)]
        have e := J.h11 (hd ⟨11, .data⟩ (by simp) rfl)
        go_simp
        exact hK2 _ _ ⟨_, _, _, _, _, _, _, _, _, _, _, _, _, _, _, _, _, _, _, _, _, _, _, _, _, rfl, J.p23 e⟩
      · obtain rfl := Option.some.inj ho
        rw [if_pos (by rfl)]
        have e := J.h12 (hd ⟨12, .data⟩ (by simp) rfl)
        go_simp
        exact hK2 _ _ ⟨_, _, _, _, _, _, _, _, _, _, _, _, _, _, _, _, _, _, _, _, _, _, _, _, _, rfl, J.p24 e⟩
      · obtain rfl := Option.some.inj ho
        rw [if_pos (by rfl)]
        have e := J.h21 (hd ⟨21, .data⟩ (by simp) rfl)
        go_simp
        exact hK2 _ _ ⟨_, _, _, _, _, _, _, _, _, _, _, _, _, _, _, _, _, _, _, _, _, _, _, _, _, rfl, J.p25 e⟩
    · intro f a2 w2 hI hall
      obtain ⟨v0, v1, v2, v3, v4, v5, v6, v7, v8, v9, v10, v11, v12, v13, v14, v15, v16, v17, v18, v19, v20, v21, v23, v24, v25, rfl, J⟩ := hI
      obtain ⟨k1, hk1, g1, L1, e, hl1, hr1, _⟩ := J.h23 (hall 23 (by decide))
      subst e
      obtain ⟨g2, e, hr2, _⟩ := J.h24 (hall 24 (by decide))
      subst e
      obtain ⟨k3, hk3, g3, L3, e, hl3, hr3, _⟩ := J.h25 (hall 25 (by decide))
      subst e
      have HR := hide (J.r1 (hall 22 (by decide)))
      have HN := hide (J.new.lower (Nat.zero_le _) _ _)
      have HB := hide J.bel
      have H1 := hide hr1
      have H2 := hide hr2
      have H3 := hide hr3
      clear J hr1 hr2 hr3 hall
      go_wp2
      refine bodyPost_ret (results_row4 (P := Tryd.prog) rfl _ _ w.heap.size 26 #[.int .i64 x.k, .int .i64 x.n, .string x.s, .slice c x.l.length cp] (0, 0) _ rfl (unhide HR) Tryd.underlying26 rfl szE) rfl ?_
      exact ⟨x, c, cp, g1, k1, L1, g2, g3, k3, L3, rfl, by omega, hl1, hk1, hl3, hk3, unhide HN, unhide H1, unhide H2, unhide H3, unhide HB⟩
  | true =>
    have A4 := hide (anyD cb a len cap xs w4 (unhide C4))
    unfold DrX at A4
    clear C4 N4
    go_wp2_with fail
    refine (unhide A4).mono ?_
    rintro e w5 ⟨x, c, cp, rfl, hzx', hnx, hc5, hg5⟩
    have hzx : x.sz ≤ 45 := by omega
    unfold Ex.cs
    clear A4
    have hs5 := hg5.size
    have hg6 := grownBy_row (W := w5) (g := ge) #[.int .i64 x.k, .int .i64 x.n, .string x.s, .slice c x.l.length cp]
    have b5 := (unhide B4).grown hg5 (unhide B4).size (fun k e => by cases e; omega)
    have B6 := hide (b5.grown hg6 b5.size (fun k e => by cases e; omega))
    have r5 := (hg5.block _ (Array.getElem?_eq_some_iff.1 (unhide R4)).1 (fun e => by simp at e; omega)).trans (unhide R4)
    have R6 := hide ((hg6.block _ (Array.getElem?_eq_some_iff.1 r5).1 (fun e => by simp at e; omega)).trans r5)
    have G5 := hide ((hg5.block _ (Array.getElem?_eq_some_iff.1 (unhide G4)).1 (fun e => by simp at e; omega)).trans (unhide G4))
    have G6 := hide (setRow_heap w5 ge _ #[.int .i64 x.k, .int .i64 x.n, .string x.s, .slice c x.l.length cp] 26 _ (unhide G5))
    have N6 := hide ((rd_drawn hnx.rd hg6 (by omega)).lower (show cb + 1 ≤ w4.heap.size by omega) _ _)
    have C6 := hide (hc5.far hg6 (by omega) (hcode.imp id (fun h ad e => by have := h ad e; omega)))
    clear hnx hc5 hg5 hg6 b5 r5 B4 R4 G4
    go_wp2_with (refine wpList_store_row rfl 26 _ _ rfl ge #[.int .i64 x.k, .int .i64 x.n, .string x.s, .slice c x.l.length cp] rfl rfl 26 _ (unhide G5) szE rfl (ex_one _ _ _ _ _ _) ?_)
    generalize w5.setRow ge #[.int .i64 x.k, .int .i64 x.n, .string x.s, .slice c x.l.length cp] = w6 at *
    have hbd := below_drew (w := w6)
    have B7 := hide ((unhide B6).trans (hbd.mono (unhide B6).size))
    have R7 := hide (row_keep (unhide R6) hbd)
    have G7 := hide (row_keep (unhide G6) hbd)
    have N7 := hide ((unhide N6).later hbd)
    have C7 := hide ((unhide C6).later hbd)
    have hhi := hge
    clear hbd B6 R6 G6 N6 C6 G5
    refine wp_region_shut (fun f a2 w2 => ∃ v0 v1 v2 v3 v4 v5 v6 v7 v8 v9 v10 v11 v12 v13 v14 v15 v16 v17 v18 v19 v20 v21 v23 v24 v25 : Value, a2 = ⟨#[_, _, _, v23, v24, v25, _, _, _, _, _, _, _, _, _, _, v0, v1, v2, v3, v4, v5, v6, v7, v8, v9, v10, v11, v12, v13, v14, v15, v16, v17, v18, v19, v20, v21], []⟩ ∧ Wj w cb ge a len cap xs x c cp w2 f v0 v1 v2 v3 v4 v5 v6 v7 v8 v9 v10 v11 v12 v13 v14 v15 v16 v17 v18 v19 v20 v21 v23 v24 v25) (by kernel_rfl) ⟨undef, undef, undef, undef, undef, undef, undef, undef, undef, undef, undef, undef, undef, undef, undef, undef, undef, undef, undef, undef, undef, undef, .slice none 0 0, .slice none 0 0, .slice none 0 0, rfl, Wj.mk0 (unhide B7) (unhide C7) hlo hhi (unhide G7) (unhide N7) (unhide R7)⟩ (by kernel_rfl) ?_ ?_
    · intro i o ho f a2 w2 hI hsh hf hd K2 hK2
      obtain ⟨v0, v1, v2, v3, v4, v5, v6, v7, v8, v9, v10, v11, v12, v13, v14, v15, v16, v17, v18, v19, v20, v21, v23, v24, v25, rfl, J⟩ := hI
      have hin : i < 26 := by have := (Array.getElem?_eq_some_iff.1 ho).1; simpa using this
      obtain rfl | rfl | rfl | rfl | rfl | rfl | rfl | rfl | rfl | rfl | rfl | rfl | rfl | rfl | rfl | rfl | rfl | rfl | rfl | rfl | rfl | rfl | rfl | rfl | rfl | rfl : i = 0 ∨ i = 1 ∨ i = 2 ∨ i = 3 ∨ i = 4 ∨ i = 5 ∨ i = 6 ∨ i = 7 ∨ i = 8 ∨ i = 9 ∨ i = 10 ∨ i = 11 ∨ i = 12 ∨ i = 13 ∨ i = 14 ∨ i = 15 ∨ i = 16 ∨ i = 17 ∨ i = 18 ∨ i = 19 ∨ i = 20 ∨ i = 21 ∨ i = 22 ∨ i = 23 ∨ i = 24 ∨ i = 25 := by omega
      · obtain rfl := Option.some.inj ho
        rw [if_pos (by rfl)]
        have k0 := Lib.cell_of_heap J.box 0
        have k1 := Lib.cell_of_heap J.box 1
        have k2 := Lib.cell_of_heap J.box 2
        have k3 := Lib.cell_of_heap J.box 3
        go_simp
        exact hK2 _ _ ⟨_, _, _, _, _, _, _, _, _, _, _, _, _, _, _, _, _, _, _, _, _, _, _, _, _, rfl, J.p0 rfl⟩
      · obtain rfl := Option.some.inj ho
        rw [if_pos (by rfl)]
        go_simp
        exact hK2 _ _ ⟨_, _, _, _, _, _, _, _, _, _, _, _, _, _, _, _, _, _, _, _, _, _, _, _, _, rfl, J.p1 rfl⟩
      · obtain rfl := Option.some.inj ho
        rw [if_pos (by rfl)]
        have e := J.h1 (hd ⟨1, .data⟩ (by simp) rfl)
        subst e
        go_simp
        refine (wordD cb a len cap xs w2 J.cur).mono ?_
        rintro r w3 ⟨n, _, _, rfl, hc, hg⟩
        exact hK2 _ _ ⟨_, _, _, _, _, _, _, _, _, _, _, _, _, _, _, _, _, _, _, _, _, _, _, _, _, rfl, (J.go hc hg).p2 ⟨n, rfl⟩⟩
      · obtain rfl := Option.some.inj ho
        rw [if_pos (by rfl)]
        go_simp
        exact hK2 _ _ ⟨_, _, _, _, _, _, _, _, _, _, _, _, _, _, _, _, _, _, _, _, _, _, _, _, _, rfl, J.p3 rfl⟩
      · obtain rfl := Option.some.inj ho
        rw [if_pos (by rfl)]
        have e := J.h3 (hd ⟨3, .data⟩ (by simp) rfl)
        subst e
        go_simp
        refine (wordD cb a len cap xs w2 J.cur).mono ?_
        rintro r w3 ⟨n, _, _, rfl, hc, hg⟩
        exact hK2 _ _ ⟨_, _, _, _, _, _, _, _, _, _, _, _, _, _, _, _, _, _, _, _, _, _, _, _, _, rfl, (J.go hc hg).p4 ⟨n, rfl⟩⟩
      · obtain rfl := Option.some.inj ho
        rw [if_pos (by rfl)]
        go_simp
        exact hK2 _ _ ⟨_, _, _, _, _, _, _, _, _, _, _, _, _, _, _, _, _, _, _, _, _, _, _, _, _, rfl, J.p5 rfl⟩
      · obtain rfl := Option.some.inj ho
        rw [if_pos (by rfl)]
        have e := J.h5 (hd ⟨5, .data⟩ (by simp) rfl)
        subst e
        go_simp
        refine (numN cb a len cap xs w2 J.cur).mono ?_
        rintro r w3 ⟨n, rfl, hc, hg⟩
        exact hK2 _ _ ⟨_, _, _, _, _, _, _, _, _, _, _, _, _, _, _, _, _, _, _, _, _, _, _, _, _, rfl, (J.go hc hg).p6 ⟨n, rfl⟩⟩
      · obtain rfl := Option.some.inj ho
        rw [if_pos (by rfl)]
        obtain ⟨n2, e⟩ := J.h2 (hd ⟨2, .data⟩ (by simp) rfl)
        subst e
        obtain ⟨n4, e⟩ := J.h4 (hd ⟨4, .data⟩ (by simp) rfl)
        subst e
        obtain ⟨n6, e⟩ := J.h6 (hd ⟨6, .data⟩ (by simp) rfl)
        subst e
        go_simp
        exact hK2 _ _ ⟨_, _, _, _, _, _, _, _, _, _, _, _, _, _, _, _, _, _, _, _, _, _, _, _, _, rfl, (J.later (below_new w2 (.cells #[.int .i64 n2, .int .i64 n4, .int .i64 n6] 3))).p7 ⟨w2.heap.size, [n2, n4, n6], rfl, rfl, RdN_lit w2 [n2, n4, n6], J.cur.lt⟩⟩
      · obtain rfl := Option.some.inj ho
        rw [if_pos (by rfl)]
        go_simp
        exact hK2 _ _ ⟨_, _, _, _, _, _, _, _, _, _, _, _, _, _, _, _, _, _, _, _, _, _, _, _, _, rfl, J.p8 rfl⟩
      · obtain rfl := Option.some.inj ho
        rw [if_pos (by rfl)]
        go_simp
        exact hK2 _ _ ⟨_, _, _, _, _, _, _, _, _, _, _, _, _, _, _, _, _, _, _, _, _, _, _, _, _, rfl, (J.later (below_new w2 (.cells #[.int .i64 3, .int .i64 3, .int .i64 3, .int .i64 1] 3))).p9 ⟨w2.heap.size, rfl, RdN_lit w2 [3, 3, 3, 1], J.cur.lt⟩⟩
      · obtain rfl := Option.some.inj ho
        rw [if_pos (by rfl)]
        have e := J.h8 (hd ⟨8, .data⟩ (by simp) rfl)
        subst e
        obtain ⟨g, e, hrd, hlt⟩ := J.h9 (hd ⟨9, .data⟩ (by simp) rfl)
        subst e
        go_simp
        refine (int_any cb a len cap xs (some ⟨g, 0, none⟩) 4 4 [3, 3, 3, 1] w2 J.cur hrd (fun ad e => by cases e; show g ≠ cb; omega) rfl (by omega) (by omega)).mono ?_
        rintro r w3 ⟨j, hj, rfl, hc, hg⟩
        obtain ⟨k, hk, hk2⟩ := pick3 j hj
        rw [hk]
        exact hK2 _ _ ⟨_, _, _, _, _, _, _, _, _, _, _, _, _, _, _, _, _, _, _, _, _, _, _, _, _, rfl, (J.go hc hg).p10 ⟨k, rfl, hk2⟩⟩
      · obtain rfl := Option.some.inj ho
        rw [if_pos (by rfl)]
        obtain ⟨g, L, e, hll, hrd, hlt⟩ := J.h7 (hd ⟨7, .data⟩ (by simp) rfl)
        subst e
        obtain ⟨k, e, hk⟩ := J.h10 (hd ⟨10, .data⟩ (by simp) rfl)
        subst e
        have hk1 : (k : Int) ≤ 3 := by omega
        have hk2 : (0 : Int) ≤ (k : Int) := by omega
        have hk3 : ¬ ((k : Int) < 0) := by omega
        have hk4 : ¬ (3 < (k : Int)) := by omega
        go_simp
        exact hK2 _ _ ⟨_, _, _, _, _, _, _, _, _, _, _, _, _, _, _, _, _, _, _, _, _, _, _, _, _, rfl, J.p11 ⟨k, hk, g, L.take k, rfl, by rw [List.length_take]; omega, hrd.taken k, hlt⟩⟩
      · obtain rfl := Option.some.inj ho
        rw [if_pos (by rfl)]
        go_simp
        exact hK2 _ _ ⟨_, _, _, _, _, _, _, _, _, _, _, _, _, _, _, _, _, _, _, _, _, _, _, _, _, rfl, (J.later (below_new w2 (.cells #[.string ⟨#[103]⟩, .string ⟨#[104]⟩] 9))).p12 ⟨w2.heap.size, rfl, Array.getElem?_push_size, J.cur.lt⟩⟩
      · obtain rfl := Option.some.inj ho
        rw [if_pos (by rfl)]
        go_simp
        exact hK2 _ _ ⟨_, _, _, _, _, _, _, _, _, _, _, _, _, _, _, _, _, _, _, _, _, _, _, _, _, rfl, J.p13 rfl⟩
      · obtain rfl := Option.some.inj ho
        rw [if_pos (by rfl)]
        have e := J.h13 (hd ⟨13, .data⟩ (by simp) rfl)
        subst e
        go_simp
        refine (wordD cb a len cap xs w2 J.cur).mono ?_
        rintro r w3 ⟨n, _, _, rfl, hc, hg⟩
        exact hK2 _ _ ⟨_, _, _, _, _, _, _, _, _, _, _, _, _, _, _, _, _, _, _, _, _, _, _, _, _, rfl, (J.go hc hg).p14 ⟨n, rfl⟩⟩
      · obtain rfl := Option.some.inj ho
        rw [if_pos (by rfl)]
        go_simp
        exact hK2 _ _ ⟨_, _, _, _, _, _, _, _, _, _, _, _, _, _, _, _, _, _, _, _, _, _, _, _, _, rfl, J.p15 rfl⟩
      · obtain rfl := Option.some.inj ho
        rw [if_pos (by rfl)]
        have e := J.h15 (hd ⟨15, .data⟩ (by simp) rfl)
        subst e
        go_simp
        refine (numN cb a len cap xs w2 J.cur).mono ?_
        rintro r w3 ⟨n, rfl, hc, hg⟩
        exact hK2 _ _ ⟨_, _, _, _, _, _, _, _, _, _, _, _, _, _, _, _, _, _, _, _, _, _, _, _, _, rfl, (J.go hc hg).p16 ⟨n, rfl⟩⟩
      · obtain rfl := Option.some.inj ho
        rw [if_pos (by rfl)]
        obtain ⟨n14, e⟩ := J.h14 (hd ⟨14, .data⟩ (by simp) rfl)
        subst e
        obtain ⟨n16, e⟩ := J.h16 (hd ⟨16, .data⟩ (by simp) rfl)
        subst e
        go_simp
        exact hK2 _ _ ⟨_, _, _, _, _, _, _, _, _, _, _, _, _, _, _, _, _, _, _, _, _, _, _, _, _, rfl, (J.later (below_new w2 (.cells #[.int .i64 n14, .int .i64 n16] 3))).p17 ⟨w2.heap.size, [n14, n16], rfl, rfl, RdN_lit w2 [n14, n16], J.cur.lt⟩⟩
      · obtain rfl := Option.some.inj ho
        rw [if_pos (by rfl)]
        go_simp
        exact hK2 _ _ ⟨_, _, _, _, _, _, _, _, _, _, _, _, _, _, _, _, _, _, _, _, _, _, _, _, _, rfl, J.p18 rfl⟩
      · obtain rfl := Option.some.inj ho
        rw [if_pos (by rfl)]
        go_simp
        exact hK2 _ _ ⟨_, _, _, _, _, _, _, _, _, _, _, _, _, _, _, _, _, _, _, _, _, _, _, _, _, rfl, (J.later (below_new w2 (.cells #[.int .i64 2, .int .i64 2, .int .i64 2, .int .i64 1] 3))).p19 ⟨w2.heap.size, rfl, RdN_lit w2 [2, 2, 2, 1], J.cur.lt⟩⟩
      · obtain rfl := Option.some.inj ho
        rw [if_pos (by rfl)]
        have e := J.h18 (hd ⟨18, .data⟩ (by simp) rfl)
        subst e
        obtain ⟨g, e, hrd, hlt⟩ := J.h19 (hd ⟨19, .data⟩ (by simp) rfl)
        subst e
        go_simp
        refine (int_any cb a len cap xs (some ⟨g, 0, none⟩) 4 4 [2, 2, 2, 1] w2 J.cur hrd (fun ad e => by cases e; show g ≠ cb; omega) rfl (by omega) (by omega)).mono ?_
        rintro r w3 ⟨j, hj, rfl, hc, hg⟩
        obtain ⟨k, hk, hk2⟩ := pick2 j hj
        rw [hk]
        exact hK2 _ _ ⟨_, _, _, _, _, _, _, _, _, _, _, _, _, _, _, _, _, _, _, _, _, _, _, _, _, rfl, (J.go hc hg).p20 ⟨k, rfl, hk2⟩⟩
      · obtain rfl := Option.some.inj ho
        rw [if_pos (by rfl)]
        obtain ⟨g, L, e, hll, hrd, hlt⟩ := J.h17 (hd ⟨17, .data⟩ (by simp) rfl)
        subst e
        obtain ⟨k, e, hk⟩ := J.h20 (hd ⟨20, .data⟩ (by simp) rfl)
        subst e
        have hk1 : (k : Int) ≤ 2 := by omega
        have hk2 : (0 : Int) ≤ (k : Int) := by omega
        have hk3 : ¬ ((k : Int) < 0) := by omega
        have hk4 : ¬ (2 < (k : Int)) := by omega
        go_simp
        exact hK2 _ _ ⟨_, _, _, _, _, _, _, _, _, _, _, _, _, _, _, _, _, _, _, _, _, _, _, _, _, rfl, J.p21 ⟨k, hk, g, L.take k, rfl, by rw [List.length_take]; omega, hrd.taken k, hlt⟩⟩
      · obtain rfl := Option.some.inj ho
        rw [if_pos (by rfl)]
        have e := J.h0 (hd ⟨0, .data⟩ (by simp) rfl)
        subst e
        refine wp_store_row 26 _ _ rfl w.heap.size #[.int .i64 x.k, .int .i64 x.n, .string x.s, .slice c x.l.length cp] rfl rfl 26 _ (J.r0 hf) szE rfl (ex_one _ _ _ _ _ _) ?_
        exact hK2 _ _ ⟨_, _, _, _, _, _, _, _, _, _, _, _, _, _, _, _, _, _, _, _, _, _, _, _, _, rfl, J.s22 hf hcode⟩
      · obtain rfl := Option.some.inj ho
        rw [if_pos (by rfl)]
        have e := J.h11 (hd ⟨11, .data⟩ (by simp) rfl)
        go_simp
        exact hK2 _ _ ⟨_, _, _, _, _, _, _, _, _, _, _, _, _, _, _, _, _, _, _, _, _, _, _, _, _, rfl, J.p23 e⟩
      · obtain rfl := Option.some.inj ho
        rw [if_pos (by rfl)]
        have e := J.h12 (hd ⟨12, .data⟩ (by simp) rfl)
        go_simp
        exact hK2 _ _ ⟨_, _, _, _, _, _, _, _, _, _, _, _, _, _, _, _, _, _, _, _, _, _, _, _, _, rfl, J.p24 e⟩
      · obtain rfl := Option.some.inj ho
        rw [if_pos (by rfl)]
        have e := J.h21 (hd ⟨21, .data⟩ (by simp) rfl)
        go_simp
        exact hK2 _ _ ⟨_, _, _, _, _, _, _, _, _, _, _, _, _, _, _, _, _, _, _, _, _, _, _, _, _, rfl, J.p25 e⟩
    · intro f a2 w2 hI hall
      obtain ⟨v0, v1, v2, v3, v4, v5, v6, v7, v8, v9, v10, v11, v12, v13, v14, v15, v16, v17, v18, v19, v20, v21, v23, v24, v25, rfl, J⟩ := hI
      obtain ⟨k1, hk1, g1, L1, e, hl1, hr1, _⟩ := J.h23 (hall 23 (by decide))
      subst e
      obtain ⟨g2, e, hr2, _⟩ := J.h24 (hall 24 (by decide))
      subst e
      obtain ⟨k3, hk3, g3, L3, e, hl3, hr3, _⟩ := J.h25 (hall 25 (by decide))
      subst e
      have HR := hide (J.r1 (hall 22 (by decide)))
      have HN := hide (J.new.lower (Nat.zero_le _) _ _)
      have HB := hide J.bel
      have H1 := hide hr1
      have H2 := hide hr2
      have H3 := hide hr3
      clear J hr1 hr2 hr3 hall
      go_wp2
      refine bodyPost_ret (results_row4 (P := Tryd.prog) rfl _ _ w.heap.size 26 #[.int .i64 x.k, .int .i64 x.n, .string x.s, .slice c x.l.length cp] (0, 0) _ rfl (unhide HR) Tryd.underlying26 rfl szE) rfl ?_
      exact ⟨x, c, cp, g1, k1, L1, g2, g3, k3, L3, rfl, by omega, hl1, hk1, hl3, hk3, unhide HN, unhide H1, unhide H2, unhide H3, unhide HB⟩
end Go.Proofs.YtkolflcjkofleaaDoor

namespace Go.Proofs.YtkolflcjkofleaaDoor
open Go.ChangeShapes Go.WideShapes Go.ChangeAt Go.RowKit
set_option linter.unusedVariables false
set_option maxRecDepth 8000

/-- What is known of a list of texts that came in. -/
structure IsU (W : World) (a : Option Addr) (len : Nat) (L : List ByteArray) : Prop where
  hlen : L.length = len
  max : len ≤ 9223372036854775807
  each : ∀ i, i < len → (tAtS L i).size ≤ 9223372036854775807
  rd : RdU W a L
section
variable {H : Type} {enc : TypeId × Value → H} {W : World} {b0 base : Nat} {spare : TypeId → Bool} {held : Bool}
theorem open_strs {r : Reach} {v : Value} {d : DataW H} {p : List MemPlace} (hv : Value.okWide Tryd.prog W r b0 31 v) (h : DataW.Trod enc Tryd.prog W base spare held 31 v d p) : ∃ a len cap L, v = .slice a len cap ∧ IsU W a len L := by
  obtain ⟨a, len, cap, rfl⟩ := okWide_slice Tryd.underlying31 hv
  obtain ⟨fuel, hf⟩ := h
  rcases open_strings Tryd.underlying31 Tryd.underlying9 (by kernel_rfl) hf with ⟨hcs, _⟩ | ⟨x, l, c, ss, hcs, _, hl, hm, hz, _, hcell, hsz⟩
  · simp [Value.cells] at hcs
    obtain ⟨rfl, rfl, rfl⟩ := hcs
    exact ⟨none, 0, 0, [], rfl, rfl, by omega, fun i hi => by omega, .inl rfl⟩
  · simp [Value.cells] at hcs
    obtain ⟨rfl, rfl, rfl⟩ := hcs
    have hlz : len ≤ ss.length := by rw [hz]; split <;> omega
    have hL : (ss.take len).length = len := by simp; omega
    have hat : ∀ i, i < len → tAtS (ss.take len) i = ss.getD i ByteArray.empty := fun i hi => by
      unfold tAtS
      rw [List.getD_eq_getElem?_getD, List.getElem?_take_of_lt hi, List.getElem?_eq_getElem (by omega), List.getD_eq_getElem?_getD, List.getElem?_eq_getElem (by omega)]
      rfl
    have hmem : ∀ i, i < len → (ss.getD i ByteArray.empty).size ≤ maxLen := fun i hi => by
      rw [List.getD_eq_getElem?_getD, List.getElem?_eq_getElem (by omega)]
      exact hsz _ (List.getElem_mem _)
    refine ⟨some x, len, cap, ss.take len, rfl, hL, by unfold maxLen at hm; omega, fun i hi => by rw [hat i hi]; have := hmem i hi; unfold maxLen at this; omega, ?_⟩
    by_cases h0 : len = 0
    · subst h0; exact .inl (by simp)
    · right
      obtain ⟨b, off, spot⟩ := x
      have h00 := hcell 0 (by omega)
      have hspot : spot = none := by simpa [Addr.add] using World.cell?_spot h00
      subst hspot
      have hadd : ∀ j, (⟨b, off, none⟩ : Addr).add j = ⟨b, off + j, none⟩ := fun j => by
        unfold Addr.add
        by_cases hj : j = 0
        · subst hj; simp
        · simp [hj]
      refine ⟨b, off, rfl, World.block_lt_of_cell? W _ h00, fun i hi => ?_⟩
      rw [hL] at hi
      rw [hat i hi]
      have h3 := hcell i (by omega)
      rw [hadd] at h3
      exact h3
theorem open_exs {r : Reach} {v : Value} {d : DataW H} {p : List MemPlace} (hv : Value.okWide Tryd.prog W r b0 42 v) (h : DataW.Trod enc Tryd.prog W base spare held 42 v d p) : ∃ (e : Ex) (b : Option Addr) (cap : Nat), v = .slice b e.l.length cap ∧ RdX W 0 e b ∧ Fit e := by
  obtain ⟨a0, len, cap, rfl⟩ := okWide_slice Tryd.underlying42 hv
  obtain ⟨fuel, hf⟩ := h
  have hc : Tryd.prog.cellsOf 44 = 4 := by kernel_rfl
  rcases DataW.trod_slice Tryd.underlying42 hf with ⟨hcs, _⟩ | ⟨a, l0, c0, elems, rest, q, hq, hcs, _, hb, hl, hm, hel, hx, _, _⟩
  · simp [Value.cells] at hcs
    obtain ⟨rfl, rfl, rfl⟩ := hcs
    exact ⟨⟨0, 0, E0, []⟩, none, 0, rfl, (RdX_eq _ _ _ _).2 (.inl rfl), (Fit_eq _).2 ⟨by decide, by simp, fun i hi => by simp at hi⟩⟩
  · simp [Value.cells] at hcs
    obtain ⟨rfl, rfl, rfl⟩ := hcs
    have each : ∀ i, i < len → ∃ t : Ex, (W.cell? (a.add (i * 4)) = some (.int .i64 t.k) ∧ W.cell? (a.add (i * 4 + 1)) = some (.int .i64 t.n) ∧ W.cell? (a.add (i * 4 + 2)) = some (.string t.s) ∧ ∃ c cap, W.cell? (a.add (i * 4 + 3)) = some (.slice c t.l.length cap) ∧ RdX W 0 t c) ∧ Fit t := fun i hi => by
      have h4 := hx i hi
      rw [List.getElem?_eq_getElem (by omega), Option.bind_eq_some_iff] at h4
      obtain ⟨cs', p1, p2⟩ := h4
      rw [hc] at p1
      obtain ⟨_, hlen', hcell⟩ := World.cells?_some p1
      obtain ⟨t, c, cap', hcs', hrd, hft⟩ := trod_ex _ cs' _ p2
      refine ⟨t, ⟨?_, ?_, ?_, c, cap', ?_, hrd⟩, hft⟩
      · have e := hcell 0 (by omega); rw [_root_.Go.Deep.add_add, hcs'] at e; simpa using e
      · have e := hcell 1 (by omega); rw [_root_.Go.Deep.add_add, hcs'] at e; simpa using e
      · have e := hcell 2 (by omega); rw [_root_.Go.Deep.add_add, hcs'] at e; simpa using e
      · have e := hcell 3 (by omega); rw [_root_.Go.Deep.add_add, hcs'] at e; simpa using e
    obtain ⟨T, hT⟩ := @_root_.Go.Deep.choose_lt Ex ⟨X0⟩ _ _ each
    have hL : ((List.range len).map T).length = len := by simp
    have hat : ∀ i, i < len → xAt ((List.range len).map T) i = T i := fun i hi => by
      unfold xAt
      rw [List.getD_eq_getElem?_getD, List.getElem?_map, List.getElem?_range hi]
      rfl
    refine ⟨⟨0, 0, E0, (List.range len).map T⟩, some a, cap, by simp [hL], (RdX_eq _ _ _ _).2 ?_, (Fit_eq _).2 ⟨show E0.size ≤ 9223372036854775807 by decide, ?_, fun i hi => ?_⟩⟩
    · by_cases h0 : len = 0
      · subst h0; exact .inl rfl
      · right
        obtain ⟨b, off, spot⟩ := a
        have h00 := (hT 0 (by omega)).1.1
        have hspot : spot = none := by simpa [Addr.add] using World.cell?_spot h00
        subst hspot
        have hadd : ∀ j, (⟨b, off, none⟩ : Addr).add j = ⟨b, off + j, none⟩ := fun j => by
          unfold Addr.add
          by_cases hj : j = 0
          · subst hj; simp
          · simp [hj]
        refine ⟨b, off, rfl, Nat.zero_le _, World.block_lt_of_cell? W _ h00, fun i hi => ?_⟩
        have hi : i < len := by simpa using hi
        show OneX W 0 b (off + i * 4) (xAt ((List.range len).map T) i)
        rw [hat i hi]
        have h3 := (hT i hi).1
        rw [hadd, hadd, hadd, hadd] at h3
        exact h3
    · show ((List.range len).map T).length ≤ _
      rw [hL]; unfold maxLen at hm; omega
    · have hi : i < len := by simpa using hi
      show Fit (xAt ((List.range len).map T) i)
      rw [hat i hi]
      exact (hT i hi).2
end
end Go.Proofs.YtkolflcjkofleaaDoor

namespace Go.Proofs.YtkolflcjkofleaaDoor
open Go.ChangeShapes Go.WideShapes Go.ChangeAt Go.RowKit
set_option linter.unusedVariables false
set_option maxRecDepth 8000

theorem rdn_of_row {w : World} {a : Option Addr} {len cap : Nat} {zs : List Int} (h : IsRow .i64 w a len cap zs) : ∃ xs : List Int, xs.length = len ∧ len ≤ 9223372036854775807 ∧ RdN w a xs := by
  rcases h with ⟨rfl, rfl, rfl, rfl⟩ | ⟨x, rfl, hl, hm, hz, hc, hw⟩
  · exact ⟨[], rfl, by omega, .inl rfl⟩
  · have hL : (zs.take len).length = len := by simp; omega
    refine ⟨zs.take len, hL, by unfold maxLen at hm; omega, ?_⟩
    by_cases h0 : len = 0
    · subst h0; exact .inl (by simp)
    · right
      obtain ⟨b, off, spot⟩ := x
      have h00 := hc 0 (by omega)
      have hspot : spot = none := by simpa [Addr.add] using World.cell?_spot h00
      subst hspot
      have hadd : ∀ j, (⟨b, off, none⟩ : Addr).add j = ⟨b, off + j, none⟩ := fun j => by
        unfold Addr.add
        by_cases hj : j = 0
        · subst hj; simp
        · simp [hj]
      refine ⟨b, off, rfl, World.block_lt_of_cell? w _ h00, fun i hi => ?_⟩
      rw [hL] at hi
      have h3 := hc i (by omega)
      rw [hadd] at h3
      rw [h3]
      unfold nAt
      rw [List.getD_eq_getElem?_getD, List.getD_eq_getElem?_getD, List.getElem?_take_of_lt hi]
theorem rdu_of_own {w : World} {B g cap : Nat} {L : List ByteArray} (h : OwnS w B (.slice (some ⟨g, 0, none⟩) L.length cap) L) : RdU w (some ⟨g, 0, none⟩) L := by
  by_cases h0 : L = []
  · exact .inl h0
  · refine .inr ⟨g, 0, rfl, (World.ownsRow.lt h g rfl).2, fun i hi => ?_⟩
    have := h.cells i hi
    rw [Nat.zero_add]
    exact this
theorem own_n {w : World} {B g n cap : Nat} {xs : List Int} (h : OwnN w B (.slice (some ⟨g, 0, none⟩) n cap) xs) : g < w.heap.size ∧ ∀ i, i < xs.length → w.cell? ⟨g, i, none⟩ = some (.int .i64 (nAt xs i)) := by
  refine ⟨(h.lt (g := g) rfl).2, fun i hi => ?_⟩
  rcases h.rd1 with rfl | ⟨b, off, e, hb, hc⟩
  · simp at hi
  · cases e
    have := hc i hi
    rw [Nat.zero_add] at this
    exact this
theorem ev_of {w : World} {B1 B2 B3 gb gn gv n1 c1 c2 n3 c3 : Nat} {bs vs : List Int} {L : List ByteArray} (h1 : OwnN w B1 (.slice (some ⟨gb, 0, none⟩) n1 c1) bs) (h2 : OwnS w B2 (.slice (some ⟨gn, 0, none⟩) L.length c2) L) (h3 : OwnN w B3 (.slice (some ⟨gv, 0, none⟩) n3 c3) vs) : Ev w gb gn gv bs L vs :=
  ⟨(own_n h1).2, h2.cells, (own_n h3).2, (own_n h1).1, (World.ownsRow.lt h2 gn rfl).2, (own_n h3).1⟩
theorem OwnS.later {w w' : World} {B g n cap : Nat} {L : List ByteArray} (h : OwnS w B (.slice (some ⟨g, 0, none⟩) n cap) L) (hb : Below w.heap.size w w') : OwnS w' B (.slice (some ⟨g, 0, none⟩) n cap) L := by
  obtain ⟨h1, h2⟩ := h
  refine ⟨h1, ?_⟩
  rcases h2 with h2 | ⟨g', cap', cur, e, q1, q2, q3⟩
  · exact .inl h2
  · cases e
    exact .inr ⟨g, cap, cur, rfl, q1, (hb.block _ (Array.getElem?_eq_some_iff.1 q2).1).trans q2, q3⟩
end Go.Proofs.YtkolflcjkofleaaDoor

namespace Go.Proofs.YtkolflcjkofleaaDoor
open Go.ChangeShapes Go.WideShapes Go.ChangeAt Go.RowKit
set_option linter.unusedVariables false
set_option maxRecDepth 8000
set_option linter.unusedSimpArgs false

set_option maxHeartbeats 1000000 in
theorem atL_any (a : Option Addr) (len cap i : Nat) (xs : List UInt8) (w : World) (hl : xs.length = len) (hm : len ≤ 1048576) (hi : i ≤ 1048576) (hr : Rd w a xs) : Calls Tryd.prog 13 #[.slice a len cap, .int .i64 (i : Nat)] w fun r w' => (∃ n : Nat, n ≤ 255 ∧ r = .returned (.int .i64 (n : Nat))) ∧ w' = w := by
  by_cases h : i < len
  · rcases hr with rfl | ⟨b, off, rfl, hb, hc⟩
    · simp at hl; omega
    have hcx := hc i (by omega)
    have h1 : (i : Int) < (len : Int) := by omega
    have h2 : ¬ ((len : Int) ≤ (i : Int)) := by omega
    obtain ⟨n, hn, hn2⟩ : ∃ n : Nat, bAt xs i = (n : Int) ∧ n ≤ 255 := by
      unfold bAt
      exact ⟨_, rfl, by have := (xs.getD i 0).toNat_lt; omega⟩
    rw [hn] at hcx
    clear hc
    go_enter Tryd.func13, Tryd.ntmps13
    go_wp2
    (first | go_ret2 | go_ret | skip)
    exact ⟨⟨n, hn2, by first | rfl | (congr 2; omega)⟩, rfl⟩
  · have h1 : ¬ ((i : Int) < (len : Int)) := by omega
    have h2 : (len : Int) ≤ (i : Int) := by omega
    go_enter Tryd.func13, Tryd.ntmps13
    go_wp2
    (first | go_ret2 | go_ret | skip)
    have e : (((i * 31 + len * 7) % 256 : Nat) : Int) = ((i : Int) * 31 + (len : Int) * 7) % 256 := by omega
    exact ⟨⟨(i * 31 + len * 7) % 256, by omega, by rw [e]; rfl⟩, rfl⟩
theorem foldA_ok (e : Ex) : okF 6 false (foldA e) = okF 6 false e := by
  unfold foldA
  split
  · rename_i h; rw [h]; exact fold_ok 6 e h
  · rfl
theorem foldA_twice (e : Ex) : foldA (foldA e) = foldA e := by
  by_cases h : okF 6 false e = true
  · have e1 : foldA e = foldX e := by unfold foldA; rw [if_pos h]
    rw [e1]
    unfold foldA
    rw [if_pos (fold_ok 6 e h)]
    exact fold_twice h
  · have e1 : foldA e = e := by unfold foldA; rw [if_neg h]
    rw [e1, e1]
theorem foldA_worth (bs : List Int) (L : List ByteArray) (vs : List Int) (e : Ex) {v : Int} (h : worthA bs L vs e = some v) : worthA bs L vs (foldA e) = some v := by
  unfold worthA at h ⊢
  by_cases ho : okF 6 false e = true
  · rw [if_pos ho] at h
    have e1 : foldA e = foldX e := by unfold foldA; rw [if_pos ho]
    rw [e1, if_pos (fold_ok 6 e ho)]
    exact fold_worth (seW_in bs) (glW_in L vs) 6 e v ho h
  · rw [if_neg ho] at h
    cases h
theorem known_worth (bs : List Int) (L : List ByteArray) (vs : List Int) (e : Ex) {n v : Int} (hk : knownA e = some n) (hw : worthA bs L vs e = some v) : v = n := by
  unfold knownA at hk
  by_cases h : okF 6 false e = true ∧ (foldX e).k = 1
  · rw [if_pos h] at hk
    unfold worthA at hw
    rw [if_pos h.1] at hw
    have hw2 := fold_worth (seW_in bs) (glW_in L vs) 6 e v h.1 hw
    obtain ⟨m, _, e1⟩ := ok_k1 (fold_ok 6 e h.1) h.2
    rw [e1] at hw2 hk
    rw [worth_num] at hw2
    cases hk
    cases hw2
    rfl
  · rw [if_neg h] at hk
    cases hk
theorem foldA_sz (e : Ex) (h : e.sz ≤ 1000) : (foldA e).sz ≤ 1000 := by
  unfold foldA
  split
  · rename_i ho
    have : ∀ (d : Nat) (x : Ex), okF d false x = true → x.sz ≤ (2 ^ d - 1) * 8 := by
      intro d
      induction d with
      | zero => intro x h; cases h
      | succ d ih =>
        intro x h
        have hE : (E0 : ByteArray).size = 0 := rfl
        have hp : 2 ^ (d + 1) = 2 * 2 ^ d := by rw [Nat.pow_succ]; omega
        have h1 : 1 ≤ 2 ^ d := Nat.one_le_two_pow
        rcases ok_sev h with ⟨n, hn, rfl⟩ | ⟨s, hs, rfl⟩ | rfl | ⟨n, hn, rfl⟩ | ⟨s, hs, rfl⟩ | ⟨a, ha, rfl⟩ | ⟨k, a, b, hk, ha, hb, rfl⟩
        · rw [sz_leaf, hE]; omega
        · rw [sz_leaf]; have := name_szF hs; omega
        · rw [sz_leaf, hE]; omega
        · rw [sz_leaf, hE]; omega
        · rw [sz_leaf]; have := name_szF hs; omega
        · rw [show E0 = (⟨#[]⟩ : ByteArray) from rfl, sz_one]; have := ih a ha; omega
        · rw [show E0 = (⟨#[]⟩ : ByteArray) from rfl, sz_two]; have := ih a ha; have := ih b hb; omega
    have h2 := this 6 (foldX e) (fold_ok 6 e ho)
    have : (2 ^ 6 - 1) * 8 = 504 := by decide
    omega
  · exact h
theorem rdu_lit (w : World) : RdU (w.alloc (.cells #[.string ⟨#[103]⟩, .string ⟨#[104]⟩] 9)) (some ⟨w.heap.size, 0, none⟩) [⟨#[103]⟩, ⟨#[104]⟩] := by
  have h : (w.alloc (.cells #[.string ⟨#[103]⟩, .string ⟨#[104]⟩] 9)).heap[w.heap.size]? = some (.cells #[.string ⟨#[103]⟩, .string ⟨#[104]⟩] 9 (0, 0)) := Array.getElem?_push_size
  refine .inr ⟨w.heap.size, 0, rfl, (Array.getElem?_eq_some_iff.1 h).1, fun i hi => ?_⟩
  have hi : i < 2 := hi
  have : i = 0 ∨ i = 1 := by omega
  rcases this with rfl | rfl
  · exact Lib.cell_of_heap h _
  · exact Lib.cell_of_heap h _
end Go.Proofs.YtkolflcjkofleaaDoor

namespace Go.Proofs.YtkolflcjkofleaaDoor
open Go.ChangeShapes Go.WideShapes Go.ChangeAt Go.RowKit
set_option linter.unusedVariables false
set_option maxRecDepth 8000

theorem cloneI_any (s : ByteArray) (w : World) (hlim : s.size ≤ 1099511627776) : Calls Tryd.prog 69 #[.string s] w fun e w' => e = .returned (.string s) ∧ Below w.heap.size w w' := by
  have H := hide (clone_any s w (by omega))
  go_enter Tryd.func69, Tryd.ntmps69
  go_wp2_with fail
  refine (unhide H).mono ?_
  rintro e w1 ⟨rfl, hb1⟩
  go_wp2
  go_ret
  exact ⟨rfl, hb1⟩
theorem num_dec (x : ByteArray) : (∃ m, m < 65536 ∧ x = strOf (octD m)) ∨ ∀ m, m < 65536 → x ≠ strOf (octD m) := by
  cases h : numV x with
  | some m => exact .inl ⟨m, numV_bd h⟩
  | none => exact .inr fun m hm e => by rw [numV_yes hm e] at h; cases h
end Go.Proofs.YtkolflcjkofleaaDoor

namespace Go.Proofs.YtkolflcjkofleaaDoor
open Go.ChangeShapes Go.WideShapes Go.ChangeAt Go.RowKit
set_option linter.unusedVariables false
set_option maxRecDepth 8000
set_option linter.unusedSimpArgs false

/-- The type of a kind of those of two. -/
def pairT (k : Int) : TypeId := if k = 5 then 134 else if k = 6 then 135 else if k = 7 then 136 else if k = 8 then 137 else if k = 9 then 138 else 139
/-- A term's value in the program, by the values of its parts. -/
def tvC (k n : Int) (s : ByteArray) (vs : List Value) : Value :=
  if k = 1 then .iface 88 (.agg #[.int .i64 n]) else if k = 2 then .iface 117 (.agg #[.string s]) else if k = 3 then .iface 130 (.agg #[])
  else if k = 4 then .iface 104 (.agg vs.toArray) else if k = 11 then .iface 115 (.agg #[.int .i64 n]) else if k = 12 then .iface 118 (.agg #[.string s]) else .iface (pairT k) (.agg vs.toArray)
def tv : Ex → Value
  | ⟨k, n, s, l⟩ => tvC k n s (l.map tv)
theorem tv_num (n : Int) (s : ByteArray) : tv ⟨1, n, s, []⟩ = .iface 88 (.agg #[.int .i64 n]) := by rw [tv]; rfl
theorem tv_sym (n : Int) (s : ByteArray) : tv ⟨2, n, s, []⟩ = .iface 117 (.agg #[.string s]) := by rw [tv]; rfl
theorem tv_here (n : Int) (s : ByteArray) : tv ⟨3, n, s, []⟩ = .iface 130 (.agg #[]) := by rw [tv]; rfl
theorem tv_neg (n : Int) (s : ByteArray) (a : Ex) : tv ⟨4, n, s, [a]⟩ = .iface 104 (.agg #[tv a]) := by rw [tv]; rfl
theorem tv_sect (n : Int) (s : ByteArray) : tv ⟨11, n, s, []⟩ = .iface 115 (.agg #[.int .i64 n]) := by rw [tv]; rfl
theorem tv_glob (n : Int) (s : ByteArray) : tv ⟨12, n, s, []⟩ = .iface 118 (.agg #[.string s]) := by rw [tv]; rfl
theorem tv_two {k : Int} (hk : 5 ≤ k ∧ k ≤ 10) (n : Int) (s : ByteArray) (a b : Ex) : tv ⟨k, n, s, [a, b]⟩ = .iface (pairT k) (.agg #[tv a, tv b]) := by
  rw [tv]
  unfold tvC
  rw [if_neg (by omega), if_neg (by omega), if_neg (by omega), if_neg (by omega), if_neg (by omega), if_neg (by omega)]
  rfl
/-- What leafOf answers. -/
def LeafR (k n : Int) (s : ByteArray) (w : World) (r : Ending) (w' : World) : Prop := ∃ v, r = .returned (.tuple #[v, .bool (hereV k n s 0)]) ∧ (hereV k n s 0 = true → v = tvC k n s []) ∧ Below w.heap.size w w'
def LeafG (k n : Int) (s : ByteArray) : Prop := ∀ (b : Option Addr) (ll cap : Nat) (w : World), TabK w → Calls Tryd.prog 67 #[.agg #[.int .i64 k, .int .i64 n, .string s, .slice b ll cap]] w (LeafR k n s w)
theorem nil_val {r : Ending} {k n : Int} {s : ByteArray} {w w' : World} {v : Value} {q : Bool} (h : hereV k n s 0 = q) (hr : r = .returned (.tuple #[v, .bool q])) (hv : q = true → v = tvC k n s []) (hb : Below w.heap.size w w') : LeafR k n s w r w' := ⟨v, by rw [h]; exact hr, fun e => hv (by rw [← h]; exact e), hb⟩
set_option maxHeartbeats 2000000 in
theorem leaf1_0 (n : Int) (s : ByteArray) : LeafG 1 n ⟨#[]⟩ := by
  intro b ll cap w ht
  obtain ⟨W, hW⟩ : ∃ W, w.alloc (.cells #[.int .i64 1, .int .i64 n, .string ⟨#[]⟩, .slice b ll cap] 26) = W := ⟨_, rfl⟩
  have B0 := hide (below_new w (.cells #[.int .i64 1, .int .i64 n, .string ⟨#[]⟩, .slice b ll cap] 26))
  have hg : W.heap[w.heap.size]? = some (.cells #[.int .i64 1, .int .i64 n, .string ⟨#[]⟩, .slice b ll cap] 26 (0, 0)) := by rw [← hW]; exact Array.getElem?_push_size
  rw [hW] at B0
  have x0 := Lib.cell_of_heap hg 0
  have x1 := Lib.cell_of_heap hg 1
  have x2 := Lib.cell_of_heap hg 2
  have xl : w.heap.size < W.heap.size := (Array.getElem?_eq_some_iff.1 hg).1
  have y0 : ∀ y : Sub W.heap.size W, y.w.cell? ⟨w.heap.size, 0, none⟩ = some (.int .i64 1) := fun y => (y.h.cell (p := ⟨w.heap.size, _, none⟩) xl).trans x0
  have y1 : ∀ y : Sub W.heap.size W, y.w.cell? ⟨w.heap.size, 1, none⟩ = some (.int .i64 n) := fun y => (y.h.cell (p := ⟨w.heap.size, _, none⟩) xl).trans x1
  have y2 : ∀ y : Sub W.heap.size W, y.w.cell? ⟨w.heap.size, 2, none⟩ = some (.string ⟨#[]⟩) := fun y => (y.h.cell (p := ⟨w.heap.size, _, none⟩) xl).trans x2
  have ne := Sub.ne W.heap.size W
  have HZ := hide (Nat.le_refl W.heap.size)
  have TB := hide (fun y : Sub W.heap.size W => (ht.next (unhide B0)).next y.h)
  have HB := hide (fun y : Sub W.heap.size W => (unhide B0).trans (y.h.mono (unhide B0).size))
  clear hg xl ht
  have V := hide (show hereV 1 n ⟨#[]⟩ 0 = inB n 0 65535 by simp [hereV, Ex.here, eqE, eqE1, *])
  have FN := hide (fun r w' (v : Value) => nil_val (r := r) (w := w) (w' := w') (v := v) (unhide V))
  have Q := hide (fun y : Sub W.heap.size W => isWord_any n y.w)
  generalize inB n 0 65535 = q at *
  generalize LeafR 1 n ⟨#[]⟩ w = R at *
  cases q <;> (go_enter Tryd.func67, Tryd.ntmps67; go_wp2_with fail; refine wp_region_sub (⟨W, Below.refl _ _⟩ : Sub W.heap.size W) (by kernel_rfl) (by kernel_rfl) ?_; (repeat (go_big_quiet_step (first | (go_at_call 85; exact Sub.same (unhide Q _))))); refine wpQuiet_nil ?_; intro y; go_wp2; (try go_ret2); exact unhide FN _ _ _ rfl (fun h => by first | rfl | cases h) (unhide HB _))
set_option maxHeartbeats 2000000 in
theorem leaf1_s (n : Int) (s : ByteArray) (h : s ≠ E0) : LeafG 1 n s := by
  intro b ll cap w ht
  obtain ⟨W, hW⟩ : ∃ W, w.alloc (.cells #[.int .i64 1, .int .i64 n, .string s, .slice b ll cap] 26) = W := ⟨_, rfl⟩
  have B0 := hide (below_new w (.cells #[.int .i64 1, .int .i64 n, .string s, .slice b ll cap] 26))
  have hg : W.heap[w.heap.size]? = some (.cells #[.int .i64 1, .int .i64 n, .string s, .slice b ll cap] 26 (0, 0)) := by rw [← hW]; exact Array.getElem?_push_size
  rw [hW] at B0
  have x0 := Lib.cell_of_heap hg 0
  have x1 := Lib.cell_of_heap hg 1
  have x2 := Lib.cell_of_heap hg 2
  have xl : w.heap.size < W.heap.size := (Array.getElem?_eq_some_iff.1 hg).1
  have y0 : ∀ y : Sub W.heap.size W, y.w.cell? ⟨w.heap.size, 0, none⟩ = some (.int .i64 1) := fun y => (y.h.cell (p := ⟨w.heap.size, _, none⟩) xl).trans x0
  have y1 : ∀ y : Sub W.heap.size W, y.w.cell? ⟨w.heap.size, 1, none⟩ = some (.int .i64 n) := fun y => (y.h.cell (p := ⟨w.heap.size, _, none⟩) xl).trans x1
  have y2 : ∀ y : Sub W.heap.size W, y.w.cell? ⟨w.heap.size, 2, none⟩ = some (.string s) := fun y => (y.h.cell (p := ⟨w.heap.size, _, none⟩) xl).trans x2
  have ne := Sub.ne W.heap.size W
  have HZ := hide (Nat.le_refl W.heap.size)
  have TB := hide (fun y : Sub W.heap.size W => (ht.next (unhide B0)).next y.h)
  have HB := hide (fun y : Sub W.heap.size W => (unhide B0).trans (y.h.mono (unhide B0).size))
  clear hg xl ht
  obtain ⟨h1, h2⟩ := emp_E s h
  have V := hide (show hereV 1 n s 0 = false by simp [hereV, Ex.here, eqE, eqE1, *])
  have FN := hide (fun r w' (v : Value) => nil_val (r := r) (w := w) (w' := w') (v := v) (unhide V))
  have Q := hide (fun y : Sub W.heap.size W => isWord_any n y.w)
  generalize inB n 0 65535 = q at *
  generalize LeafR 1 n s w = R at *
  cases q <;> (go_enter Tryd.func67, Tryd.ntmps67; go_wp2_with fail; refine wp_region_sub (⟨W, Below.refl _ _⟩ : Sub W.heap.size W) (by kernel_rfl) (by kernel_rfl) ?_; (repeat (go_big_quiet_step (first | (go_at_call 85; exact Sub.same (unhide Q _))))); refine wpQuiet_nil ?_; intro y; go_wp2; (try go_ret2); exact unhide FN _ _ _ rfl (fun h => by first | rfl | cases h) (unhide HB _))
set_option maxHeartbeats 2000000 in
theorem leaf2_0 (n : Int) (s : ByteArray) (hs : s.size ≤ 1099511627776) : LeafG 2 0 s := by
  intro b ll cap w ht
  obtain ⟨W, hW⟩ : ∃ W, w.alloc (.cells #[.int .i64 2, .int .i64 0, .string s, .slice b ll cap] 26) = W := ⟨_, rfl⟩
  have B0 := hide (below_new w (.cells #[.int .i64 2, .int .i64 0, .string s, .slice b ll cap] 26))
  have hg : W.heap[w.heap.size]? = some (.cells #[.int .i64 2, .int .i64 0, .string s, .slice b ll cap] 26 (0, 0)) := by rw [← hW]; exact Array.getElem?_push_size
  rw [hW] at B0
  have x0 := Lib.cell_of_heap hg 0
  have x1 := Lib.cell_of_heap hg 1
  have x2 := Lib.cell_of_heap hg 2
  have xl : w.heap.size < W.heap.size := (Array.getElem?_eq_some_iff.1 hg).1
  have y0 : ∀ y : Sub W.heap.size W, y.w.cell? ⟨w.heap.size, 0, none⟩ = some (.int .i64 2) := fun y => (y.h.cell (p := ⟨w.heap.size, _, none⟩) xl).trans x0
  have y1 : ∀ y : Sub W.heap.size W, y.w.cell? ⟨w.heap.size, 1, none⟩ = some (.int .i64 0) := fun y => (y.h.cell (p := ⟨w.heap.size, _, none⟩) xl).trans x1
  have y2 : ∀ y : Sub W.heap.size W, y.w.cell? ⟨w.heap.size, 2, none⟩ = some (.string s) := fun y => (y.h.cell (p := ⟨w.heap.size, _, none⟩) xl).trans x2
  have ne := Sub.ne W.heap.size W
  have HZ := hide (Nat.le_refl W.heap.size)
  have TB := hide (fun y : Sub W.heap.size W => (ht.next (unhide B0)).next y.h)
  have HB := hide (fun y : Sub W.heap.size W => (unhide B0).trans (y.h.mono (unhide B0).size))
  clear hg xl ht
  have V := hide (show hereV 2 0 s 0 = nameB s by simp [hereV, Ex.here, eqE, eqE1, *])
  have FN := hide (fun r w' (v : Value) => nil_val (r := r) (w := w) (w' := w') (v := v) (unhide V))
  have Q := hide (fun y : Sub W.heap.size W => nameI_any s y.w hs (unhide TB y))
  generalize nameB s = q at *
  generalize LeafR 2 0 s w = R at *
  cases q <;> (go_enter Tryd.func67, Tryd.ntmps67; go_wp2_with fail; refine wp_region_sub (⟨W, Below.refl _ _⟩ : Sub W.heap.size W) (by kernel_rfl) (by kernel_rfl) ?_; (repeat (go_big_quiet_step (first | (go_at_call 86; exact Sub.same (unhide Q _))))); refine wpQuiet_nil ?_; intro y; go_wp2; (try go_ret2); exact unhide FN _ _ _ rfl (fun h => by first | rfl | cases h) (unhide HB _))
set_option maxHeartbeats 2000000 in
theorem leaf2_n (n : Int) (s : ByteArray) (h : n ≠ 0) (hs : s.size ≤ 1099511627776) : LeafG 2 n s := by
  intro b ll cap w ht
  obtain ⟨W, hW⟩ : ∃ W, w.alloc (.cells #[.int .i64 2, .int .i64 n, .string s, .slice b ll cap] 26) = W := ⟨_, rfl⟩
  have B0 := hide (below_new w (.cells #[.int .i64 2, .int .i64 n, .string s, .slice b ll cap] 26))
  have hg : W.heap[w.heap.size]? = some (.cells #[.int .i64 2, .int .i64 n, .string s, .slice b ll cap] 26 (0, 0)) := by rw [← hW]; exact Array.getElem?_push_size
  rw [hW] at B0
  have x0 := Lib.cell_of_heap hg 0
  have x1 := Lib.cell_of_heap hg 1
  have x2 := Lib.cell_of_heap hg 2
  have xl : w.heap.size < W.heap.size := (Array.getElem?_eq_some_iff.1 hg).1
  have y0 : ∀ y : Sub W.heap.size W, y.w.cell? ⟨w.heap.size, 0, none⟩ = some (.int .i64 2) := fun y => (y.h.cell (p := ⟨w.heap.size, _, none⟩) xl).trans x0
  have y1 : ∀ y : Sub W.heap.size W, y.w.cell? ⟨w.heap.size, 1, none⟩ = some (.int .i64 n) := fun y => (y.h.cell (p := ⟨w.heap.size, _, none⟩) xl).trans x1
  have y2 : ∀ y : Sub W.heap.size W, y.w.cell? ⟨w.heap.size, 2, none⟩ = some (.string s) := fun y => (y.h.cell (p := ⟨w.heap.size, _, none⟩) xl).trans x2
  have ne := Sub.ne W.heap.size W
  have HZ := hide (Nat.le_refl W.heap.size)
  have TB := hide (fun y : Sub W.heap.size W => (ht.next (unhide B0)).next y.h)
  have HB := hide (fun y : Sub W.heap.size W => (unhide B0).trans (y.h.mono (unhide B0).size))
  clear hg xl ht
  have hn : (n == 0) = false := beq_eq_false_iff_ne.2 h
  have V := hide (show hereV 2 n s 0 = false by simp [hereV, Ex.here, eqE, eqE1, *])
  have FN := hide (fun r w' (v : Value) => nil_val (r := r) (w := w) (w' := w') (v := v) (unhide V))
  have Q := hide (fun y : Sub W.heap.size W => nameI_any s y.w hs (unhide TB y))
  generalize nameB s = q at *
  generalize LeafR 2 n s w = R at *
  cases q <;> (go_enter Tryd.func67, Tryd.ntmps67; go_wp2_with fail; refine wp_region_sub (⟨W, Below.refl _ _⟩ : Sub W.heap.size W) (by kernel_rfl) (by kernel_rfl) ?_; (repeat (go_big_quiet_step (first | (go_at_call 86; exact Sub.same (unhide Q _))))); refine wpQuiet_nil ?_; intro y; go_wp2; (try go_ret2); exact unhide FN _ _ _ rfl (fun h => by first | rfl | cases h) (unhide HB _))
set_option maxHeartbeats 2000000 in
theorem leaf12_0 (n : Int) (s : ByteArray) (hs : s.size ≤ 1099511627776) : LeafG 12 0 s := by
  intro b ll cap w ht
  obtain ⟨W, hW⟩ : ∃ W, w.alloc (.cells #[.int .i64 12, .int .i64 0, .string s, .slice b ll cap] 26) = W := ⟨_, rfl⟩
  have B0 := hide (below_new w (.cells #[.int .i64 12, .int .i64 0, .string s, .slice b ll cap] 26))
  have hg : W.heap[w.heap.size]? = some (.cells #[.int .i64 12, .int .i64 0, .string s, .slice b ll cap] 26 (0, 0)) := by rw [← hW]; exact Array.getElem?_push_size
  rw [hW] at B0
  have x0 := Lib.cell_of_heap hg 0
  have x1 := Lib.cell_of_heap hg 1
  have x2 := Lib.cell_of_heap hg 2
  have xl : w.heap.size < W.heap.size := (Array.getElem?_eq_some_iff.1 hg).1
  have y0 : ∀ y : Sub W.heap.size W, y.w.cell? ⟨w.heap.size, 0, none⟩ = some (.int .i64 12) := fun y => (y.h.cell (p := ⟨w.heap.size, _, none⟩) xl).trans x0
  have y1 : ∀ y : Sub W.heap.size W, y.w.cell? ⟨w.heap.size, 1, none⟩ = some (.int .i64 0) := fun y => (y.h.cell (p := ⟨w.heap.size, _, none⟩) xl).trans x1
  have y2 : ∀ y : Sub W.heap.size W, y.w.cell? ⟨w.heap.size, 2, none⟩ = some (.string s) := fun y => (y.h.cell (p := ⟨w.heap.size, _, none⟩) xl).trans x2
  have ne := Sub.ne W.heap.size W
  have HZ := hide (Nat.le_refl W.heap.size)
  have TB := hide (fun y : Sub W.heap.size W => (ht.next (unhide B0)).next y.h)
  have HB := hide (fun y : Sub W.heap.size W => (unhide B0).trans (y.h.mono (unhide B0).size))
  clear hg xl ht
  have V := hide (show hereV 12 0 s 0 = nameB s by simp [hereV, Ex.here, eqE, eqE1, *])
  have FN := hide (fun r w' (v : Value) => nil_val (r := r) (w := w) (w' := w') (v := v) (unhide V))
  have Q := hide (fun y : Sub W.heap.size W => nameI_any s y.w hs (unhide TB y))
  generalize nameB s = q at *
  generalize LeafR 12 0 s w = R at *
  cases q <;> (go_enter Tryd.func67, Tryd.ntmps67; go_wp2_with fail; refine wp_region_sub (⟨W, Below.refl _ _⟩ : Sub W.heap.size W) (by kernel_rfl) (by kernel_rfl) ?_; (repeat (go_big_quiet_step (first | (go_at_call 86; exact Sub.same (unhide Q _))))); refine wpQuiet_nil ?_; intro y; go_wp2; (try go_ret2); exact unhide FN _ _ _ rfl (fun h => by first | rfl | cases h) (unhide HB _))
set_option maxHeartbeats 2000000 in
theorem leaf12_n (n : Int) (s : ByteArray) (h : n ≠ 0) (hs : s.size ≤ 1099511627776) : LeafG 12 n s := by
  intro b ll cap w ht
  obtain ⟨W, hW⟩ : ∃ W, w.alloc (.cells #[.int .i64 12, .int .i64 n, .string s, .slice b ll cap] 26) = W := ⟨_, rfl⟩
  have B0 := hide (below_new w (.cells #[.int .i64 12, .int .i64 n, .string s, .slice b ll cap] 26))
  have hg : W.heap[w.heap.size]? = some (.cells #[.int .i64 12, .int .i64 n, .string s, .slice b ll cap] 26 (0, 0)) := by rw [← hW]; exact Array.getElem?_push_size
  rw [hW] at B0
  have x0 := Lib.cell_of_heap hg 0
  have x1 := Lib.cell_of_heap hg 1
  have x2 := Lib.cell_of_heap hg 2
  have xl : w.heap.size < W.heap.size := (Array.getElem?_eq_some_iff.1 hg).1
  have y0 : ∀ y : Sub W.heap.size W, y.w.cell? ⟨w.heap.size, 0, none⟩ = some (.int .i64 12) := fun y => (y.h.cell (p := ⟨w.heap.size, _, none⟩) xl).trans x0
  have y1 : ∀ y : Sub W.heap.size W, y.w.cell? ⟨w.heap.size, 1, none⟩ = some (.int .i64 n) := fun y => (y.h.cell (p := ⟨w.heap.size, _, none⟩) xl).trans x1
  have y2 : ∀ y : Sub W.heap.size W, y.w.cell? ⟨w.heap.size, 2, none⟩ = some (.string s) := fun y => (y.h.cell (p := ⟨w.heap.size, _, none⟩) xl).trans x2
  have ne := Sub.ne W.heap.size W
  have HZ := hide (Nat.le_refl W.heap.size)
  have TB := hide (fun y : Sub W.heap.size W => (ht.next (unhide B0)).next y.h)
  have HB := hide (fun y : Sub W.heap.size W => (unhide B0).trans (y.h.mono (unhide B0).size))
  clear hg xl ht
  have hn : (n == 0) = false := beq_eq_false_iff_ne.2 h
  have V := hide (show hereV 12 n s 0 = false by simp [hereV, Ex.here, eqE, eqE1, *])
  have FN := hide (fun r w' (v : Value) => nil_val (r := r) (w := w) (w' := w') (v := v) (unhide V))
  have Q := hide (fun y : Sub W.heap.size W => nameI_any s y.w hs (unhide TB y))
  generalize nameB s = q at *
  generalize LeafR 12 n s w = R at *
  cases q <;> (go_enter Tryd.func67, Tryd.ntmps67; go_wp2_with fail; refine wp_region_sub (⟨W, Below.refl _ _⟩ : Sub W.heap.size W) (by kernel_rfl) (by kernel_rfl) ?_; (repeat (go_big_quiet_step (first | (go_at_call 86; exact Sub.same (unhide Q _))))); refine wpQuiet_nil ?_; intro y; go_wp2; (try go_ret2); exact unhide FN _ _ _ rfl (fun h => by first | rfl | cases h) (unhide HB _))
set_option maxHeartbeats 2000000 in
theorem leaf3_0 (n : Int) (s : ByteArray) : LeafG 3 0 ⟨#[]⟩ := by
  intro b ll cap w ht
  obtain ⟨W, hW⟩ : ∃ W, w.alloc (.cells #[.int .i64 3, .int .i64 0, .string ⟨#[]⟩, .slice b ll cap] 26) = W := ⟨_, rfl⟩
  have B0 := hide (below_new w (.cells #[.int .i64 3, .int .i64 0, .string ⟨#[]⟩, .slice b ll cap] 26))
  have hg : W.heap[w.heap.size]? = some (.cells #[.int .i64 3, .int .i64 0, .string ⟨#[]⟩, .slice b ll cap] 26 (0, 0)) := by rw [← hW]; exact Array.getElem?_push_size
  rw [hW] at B0
  have x0 := Lib.cell_of_heap hg 0
  have x1 := Lib.cell_of_heap hg 1
  have x2 := Lib.cell_of_heap hg 2
  have xl : w.heap.size < W.heap.size := (Array.getElem?_eq_some_iff.1 hg).1
  have y0 : ∀ y : Sub W.heap.size W, y.w.cell? ⟨w.heap.size, 0, none⟩ = some (.int .i64 3) := fun y => (y.h.cell (p := ⟨w.heap.size, _, none⟩) xl).trans x0
  have y1 : ∀ y : Sub W.heap.size W, y.w.cell? ⟨w.heap.size, 1, none⟩ = some (.int .i64 0) := fun y => (y.h.cell (p := ⟨w.heap.size, _, none⟩) xl).trans x1
  have y2 : ∀ y : Sub W.heap.size W, y.w.cell? ⟨w.heap.size, 2, none⟩ = some (.string ⟨#[]⟩) := fun y => (y.h.cell (p := ⟨w.heap.size, _, none⟩) xl).trans x2
  have ne := Sub.ne W.heap.size W
  have HZ := hide (Nat.le_refl W.heap.size)
  have TB := hide (fun y : Sub W.heap.size W => (ht.next (unhide B0)).next y.h)
  have HB := hide (fun y : Sub W.heap.size W => (unhide B0).trans (y.h.mono (unhide B0).size))
  clear hg xl ht
  have V := hide (show hereV 3 0 ⟨#[]⟩ 0 = true by simp [hereV, Ex.here, eqE, eqE1, *])
  have FN := hide (fun r w' (v : Value) => nil_val (r := r) (w := w) (w' := w') (v := v) (unhide V))
  generalize LeafR 3 0 ⟨#[]⟩ w = R at *
  (go_enter Tryd.func67, Tryd.ntmps67; go_wp2_with fail; refine wp_region_sub (⟨W, Below.refl _ _⟩ : Sub W.heap.size W) (by kernel_rfl) (by kernel_rfl) ?_; (repeat (go_big_quiet_step (first | fail))); refine wpQuiet_nil ?_; intro y; go_wp2; (try go_ret2); exact unhide FN _ _ _ rfl (fun h => by first | rfl | cases h) (unhide HB _))
set_option maxHeartbeats 2000000 in
theorem leaf3_n (n : Int) (s : ByteArray) (h : n ≠ 0) : LeafG 3 n s := by
  intro b ll cap w ht
  obtain ⟨W, hW⟩ : ∃ W, w.alloc (.cells #[.int .i64 3, .int .i64 n, .string s, .slice b ll cap] 26) = W := ⟨_, rfl⟩
  have B0 := hide (below_new w (.cells #[.int .i64 3, .int .i64 n, .string s, .slice b ll cap] 26))
  have hg : W.heap[w.heap.size]? = some (.cells #[.int .i64 3, .int .i64 n, .string s, .slice b ll cap] 26 (0, 0)) := by rw [← hW]; exact Array.getElem?_push_size
  rw [hW] at B0
  have x0 := Lib.cell_of_heap hg 0
  have x1 := Lib.cell_of_heap hg 1
  have x2 := Lib.cell_of_heap hg 2
  have xl : w.heap.size < W.heap.size := (Array.getElem?_eq_some_iff.1 hg).1
  have y0 : ∀ y : Sub W.heap.size W, y.w.cell? ⟨w.heap.size, 0, none⟩ = some (.int .i64 3) := fun y => (y.h.cell (p := ⟨w.heap.size, _, none⟩) xl).trans x0
  have y1 : ∀ y : Sub W.heap.size W, y.w.cell? ⟨w.heap.size, 1, none⟩ = some (.int .i64 n) := fun y => (y.h.cell (p := ⟨w.heap.size, _, none⟩) xl).trans x1
  have y2 : ∀ y : Sub W.heap.size W, y.w.cell? ⟨w.heap.size, 2, none⟩ = some (.string s) := fun y => (y.h.cell (p := ⟨w.heap.size, _, none⟩) xl).trans x2
  have ne := Sub.ne W.heap.size W
  have HZ := hide (Nat.le_refl W.heap.size)
  have TB := hide (fun y : Sub W.heap.size W => (ht.next (unhide B0)).next y.h)
  have HB := hide (fun y : Sub W.heap.size W => (unhide B0).trans (y.h.mono (unhide B0).size))
  clear hg xl ht
  have hn : (n == 0) = false := beq_eq_false_iff_ne.2 h
  have V := hide (show hereV 3 n s 0 = false by simp [hereV, Ex.here, eqE, eqE1, *])
  have FN := hide (fun r w' (v : Value) => nil_val (r := r) (w := w) (w' := w') (v := v) (unhide V))
  generalize LeafR 3 n s w = R at *
  (go_enter Tryd.func67, Tryd.ntmps67; go_wp2_with fail; refine wp_region_sub (⟨W, Below.refl _ _⟩ : Sub W.heap.size W) (by kernel_rfl) (by kernel_rfl) ?_; (repeat (go_big_quiet_step (first | fail))); refine wpQuiet_nil ?_; intro y; go_wp2; (try go_ret2); exact unhide FN _ _ _ rfl (fun h => by first | rfl | cases h) (unhide HB _))
set_option maxHeartbeats 2000000 in
theorem leaf3_s (n : Int) (s : ByteArray) (h : s ≠ E0) : LeafG 3 0 s := by
  intro b ll cap w ht
  obtain ⟨W, hW⟩ : ∃ W, w.alloc (.cells #[.int .i64 3, .int .i64 0, .string s, .slice b ll cap] 26) = W := ⟨_, rfl⟩
  have B0 := hide (below_new w (.cells #[.int .i64 3, .int .i64 0, .string s, .slice b ll cap] 26))
  have hg : W.heap[w.heap.size]? = some (.cells #[.int .i64 3, .int .i64 0, .string s, .slice b ll cap] 26 (0, 0)) := by rw [← hW]; exact Array.getElem?_push_size
  rw [hW] at B0
  have x0 := Lib.cell_of_heap hg 0
  have x1 := Lib.cell_of_heap hg 1
  have x2 := Lib.cell_of_heap hg 2
  have xl : w.heap.size < W.heap.size := (Array.getElem?_eq_some_iff.1 hg).1
  have y0 : ∀ y : Sub W.heap.size W, y.w.cell? ⟨w.heap.size, 0, none⟩ = some (.int .i64 3) := fun y => (y.h.cell (p := ⟨w.heap.size, _, none⟩) xl).trans x0
  have y1 : ∀ y : Sub W.heap.size W, y.w.cell? ⟨w.heap.size, 1, none⟩ = some (.int .i64 0) := fun y => (y.h.cell (p := ⟨w.heap.size, _, none⟩) xl).trans x1
  have y2 : ∀ y : Sub W.heap.size W, y.w.cell? ⟨w.heap.size, 2, none⟩ = some (.string s) := fun y => (y.h.cell (p := ⟨w.heap.size, _, none⟩) xl).trans x2
  have ne := Sub.ne W.heap.size W
  have HZ := hide (Nat.le_refl W.heap.size)
  have TB := hide (fun y : Sub W.heap.size W => (ht.next (unhide B0)).next y.h)
  have HB := hide (fun y : Sub W.heap.size W => (unhide B0).trans (y.h.mono (unhide B0).size))
  clear hg xl ht
  obtain ⟨h1, h2⟩ := emp_E s h
  have V := hide (show hereV 3 0 s 0 = false by simp [hereV, Ex.here, eqE, eqE1, *])
  have FN := hide (fun r w' (v : Value) => nil_val (r := r) (w := w) (w' := w') (v := v) (unhide V))
  generalize LeafR 3 0 s w = R at *
  (go_enter Tryd.func67, Tryd.ntmps67; go_wp2_with fail; refine wp_region_sub (⟨W, Below.refl _ _⟩ : Sub W.heap.size W) (by kernel_rfl) (by kernel_rfl) ?_; (repeat (go_big_quiet_step (first | fail))); refine wpQuiet_nil ?_; intro y; go_wp2; (try go_ret2); exact unhide FN _ _ _ rfl (fun h => by first | rfl | cases h) (unhide HB _))
set_option maxHeartbeats 2000000 in
theorem leaf11_s (n : Int) (s : ByteArray) (h : s ≠ E0) : LeafG 11 n s := by
  intro b ll cap w ht
  obtain ⟨W, hW⟩ : ∃ W, w.alloc (.cells #[.int .i64 11, .int .i64 n, .string s, .slice b ll cap] 26) = W := ⟨_, rfl⟩
  have B0 := hide (below_new w (.cells #[.int .i64 11, .int .i64 n, .string s, .slice b ll cap] 26))
  have hg : W.heap[w.heap.size]? = some (.cells #[.int .i64 11, .int .i64 n, .string s, .slice b ll cap] 26 (0, 0)) := by rw [← hW]; exact Array.getElem?_push_size
  rw [hW] at B0
  have x0 := Lib.cell_of_heap hg 0
  have x1 := Lib.cell_of_heap hg 1
  have x2 := Lib.cell_of_heap hg 2
  have xl : w.heap.size < W.heap.size := (Array.getElem?_eq_some_iff.1 hg).1
  have y0 : ∀ y : Sub W.heap.size W, y.w.cell? ⟨w.heap.size, 0, none⟩ = some (.int .i64 11) := fun y => (y.h.cell (p := ⟨w.heap.size, _, none⟩) xl).trans x0
  have y1 : ∀ y : Sub W.heap.size W, y.w.cell? ⟨w.heap.size, 1, none⟩ = some (.int .i64 n) := fun y => (y.h.cell (p := ⟨w.heap.size, _, none⟩) xl).trans x1
  have y2 : ∀ y : Sub W.heap.size W, y.w.cell? ⟨w.heap.size, 2, none⟩ = some (.string s) := fun y => (y.h.cell (p := ⟨w.heap.size, _, none⟩) xl).trans x2
  have ne := Sub.ne W.heap.size W
  have HZ := hide (Nat.le_refl W.heap.size)
  have TB := hide (fun y : Sub W.heap.size W => (ht.next (unhide B0)).next y.h)
  have HB := hide (fun y : Sub W.heap.size W => (unhide B0).trans (y.h.mono (unhide B0).size))
  clear hg xl ht
  obtain ⟨h1, h2⟩ := emp_E s h
  have V := hide (show hereV 11 n s 0 = false by simp [hereV, Ex.here, eqE, eqE1, *])
  have FN := hide (fun r w' (v : Value) => nil_val (r := r) (w := w) (w' := w') (v := v) (unhide V))
  generalize LeafR 11 n s w = R at *
  by_cases g1 : 0 ≤ n
  · by_cases g2 : n ≤ 9
    · (go_enter Tryd.func67, Tryd.ntmps67; go_wp2_with fail; refine wp_region_sub (⟨W, Below.refl _ _⟩ : Sub W.heap.size W) (by kernel_rfl) (by kernel_rfl) ?_; (repeat (go_big_quiet_step (first | fail))); refine wpQuiet_nil ?_; intro y; go_wp2; (try go_ret2); exact unhide FN _ _ _ rfl (fun h => by first | rfl | cases h) (unhide HB _))
    · have g4 : decide (n ≤ 9) = false := decide_eq_false g2
      (go_enter Tryd.func67, Tryd.ntmps67; go_wp2_with fail; refine wp_region_sub (⟨W, Below.refl _ _⟩ : Sub W.heap.size W) (by kernel_rfl) (by kernel_rfl) ?_; (repeat (go_big_quiet_step (first | fail))); refine wpQuiet_nil ?_; intro y; go_wp2; (try go_ret2); exact unhide FN _ _ _ rfl (fun h => by first | rfl | cases h) (unhide HB _))
  · have g3 : decide (0 ≤ n) = false := decide_eq_false g1
    (go_enter Tryd.func67, Tryd.ntmps67; go_wp2_with fail; refine wp_region_sub (⟨W, Below.refl _ _⟩ : Sub W.heap.size W) (by kernel_rfl) (by kernel_rfl) ?_; (repeat (go_big_quiet_step (first | fail))); refine wpQuiet_nil ?_; intro y; go_wp2; (try go_ret2); exact unhide FN _ _ _ rfl (fun h => by first | rfl | cases h) (unhide HB _))
set_option maxHeartbeats 2000000 in
theorem leaf11_0 (n : Int) (s : ByteArray) : LeafG 11 n ⟨#[]⟩ := by
  intro b ll cap w ht
  obtain ⟨W, hW⟩ : ∃ W, w.alloc (.cells #[.int .i64 11, .int .i64 n, .string ⟨#[]⟩, .slice b ll cap] 26) = W := ⟨_, rfl⟩
  have B0 := hide (below_new w (.cells #[.int .i64 11, .int .i64 n, .string ⟨#[]⟩, .slice b ll cap] 26))
  have hg : W.heap[w.heap.size]? = some (.cells #[.int .i64 11, .int .i64 n, .string ⟨#[]⟩, .slice b ll cap] 26 (0, 0)) := by rw [← hW]; exact Array.getElem?_push_size
  rw [hW] at B0
  have x0 := Lib.cell_of_heap hg 0
  have x1 := Lib.cell_of_heap hg 1
  have x2 := Lib.cell_of_heap hg 2
  have xl : w.heap.size < W.heap.size := (Array.getElem?_eq_some_iff.1 hg).1
  have y0 : ∀ y : Sub W.heap.size W, y.w.cell? ⟨w.heap.size, 0, none⟩ = some (.int .i64 11) := fun y => (y.h.cell (p := ⟨w.heap.size, _, none⟩) xl).trans x0
  have y1 : ∀ y : Sub W.heap.size W, y.w.cell? ⟨w.heap.size, 1, none⟩ = some (.int .i64 n) := fun y => (y.h.cell (p := ⟨w.heap.size, _, none⟩) xl).trans x1
  have y2 : ∀ y : Sub W.heap.size W, y.w.cell? ⟨w.heap.size, 2, none⟩ = some (.string ⟨#[]⟩) := fun y => (y.h.cell (p := ⟨w.heap.size, _, none⟩) xl).trans x2
  have ne := Sub.ne W.heap.size W
  have HZ := hide (Nat.le_refl W.heap.size)
  have TB := hide (fun y : Sub W.heap.size W => (ht.next (unhide B0)).next y.h)
  have HB := hide (fun y : Sub W.heap.size W => (unhide B0).trans (y.h.mono (unhide B0).size))
  clear hg xl ht
  by_cases g1 : 0 ≤ n
  · by_cases g2 : n ≤ 9
    · have e : inB n 0 9 = true := by unfold inB; simp <;> omega
      have V := hide (show hereV 11 n ⟨#[]⟩ 0 = true by simp [hereV, Ex.here, eqE, eqE1, e])
      have FN := hide (fun r w' (v : Value) => nil_val (r := r) (w := w) (w' := w') (v := v) (unhide V))
      generalize LeafR 11 n ⟨#[]⟩ w = R at *
      clear e
      (go_enter Tryd.func67, Tryd.ntmps67; go_wp2_with fail; refine wp_region_sub (⟨W, Below.refl _ _⟩ : Sub W.heap.size W) (by kernel_rfl) (by kernel_rfl) ?_; (repeat (go_big_quiet_step (first | fail))); refine wpQuiet_nil ?_; intro y; go_wp2; (try go_ret2); exact unhide FN _ _ _ rfl (fun h => by first | rfl | cases h) (unhide HB _))
    · have g4 : decide (n ≤ 9) = false := decide_eq_false g2
      have e : inB n 0 9 = false := by unfold inB; simp <;> omega
      have V := hide (show hereV 11 n ⟨#[]⟩ 0 = false by simp [hereV, Ex.here, eqE, eqE1, e])
      have FN := hide (fun r w' (v : Value) => nil_val (r := r) (w := w) (w' := w') (v := v) (unhide V))
      generalize LeafR 11 n ⟨#[]⟩ w = R at *
      clear e
      (go_enter Tryd.func67, Tryd.ntmps67; go_wp2_with fail; refine wp_region_sub (⟨W, Below.refl _ _⟩ : Sub W.heap.size W) (by kernel_rfl) (by kernel_rfl) ?_; (repeat (go_big_quiet_step (first | fail))); refine wpQuiet_nil ?_; intro y; go_wp2; (try go_ret2); exact unhide FN _ _ _ rfl (fun h => by first | rfl | cases h) (unhide HB _))
  · have g3 : decide (0 ≤ n) = false := decide_eq_false g1
    have e : inB n 0 9 = false := by unfold inB; simp <;> omega
    have V := hide (show hereV 11 n ⟨#[]⟩ 0 = false by simp [hereV, Ex.here, eqE, eqE1, e])
    have FN := hide (fun r w' (v : Value) => nil_val (r := r) (w := w) (w' := w') (v := v) (unhide V))
    generalize LeafR 11 n ⟨#[]⟩ w = R at *
    clear e
    (go_enter Tryd.func67, Tryd.ntmps67; go_wp2_with fail; refine wp_region_sub (⟨W, Below.refl _ _⟩ : Sub W.heap.size W) (by kernel_rfl) (by kernel_rfl) ?_; (repeat (go_big_quiet_step (first | fail))); refine wpQuiet_nil ?_; intro y; go_wp2; (try go_ret2); exact unhide FN _ _ _ rfl (fun h => by first | rfl | cases h) (unhide HB _))
set_option maxHeartbeats 2000000 in
theorem leaf_no (k n : Int) (s : ByteArray) (h1 : k ≠ 1) (h2 : k ≠ 2) (h3 : k ≠ 3) (h11 : k ≠ 11) (h12 : k ≠ 12) : LeafG k n s := by
  intro b ll cap w ht
  obtain ⟨W, hW⟩ : ∃ W, w.alloc (.cells #[.int .i64 k, .int .i64 n, .string s, .slice b ll cap] 26) = W := ⟨_, rfl⟩
  have B0 := hide (below_new w (.cells #[.int .i64 k, .int .i64 n, .string s, .slice b ll cap] 26))
  have hg : W.heap[w.heap.size]? = some (.cells #[.int .i64 k, .int .i64 n, .string s, .slice b ll cap] 26 (0, 0)) := by rw [← hW]; exact Array.getElem?_push_size
  rw [hW] at B0
  have x0 := Lib.cell_of_heap hg 0
  have x1 := Lib.cell_of_heap hg 1
  have x2 := Lib.cell_of_heap hg 2
  have xl : w.heap.size < W.heap.size := (Array.getElem?_eq_some_iff.1 hg).1
  have y0 : ∀ y : Sub W.heap.size W, y.w.cell? ⟨w.heap.size, 0, none⟩ = some (.int .i64 k) := fun y => (y.h.cell (p := ⟨w.heap.size, _, none⟩) xl).trans x0
  have y1 : ∀ y : Sub W.heap.size W, y.w.cell? ⟨w.heap.size, 1, none⟩ = some (.int .i64 n) := fun y => (y.h.cell (p := ⟨w.heap.size, _, none⟩) xl).trans x1
  have y2 : ∀ y : Sub W.heap.size W, y.w.cell? ⟨w.heap.size, 2, none⟩ = some (.string s) := fun y => (y.h.cell (p := ⟨w.heap.size, _, none⟩) xl).trans x2
  have ne := Sub.ne W.heap.size W
  have HZ := hide (Nat.le_refl W.heap.size)
  have TB := hide (fun y : Sub W.heap.size W => (ht.next (unhide B0)).next y.h)
  have HB := hide (fun y : Sub W.heap.size W => (unhide B0).trans (y.h.mono (unhide B0).size))
  clear hg xl ht
  have g1 : (k == 1) = false := beq_eq_false_iff_ne.2 h1
  have g2 : (k == 2) = false := beq_eq_false_iff_ne.2 h2
  have g3 : (k == 3) = false := beq_eq_false_iff_ne.2 h3
  have g11 : (k == 11) = false := beq_eq_false_iff_ne.2 h11
  have g12 : (k == 12) = false := beq_eq_false_iff_ne.2 h12
  have V := hide (show hereV k n s 0 = false by unfold hereV Ex.here; simp only [List.length_replicate]; split; rfl; rw [if_neg (by omega)]; (repeat' (first | rfl | split)); all_goals first | rfl | omega)
  have FN := hide (fun r w' (v : Value) => nil_val (r := r) (w := w) (w' := w') (v := v) (unhide V))
  generalize LeafR k n s w = R at *
  (go_enter Tryd.func67, Tryd.ntmps67; go_wp2; (try go_ret2); exact unhide FN _ _ _ rfl (fun h => by cases h) (unhide B0))
theorem leaf_any (k n : Int) (s : ByteArray) (b : Option Addr) (ll cap : Nat) (w : World) (hs : s.size ≤ 1099511627776) (ht : TabK w) : Calls Tryd.prog 67 #[.agg #[.int .i64 k, .int .i64 n, .string s, .slice b ll cap]] w (LeafR k n s w) := by
  revert b ll cap w
  show ∀ b ll cap w, TabK w → _
  by_cases c1 : k = 1
  · subst c1
    by_cases h : s = E0
    · subst h; exact leaf1_0 n E0
    · exact leaf1_s n s h
  by_cases c2 : k = 2
  · subst c2
    by_cases h : n = 0
    · subst h; exact leaf2_0 0 s hs
    · exact leaf2_n n s h hs
  by_cases c12 : k = 12
  · subst c12
    by_cases h : n = 0
    · subst h; exact leaf12_0 0 s hs
    · exact leaf12_n n s h hs
  by_cases c3 : k = 3
  · subst c3
    by_cases h : n = 0
    · subst h
      by_cases h : s = E0
      · subst h; exact leaf3_0 0 E0
      · exact leaf3_s 0 s h
    · exact leaf3_n n s h
  by_cases c11 : k = 11
  · subst c11
    by_cases h : s = E0
    · subst h; exact leaf11_0 n E0
    · exact leaf11_s n s h
  exact leaf_no k n s c1 c2 c3 c11 c12
end Go.Proofs.YtkolflcjkofleaaDoor
