/- Contracts over this seat's translation, laid together; conditions stand as hypotheses of each. -/
import Derived.Test.YthgbpofcfmnpdaaDoorTxA
import Derived.Test.YthgbpofcfmnpdaaDoorTxB
import Derived.Test.YthgbpofcfmnpdaaDoorTxC
import Derived.Test.YthgbpofcfmnpdaaDoorTxD
import Derived.Test.YthgbpofcfmnpdaaDoorTxE
import Derived.LoopN
import Derived.Laws.Rows
import Derived.Lib.Builder

namespace Go.Proofs.YthgbpofcfmnpdaaDoor
open Go.ChangeShapes Go.WideShapes Go.ChangeAt Go.RowKit
set_option linter.unusedVariables false
set_option maxRecDepth 8000
set_option linter.unusedSimpArgs false

set_option maxHeartbeats 2000000 in
theorem kind_num (n : Int) (s : ByteArray) (t u : TypeId) (x y : Value) (w : World) : Calls Tryd.prog 100 #[.iface 130 (.agg #[.int .i64 n])] w fun r w' => r = .returned (.int .i64 1) ∧ w' = w := by
  have tt := taY_num (.agg #[.int .i64 n])
  go_enter Tryd.func100, Tryd.ntmps100
  go_wp2
  go_ret
  exact ⟨rfl, rfl⟩
set_option maxHeartbeats 2000000 in
theorem kind_sym (n : Int) (s : ByteArray) (t u : TypeId) (x y : Value) (w : World) : Calls Tryd.prog 100 #[.iface 131 (.agg #[.string s])] w fun r w' => r = .returned (.int .i64 2) ∧ w' = w := by
  have t0 := taN_num 131 (.agg #[.string s]) (by decide)
  have tt := taY_sym (.agg #[.string s])
  go_enter Tryd.func100, Tryd.ntmps100
  go_wp2
  go_ret
  exact ⟨rfl, rfl⟩
set_option maxHeartbeats 2000000 in
theorem kind_here (n : Int) (s : ByteArray) (t u : TypeId) (x y : Value) (w : World) : Calls Tryd.prog 100 #[.iface 133 (.agg #[])] w fun r w' => r = .returned (.int .i64 3) ∧ w' = w := by
  have t0 := taN_num 133 (.agg #[]) (by decide)
  have t1 := taN_sym 133 (.agg #[]) (by decide)
  have tt := taY_here (.agg #[])
  go_enter Tryd.func100, Tryd.ntmps100
  go_wp2
  go_ret
  exact ⟨rfl, rfl⟩
set_option maxHeartbeats 2000000 in
theorem kind_neg (n : Int) (s : ByteArray) (t u : TypeId) (x y : Value) (w : World) : Calls Tryd.prog 100 #[.iface 119 (.agg #[.iface t x])] w fun r w' => r = .returned (.int .i64 4) ∧ w' = w := by
  have t0 := taN_num 119 (.agg #[.iface t x]) (by decide)
  have t1 := taN_sym 119 (.agg #[.iface t x]) (by decide)
  have t2 := taN_here 119 (.agg #[.iface t x]) (by decide)
  have tt := taY_neg (.agg #[.iface t x])
  go_enter Tryd.func100, Tryd.ntmps100
  go_wp2
  go_ret
  exact ⟨rfl, rfl⟩
set_option maxHeartbeats 2000000 in
theorem kind_add (n : Int) (s : ByteArray) (t u : TypeId) (x y : Value) (w : World) : Calls Tryd.prog 100 #[.iface 145 (.agg #[.iface t x, .iface u y])] w fun r w' => r = .returned (.int .i64 5) ∧ w' = w := by
  have t0 := taN_num 145 (.agg #[.iface t x, .iface u y]) (by decide)
  have t1 := taN_sym 145 (.agg #[.iface t x, .iface u y]) (by decide)
  have t2 := taN_here 145 (.agg #[.iface t x, .iface u y]) (by decide)
  have t3 := taN_neg 145 (.agg #[.iface t x, .iface u y]) (by decide)
  have tt := taY_add (.agg #[.iface t x, .iface u y])
  go_enter Tryd.func100, Tryd.ntmps100
  go_wp2
  go_ret
  exact ⟨rfl, rfl⟩
set_option maxHeartbeats 2000000 in
theorem kind_sub (n : Int) (s : ByteArray) (t u : TypeId) (x y : Value) (w : World) : Calls Tryd.prog 100 #[.iface 146 (.agg #[.iface t x, .iface u y])] w fun r w' => r = .returned (.int .i64 6) ∧ w' = w := by
  have t0 := taN_num 146 (.agg #[.iface t x, .iface u y]) (by decide)
  have t1 := taN_sym 146 (.agg #[.iface t x, .iface u y]) (by decide)
  have t2 := taN_here 146 (.agg #[.iface t x, .iface u y]) (by decide)
  have t3 := taN_neg 146 (.agg #[.iface t x, .iface u y]) (by decide)
  have t4 := taN_add 146 (.agg #[.iface t x, .iface u y]) (by decide)
  have tt := taY_sub (.agg #[.iface t x, .iface u y])
  go_enter Tryd.func100, Tryd.ntmps100
  go_wp2
  go_ret
  exact ⟨rfl, rfl⟩
set_option maxHeartbeats 2000000 in
theorem kind_mul (n : Int) (s : ByteArray) (t u : TypeId) (x y : Value) (w : World) : Calls Tryd.prog 100 #[.iface 147 (.agg #[.iface t x, .iface u y])] w fun r w' => r = .returned (.int .i64 7) ∧ w' = w := by
  have t0 := taN_num 147 (.agg #[.iface t x, .iface u y]) (by decide)
  have t1 := taN_sym 147 (.agg #[.iface t x, .iface u y]) (by decide)
  have t2 := taN_here 147 (.agg #[.iface t x, .iface u y]) (by decide)
  have t3 := taN_neg 147 (.agg #[.iface t x, .iface u y]) (by decide)
  have t4 := taN_add 147 (.agg #[.iface t x, .iface u y]) (by decide)
  have t5 := taN_sub 147 (.agg #[.iface t x, .iface u y]) (by decide)
  have tt := taY_mul (.agg #[.iface t x, .iface u y])
  go_enter Tryd.func100, Tryd.ntmps100
  go_wp2
  go_ret
  exact ⟨rfl, rfl⟩
set_option maxHeartbeats 2000000 in
theorem kind_div (n : Int) (s : ByteArray) (t u : TypeId) (x y : Value) (w : World) : Calls Tryd.prog 100 #[.iface 148 (.agg #[.iface t x, .iface u y])] w fun r w' => r = .returned (.int .i64 8) ∧ w' = w := by
  have t0 := taN_num 148 (.agg #[.iface t x, .iface u y]) (by decide)
  have t1 := taN_sym 148 (.agg #[.iface t x, .iface u y]) (by decide)
  have t2 := taN_here 148 (.agg #[.iface t x, .iface u y]) (by decide)
  have t3 := taN_neg 148 (.agg #[.iface t x, .iface u y]) (by decide)
  have t4 := taN_add 148 (.agg #[.iface t x, .iface u y]) (by decide)
  have t5 := taN_sub 148 (.agg #[.iface t x, .iface u y]) (by decide)
  have t6 := taN_mul 148 (.agg #[.iface t x, .iface u y]) (by decide)
  have tt := taY_div (.agg #[.iface t x, .iface u y])
  go_enter Tryd.func100, Tryd.ntmps100
  go_wp2
  go_ret
  exact ⟨rfl, rfl⟩
set_option maxHeartbeats 2000000 in
theorem kind_and (n : Int) (s : ByteArray) (t u : TypeId) (x y : Value) (w : World) : Calls Tryd.prog 100 #[.iface 149 (.agg #[.iface t x, .iface u y])] w fun r w' => r = .returned (.int .i64 9) ∧ w' = w := by
  have t0 := taN_num 149 (.agg #[.iface t x, .iface u y]) (by decide)
  have t1 := taN_sym 149 (.agg #[.iface t x, .iface u y]) (by decide)
  have t2 := taN_here 149 (.agg #[.iface t x, .iface u y]) (by decide)
  have t3 := taN_neg 149 (.agg #[.iface t x, .iface u y]) (by decide)
  have t4 := taN_add 149 (.agg #[.iface t x, .iface u y]) (by decide)
  have t5 := taN_sub 149 (.agg #[.iface t x, .iface u y]) (by decide)
  have t6 := taN_mul 149 (.agg #[.iface t x, .iface u y]) (by decide)
  have t7 := taN_div 149 (.agg #[.iface t x, .iface u y]) (by decide)
  have tt := taY_and (.agg #[.iface t x, .iface u y])
  go_enter Tryd.func100, Tryd.ntmps100
  go_wp2
  go_ret
  exact ⟨rfl, rfl⟩
set_option maxHeartbeats 2000000 in
theorem kind_or (n : Int) (s : ByteArray) (t u : TypeId) (x y : Value) (w : World) : Calls Tryd.prog 100 #[.iface 150 (.agg #[.iface t x, .iface u y])] w fun r w' => r = .returned (.int .i64 10) ∧ w' = w := by
  have t0 := taN_num 150 (.agg #[.iface t x, .iface u y]) (by decide)
  have t1 := taN_sym 150 (.agg #[.iface t x, .iface u y]) (by decide)
  have t2 := taN_here 150 (.agg #[.iface t x, .iface u y]) (by decide)
  have t3 := taN_neg 150 (.agg #[.iface t x, .iface u y]) (by decide)
  have t4 := taN_add 150 (.agg #[.iface t x, .iface u y]) (by decide)
  have t5 := taN_sub 150 (.agg #[.iface t x, .iface u y]) (by decide)
  have t6 := taN_mul 150 (.agg #[.iface t x, .iface u y]) (by decide)
  have t7 := taN_div 150 (.agg #[.iface t x, .iface u y]) (by decide)
  have t8 := taN_and 150 (.agg #[.iface t x, .iface u y]) (by decide)
  have tt := taY_or (.agg #[.iface t x, .iface u y])
  go_enter Tryd.func100, Tryd.ntmps100
  go_wp2
  go_ret
  exact ⟨rfl, rfl⟩
set_option maxHeartbeats 2000000 in
theorem kind_sect (n : Int) (s : ByteArray) (t u : TypeId) (x y : Value) (w : World) : Calls Tryd.prog 100 #[.iface 125 (.agg #[.int .i64 n])] w fun r w' => r = .returned (.int .i64 11) ∧ w' = w := by
  have t0 := taN_num 125 (.agg #[.int .i64 n]) (by decide)
  have t1 := taN_sym 125 (.agg #[.int .i64 n]) (by decide)
  have t2 := taN_here 125 (.agg #[.int .i64 n]) (by decide)
  have t3 := taN_neg 125 (.agg #[.int .i64 n]) (by decide)
  have t4 := taN_add 125 (.agg #[.int .i64 n]) (by decide)
  have t5 := taN_sub 125 (.agg #[.int .i64 n]) (by decide)
  have t6 := taN_mul 125 (.agg #[.int .i64 n]) (by decide)
  have t7 := taN_div 125 (.agg #[.int .i64 n]) (by decide)
  have t8 := taN_and 125 (.agg #[.int .i64 n]) (by decide)
  have t9 := taN_or 125 (.agg #[.int .i64 n]) (by decide)
  have tt := taY_sect (.agg #[.int .i64 n])
  go_enter Tryd.func100, Tryd.ntmps100
  go_wp2
  go_ret
  exact ⟨rfl, rfl⟩
set_option maxHeartbeats 2000000 in
theorem kind_glob (n : Int) (s : ByteArray) (t u : TypeId) (x y : Value) (w : World) : Calls Tryd.prog 100 #[.iface 127 (.agg #[.string s])] w fun r w' => r = .returned (.int .i64 12) ∧ w' = w := by
  have t0 := taN_num 127 (.agg #[.string s]) (by decide)
  have t1 := taN_sym 127 (.agg #[.string s]) (by decide)
  have t2 := taN_here 127 (.agg #[.string s]) (by decide)
  have t3 := taN_neg 127 (.agg #[.string s]) (by decide)
  have t4 := taN_add 127 (.agg #[.string s]) (by decide)
  have t5 := taN_sub 127 (.agg #[.string s]) (by decide)
  have t6 := taN_mul 127 (.agg #[.string s]) (by decide)
  have t7 := taN_div 127 (.agg #[.string s]) (by decide)
  have t8 := taN_and 127 (.agg #[.string s]) (by decide)
  have t9 := taN_or 127 (.agg #[.string s]) (by decide)
  have t10 := taN_sect 127 (.agg #[.string s]) (by decide)
  have tt := taY_glob (.agg #[.string s])
  go_enter Tryd.func100, Tryd.ntmps100
  go_wp2
  go_ret
  exact ⟨rfl, rfl⟩
theorem kindI_any {d : Nat} {e : Ex} (h : okF d false e = true) (w : World) : Calls Tryd.prog 100 #[tv e] w fun r w' => r = .returned (.int .i64 e.k) ∧ w' = w := by
  cases d with
  | zero => cases h
  | succ d =>
    rcases ok_cases h with ⟨n, hn, rfl⟩ | ⟨s, hs, rfl⟩ | rfl | ⟨a, ha, rfl⟩ | ⟨k, a, b, hk, ha, hb, rfl⟩ | ⟨n, hn, rfl⟩ | ⟨s, hs, rfl⟩
    · rw [tv_num]; exact kind_num n E0 0 0 .nilIface .nilIface w
    · rw [tv_sym]; exact kind_sym 0 s 0 0 .nilIface .nilIface w
    · rw [tv_here]; exact kind_here 0 E0 0 0 .nilIface .nilIface w
    · obtain ⟨t, x, e1⟩ := tv_if a
      rw [tv_neg, e1]; exact kind_neg 0 E0 t 0 x .nilIface w
    · obtain ⟨t, x, e1⟩ := tv_if a
      obtain ⟨u, y, e2⟩ := tv_if b
      rw [tv_two hk, e1, e2]
      have : k = 5 ∨ k = 6 ∨ k = 7 ∨ k = 8 ∨ k = 9 ∨ k = 10 := by omega
      rcases this with rfl | rfl | rfl | rfl | rfl | rfl
      · exact kind_add 0 E0 t u x y w
      · exact kind_sub 0 E0 t u x y w
      · exact kind_mul 0 E0 t u x y w
      · exact kind_div 0 E0 t u x y w
      · exact kind_and 0 E0 t u x y w
      · exact kind_or 0 E0 t u x y w
    · rw [tv_sect]; exact kind_sect n E0 0 0 .nilIface .nilIface w
    · rw [tv_glob]; exact kind_glob 0 s 0 0 .nilIface .nilIface w
theorem szL_allOk : ∀ ts : List Tk, AllOk ts → szL ts ≤ 10 * ts.length := by
  intro ts
  induction ts with
  | nil => intro _; simp [szL]
  | cons t r ih =>
    intro h
    obtain ⟨h1, h2⟩ := h.head
    have := ok_size h1
    have := ih h2
    simp only [szL, List.length_cons]
    omega
theorem text_len {e : Ex} (h : okF 6 true e = true) : (toksF 6 e).length + szL (toksF 6 e) ≤ 1048576 := by
  obtain ⟨h1, h2⟩ := toks_ok 6 e h
  have := szL_allOk _ h1
  have := mxT_le 6 (by omega)
  omega
set_option maxHeartbeats 1000000 in
theorem textS_any (e : Ex) (b : Option Addr) (cap : Nat) (w : World) (hr : RdX w 0 e b) (hz : e.sz ≤ 1048576) : Calls Tryd.prog 33 #[.agg (e.cs b cap)] w fun r w' => r = .returned (.string (textE e)) ∧ Below w.heap.size w w' := by
  have B0 := below_new w (.cells (e.cs b cap) 37)
  obtain ⟨x0, x1, x2, x3⟩ := box4 w e b cap 37
  have xl : w.heap.size < (w.alloc (.cells (e.cs b cap) 37)).heap.size := by simp
  have PS := hide (plainS_any e b cap _ (hr.later B0) hz)
  have HB := hide B0
  have TS := hide (fun w1 (hb : Below (w.alloc (.cells (e.cs b cap) 37)).heap.size (w.alloc (.cells (e.cs b cap) 37)) w1) (h : okF 6 true e = true) => toksS_all 6 (by omega) e b cap w1 h ((hr.later B0).later hb))
  have LS := hide (fun w1 a c (h : okF 6 true e = true) (h2 : RdT w1 a (toksF 6 e)) => lineS_any a (toksF 6 e).length c (toksF 6 e) w1 rfl (text_len h) h2)
  have TE := hide (show (okF 6 true e = true → textE e = strOf (lineOf (toksF 6 e))) ∧ (okF 6 true e = false → textE e = E0) from ⟨fun h => by unfold textE; rw [if_pos h], fun h => by unfold textE; rw [if_neg (by rw [h]; decide)]⟩)
  clear hr B0
  unfold Ex.cs at PS HB TS x0 x1 x2 x3 xl ⊢
  generalize okF 6 true e = q at *
  generalize toksF 6 e = ts at *
  generalize textE e = tx at *
  generalize e.l.length = ll at *
  generalize e.k = k at *
  generalize e.n = n at *
  generalize e.s = s at *
  generalize hW : w.alloc (.cells #[.int .i64 k, .int .i64 n, .string s, .slice b ll cap] 37) = W at *
  have Y0 := hide (fun w1 (hb : Below W.heap.size W w1) => (hb.cell (p := ⟨w.heap.size, 0, none⟩) xl).trans x0)
  have Y1 := hide (fun w1 (hb : Below W.heap.size W w1) => (hb.cell (p := ⟨w.heap.size, 1, none⟩) xl).trans x1)
  have Y2 := hide (fun w1 (hb : Below W.heap.size W w1) => (hb.cell (p := ⟨w.heap.size, 2, none⟩) xl).trans x2)
  have Y3 := hide (fun w1 (hb : Below W.heap.size W w1) => (hb.cell (p := ⟨w.heap.size, 3, none⟩) xl).trans x3)
  clear xl
  go_enter Tryd.func33, Tryd.ntmps33
  go_wp2_with fail
  refine (unhide PS).mono ?_
  rintro r w1 ⟨rfl, hb1⟩
  have BB := hide ((unhide HB).trans (hb1.mono (unhide HB).size))
  cases q with
  | false =>
    have E := hide ((unhide TE).2 rfl)
    clear hb1 PS TS LS TE
    go_wp2
    go_ret
    exact ⟨by rw [unhide E]; rfl, unhide BB⟩
  | true =>
    have E := hide ((unhide TE).1 rfl)
    have T1 := hide (unhide TS w1 hb1 rfl)
    have L1 := hide (fun w1 a c => unhide LS w1 a c rfl)
    have y0 := unhide Y0 w1 hb1
    have y1 := unhide Y1 w1 hb1
    have y2 := unhide Y2 w1 hb1
    have y3 := unhide Y3 w1 hb1
    clear hb1 PS TS LS TE x0 x1 x2 x3
    go_wp2_with fail
    refine (unhide T1).mono ?_
    rintro r w2 ⟨v2, rfl, o2, hb2⟩
    have B2 := hide ((unhide BB).trans (hb2.mono (unhide BB).size))
    obtain ⟨a2, c2, rfl, r2⟩ := o2.rd
    have L2 := hide (unhide L1 w2 a2 c2 r2)
    clear o2 r2 hb2 T1 L1 y0 y1 y2 y3
    go_wp2_with (go_at_call 49; refine (unhide L2).mono ?_; rintro r w3 ⟨rfl, hb3⟩)
    go_ret
    exact ⟨by rw [unhide E]; rfl, (unhide B2).trans (hb3.mono (unhide B2).size)⟩
end Go.Proofs.YthgbpofcfmnpdaaDoor

namespace Go.Proofs.YthgbpofcfmnpdaaDoor
open Go.ChangeShapes Go.WideShapes Go.ChangeAt Go.RowKit
set_option linter.unusedVariables false
set_option maxRecDepth 8000
set_option linter.unusedSimpArgs false

/-- Rows of another type than the tokens' stay. -/
def KpT (w w' : World) : Prop := ∀ (g : Nat) (cs : Array Value) (t : TypeId) (fr : Nat × Nat), w.heap[g]? = some (.cells cs t fr) → t ≠ 31 → w'.heap[g]? = some (.cells cs t fr)
theorem KpT.refl (w : World) : KpT w w := fun _ _ _ _ h _ => h
theorem KpT.trans {a b c : World} (h : KpT a b) (k : KpT b c) : KpT a c := fun g cs t fr h1 h2 => k g cs t fr (h g cs t fr h1 h2) h2
theorem KpT.of {w w' : World} (hb : Below w.heap.size w w') : KpT w w' := fun g cs t fr h _ => (hb.block g (Array.getElem?_eq_some_iff.1 h).1).trans h
theorem KpT.own {w w' : World} {B : Nat} {v : Value} {ts : List Tk} (ho : OwnT w B v ts) (hg : w.grownBy w' v.ownBlock) : KpT w w' := fun g cs t fr h ht => by
  refine (hg.block g (Array.getElem?_eq_some_iff.1 h).1 (fun e => ?_)).trans h
  obtain ⟨_, ⟨rfl, _⟩ | ⟨g', cap, cur, rfl, _, hh, _⟩⟩ := ho
  · simp [Value.ownBlock] at e
  · simp [Value.ownBlock] at e
    subst e
    rw [hh] at h
    cases h
    exact ht rfl
/-- The marks of those of two, as the program has them. -/
def sgnL : List ByteArray := [E0, E0, E0, E0, E0, mkS 43, mkS 45, mkS 42, mkS 47, mkS 38, mkS 124]
def sgA : Array Value := (sgnL.map Value.string).toArray
def TabG (w : World) : Prop := ∃ t fr, w.heap[2]? = some (.cells sgA t fr)
theorem TabG.lt {w : World} (h : TabG w) : 2 < w.heap.size := by obtain ⟨t, fr, h⟩ := h; exact (Array.getElem?_eq_some_iff.1 h).1
theorem TabG.later {w w' : World} {B : Nat} (h : TabG w) (hb : Below B w w') (hB : 2 < B) : TabG w' := by
  obtain ⟨t, fr, h⟩ := h
  exact ⟨t, fr, (hb.block _ hB).trans h⟩
def PutP (d : Nat) : Prop := ∀ (e : Ex) (ts : List Tk) (v : Value) (B : Nat) (w : World), okF d true e = true → OwnT w B v ts → B ≤ w.heap.size → ts.length + mxT d ≤ 500 → TabG w → 2 < B → Calls Tryd.prog 78 #[v, tv e] w fun r w' => ∃ v', r = .returned v' ∧ OwnT w' B v' (ts ++ toksF d e) ∧ Below B w w' ∧ KpT w w'
set_option maxHeartbeats 4000000 in
theorem put_num (n : Int) (ts : List Tk) (v : Value) (B : Nat) (w : World) (ho : OwnT w B v ts) (hB : B ≤ w.heap.size) (hl : ts.length ≤ 498) : Calls Tryd.prog 78 #[v, .iface 130 (.agg #[.int .i64 n])] w fun r w' => ∃ v', r = .returned v' ∧ OwnT w' B v' (ts ++ [⟨2, n, ⟨#[]⟩⟩]) ∧ Below B w w' ∧ KpT w w' := by
  obtain ⟨i0, hi, hz0, hz1, hz2⟩ := info_parts infoT
  have hbx := below_new w (.cells #[.int .i64 n] 130)
  have D1 := hide (hbx.mono hB)
  have P1 := hide (KpT.of hbx)
  have O1 := hide (ho.later hbx)
  have W1 := hide (show (w.alloc (.cells #[.int .i64 n] 130)).heap.size = w.heap.size + 1 by simp)
  clear hbx
  have tt := taY_num (.agg #[.int .i64 n])
  generalize hw1 : w.alloc (.cells #[.int .i64 n] 130) = w1 at *
  have hg1 : w1.heap[w.heap.size]? = some (.cells #[.int .i64 n] 130 (0, 0)) := by rw [← hw1]; exact Array.getElem?_push_size
  have c0 := Lib.cell_of_heap hg1 0
  clear ho hg1
  go_enter Tryd.func78, Tryd.ntmps78
  go_wp2_with (at_builtin; go_must (refine wpList_append_own _ rfl (.tmp 16) (.tmp 20) 24 rfl B 31 i0 (.agg #[.int .i64 0, .int .i64 0, .string ⟨#[]⟩]) 3 32 Tryd.underlying24 hi hz0 hz1 hz2 rfl (by decide) v (ts).length (cellsT (ts)) rfl (World.ownsRow.alloc (unhide O1) _) ⟨w1.heap.size, 0, none⟩ 1 1 [.int .i64 2, .int .i64 n, .string ⟨#[]⟩] rfl rfl (cell_new w1 #[.int .i64 2, .int .i64 n, .string ⟨#[]⟩] 31) (newT_one _ _ _) (by unfold maxLen; (try simp only [List.length_append, List.length_cons, List.length_nil]); omega) (by (try simp only [List.length_append, List.length_cons, List.length_nil]); omega) (by have := (unhide D1).size; simp; omega) ?_; intro v5 w5 hown5 hgrow5 _; have O5 := hide (ownT_app (t := ⟨2, n, ⟨#[]⟩⟩) hown5); have D5 := hide (((unhide D1).alloc (Nat.le_trans hB (unhide D1).size) (.cells #[.int .i64 2, .int .i64 n, .string ⟨#[]⟩] 31)).grown hgrow5 (by have := (unhide D1).size; simp; omega) (fun g hg => ((unhide O1).lt hg).1)); have P5 := hide ((KpT.of (below_new w1 (.cells #[.int .i64 2, .int .i64 n, .string ⟨#[]⟩] 31))).trans (KpT.own (B := B) (ts := ts) (World.ownsRow.alloc (unhide O1) _) hgrow5)); clear hown5 hgrow5))
  go_ret
  exact ⟨_, rfl, unhide O5, unhide D5, (unhide P1).trans (unhide P5)⟩
set_option maxHeartbeats 4000000 in
theorem put_sym (s : ByteArray) (ts : List Tk) (v : Value) (B : Nat) (w : World) (ho : OwnT w B v ts) (hB : B ≤ w.heap.size) (hl : ts.length ≤ 498) : Calls Tryd.prog 78 #[v, .iface 131 (.agg #[.string s])] w fun r w' => ∃ v', r = .returned v' ∧ OwnT w' B v' (ts ++ [⟨1, 0, s⟩]) ∧ Below B w w' ∧ KpT w w' := by
  obtain ⟨i0, hi, hz0, hz1, hz2⟩ := info_parts infoT
  have hbx := below_new w (.cells #[.string s] 131)
  have D1 := hide (hbx.mono hB)
  have P1 := hide (KpT.of hbx)
  have O1 := hide (ho.later hbx)
  have W1 := hide (show (w.alloc (.cells #[.string s] 131)).heap.size = w.heap.size + 1 by simp)
  clear hbx
  have t0 := taN_num 131 (.agg #[.string s]) (by decide)
  have tt := taY_sym (.agg #[.string s])
  generalize hw1 : w.alloc (.cells #[.string s] 131) = w1 at *
  have hg1 : w1.heap[w.heap.size]? = some (.cells #[.string s] 131 (0, 0)) := by rw [← hw1]; exact Array.getElem?_push_size
  have c0 := Lib.cell_of_heap hg1 0
  clear ho hg1
  go_enter Tryd.func78, Tryd.ntmps78
  go_wp2_with (at_builtin; go_must (refine wpList_append_own _ rfl (.tmp 25) (.tmp 29) 24 rfl B 31 i0 (.agg #[.int .i64 0, .int .i64 0, .string ⟨#[]⟩]) 3 32 Tryd.underlying24 hi hz0 hz1 hz2 rfl (by decide) v (ts).length (cellsT (ts)) rfl (World.ownsRow.alloc (unhide O1) _) ⟨w1.heap.size, 0, none⟩ 1 1 [.int .i64 1, .int .i64 0, .string s] rfl rfl (cell_new w1 #[.int .i64 1, .int .i64 0, .string s] 31) (newT_one _ _ _) (by unfold maxLen; (try simp only [List.length_append, List.length_cons, List.length_nil]); omega) (by (try simp only [List.length_append, List.length_cons, List.length_nil]); omega) (by have := (unhide D1).size; simp; omega) ?_; intro v5 w5 hown5 hgrow5 _; have O5 := hide (ownT_app (t := ⟨1, 0, s⟩) hown5); have D5 := hide (((unhide D1).alloc (Nat.le_trans hB (unhide D1).size) (.cells #[.int .i64 1, .int .i64 0, .string s] 31)).grown hgrow5 (by have := (unhide D1).size; simp; omega) (fun g hg => ((unhide O1).lt hg).1)); have P5 := hide ((KpT.of (below_new w1 (.cells #[.int .i64 1, .int .i64 0, .string s] 31))).trans (KpT.own (B := B) (ts := ts) (World.ownsRow.alloc (unhide O1) _) hgrow5)); clear hown5 hgrow5))
  go_ret
  exact ⟨_, rfl, unhide O5, unhide D5, (unhide P1).trans (unhide P5)⟩
set_option maxHeartbeats 4000000 in
theorem put_here (ts : List Tk) (v : Value) (B : Nat) (w : World) (ho : OwnT w B v ts) (hB : B ≤ w.heap.size) (hl : ts.length ≤ 498) : Calls Tryd.prog 78 #[v, .iface 133 (.agg #[])] w fun r w' => ∃ v', r = .returned v' ∧ OwnT w' B v' (ts ++ [⟨4, 0, ⟨#[46]⟩⟩]) ∧ Below B w w' ∧ KpT w w' := by
  obtain ⟨i0, hi, hz0, hz1, hz2⟩ := info_parts infoT
  have hbx := below_new w (.cells #[] 133)
  have D1 := hide (hbx.mono hB)
  have P1 := hide (KpT.of hbx)
  have O1 := hide (ho.later hbx)
  have W1 := hide (show (w.alloc (.cells #[] 133)).heap.size = w.heap.size + 1 by simp)
  clear hbx
  have t0 := taN_num 133 (.agg #[]) (by decide)
  have t1 := taN_sym 133 (.agg #[]) (by decide)
  have tt := taY_here (.agg #[])
  generalize hw1 : w.alloc (.cells #[] 133) = w1 at *
  clear ho W1
  go_enter Tryd.func78, Tryd.ntmps78
  go_wp2_with fail
  refine (markI_any ⟨#[46]⟩ w1).mono ?_
  rintro r w2 ⟨rfl, hb2⟩
  have O2 := hide ((unhide O1).later hb2)
  have D2 := hide ((unhide D1).trans (hb2.mono (Nat.le_trans hB (unhide D1).size)))
  have P2 := hide ((unhide P1).trans (KpT.of hb2))
  clear hb2 O1 D1 P1
  unfold Tk.v Tk.cs
  go_wp2_with (at_builtin; go_must (refine wpList_append_own _ rfl (.tmp 34) (.tmp 36) 24 rfl B 31 i0 (.agg #[.int .i64 0, .int .i64 0, .string ⟨#[]⟩]) 3 32 Tryd.underlying24 hi hz0 hz1 hz2 rfl (by decide) v (ts).length (cellsT (ts)) rfl (World.ownsRow.alloc (unhide O2) _) ⟨w2.heap.size, 0, none⟩ 1 1 [.int .i64 4, .int .i64 0, .string ⟨#[46]⟩] rfl rfl (cell_new w2 #[.int .i64 4, .int .i64 0, .string ⟨#[46]⟩] 31) (newT_one _ _ _) (by unfold maxLen; (try simp only [List.length_append, List.length_cons, List.length_nil]); omega) (by (try simp only [List.length_append, List.length_cons, List.length_nil]); omega) (by have := (unhide D2).size; simp; omega) ?_; intro v5 w5 hown5 hgrow5 _; have O5 := hide (ownT_app (t := ⟨4, 0, ⟨#[46]⟩⟩) hown5); have D5 := hide (((unhide D2).alloc (Nat.le_trans hB (unhide D2).size) (.cells #[.int .i64 4, .int .i64 0, .string ⟨#[46]⟩] 31)).grown hgrow5 (by have := (unhide D2).size; simp; omega) (fun g hg => ((unhide O2).lt hg).1)); have P5 := hide ((KpT.of (below_new w2 (.cells #[.int .i64 4, .int .i64 0, .string ⟨#[46]⟩] 31))).trans (KpT.own (B := B) (ts := ts) (World.ownsRow.alloc (unhide O2) _) hgrow5)); clear hown5 hgrow5))
  go_ret
  exact ⟨_, rfl, unhide O5, unhide D5, (unhide P2).trans (unhide P5)⟩
set_option maxHeartbeats 8000000 in
theorem put_neg (t : TypeId) (x : Value) (B L : Nat) (hL : L ≤ 498) (us : List Tk) (h1 : ∀ (ts : List Tk) (v : Value) (w : World), OwnT w B v ts → B ≤ w.heap.size → ts.length ≤ (L + 1) → TabG w → Calls Tryd.prog 78 #[v, .iface t x] w fun r w' => ∃ v', r = .returned v' ∧ OwnT w' B v' (ts ++ us) ∧ Below B w w' ∧ KpT w w') (ts : List Tk) (v : Value) (w : World) (ho : OwnT w B v ts) (hB : B ≤ w.heap.size) (hl : ts.length ≤ L) (hT : TabG w) (hs : 2 < B) : Calls Tryd.prog 78 #[v, .iface 119 (.agg #[.iface t x])] w fun r w' => ∃ v', r = .returned v' ∧ OwnT w' B v' ((ts ++ [⟨4, 0, ⟨#[45]⟩⟩]) ++ us) ∧ Below B w w' ∧ KpT w w' := by
  obtain ⟨i0, hi, hz0, hz1, hz2⟩ := info_parts infoT
  have hbx := below_new w (.cells #[.iface t x] 119)
  have D1 := hide (hbx.mono hB)
  have P1 := hide (KpT.of hbx)
  have O1 := hide (ho.later hbx)
  have W1 := hide (show (w.alloc (.cells #[.iface t x] 119)).heap.size = w.heap.size + 1 by simp)
  clear hbx
  have t0 := taN_num 119 (.agg #[.iface t x]) (by decide)
  have t1 := taN_sym 119 (.agg #[.iface t x]) (by decide)
  have t2 := taN_here 119 (.agg #[.iface t x]) (by decide)
  have tt := taY_neg (.agg #[.iface t x])
  generalize hw1 : w.alloc (.cells #[.iface t x] 119) = w1 at *
  have hg1 : w1.heap[w.heap.size]? = some (.cells #[.iface t x] 119 (0, 0)) := by rw [← hw1]; exact Array.getElem?_push_size
  have HG := hide hg1
  have HT := hide hT
  have H1 := hide h1
  clear ho W1 hg1 hT h1
  go_enter Tryd.func78, Tryd.ntmps78
  go_wp2_with fail
  have D0 := hide (show w1.drew.heap[w.heap.size]? = some (.cells #[.iface t x] 119 (0, 0)) from unhide HG)
  have O2 := hide ((unhide O1).later (below_drew (w := w1)))
  have D2 := hide ((unhide D1).trans ((below_drew (w := w1)).mono (Nat.le_trans hB (unhide D1).size)))
  have P2 := hide ((unhide P1).trans (KpT.of (below_drew (w := w1))))
  refine wp_region_held_drew (S := fun w' => w'.heap[w.heap.size]? = some (.cells #[.iface t x] 119 (0, 0))) (by kernel_rfl) (unhide D0) (fun hS => ?_)
  have HS := hide hS
  clear hS O1 D1 P1 HG D0
  refine wpAnyH_take (i := 0) (v := v) rfl (by kernel_rfl) (by kernel_rfl) (by kernel_rfl) (fun _ _ _ h => h) (Or.inl ⟨by rfl, fun w hc => ?_⟩) (unhide HS) ?_
  · clear hc; go_simp
  go_simp
  refine wpAnyH_take (i := 4) (v := .pointer (some ⟨w.heap.size, 0, none⟩)) rfl (by kernel_rfl) (by kernel_rfl) (by kernel_rfl) (fun _ _ _ h => h) (Or.inl ⟨by rfl, fun w hc => ?_⟩) (unhide HS) ?_
  · clear hc; go_simp
  go_simp
  refine wpAnyH_take (i := 5) (v := .iface t x) rfl (by kernel_rfl) (by kernel_rfl) (by kernel_rfl) (fun _ _ _ h => h) (Or.inl ⟨by rfl, fun w hc => ?_⟩) (unhide HS) ?_
  · have q := Lib.cell_of_heap hc 0; clear hc; go_simp
  go_simp
  refine wpAnyH_ready (rs := [1]) (by kernel_rfl) (by simp) ?_
  refine AllReadyH.cons rfl (fun K2 hK => ?_) AllReadyH.nil
  go_simp
  refine (markI_any ⟨#[45]⟩ _).mono ?_
  rintro r w3 ⟨rfl, hb3⟩
  unfold Tk.v Tk.cs
  have O3 := hide ((unhide O2).later hb3)
  have D3 := hide ((unhide D2).trans (hb3.mono (Nat.le_trans hB (unhide D2).size)))
  have P3 := hide ((unhide P2).trans (KpT.of hb3))
  have S3 := hide (KpT.of hb3 _ _ _ _ (unhide HS) (by decide))
  refine hK.out _ _ (unhide S3) (fun hS => ?_)
  clear HS
  have HS := hide hS
  clear hS hK K2
  clear hb3 O2 D2 P2
  refine wpAnyH_ready (rs := [2]) (by kernel_rfl) (by simp) ?_
  refine AllReadyH.cons rfl (fun K2 hK => ?_) AllReadyH.nil
  go_simp
  have hb4 := below_new w3 (.cells #[.int .i64 4, .int .i64 0, .string ⟨#[45]⟩] 31)
  have O4 := hide ((unhide O3).later hb4)
  have D4 := hide ((unhide D3).trans (hb4.mono (Nat.le_trans hB (unhide D3).size)))
  have P4 := hide ((unhide P3).trans (KpT.of hb4))
  have S4 := hide (KpT.of hb4 _ _ _ _ (unhide S3) (by decide))
  have C4 := hide (cell_new w3 #[.int .i64 4, .int .i64 0, .string ⟨#[45]⟩] 31)
  clear hb4 O3 D3 P3 S3
  generalize w3.heap.size = g4 at *
  generalize w3.alloc (.cells #[.int .i64 4, .int .i64 0, .string ⟨#[45]⟩] 31) = w4 at *
  refine hK.out _ _ (unhide S4) (fun hS => ?_)
  clear HS
  have HS := hide hS
  clear hS hK K2
  refine wpAnyH_ready (rs := [3]) (by kernel_rfl) (by simp) ?_
  refine AllReadyH.cons rfl (fun K2 hK => ?_) AllReadyH.nil
  rw [if_pos (by rfl)]
  refine wp_append_own _ (.tmp 41) (.tmp 43) 24 rfl B 31 i0 (.agg #[.int .i64 0, .int .i64 0, .string ⟨#[]⟩]) 3 32 Tryd.underlying24 hi hz0 hz1 hz2 rfl (by decide) v ts.length (cellsT ts) rfl (unhide O4) ⟨g4, 0, none⟩ 1 1 [.int .i64 4, .int .i64 0, .string ⟨#[45]⟩] rfl rfl (unhide C4) (newT_one _ _ _) (by unfold maxLen; omega) (by omega) (Nat.le_trans hB (unhide D4).size) ?_
  intro v5 w5 hown5 hgrow5 _
  have O5 := hide (ownT_app (t := ⟨4, 0, ⟨#[45]⟩⟩) hown5)
  have D5 := hide ((unhide D4).grown hgrow5 (Nat.le_trans hB (unhide D4).size) (fun g hg => ((unhide O4).lt hg).1))
  have P5 := hide ((unhide P4).trans (KpT.own (unhide O4) hgrow5))
  have S5 := hide (KpT.own (unhide O4) hgrow5 _ _ _ _ (unhide S4) (by decide))
  refine hK.out _ _ (unhide S5) (fun hS => ?_)
  clear HS
  have HS := hide hS
  clear hS hK K2
  clear hown5 hgrow5 O4 D4 P4 S4 C4
  refine wpAnyH_ready (rs := [6]) (by kernel_rfl) (by simp) ?_
  refine AllReadyH.cons rfl (fun K2 hK => ?_) AllReadyH.nil
  go_simp
  refine (unhide H1 (ts ++ [⟨4, 0, ⟨#[45]⟩⟩]) v5 w5 (unhide O5) (Nat.le_trans hB (unhide D5).size) (by simp only [List.length_append, List.length_cons, List.length_nil]; omega) ((unhide HT).later (unhide D5) hs)).mono ?_
  rintro r w6 ⟨v6, rfl, o6, hb6, hp6⟩
  refine hK.out _ _ (hp6 _ _ _ _ (unhide S5) (by decide)) (fun hS => ?_)
  clear HS
  have HS := hide hS
  clear hS hK K2
  refine wpAnyH_take (i := 7) (v := v6) rfl (by kernel_rfl) (by kernel_rfl) (by kernel_rfl) (fun _ _ _ h => h) (Or.inl ⟨by rfl, fun w hc => ?_⟩) (unhide HS) ?_
  · clear hc; go_simp
  go_simp
  refine wpAnyH_done (by kernel_rfl) ?_ _
  have O6 := hide o6
  have D6 := hide ((unhide D5).trans hb6)
  have P6 := hide ((unhide P5).trans hp6)
  clear o6 hb6 hp6 O5 D5 P5 S5 HS
  go_wp2
  go_ret
  exact ⟨_, rfl, unhide O6, unhide D6, unhide P6⟩
set_option maxHeartbeats 8000000 in
theorem put_add (t u : TypeId) (x y : Value) (B L M : Nat) (us : List Tk) (h1 : ∀ (ts : List Tk) (v : Value) (w : World), OwnT w B v ts → B ≤ w.heap.size → ts.length ≤ (L + 1) → TabG w → Calls Tryd.prog 78 #[v, .iface t x] w fun r w' => ∃ v', r = .returned v' ∧ OwnT w' B v' (ts ++ us) ∧ Below B w w' ∧ KpT w w') (hus : us.length ≤ M) (us2 : List Tk) (h2 : ∀ (ts : List Tk) (v : Value) (w : World), OwnT w B v ts → B ≤ w.heap.size → ts.length ≤ (L + M + 2) → TabG w → Calls Tryd.prog 78 #[v, .iface u y] w fun r w' => ∃ v', r = .returned v' ∧ OwnT w' B v' (ts ++ us2) ∧ Below B w w' ∧ KpT w w') (hus2 : us2.length ≤ M) (hLM : L + 2 * M + 3 ≤ 500) (ts : List Tk) (v : Value) (w : World) (ho : OwnT w B v ts) (hB : B ≤ w.heap.size) (hl : ts.length ≤ L) (hT : TabG w) (hs : 2 < B) : Calls Tryd.prog 78 #[v, .iface 145 (.agg #[.iface t x, .iface u y])] w fun r w' => ∃ v', r = .returned v' ∧ OwnT w' B v' ((((ts ++ [⟨4, 0, ⟨#[60]⟩⟩]) ++ us) ++ [⟨4, 0, ⟨#[43]⟩⟩]) ++ us2 ++ [⟨4, 0, ⟨#[62]⟩⟩]) ∧ Below B w w' ∧ KpT w w' := by
  obtain ⟨i0, hi, hz0, hz1, hz2⟩ := info_parts infoT
  have t0 := taN_num 145 (.agg #[.iface t x, .iface u y]) (by decide)
  have t1 := taN_sym 145 (.agg #[.iface t x, .iface u y]) (by decide)
  have t2 := taN_here 145 (.agg #[.iface t x, .iface u y]) (by decide)
  have t3 := taN_neg 145 (.agg #[.iface t x, .iface u y]) (by decide)
  have m := me_add (.iface t x) (.iface u y)
  have PT := hide (parts2 t u x y w)
  have KD := hide (fun w => kind_add 0 E0 t u x y w)
  have SG := hide (fun w1 (h : TabG w1) => (show w1.cell? ⟨2, 5, none⟩ = some (.string ⟨#[43]⟩) by obtain ⟨t, fr, h⟩ := h; exact Lib.cell_of_heap h 5))
  have HT := hide hT
  have H1 := hide h1
  have H2 := hide h2
  have O0 := hide ho
  obtain ⟨RS, hRS⟩ : ∃ RS, (((ts ++ [Tk.mk 4 0 ⟨#[60]⟩]) ++ us) ++ [Tk.mk 4 0 ⟨#[43]⟩]) ++ us2 ++ [Tk.mk 4 0 ⟨#[62]⟩] = RS := ⟨_, rfl⟩
  rw [hRS]
  have E1 := hide (fun ts1 (h : (ts ++ [Tk.mk 4 0 ⟨#[60]⟩]) ++ us = ts1) ts2 (h2 : (ts1 ++ [Tk.mk 4 0 ⟨#[43]⟩]) ++ us2 = ts2) => (show ts2 ++ [Tk.mk 4 0 ⟨#[62]⟩] = RS by rw [← hRS, h, h2]))
  clear hT h1 h2 ho hRS
  go_enter Tryd.func78, Tryd.ntmps78
  go_wp2_with fail
  refine (unhide PT).mono ?_
  rintro r w1 ⟨gp, rfl, hgp, hb1⟩
  have O1 := hide ((unhide O0).later hb1)
  have D1 := hide (hb1.mono hB)
  have P1 := hide (KpT.of hb1)
  have G1 := hide hgp
  have c0 := Lib.cell_of_heap hgp 0
  clear hb1 hgp O0 PT
  go_wp2
  refine wp_loop_rounds 3 ?_
  rw [rounds_succ]
  go_wp2_with fail
  refine (markI_any ⟨#[60]⟩ w1).mono ?_
  rintro r w2 ⟨rfl, hb2⟩
  have O2 := hide ((unhide O1).later hb2)
  have D2 := hide ((unhide D1).trans (hb2.mono (Nat.le_trans hB (unhide D1).size)))
  have P2 := hide ((unhide P1).trans (KpT.of hb2))
  have G2 := hide (KpT.of hb2 _ _ _ _ (unhide G1) (by decide))
  clear hb2 O1 D1 P1 G1 c0
  unfold Tk.v Tk.cs
  go_wp2_with (first | (at_builtin; go_must (refine wpList_append_own _ rfl (.tmp 62) (.tmp 65) 24 rfl B 31 i0 (.agg #[.int .i64 0, .int .i64 0, .string ⟨#[]⟩]) 3 32 Tryd.underlying24 hi hz0 hz1 hz2 rfl (by decide) v (ts).length (cellsT (ts)) rfl (World.ownsRow.alloc (unhide O2) _) ⟨w2.heap.size, 0, none⟩ 1 1 [.int .i64 4, .int .i64 0, .string ⟨#[60]⟩] rfl rfl (cell_new w2 #[.int .i64 4, .int .i64 0, .string ⟨#[60]⟩] 31) (newT_one _ _ _) (by unfold maxLen; (try simp only [List.length_append, List.length_cons, List.length_nil]); omega) (by (try simp only [List.length_append, List.length_cons, List.length_nil]); omega) (by have := (unhide D2).size; simp; omega) ?_; intro v3 w3 hown3 hgrow3 _; have O3 := hide (ownT_app (t := ⟨4, 0, ⟨#[60]⟩⟩) hown3); have D3 := hide (((unhide D2).alloc (Nat.le_trans hB (unhide D2).size) (.cells #[.int .i64 4, .int .i64 0, .string ⟨#[60]⟩] 31)).grown hgrow3 (by have := (unhide D2).size; simp; omega) (fun g hg => ((unhide O2).lt hg).1)); have P3 := hide ((KpT.of (below_new w2 (.cells #[.int .i64 4, .int .i64 0, .string ⟨#[60]⟩] 31))).trans (KpT.own (B := B) (ts := ts) (World.ownsRow.alloc (unhide O2) _) hgrow3)); clear hown3 hgrow3; have Q3 := hide ((unhide P2).trans (unhide P3)); have G3 := hide (unhide P3 _ _ _ _ (unhide G2) (by decide)); have A3 := hide (unhide H1 (ts ++ [⟨4, 0, ⟨#[60]⟩⟩]) v3 w3 (unhide O3) (Nat.le_trans hB (unhide D3).size) (by simp only [List.length_append, List.length_cons, List.length_nil]; omega) ((unhide HT).later (unhide D3) hs)))) | (go_at_call 78; refine (unhide A3).mono ?_; rintro r w4 ⟨v4, rfl, o4, hb4, hp4⟩))
  have O4 := hide o4
  have D4 := hide ((unhide D3).trans hb4)
  have P4 := hide ((unhide Q3).trans hp4)
  have G4 := hide (hp4 _ _ _ _ (unhide G3) (by decide))
  have T4 := unhide SG w4 ((unhide HT).later (unhide D4) hs)
  have c1 := Lib.cell_of_heap (unhide G4) 1
  clear o4 hb4 hp4 O3 D3 P3 Q3 G3 A3 O2 D2 P2 G2
  have l4 : ((ts ++ [Tk.mk 4 0 ⟨#[60]⟩]) ++ us).length = ts.length + 1 + us.length := by simp only [List.length_append, List.length_cons, List.length_nil]
  generalize hts1 : (ts ++ [Tk.mk 4 0 ⟨#[60]⟩]) ++ us = ts1 at *
  have E2 := hide (unhide E1 ts1 (by first | rfl | exact hts1))
  clear E1 hts1
  rw [rounds_succ]
  go_wp2_with (first | (go_at_call 100; refine (unhide KD _).mono ?_; rintro r w' ⟨rfl, hw'⟩; rw [hw']; clear hw' w') | (go_at_call 40; refine (markI_any ⟨#[43]⟩ w4).mono ?_; rintro r w5 ⟨rfl, hb5⟩; have O5 := hide ((unhide O4).later hb5); have D5 := hide ((unhide D4).trans (hb5.mono (Nat.le_trans hB (unhide D4).size))); have P5 := hide ((unhide P4).trans (KpT.of hb5)); have G5 := hide (KpT.of hb5 _ _ _ _ (unhide G4) (by decide)); clear hb5; unfold Tk.v Tk.cs) | (at_builtin; go_must (refine wpList_append_own _ rfl (.tmp 62) (.tmp 65) 24 rfl B 31 i0 (.agg #[.int .i64 0, .int .i64 0, .string ⟨#[]⟩]) 3 32 Tryd.underlying24 hi hz0 hz1 hz2 rfl (by decide) v4 (ts1).length (cellsT (ts1)) rfl (World.ownsRow.alloc (unhide O5) _) ⟨w5.heap.size, 0, none⟩ 1 1 [.int .i64 4, .int .i64 0, .string ⟨#[43]⟩] rfl rfl (cell_new w5 #[.int .i64 4, .int .i64 0, .string ⟨#[43]⟩] 31) (newT_one _ _ _) (by unfold maxLen; (try simp only [List.length_append, List.length_cons, List.length_nil]); omega) (by (try simp only [List.length_append, List.length_cons, List.length_nil]); omega) (by have := (unhide D5).size; simp; omega) ?_; intro v6 w6 hown6 hgrow6 _; have O6 := hide (ownT_app (t := ⟨4, 0, ⟨#[43]⟩⟩) hown6); have D6 := hide (((unhide D5).alloc (Nat.le_trans hB (unhide D5).size) (.cells #[.int .i64 4, .int .i64 0, .string ⟨#[43]⟩] 31)).grown hgrow6 (by have := (unhide D5).size; simp; omega) (fun g hg => ((unhide O5).lt hg).1)); have P6 := hide ((KpT.of (below_new w5 (.cells #[.int .i64 4, .int .i64 0, .string ⟨#[43]⟩] 31))).trans (KpT.own (B := B) (ts := ts1) (World.ownsRow.alloc (unhide O5) _) hgrow6)); clear hown6 hgrow6; have Q6 := hide ((unhide P5).trans (unhide P6)); have G6 := hide (unhide P6 _ _ _ _ (unhide G5) (by decide)); have A6 := hide (unhide H2 (ts1 ++ [⟨4, 0, ⟨#[43]⟩⟩]) v6 w6 (unhide O6) (Nat.le_trans hB (unhide D6).size) (by simp only [List.length_append, List.length_cons, List.length_nil]; omega) ((unhide HT).later (unhide D6) hs)))) | (go_at_call 78; refine (unhide A6).mono ?_; rintro r w7 ⟨v7, rfl, o7, hb7, hp7⟩))
  have O7 := hide o7
  have D7 := hide ((unhide D6).trans hb7)
  have P7 := hide ((unhide Q6).trans hp7)
  clear o7 hb7 hp7 O6 D6 P6 Q6 G6 A6 T4 c1 G4 O5 D5 P5 G5 O4 D4 P4
  have l7 : ((ts1 ++ [Tk.mk 4 0 ⟨#[43]⟩]) ++ us2).length = ts1.length + 1 + us2.length := by simp only [List.length_append, List.length_cons, List.length_nil]
  generalize hts2 : (ts1 ++ [Tk.mk 4 0 ⟨#[43]⟩]) ++ us2 = ts2 at *
  have E3 := hide (unhide E2 ts2 (by first | rfl | exact hts2))
  clear E2 hts2
  rw [rounds_succ]
  go_wp2_with fail
  refine (markI_any ⟨#[62]⟩ w7).mono ?_
  rintro r w8 ⟨rfl, hb8⟩
  have O8 := hide ((unhide O7).later hb8)
  have D8 := hide ((unhide D7).trans (hb8.mono (Nat.le_trans hB (unhide D7).size)))
  have P8 := hide ((unhide P7).trans (KpT.of hb8))
  clear hb8 O7 D7 P7
  unfold Tk.v Tk.cs
  go_wp2_with (at_builtin; go_must (refine wpList_append_own _ rfl (.tmp 70) (.tmp 72) 24 rfl B 31 i0 (.agg #[.int .i64 0, .int .i64 0, .string ⟨#[]⟩]) 3 32 Tryd.underlying24 hi hz0 hz1 hz2 rfl (by decide) v7 (ts2).length (cellsT (ts2)) rfl (World.ownsRow.alloc (unhide O8) _) ⟨w8.heap.size, 0, none⟩ 1 1 [.int .i64 4, .int .i64 0, .string ⟨#[62]⟩] rfl rfl (cell_new w8 #[.int .i64 4, .int .i64 0, .string ⟨#[62]⟩] 31) (newT_one _ _ _) (by unfold maxLen; (try simp only [List.length_append, List.length_cons, List.length_nil]); omega) (by (try simp only [List.length_append, List.length_cons, List.length_nil]); omega) (by have := (unhide D8).size; simp; omega) ?_; intro v9 w9 hown9 hgrow9 _; have O9 := hide (ownT_app (t := ⟨4, 0, ⟨#[62]⟩⟩) hown9); have D9 := hide (((unhide D8).alloc (Nat.le_trans hB (unhide D8).size) (.cells #[.int .i64 4, .int .i64 0, .string ⟨#[62]⟩] 31)).grown hgrow9 (by have := (unhide D8).size; simp; omega) (fun g hg => ((unhide O8).lt hg).1)); have P9 := hide ((KpT.of (below_new w8 (.cells #[.int .i64 4, .int .i64 0, .string ⟨#[62]⟩] 31))).trans (KpT.own (B := B) (ts := ts2) (World.ownsRow.alloc (unhide O8) _) hgrow9)); clear hown9 hgrow9))
  go_ret
  rw [unhide E3] at O9
  exact ⟨_, rfl, unhide O9, unhide D9, (unhide P8).trans (unhide P9)⟩
set_option maxHeartbeats 8000000 in
theorem put_sub (t u : TypeId) (x y : Value) (B L M : Nat) (us : List Tk) (h1 : ∀ (ts : List Tk) (v : Value) (w : World), OwnT w B v ts → B ≤ w.heap.size → ts.length ≤ (L + 1) → TabG w → Calls Tryd.prog 78 #[v, .iface t x] w fun r w' => ∃ v', r = .returned v' ∧ OwnT w' B v' (ts ++ us) ∧ Below B w w' ∧ KpT w w') (hus : us.length ≤ M) (us2 : List Tk) (h2 : ∀ (ts : List Tk) (v : Value) (w : World), OwnT w B v ts → B ≤ w.heap.size → ts.length ≤ (L + M + 2) → TabG w → Calls Tryd.prog 78 #[v, .iface u y] w fun r w' => ∃ v', r = .returned v' ∧ OwnT w' B v' (ts ++ us2) ∧ Below B w w' ∧ KpT w w') (hus2 : us2.length ≤ M) (hLM : L + 2 * M + 3 ≤ 500) (ts : List Tk) (v : Value) (w : World) (ho : OwnT w B v ts) (hB : B ≤ w.heap.size) (hl : ts.length ≤ L) (hT : TabG w) (hs : 2 < B) : Calls Tryd.prog 78 #[v, .iface 146 (.agg #[.iface t x, .iface u y])] w fun r w' => ∃ v', r = .returned v' ∧ OwnT w' B v' ((((ts ++ [⟨4, 0, ⟨#[60]⟩⟩]) ++ us) ++ [⟨4, 0, ⟨#[45]⟩⟩]) ++ us2 ++ [⟨4, 0, ⟨#[62]⟩⟩]) ∧ Below B w w' ∧ KpT w w' := by
  obtain ⟨i0, hi, hz0, hz1, hz2⟩ := info_parts infoT
  have t0 := taN_num 146 (.agg #[.iface t x, .iface u y]) (by decide)
  have t1 := taN_sym 146 (.agg #[.iface t x, .iface u y]) (by decide)
  have t2 := taN_here 146 (.agg #[.iface t x, .iface u y]) (by decide)
  have t3 := taN_neg 146 (.agg #[.iface t x, .iface u y]) (by decide)
  have m := me_sub (.iface t x) (.iface u y)
  have PT := hide (parts2 t u x y w)
  have KD := hide (fun w => kind_sub 0 E0 t u x y w)
  have SG := hide (fun w1 (h : TabG w1) => (show w1.cell? ⟨2, 6, none⟩ = some (.string ⟨#[45]⟩) by obtain ⟨t, fr, h⟩ := h; exact Lib.cell_of_heap h 6))
  have HT := hide hT
  have H1 := hide h1
  have H2 := hide h2
  have O0 := hide ho
  obtain ⟨RS, hRS⟩ : ∃ RS, (((ts ++ [Tk.mk 4 0 ⟨#[60]⟩]) ++ us) ++ [Tk.mk 4 0 ⟨#[45]⟩]) ++ us2 ++ [Tk.mk 4 0 ⟨#[62]⟩] = RS := ⟨_, rfl⟩
  rw [hRS]
  have E1 := hide (fun ts1 (h : (ts ++ [Tk.mk 4 0 ⟨#[60]⟩]) ++ us = ts1) ts2 (h2 : (ts1 ++ [Tk.mk 4 0 ⟨#[45]⟩]) ++ us2 = ts2) => (show ts2 ++ [Tk.mk 4 0 ⟨#[62]⟩] = RS by rw [← hRS, h, h2]))
  clear hT h1 h2 ho hRS
  go_enter Tryd.func78, Tryd.ntmps78
  go_wp2_with fail
  refine (unhide PT).mono ?_
  rintro r w1 ⟨gp, rfl, hgp, hb1⟩
  have O1 := hide ((unhide O0).later hb1)
  have D1 := hide (hb1.mono hB)
  have P1 := hide (KpT.of hb1)
  have G1 := hide hgp
  have c0 := Lib.cell_of_heap hgp 0
  clear hb1 hgp O0 PT
  go_wp2
  refine wp_loop_rounds 3 ?_
  rw [rounds_succ]
  go_wp2_with fail
  refine (markI_any ⟨#[60]⟩ w1).mono ?_
  rintro r w2 ⟨rfl, hb2⟩
  have O2 := hide ((unhide O1).later hb2)
  have D2 := hide ((unhide D1).trans (hb2.mono (Nat.le_trans hB (unhide D1).size)))
  have P2 := hide ((unhide P1).trans (KpT.of hb2))
  have G2 := hide (KpT.of hb2 _ _ _ _ (unhide G1) (by decide))
  clear hb2 O1 D1 P1 G1 c0
  unfold Tk.v Tk.cs
  go_wp2_with (first | (at_builtin; go_must (refine wpList_append_own _ rfl (.tmp 62) (.tmp 65) 24 rfl B 31 i0 (.agg #[.int .i64 0, .int .i64 0, .string ⟨#[]⟩]) 3 32 Tryd.underlying24 hi hz0 hz1 hz2 rfl (by decide) v (ts).length (cellsT (ts)) rfl (World.ownsRow.alloc (unhide O2) _) ⟨w2.heap.size, 0, none⟩ 1 1 [.int .i64 4, .int .i64 0, .string ⟨#[60]⟩] rfl rfl (cell_new w2 #[.int .i64 4, .int .i64 0, .string ⟨#[60]⟩] 31) (newT_one _ _ _) (by unfold maxLen; (try simp only [List.length_append, List.length_cons, List.length_nil]); omega) (by (try simp only [List.length_append, List.length_cons, List.length_nil]); omega) (by have := (unhide D2).size; simp; omega) ?_; intro v3 w3 hown3 hgrow3 _; have O3 := hide (ownT_app (t := ⟨4, 0, ⟨#[60]⟩⟩) hown3); have D3 := hide (((unhide D2).alloc (Nat.le_trans hB (unhide D2).size) (.cells #[.int .i64 4, .int .i64 0, .string ⟨#[60]⟩] 31)).grown hgrow3 (by have := (unhide D2).size; simp; omega) (fun g hg => ((unhide O2).lt hg).1)); have P3 := hide ((KpT.of (below_new w2 (.cells #[.int .i64 4, .int .i64 0, .string ⟨#[60]⟩] 31))).trans (KpT.own (B := B) (ts := ts) (World.ownsRow.alloc (unhide O2) _) hgrow3)); clear hown3 hgrow3; have Q3 := hide ((unhide P2).trans (unhide P3)); have G3 := hide (unhide P3 _ _ _ _ (unhide G2) (by decide)); have A3 := hide (unhide H1 (ts ++ [⟨4, 0, ⟨#[60]⟩⟩]) v3 w3 (unhide O3) (Nat.le_trans hB (unhide D3).size) (by simp only [List.length_append, List.length_cons, List.length_nil]; omega) ((unhide HT).later (unhide D3) hs)))) | (go_at_call 78; refine (unhide A3).mono ?_; rintro r w4 ⟨v4, rfl, o4, hb4, hp4⟩))
  have O4 := hide o4
  have D4 := hide ((unhide D3).trans hb4)
  have P4 := hide ((unhide Q3).trans hp4)
  have G4 := hide (hp4 _ _ _ _ (unhide G3) (by decide))
  have T4 := unhide SG w4 ((unhide HT).later (unhide D4) hs)
  have c1 := Lib.cell_of_heap (unhide G4) 1
  clear o4 hb4 hp4 O3 D3 P3 Q3 G3 A3 O2 D2 P2 G2
  have l4 : ((ts ++ [Tk.mk 4 0 ⟨#[60]⟩]) ++ us).length = ts.length + 1 + us.length := by simp only [List.length_append, List.length_cons, List.length_nil]
  generalize hts1 : (ts ++ [Tk.mk 4 0 ⟨#[60]⟩]) ++ us = ts1 at *
  have E2 := hide (unhide E1 ts1 (by first | rfl | exact hts1))
  clear E1 hts1
  rw [rounds_succ]
  go_wp2_with (first | (go_at_call 100; refine (unhide KD _).mono ?_; rintro r w' ⟨rfl, hw'⟩; rw [hw']; clear hw' w') | (go_at_call 40; refine (markI_any ⟨#[45]⟩ w4).mono ?_; rintro r w5 ⟨rfl, hb5⟩; have O5 := hide ((unhide O4).later hb5); have D5 := hide ((unhide D4).trans (hb5.mono (Nat.le_trans hB (unhide D4).size))); have P5 := hide ((unhide P4).trans (KpT.of hb5)); have G5 := hide (KpT.of hb5 _ _ _ _ (unhide G4) (by decide)); clear hb5; unfold Tk.v Tk.cs) | (at_builtin; go_must (refine wpList_append_own _ rfl (.tmp 62) (.tmp 65) 24 rfl B 31 i0 (.agg #[.int .i64 0, .int .i64 0, .string ⟨#[]⟩]) 3 32 Tryd.underlying24 hi hz0 hz1 hz2 rfl (by decide) v4 (ts1).length (cellsT (ts1)) rfl (World.ownsRow.alloc (unhide O5) _) ⟨w5.heap.size, 0, none⟩ 1 1 [.int .i64 4, .int .i64 0, .string ⟨#[45]⟩] rfl rfl (cell_new w5 #[.int .i64 4, .int .i64 0, .string ⟨#[45]⟩] 31) (newT_one _ _ _) (by unfold maxLen; (try simp only [List.length_append, List.length_cons, List.length_nil]); omega) (by (try simp only [List.length_append, List.length_cons, List.length_nil]); omega) (by have := (unhide D5).size; simp; omega) ?_; intro v6 w6 hown6 hgrow6 _; have O6 := hide (ownT_app (t := ⟨4, 0, ⟨#[45]⟩⟩) hown6); have D6 := hide (((unhide D5).alloc (Nat.le_trans hB (unhide D5).size) (.cells #[.int .i64 4, .int .i64 0, .string ⟨#[45]⟩] 31)).grown hgrow6 (by have := (unhide D5).size; simp; omega) (fun g hg => ((unhide O5).lt hg).1)); have P6 := hide ((KpT.of (below_new w5 (.cells #[.int .i64 4, .int .i64 0, .string ⟨#[45]⟩] 31))).trans (KpT.own (B := B) (ts := ts1) (World.ownsRow.alloc (unhide O5) _) hgrow6)); clear hown6 hgrow6; have Q6 := hide ((unhide P5).trans (unhide P6)); have G6 := hide (unhide P6 _ _ _ _ (unhide G5) (by decide)); have A6 := hide (unhide H2 (ts1 ++ [⟨4, 0, ⟨#[45]⟩⟩]) v6 w6 (unhide O6) (Nat.le_trans hB (unhide D6).size) (by simp only [List.length_append, List.length_cons, List.length_nil]; omega) ((unhide HT).later (unhide D6) hs)))) | (go_at_call 78; refine (unhide A6).mono ?_; rintro r w7 ⟨v7, rfl, o7, hb7, hp7⟩))
  have O7 := hide o7
  have D7 := hide ((unhide D6).trans hb7)
  have P7 := hide ((unhide Q6).trans hp7)
  clear o7 hb7 hp7 O6 D6 P6 Q6 G6 A6 T4 c1 G4 O5 D5 P5 G5 O4 D4 P4
  have l7 : ((ts1 ++ [Tk.mk 4 0 ⟨#[45]⟩]) ++ us2).length = ts1.length + 1 + us2.length := by simp only [List.length_append, List.length_cons, List.length_nil]
  generalize hts2 : (ts1 ++ [Tk.mk 4 0 ⟨#[45]⟩]) ++ us2 = ts2 at *
  have E3 := hide (unhide E2 ts2 (by first | rfl | exact hts2))
  clear E2 hts2
  rw [rounds_succ]
  go_wp2_with fail
  refine (markI_any ⟨#[62]⟩ w7).mono ?_
  rintro r w8 ⟨rfl, hb8⟩
  have O8 := hide ((unhide O7).later hb8)
  have D8 := hide ((unhide D7).trans (hb8.mono (Nat.le_trans hB (unhide D7).size)))
  have P8 := hide ((unhide P7).trans (KpT.of hb8))
  clear hb8 O7 D7 P7
  unfold Tk.v Tk.cs
  go_wp2_with (at_builtin; go_must (refine wpList_append_own _ rfl (.tmp 70) (.tmp 72) 24 rfl B 31 i0 (.agg #[.int .i64 0, .int .i64 0, .string ⟨#[]⟩]) 3 32 Tryd.underlying24 hi hz0 hz1 hz2 rfl (by decide) v7 (ts2).length (cellsT (ts2)) rfl (World.ownsRow.alloc (unhide O8) _) ⟨w8.heap.size, 0, none⟩ 1 1 [.int .i64 4, .int .i64 0, .string ⟨#[62]⟩] rfl rfl (cell_new w8 #[.int .i64 4, .int .i64 0, .string ⟨#[62]⟩] 31) (newT_one _ _ _) (by unfold maxLen; (try simp only [List.length_append, List.length_cons, List.length_nil]); omega) (by (try simp only [List.length_append, List.length_cons, List.length_nil]); omega) (by have := (unhide D8).size; simp; omega) ?_; intro v9 w9 hown9 hgrow9 _; have O9 := hide (ownT_app (t := ⟨4, 0, ⟨#[62]⟩⟩) hown9); have D9 := hide (((unhide D8).alloc (Nat.le_trans hB (unhide D8).size) (.cells #[.int .i64 4, .int .i64 0, .string ⟨#[62]⟩] 31)).grown hgrow9 (by have := (unhide D8).size; simp; omega) (fun g hg => ((unhide O8).lt hg).1)); have P9 := hide ((KpT.of (below_new w8 (.cells #[.int .i64 4, .int .i64 0, .string ⟨#[62]⟩] 31))).trans (KpT.own (B := B) (ts := ts2) (World.ownsRow.alloc (unhide O8) _) hgrow9)); clear hown9 hgrow9))
  go_ret
  rw [unhide E3] at O9
  exact ⟨_, rfl, unhide O9, unhide D9, (unhide P8).trans (unhide P9)⟩
set_option maxHeartbeats 8000000 in
theorem put_mul (t u : TypeId) (x y : Value) (B L M : Nat) (us : List Tk) (h1 : ∀ (ts : List Tk) (v : Value) (w : World), OwnT w B v ts → B ≤ w.heap.size → ts.length ≤ (L + 1) → TabG w → Calls Tryd.prog 78 #[v, .iface t x] w fun r w' => ∃ v', r = .returned v' ∧ OwnT w' B v' (ts ++ us) ∧ Below B w w' ∧ KpT w w') (hus : us.length ≤ M) (us2 : List Tk) (h2 : ∀ (ts : List Tk) (v : Value) (w : World), OwnT w B v ts → B ≤ w.heap.size → ts.length ≤ (L + M + 2) → TabG w → Calls Tryd.prog 78 #[v, .iface u y] w fun r w' => ∃ v', r = .returned v' ∧ OwnT w' B v' (ts ++ us2) ∧ Below B w w' ∧ KpT w w') (hus2 : us2.length ≤ M) (hLM : L + 2 * M + 3 ≤ 500) (ts : List Tk) (v : Value) (w : World) (ho : OwnT w B v ts) (hB : B ≤ w.heap.size) (hl : ts.length ≤ L) (hT : TabG w) (hs : 2 < B) : Calls Tryd.prog 78 #[v, .iface 147 (.agg #[.iface t x, .iface u y])] w fun r w' => ∃ v', r = .returned v' ∧ OwnT w' B v' ((((ts ++ [⟨4, 0, ⟨#[60]⟩⟩]) ++ us) ++ [⟨4, 0, ⟨#[42]⟩⟩]) ++ us2 ++ [⟨4, 0, ⟨#[62]⟩⟩]) ∧ Below B w w' ∧ KpT w w' := by
  obtain ⟨i0, hi, hz0, hz1, hz2⟩ := info_parts infoT
  have t0 := taN_num 147 (.agg #[.iface t x, .iface u y]) (by decide)
  have t1 := taN_sym 147 (.agg #[.iface t x, .iface u y]) (by decide)
  have t2 := taN_here 147 (.agg #[.iface t x, .iface u y]) (by decide)
  have t3 := taN_neg 147 (.agg #[.iface t x, .iface u y]) (by decide)
  have m := me_mul (.iface t x) (.iface u y)
  have PT := hide (parts2 t u x y w)
  have KD := hide (fun w => kind_mul 0 E0 t u x y w)
  have SG := hide (fun w1 (h : TabG w1) => (show w1.cell? ⟨2, 7, none⟩ = some (.string ⟨#[42]⟩) by obtain ⟨t, fr, h⟩ := h; exact Lib.cell_of_heap h 7))
  have HT := hide hT
  have H1 := hide h1
  have H2 := hide h2
  have O0 := hide ho
  obtain ⟨RS, hRS⟩ : ∃ RS, (((ts ++ [Tk.mk 4 0 ⟨#[60]⟩]) ++ us) ++ [Tk.mk 4 0 ⟨#[42]⟩]) ++ us2 ++ [Tk.mk 4 0 ⟨#[62]⟩] = RS := ⟨_, rfl⟩
  rw [hRS]
  have E1 := hide (fun ts1 (h : (ts ++ [Tk.mk 4 0 ⟨#[60]⟩]) ++ us = ts1) ts2 (h2 : (ts1 ++ [Tk.mk 4 0 ⟨#[42]⟩]) ++ us2 = ts2) => (show ts2 ++ [Tk.mk 4 0 ⟨#[62]⟩] = RS by rw [← hRS, h, h2]))
  clear hT h1 h2 ho hRS
  go_enter Tryd.func78, Tryd.ntmps78
  go_wp2_with fail
  refine (unhide PT).mono ?_
  rintro r w1 ⟨gp, rfl, hgp, hb1⟩
  have O1 := hide ((unhide O0).later hb1)
  have D1 := hide (hb1.mono hB)
  have P1 := hide (KpT.of hb1)
  have G1 := hide hgp
  have c0 := Lib.cell_of_heap hgp 0
  clear hb1 hgp O0 PT
  go_wp2
  refine wp_loop_rounds 3 ?_
  rw [rounds_succ]
  go_wp2_with fail
  refine (markI_any ⟨#[60]⟩ w1).mono ?_
  rintro r w2 ⟨rfl, hb2⟩
  have O2 := hide ((unhide O1).later hb2)
  have D2 := hide ((unhide D1).trans (hb2.mono (Nat.le_trans hB (unhide D1).size)))
  have P2 := hide ((unhide P1).trans (KpT.of hb2))
  have G2 := hide (KpT.of hb2 _ _ _ _ (unhide G1) (by decide))
  clear hb2 O1 D1 P1 G1 c0
  unfold Tk.v Tk.cs
  go_wp2_with (first | (at_builtin; go_must (refine wpList_append_own _ rfl (.tmp 62) (.tmp 65) 24 rfl B 31 i0 (.agg #[.int .i64 0, .int .i64 0, .string ⟨#[]⟩]) 3 32 Tryd.underlying24 hi hz0 hz1 hz2 rfl (by decide) v (ts).length (cellsT (ts)) rfl (World.ownsRow.alloc (unhide O2) _) ⟨w2.heap.size, 0, none⟩ 1 1 [.int .i64 4, .int .i64 0, .string ⟨#[60]⟩] rfl rfl (cell_new w2 #[.int .i64 4, .int .i64 0, .string ⟨#[60]⟩] 31) (newT_one _ _ _) (by unfold maxLen; (try simp only [List.length_append, List.length_cons, List.length_nil]); omega) (by (try simp only [List.length_append, List.length_cons, List.length_nil]); omega) (by have := (unhide D2).size; simp; omega) ?_; intro v3 w3 hown3 hgrow3 _; have O3 := hide (ownT_app (t := ⟨4, 0, ⟨#[60]⟩⟩) hown3); have D3 := hide (((unhide D2).alloc (Nat.le_trans hB (unhide D2).size) (.cells #[.int .i64 4, .int .i64 0, .string ⟨#[60]⟩] 31)).grown hgrow3 (by have := (unhide D2).size; simp; omega) (fun g hg => ((unhide O2).lt hg).1)); have P3 := hide ((KpT.of (below_new w2 (.cells #[.int .i64 4, .int .i64 0, .string ⟨#[60]⟩] 31))).trans (KpT.own (B := B) (ts := ts) (World.ownsRow.alloc (unhide O2) _) hgrow3)); clear hown3 hgrow3; have Q3 := hide ((unhide P2).trans (unhide P3)); have G3 := hide (unhide P3 _ _ _ _ (unhide G2) (by decide)); have A3 := hide (unhide H1 (ts ++ [⟨4, 0, ⟨#[60]⟩⟩]) v3 w3 (unhide O3) (Nat.le_trans hB (unhide D3).size) (by simp only [List.length_append, List.length_cons, List.length_nil]; omega) ((unhide HT).later (unhide D3) hs)))) | (go_at_call 78; refine (unhide A3).mono ?_; rintro r w4 ⟨v4, rfl, o4, hb4, hp4⟩))
  have O4 := hide o4
  have D4 := hide ((unhide D3).trans hb4)
  have P4 := hide ((unhide Q3).trans hp4)
  have G4 := hide (hp4 _ _ _ _ (unhide G3) (by decide))
  have T4 := unhide SG w4 ((unhide HT).later (unhide D4) hs)
  have c1 := Lib.cell_of_heap (unhide G4) 1
  clear o4 hb4 hp4 O3 D3 P3 Q3 G3 A3 O2 D2 P2 G2
  have l4 : ((ts ++ [Tk.mk 4 0 ⟨#[60]⟩]) ++ us).length = ts.length + 1 + us.length := by simp only [List.length_append, List.length_cons, List.length_nil]
  generalize hts1 : (ts ++ [Tk.mk 4 0 ⟨#[60]⟩]) ++ us = ts1 at *
  have E2 := hide (unhide E1 ts1 (by first | rfl | exact hts1))
  clear E1 hts1
  rw [rounds_succ]
  go_wp2_with (first | (go_at_call 100; refine (unhide KD _).mono ?_; rintro r w' ⟨rfl, hw'⟩; rw [hw']; clear hw' w') | (go_at_call 40; refine (markI_any ⟨#[42]⟩ w4).mono ?_; rintro r w5 ⟨rfl, hb5⟩; have O5 := hide ((unhide O4).later hb5); have D5 := hide ((unhide D4).trans (hb5.mono (Nat.le_trans hB (unhide D4).size))); have P5 := hide ((unhide P4).trans (KpT.of hb5)); have G5 := hide (KpT.of hb5 _ _ _ _ (unhide G4) (by decide)); clear hb5; unfold Tk.v Tk.cs) | (at_builtin; go_must (refine wpList_append_own _ rfl (.tmp 62) (.tmp 65) 24 rfl B 31 i0 (.agg #[.int .i64 0, .int .i64 0, .string ⟨#[]⟩]) 3 32 Tryd.underlying24 hi hz0 hz1 hz2 rfl (by decide) v4 (ts1).length (cellsT (ts1)) rfl (World.ownsRow.alloc (unhide O5) _) ⟨w5.heap.size, 0, none⟩ 1 1 [.int .i64 4, .int .i64 0, .string ⟨#[42]⟩] rfl rfl (cell_new w5 #[.int .i64 4, .int .i64 0, .string ⟨#[42]⟩] 31) (newT_one _ _ _) (by unfold maxLen; (try simp only [List.length_append, List.length_cons, List.length_nil]); omega) (by (try simp only [List.length_append, List.length_cons, List.length_nil]); omega) (by have := (unhide D5).size; simp; omega) ?_; intro v6 w6 hown6 hgrow6 _; have O6 := hide (ownT_app (t := ⟨4, 0, ⟨#[42]⟩⟩) hown6); have D6 := hide (((unhide D5).alloc (Nat.le_trans hB (unhide D5).size) (.cells #[.int .i64 4, .int .i64 0, .string ⟨#[42]⟩] 31)).grown hgrow6 (by have := (unhide D5).size; simp; omega) (fun g hg => ((unhide O5).lt hg).1)); have P6 := hide ((KpT.of (below_new w5 (.cells #[.int .i64 4, .int .i64 0, .string ⟨#[42]⟩] 31))).trans (KpT.own (B := B) (ts := ts1) (World.ownsRow.alloc (unhide O5) _) hgrow6)); clear hown6 hgrow6; have Q6 := hide ((unhide P5).trans (unhide P6)); have G6 := hide (unhide P6 _ _ _ _ (unhide G5) (by decide)); have A6 := hide (unhide H2 (ts1 ++ [⟨4, 0, ⟨#[42]⟩⟩]) v6 w6 (unhide O6) (Nat.le_trans hB (unhide D6).size) (by simp only [List.length_append, List.length_cons, List.length_nil]; omega) ((unhide HT).later (unhide D6) hs)))) | (go_at_call 78; refine (unhide A6).mono ?_; rintro r w7 ⟨v7, rfl, o7, hb7, hp7⟩))
  have O7 := hide o7
  have D7 := hide ((unhide D6).trans hb7)
  have P7 := hide ((unhide Q6).trans hp7)
  clear o7 hb7 hp7 O6 D6 P6 Q6 G6 A6 T4 c1 G4 O5 D5 P5 G5 O4 D4 P4
  have l7 : ((ts1 ++ [Tk.mk 4 0 ⟨#[42]⟩]) ++ us2).length = ts1.length + 1 + us2.length := by simp only [List.length_append, List.length_cons, List.length_nil]
  generalize hts2 : (ts1 ++ [Tk.mk 4 0 ⟨#[42]⟩]) ++ us2 = ts2 at *
  have E3 := hide (unhide E2 ts2 (by first | rfl | exact hts2))
  clear E2 hts2
  rw [rounds_succ]
  go_wp2_with fail
  refine (markI_any ⟨#[62]⟩ w7).mono ?_
  rintro r w8 ⟨rfl, hb8⟩
  have O8 := hide ((unhide O7).later hb8)
  have D8 := hide ((unhide D7).trans (hb8.mono (Nat.le_trans hB (unhide D7).size)))
  have P8 := hide ((unhide P7).trans (KpT.of hb8))
  clear hb8 O7 D7 P7
  unfold Tk.v Tk.cs
  go_wp2_with (at_builtin; go_must (refine wpList_append_own _ rfl (.tmp 70) (.tmp 72) 24 rfl B 31 i0 (.agg #[.int .i64 0, .int .i64 0, .string ⟨#[]⟩]) 3 32 Tryd.underlying24 hi hz0 hz1 hz2 rfl (by decide) v7 (ts2).length (cellsT (ts2)) rfl (World.ownsRow.alloc (unhide O8) _) ⟨w8.heap.size, 0, none⟩ 1 1 [.int .i64 4, .int .i64 0, .string ⟨#[62]⟩] rfl rfl (cell_new w8 #[.int .i64 4, .int .i64 0, .string ⟨#[62]⟩] 31) (newT_one _ _ _) (by unfold maxLen; (try simp only [List.length_append, List.length_cons, List.length_nil]); omega) (by (try simp only [List.length_append, List.length_cons, List.length_nil]); omega) (by have := (unhide D8).size; simp; omega) ?_; intro v9 w9 hown9 hgrow9 _; have O9 := hide (ownT_app (t := ⟨4, 0, ⟨#[62]⟩⟩) hown9); have D9 := hide (((unhide D8).alloc (Nat.le_trans hB (unhide D8).size) (.cells #[.int .i64 4, .int .i64 0, .string ⟨#[62]⟩] 31)).grown hgrow9 (by have := (unhide D8).size; simp; omega) (fun g hg => ((unhide O8).lt hg).1)); have P9 := hide ((KpT.of (below_new w8 (.cells #[.int .i64 4, .int .i64 0, .string ⟨#[62]⟩] 31))).trans (KpT.own (B := B) (ts := ts2) (World.ownsRow.alloc (unhide O8) _) hgrow9)); clear hown9 hgrow9))
  go_ret
  rw [unhide E3] at O9
  exact ⟨_, rfl, unhide O9, unhide D9, (unhide P8).trans (unhide P9)⟩
set_option maxHeartbeats 8000000 in
theorem put_div (t u : TypeId) (x y : Value) (B L M : Nat) (us : List Tk) (h1 : ∀ (ts : List Tk) (v : Value) (w : World), OwnT w B v ts → B ≤ w.heap.size → ts.length ≤ (L + 1) → TabG w → Calls Tryd.prog 78 #[v, .iface t x] w fun r w' => ∃ v', r = .returned v' ∧ OwnT w' B v' (ts ++ us) ∧ Below B w w' ∧ KpT w w') (hus : us.length ≤ M) (us2 : List Tk) (h2 : ∀ (ts : List Tk) (v : Value) (w : World), OwnT w B v ts → B ≤ w.heap.size → ts.length ≤ (L + M + 2) → TabG w → Calls Tryd.prog 78 #[v, .iface u y] w fun r w' => ∃ v', r = .returned v' ∧ OwnT w' B v' (ts ++ us2) ∧ Below B w w' ∧ KpT w w') (hus2 : us2.length ≤ M) (hLM : L + 2 * M + 3 ≤ 500) (ts : List Tk) (v : Value) (w : World) (ho : OwnT w B v ts) (hB : B ≤ w.heap.size) (hl : ts.length ≤ L) (hT : TabG w) (hs : 2 < B) : Calls Tryd.prog 78 #[v, .iface 148 (.agg #[.iface t x, .iface u y])] w fun r w' => ∃ v', r = .returned v' ∧ OwnT w' B v' ((((ts ++ [⟨4, 0, ⟨#[60]⟩⟩]) ++ us) ++ [⟨4, 0, ⟨#[47]⟩⟩]) ++ us2 ++ [⟨4, 0, ⟨#[62]⟩⟩]) ∧ Below B w w' ∧ KpT w w' := by
  obtain ⟨i0, hi, hz0, hz1, hz2⟩ := info_parts infoT
  have t0 := taN_num 148 (.agg #[.iface t x, .iface u y]) (by decide)
  have t1 := taN_sym 148 (.agg #[.iface t x, .iface u y]) (by decide)
  have t2 := taN_here 148 (.agg #[.iface t x, .iface u y]) (by decide)
  have t3 := taN_neg 148 (.agg #[.iface t x, .iface u y]) (by decide)
  have m := me_div (.iface t x) (.iface u y)
  have PT := hide (parts2 t u x y w)
  have KD := hide (fun w => kind_div 0 E0 t u x y w)
  have SG := hide (fun w1 (h : TabG w1) => (show w1.cell? ⟨2, 8, none⟩ = some (.string ⟨#[47]⟩) by obtain ⟨t, fr, h⟩ := h; exact Lib.cell_of_heap h 8))
  have HT := hide hT
  have H1 := hide h1
  have H2 := hide h2
  have O0 := hide ho
  obtain ⟨RS, hRS⟩ : ∃ RS, (((ts ++ [Tk.mk 4 0 ⟨#[60]⟩]) ++ us) ++ [Tk.mk 4 0 ⟨#[47]⟩]) ++ us2 ++ [Tk.mk 4 0 ⟨#[62]⟩] = RS := ⟨_, rfl⟩
  rw [hRS]
  have E1 := hide (fun ts1 (h : (ts ++ [Tk.mk 4 0 ⟨#[60]⟩]) ++ us = ts1) ts2 (h2 : (ts1 ++ [Tk.mk 4 0 ⟨#[47]⟩]) ++ us2 = ts2) => (show ts2 ++ [Tk.mk 4 0 ⟨#[62]⟩] = RS by rw [← hRS, h, h2]))
  clear hT h1 h2 ho hRS
  go_enter Tryd.func78, Tryd.ntmps78
  go_wp2_with fail
  refine (unhide PT).mono ?_
  rintro r w1 ⟨gp, rfl, hgp, hb1⟩
  have O1 := hide ((unhide O0).later hb1)
  have D1 := hide (hb1.mono hB)
  have P1 := hide (KpT.of hb1)
  have G1 := hide hgp
  have c0 := Lib.cell_of_heap hgp 0
  clear hb1 hgp O0 PT
  go_wp2
  refine wp_loop_rounds 3 ?_
  rw [rounds_succ]
  go_wp2_with fail
  refine (markI_any ⟨#[60]⟩ w1).mono ?_
  rintro r w2 ⟨rfl, hb2⟩
  have O2 := hide ((unhide O1).later hb2)
  have D2 := hide ((unhide D1).trans (hb2.mono (Nat.le_trans hB (unhide D1).size)))
  have P2 := hide ((unhide P1).trans (KpT.of hb2))
  have G2 := hide (KpT.of hb2 _ _ _ _ (unhide G1) (by decide))
  clear hb2 O1 D1 P1 G1 c0
  unfold Tk.v Tk.cs
  go_wp2_with (first | (at_builtin; go_must (refine wpList_append_own _ rfl (.tmp 62) (.tmp 65) 24 rfl B 31 i0 (.agg #[.int .i64 0, .int .i64 0, .string ⟨#[]⟩]) 3 32 Tryd.underlying24 hi hz0 hz1 hz2 rfl (by decide) v (ts).length (cellsT (ts)) rfl (World.ownsRow.alloc (unhide O2) _) ⟨w2.heap.size, 0, none⟩ 1 1 [.int .i64 4, .int .i64 0, .string ⟨#[60]⟩] rfl rfl (cell_new w2 #[.int .i64 4, .int .i64 0, .string ⟨#[60]⟩] 31) (newT_one _ _ _) (by unfold maxLen; (try simp only [List.length_append, List.length_cons, List.length_nil]); omega) (by (try simp only [List.length_append, List.length_cons, List.length_nil]); omega) (by have := (unhide D2).size; simp; omega) ?_; intro v3 w3 hown3 hgrow3 _; have O3 := hide (ownT_app (t := ⟨4, 0, ⟨#[60]⟩⟩) hown3); have D3 := hide (((unhide D2).alloc (Nat.le_trans hB (unhide D2).size) (.cells #[.int .i64 4, .int .i64 0, .string ⟨#[60]⟩] 31)).grown hgrow3 (by have := (unhide D2).size; simp; omega) (fun g hg => ((unhide O2).lt hg).1)); have P3 := hide ((KpT.of (below_new w2 (.cells #[.int .i64 4, .int .i64 0, .string ⟨#[60]⟩] 31))).trans (KpT.own (B := B) (ts := ts) (World.ownsRow.alloc (unhide O2) _) hgrow3)); clear hown3 hgrow3; have Q3 := hide ((unhide P2).trans (unhide P3)); have G3 := hide (unhide P3 _ _ _ _ (unhide G2) (by decide)); have A3 := hide (unhide H1 (ts ++ [⟨4, 0, ⟨#[60]⟩⟩]) v3 w3 (unhide O3) (Nat.le_trans hB (unhide D3).size) (by simp only [List.length_append, List.length_cons, List.length_nil]; omega) ((unhide HT).later (unhide D3) hs)))) | (go_at_call 78; refine (unhide A3).mono ?_; rintro r w4 ⟨v4, rfl, o4, hb4, hp4⟩))
  have O4 := hide o4
  have D4 := hide ((unhide D3).trans hb4)
  have P4 := hide ((unhide Q3).trans hp4)
  have G4 := hide (hp4 _ _ _ _ (unhide G3) (by decide))
  have T4 := unhide SG w4 ((unhide HT).later (unhide D4) hs)
  have c1 := Lib.cell_of_heap (unhide G4) 1
  clear o4 hb4 hp4 O3 D3 P3 Q3 G3 A3 O2 D2 P2 G2
  have l4 : ((ts ++ [Tk.mk 4 0 ⟨#[60]⟩]) ++ us).length = ts.length + 1 + us.length := by simp only [List.length_append, List.length_cons, List.length_nil]
  generalize hts1 : (ts ++ [Tk.mk 4 0 ⟨#[60]⟩]) ++ us = ts1 at *
  have E2 := hide (unhide E1 ts1 (by first | rfl | exact hts1))
  clear E1 hts1
  rw [rounds_succ]
  go_wp2_with (first | (go_at_call 100; refine (unhide KD _).mono ?_; rintro r w' ⟨rfl, hw'⟩; rw [hw']; clear hw' w') | (go_at_call 40; refine (markI_any ⟨#[47]⟩ w4).mono ?_; rintro r w5 ⟨rfl, hb5⟩; have O5 := hide ((unhide O4).later hb5); have D5 := hide ((unhide D4).trans (hb5.mono (Nat.le_trans hB (unhide D4).size))); have P5 := hide ((unhide P4).trans (KpT.of hb5)); have G5 := hide (KpT.of hb5 _ _ _ _ (unhide G4) (by decide)); clear hb5; unfold Tk.v Tk.cs) | (at_builtin; go_must (refine wpList_append_own _ rfl (.tmp 62) (.tmp 65) 24 rfl B 31 i0 (.agg #[.int .i64 0, .int .i64 0, .string ⟨#[]⟩]) 3 32 Tryd.underlying24 hi hz0 hz1 hz2 rfl (by decide) v4 (ts1).length (cellsT (ts1)) rfl (World.ownsRow.alloc (unhide O5) _) ⟨w5.heap.size, 0, none⟩ 1 1 [.int .i64 4, .int .i64 0, .string ⟨#[47]⟩] rfl rfl (cell_new w5 #[.int .i64 4, .int .i64 0, .string ⟨#[47]⟩] 31) (newT_one _ _ _) (by unfold maxLen; (try simp only [List.length_append, List.length_cons, List.length_nil]); omega) (by (try simp only [List.length_append, List.length_cons, List.length_nil]); omega) (by have := (unhide D5).size; simp; omega) ?_; intro v6 w6 hown6 hgrow6 _; have O6 := hide (ownT_app (t := ⟨4, 0, ⟨#[47]⟩⟩) hown6); have D6 := hide (((unhide D5).alloc (Nat.le_trans hB (unhide D5).size) (.cells #[.int .i64 4, .int .i64 0, .string ⟨#[47]⟩] 31)).grown hgrow6 (by have := (unhide D5).size; simp; omega) (fun g hg => ((unhide O5).lt hg).1)); have P6 := hide ((KpT.of (below_new w5 (.cells #[.int .i64 4, .int .i64 0, .string ⟨#[47]⟩] 31))).trans (KpT.own (B := B) (ts := ts1) (World.ownsRow.alloc (unhide O5) _) hgrow6)); clear hown6 hgrow6; have Q6 := hide ((unhide P5).trans (unhide P6)); have G6 := hide (unhide P6 _ _ _ _ (unhide G5) (by decide)); have A6 := hide (unhide H2 (ts1 ++ [⟨4, 0, ⟨#[47]⟩⟩]) v6 w6 (unhide O6) (Nat.le_trans hB (unhide D6).size) (by simp only [List.length_append, List.length_cons, List.length_nil]; omega) ((unhide HT).later (unhide D6) hs)))) | (go_at_call 78; refine (unhide A6).mono ?_; rintro r w7 ⟨v7, rfl, o7, hb7, hp7⟩))
  have O7 := hide o7
  have D7 := hide ((unhide D6).trans hb7)
  have P7 := hide ((unhide Q6).trans hp7)
  clear o7 hb7 hp7 O6 D6 P6 Q6 G6 A6 T4 c1 G4 O5 D5 P5 G5 O4 D4 P4
  have l7 : ((ts1 ++ [Tk.mk 4 0 ⟨#[47]⟩]) ++ us2).length = ts1.length + 1 + us2.length := by simp only [List.length_append, List.length_cons, List.length_nil]
  generalize hts2 : (ts1 ++ [Tk.mk 4 0 ⟨#[47]⟩]) ++ us2 = ts2 at *
  have E3 := hide (unhide E2 ts2 (by first | rfl | exact hts2))
  clear E2 hts2
  rw [rounds_succ]
  go_wp2_with fail
  refine (markI_any ⟨#[62]⟩ w7).mono ?_
  rintro r w8 ⟨rfl, hb8⟩
  have O8 := hide ((unhide O7).later hb8)
  have D8 := hide ((unhide D7).trans (hb8.mono (Nat.le_trans hB (unhide D7).size)))
  have P8 := hide ((unhide P7).trans (KpT.of hb8))
  clear hb8 O7 D7 P7
  unfold Tk.v Tk.cs
  go_wp2_with (at_builtin; go_must (refine wpList_append_own _ rfl (.tmp 70) (.tmp 72) 24 rfl B 31 i0 (.agg #[.int .i64 0, .int .i64 0, .string ⟨#[]⟩]) 3 32 Tryd.underlying24 hi hz0 hz1 hz2 rfl (by decide) v7 (ts2).length (cellsT (ts2)) rfl (World.ownsRow.alloc (unhide O8) _) ⟨w8.heap.size, 0, none⟩ 1 1 [.int .i64 4, .int .i64 0, .string ⟨#[62]⟩] rfl rfl (cell_new w8 #[.int .i64 4, .int .i64 0, .string ⟨#[62]⟩] 31) (newT_one _ _ _) (by unfold maxLen; (try simp only [List.length_append, List.length_cons, List.length_nil]); omega) (by (try simp only [List.length_append, List.length_cons, List.length_nil]); omega) (by have := (unhide D8).size; simp; omega) ?_; intro v9 w9 hown9 hgrow9 _; have O9 := hide (ownT_app (t := ⟨4, 0, ⟨#[62]⟩⟩) hown9); have D9 := hide (((unhide D8).alloc (Nat.le_trans hB (unhide D8).size) (.cells #[.int .i64 4, .int .i64 0, .string ⟨#[62]⟩] 31)).grown hgrow9 (by have := (unhide D8).size; simp; omega) (fun g hg => ((unhide O8).lt hg).1)); have P9 := hide ((KpT.of (below_new w8 (.cells #[.int .i64 4, .int .i64 0, .string ⟨#[62]⟩] 31))).trans (KpT.own (B := B) (ts := ts2) (World.ownsRow.alloc (unhide O8) _) hgrow9)); clear hown9 hgrow9))
  go_ret
  rw [unhide E3] at O9
  exact ⟨_, rfl, unhide O9, unhide D9, (unhide P8).trans (unhide P9)⟩
set_option maxHeartbeats 8000000 in
theorem put_and (t u : TypeId) (x y : Value) (B L M : Nat) (us : List Tk) (h1 : ∀ (ts : List Tk) (v : Value) (w : World), OwnT w B v ts → B ≤ w.heap.size → ts.length ≤ (L + 1) → TabG w → Calls Tryd.prog 78 #[v, .iface t x] w fun r w' => ∃ v', r = .returned v' ∧ OwnT w' B v' (ts ++ us) ∧ Below B w w' ∧ KpT w w') (hus : us.length ≤ M) (us2 : List Tk) (h2 : ∀ (ts : List Tk) (v : Value) (w : World), OwnT w B v ts → B ≤ w.heap.size → ts.length ≤ (L + M + 2) → TabG w → Calls Tryd.prog 78 #[v, .iface u y] w fun r w' => ∃ v', r = .returned v' ∧ OwnT w' B v' (ts ++ us2) ∧ Below B w w' ∧ KpT w w') (hus2 : us2.length ≤ M) (hLM : L + 2 * M + 3 ≤ 500) (ts : List Tk) (v : Value) (w : World) (ho : OwnT w B v ts) (hB : B ≤ w.heap.size) (hl : ts.length ≤ L) (hT : TabG w) (hs : 2 < B) : Calls Tryd.prog 78 #[v, .iface 149 (.agg #[.iface t x, .iface u y])] w fun r w' => ∃ v', r = .returned v' ∧ OwnT w' B v' ((((ts ++ [⟨4, 0, ⟨#[60]⟩⟩]) ++ us) ++ [⟨4, 0, ⟨#[38]⟩⟩]) ++ us2 ++ [⟨4, 0, ⟨#[62]⟩⟩]) ∧ Below B w w' ∧ KpT w w' := by
  obtain ⟨i0, hi, hz0, hz1, hz2⟩ := info_parts infoT
  have t0 := taN_num 149 (.agg #[.iface t x, .iface u y]) (by decide)
  have t1 := taN_sym 149 (.agg #[.iface t x, .iface u y]) (by decide)
  have t2 := taN_here 149 (.agg #[.iface t x, .iface u y]) (by decide)
  have t3 := taN_neg 149 (.agg #[.iface t x, .iface u y]) (by decide)
  have m := me_and (.iface t x) (.iface u y)
  have PT := hide (parts2 t u x y w)
  have KD := hide (fun w => kind_and 0 E0 t u x y w)
  have SG := hide (fun w1 (h : TabG w1) => (show w1.cell? ⟨2, 9, none⟩ = some (.string ⟨#[38]⟩) by obtain ⟨t, fr, h⟩ := h; exact Lib.cell_of_heap h 9))
  have HT := hide hT
  have H1 := hide h1
  have H2 := hide h2
  have O0 := hide ho
  obtain ⟨RS, hRS⟩ : ∃ RS, (((ts ++ [Tk.mk 4 0 ⟨#[60]⟩]) ++ us) ++ [Tk.mk 4 0 ⟨#[38]⟩]) ++ us2 ++ [Tk.mk 4 0 ⟨#[62]⟩] = RS := ⟨_, rfl⟩
  rw [hRS]
  have E1 := hide (fun ts1 (h : (ts ++ [Tk.mk 4 0 ⟨#[60]⟩]) ++ us = ts1) ts2 (h2 : (ts1 ++ [Tk.mk 4 0 ⟨#[38]⟩]) ++ us2 = ts2) => (show ts2 ++ [Tk.mk 4 0 ⟨#[62]⟩] = RS by rw [← hRS, h, h2]))
  clear hT h1 h2 ho hRS
  go_enter Tryd.func78, Tryd.ntmps78
  go_wp2_with fail
  refine (unhide PT).mono ?_
  rintro r w1 ⟨gp, rfl, hgp, hb1⟩
  have O1 := hide ((unhide O0).later hb1)
  have D1 := hide (hb1.mono hB)
  have P1 := hide (KpT.of hb1)
  have G1 := hide hgp
  have c0 := Lib.cell_of_heap hgp 0
  clear hb1 hgp O0 PT
  go_wp2
  refine wp_loop_rounds 3 ?_
  rw [rounds_succ]
  go_wp2_with fail
  refine (markI_any ⟨#[60]⟩ w1).mono ?_
  rintro r w2 ⟨rfl, hb2⟩
  have O2 := hide ((unhide O1).later hb2)
  have D2 := hide ((unhide D1).trans (hb2.mono (Nat.le_trans hB (unhide D1).size)))
  have P2 := hide ((unhide P1).trans (KpT.of hb2))
  have G2 := hide (KpT.of hb2 _ _ _ _ (unhide G1) (by decide))
  clear hb2 O1 D1 P1 G1 c0
  unfold Tk.v Tk.cs
  go_wp2_with (first | (at_builtin; go_must (refine wpList_append_own _ rfl (.tmp 62) (.tmp 65) 24 rfl B 31 i0 (.agg #[.int .i64 0, .int .i64 0, .string ⟨#[]⟩]) 3 32 Tryd.underlying24 hi hz0 hz1 hz2 rfl (by decide) v (ts).length (cellsT (ts)) rfl (World.ownsRow.alloc (unhide O2) _) ⟨w2.heap.size, 0, none⟩ 1 1 [.int .i64 4, .int .i64 0, .string ⟨#[60]⟩] rfl rfl (cell_new w2 #[.int .i64 4, .int .i64 0, .string ⟨#[60]⟩] 31) (newT_one _ _ _) (by unfold maxLen; (try simp only [List.length_append, List.length_cons, List.length_nil]); omega) (by (try simp only [List.length_append, List.length_cons, List.length_nil]); omega) (by have := (unhide D2).size; simp; omega) ?_; intro v3 w3 hown3 hgrow3 _; have O3 := hide (ownT_app (t := ⟨4, 0, ⟨#[60]⟩⟩) hown3); have D3 := hide (((unhide D2).alloc (Nat.le_trans hB (unhide D2).size) (.cells #[.int .i64 4, .int .i64 0, .string ⟨#[60]⟩] 31)).grown hgrow3 (by have := (unhide D2).size; simp; omega) (fun g hg => ((unhide O2).lt hg).1)); have P3 := hide ((KpT.of (below_new w2 (.cells #[.int .i64 4, .int .i64 0, .string ⟨#[60]⟩] 31))).trans (KpT.own (B := B) (ts := ts) (World.ownsRow.alloc (unhide O2) _) hgrow3)); clear hown3 hgrow3; have Q3 := hide ((unhide P2).trans (unhide P3)); have G3 := hide (unhide P3 _ _ _ _ (unhide G2) (by decide)); have A3 := hide (unhide H1 (ts ++ [⟨4, 0, ⟨#[60]⟩⟩]) v3 w3 (unhide O3) (Nat.le_trans hB (unhide D3).size) (by simp only [List.length_append, List.length_cons, List.length_nil]; omega) ((unhide HT).later (unhide D3) hs)))) | (go_at_call 78; refine (unhide A3).mono ?_; rintro r w4 ⟨v4, rfl, o4, hb4, hp4⟩))
  have O4 := hide o4
  have D4 := hide ((unhide D3).trans hb4)
  have P4 := hide ((unhide Q3).trans hp4)
  have G4 := hide (hp4 _ _ _ _ (unhide G3) (by decide))
  have T4 := unhide SG w4 ((unhide HT).later (unhide D4) hs)
  have c1 := Lib.cell_of_heap (unhide G4) 1
  clear o4 hb4 hp4 O3 D3 P3 Q3 G3 A3 O2 D2 P2 G2
  have l4 : ((ts ++ [Tk.mk 4 0 ⟨#[60]⟩]) ++ us).length = ts.length + 1 + us.length := by simp only [List.length_append, List.length_cons, List.length_nil]
  generalize hts1 : (ts ++ [Tk.mk 4 0 ⟨#[60]⟩]) ++ us = ts1 at *
  have E2 := hide (unhide E1 ts1 (by first | rfl | exact hts1))
  clear E1 hts1
  rw [rounds_succ]
  go_wp2_with (first | (go_at_call 100; refine (unhide KD _).mono ?_; rintro r w' ⟨rfl, hw'⟩; rw [hw']; clear hw' w') | (go_at_call 40; refine (markI_any ⟨#[38]⟩ w4).mono ?_; rintro r w5 ⟨rfl, hb5⟩; have O5 := hide ((unhide O4).later hb5); have D5 := hide ((unhide D4).trans (hb5.mono (Nat.le_trans hB (unhide D4).size))); have P5 := hide ((unhide P4).trans (KpT.of hb5)); have G5 := hide (KpT.of hb5 _ _ _ _ (unhide G4) (by decide)); clear hb5; unfold Tk.v Tk.cs) | (at_builtin; go_must (refine wpList_append_own _ rfl (.tmp 62) (.tmp 65) 24 rfl B 31 i0 (.agg #[.int .i64 0, .int .i64 0, .string ⟨#[]⟩]) 3 32 Tryd.underlying24 hi hz0 hz1 hz2 rfl (by decide) v4 (ts1).length (cellsT (ts1)) rfl (World.ownsRow.alloc (unhide O5) _) ⟨w5.heap.size, 0, none⟩ 1 1 [.int .i64 4, .int .i64 0, .string ⟨#[38]⟩] rfl rfl (cell_new w5 #[.int .i64 4, .int .i64 0, .string ⟨#[38]⟩] 31) (newT_one _ _ _) (by unfold maxLen; (try simp only [List.length_append, List.length_cons, List.length_nil]); omega) (by (try simp only [List.length_append, List.length_cons, List.length_nil]); omega) (by have := (unhide D5).size; simp; omega) ?_; intro v6 w6 hown6 hgrow6 _; have O6 := hide (ownT_app (t := ⟨4, 0, ⟨#[38]⟩⟩) hown6); have D6 := hide (((unhide D5).alloc (Nat.le_trans hB (unhide D5).size) (.cells #[.int .i64 4, .int .i64 0, .string ⟨#[38]⟩] 31)).grown hgrow6 (by have := (unhide D5).size; simp; omega) (fun g hg => ((unhide O5).lt hg).1)); have P6 := hide ((KpT.of (below_new w5 (.cells #[.int .i64 4, .int .i64 0, .string ⟨#[38]⟩] 31))).trans (KpT.own (B := B) (ts := ts1) (World.ownsRow.alloc (unhide O5) _) hgrow6)); clear hown6 hgrow6; have Q6 := hide ((unhide P5).trans (unhide P6)); have G6 := hide (unhide P6 _ _ _ _ (unhide G5) (by decide)); have A6 := hide (unhide H2 (ts1 ++ [⟨4, 0, ⟨#[38]⟩⟩]) v6 w6 (unhide O6) (Nat.le_trans hB (unhide D6).size) (by simp only [List.length_append, List.length_cons, List.length_nil]; omega) ((unhide HT).later (unhide D6) hs)))) | (go_at_call 78; refine (unhide A6).mono ?_; rintro r w7 ⟨v7, rfl, o7, hb7, hp7⟩))
  have O7 := hide o7
  have D7 := hide ((unhide D6).trans hb7)
  have P7 := hide ((unhide Q6).trans hp7)
  clear o7 hb7 hp7 O6 D6 P6 Q6 G6 A6 T4 c1 G4 O5 D5 P5 G5 O4 D4 P4
  have l7 : ((ts1 ++ [Tk.mk 4 0 ⟨#[38]⟩]) ++ us2).length = ts1.length + 1 + us2.length := by simp only [List.length_append, List.length_cons, List.length_nil]
  generalize hts2 : (ts1 ++ [Tk.mk 4 0 ⟨#[38]⟩]) ++ us2 = ts2 at *
  have E3 := hide (unhide E2 ts2 (by first | rfl | exact hts2))
  clear E2 hts2
  rw [rounds_succ]
  go_wp2_with fail
  refine (markI_any ⟨#[62]⟩ w7).mono ?_
  rintro r w8 ⟨rfl, hb8⟩
  have O8 := hide ((unhide O7).later hb8)
  have D8 := hide ((unhide D7).trans (hb8.mono (Nat.le_trans hB (unhide D7).size)))
  have P8 := hide ((unhide P7).trans (KpT.of hb8))
  clear hb8 O7 D7 P7
  unfold Tk.v Tk.cs
  go_wp2_with (at_builtin; go_must (refine wpList_append_own _ rfl (.tmp 70) (.tmp 72) 24 rfl B 31 i0 (.agg #[.int .i64 0, .int .i64 0, .string ⟨#[]⟩]) 3 32 Tryd.underlying24 hi hz0 hz1 hz2 rfl (by decide) v7 (ts2).length (cellsT (ts2)) rfl (World.ownsRow.alloc (unhide O8) _) ⟨w8.heap.size, 0, none⟩ 1 1 [.int .i64 4, .int .i64 0, .string ⟨#[62]⟩] rfl rfl (cell_new w8 #[.int .i64 4, .int .i64 0, .string ⟨#[62]⟩] 31) (newT_one _ _ _) (by unfold maxLen; (try simp only [List.length_append, List.length_cons, List.length_nil]); omega) (by (try simp only [List.length_append, List.length_cons, List.length_nil]); omega) (by have := (unhide D8).size; simp; omega) ?_; intro v9 w9 hown9 hgrow9 _; have O9 := hide (ownT_app (t := ⟨4, 0, ⟨#[62]⟩⟩) hown9); have D9 := hide (((unhide D8).alloc (Nat.le_trans hB (unhide D8).size) (.cells #[.int .i64 4, .int .i64 0, .string ⟨#[62]⟩] 31)).grown hgrow9 (by have := (unhide D8).size; simp; omega) (fun g hg => ((unhide O8).lt hg).1)); have P9 := hide ((KpT.of (below_new w8 (.cells #[.int .i64 4, .int .i64 0, .string ⟨#[62]⟩] 31))).trans (KpT.own (B := B) (ts := ts2) (World.ownsRow.alloc (unhide O8) _) hgrow9)); clear hown9 hgrow9))
  go_ret
  rw [unhide E3] at O9
  exact ⟨_, rfl, unhide O9, unhide D9, (unhide P8).trans (unhide P9)⟩
set_option maxHeartbeats 8000000 in
theorem put_or (t u : TypeId) (x y : Value) (B L M : Nat) (us : List Tk) (h1 : ∀ (ts : List Tk) (v : Value) (w : World), OwnT w B v ts → B ≤ w.heap.size → ts.length ≤ (L + 1) → TabG w → Calls Tryd.prog 78 #[v, .iface t x] w fun r w' => ∃ v', r = .returned v' ∧ OwnT w' B v' (ts ++ us) ∧ Below B w w' ∧ KpT w w') (hus : us.length ≤ M) (us2 : List Tk) (h2 : ∀ (ts : List Tk) (v : Value) (w : World), OwnT w B v ts → B ≤ w.heap.size → ts.length ≤ (L + M + 2) → TabG w → Calls Tryd.prog 78 #[v, .iface u y] w fun r w' => ∃ v', r = .returned v' ∧ OwnT w' B v' (ts ++ us2) ∧ Below B w w' ∧ KpT w w') (hus2 : us2.length ≤ M) (hLM : L + 2 * M + 3 ≤ 500) (ts : List Tk) (v : Value) (w : World) (ho : OwnT w B v ts) (hB : B ≤ w.heap.size) (hl : ts.length ≤ L) (hT : TabG w) (hs : 2 < B) : Calls Tryd.prog 78 #[v, .iface 150 (.agg #[.iface t x, .iface u y])] w fun r w' => ∃ v', r = .returned v' ∧ OwnT w' B v' ((((ts ++ [⟨4, 0, ⟨#[60]⟩⟩]) ++ us) ++ [⟨4, 0, ⟨#[124]⟩⟩]) ++ us2 ++ [⟨4, 0, ⟨#[62]⟩⟩]) ∧ Below B w w' ∧ KpT w w' := by
  obtain ⟨i0, hi, hz0, hz1, hz2⟩ := info_parts infoT
  have t0 := taN_num 150 (.agg #[.iface t x, .iface u y]) (by decide)
  have t1 := taN_sym 150 (.agg #[.iface t x, .iface u y]) (by decide)
  have t2 := taN_here 150 (.agg #[.iface t x, .iface u y]) (by decide)
  have t3 := taN_neg 150 (.agg #[.iface t x, .iface u y]) (by decide)
  have m := me_or (.iface t x) (.iface u y)
  have PT := hide (parts2 t u x y w)
  have KD := hide (fun w => kind_or 0 E0 t u x y w)
  have SG := hide (fun w1 (h : TabG w1) => (show w1.cell? ⟨2, 10, none⟩ = some (.string ⟨#[124]⟩) by obtain ⟨t, fr, h⟩ := h; exact Lib.cell_of_heap h 10))
  have HT := hide hT
  have H1 := hide h1
  have H2 := hide h2
  have O0 := hide ho
  obtain ⟨RS, hRS⟩ : ∃ RS, (((ts ++ [Tk.mk 4 0 ⟨#[60]⟩]) ++ us) ++ [Tk.mk 4 0 ⟨#[124]⟩]) ++ us2 ++ [Tk.mk 4 0 ⟨#[62]⟩] = RS := ⟨_, rfl⟩
  rw [hRS]
  have E1 := hide (fun ts1 (h : (ts ++ [Tk.mk 4 0 ⟨#[60]⟩]) ++ us = ts1) ts2 (h2 : (ts1 ++ [Tk.mk 4 0 ⟨#[124]⟩]) ++ us2 = ts2) => (show ts2 ++ [Tk.mk 4 0 ⟨#[62]⟩] = RS by rw [← hRS, h, h2]))
  clear hT h1 h2 ho hRS
  go_enter Tryd.func78, Tryd.ntmps78
  go_wp2_with fail
  refine (unhide PT).mono ?_
  rintro r w1 ⟨gp, rfl, hgp, hb1⟩
  have O1 := hide ((unhide O0).later hb1)
  have D1 := hide (hb1.mono hB)
  have P1 := hide (KpT.of hb1)
  have G1 := hide hgp
  have c0 := Lib.cell_of_heap hgp 0
  clear hb1 hgp O0 PT
  go_wp2
  refine wp_loop_rounds 3 ?_
  rw [rounds_succ]
  go_wp2_with fail
  refine (markI_any ⟨#[60]⟩ w1).mono ?_
  rintro r w2 ⟨rfl, hb2⟩
  have O2 := hide ((unhide O1).later hb2)
  have D2 := hide ((unhide D1).trans (hb2.mono (Nat.le_trans hB (unhide D1).size)))
  have P2 := hide ((unhide P1).trans (KpT.of hb2))
  have G2 := hide (KpT.of hb2 _ _ _ _ (unhide G1) (by decide))
  clear hb2 O1 D1 P1 G1 c0
  unfold Tk.v Tk.cs
  go_wp2_with (first | (at_builtin; go_must (refine wpList_append_own _ rfl (.tmp 62) (.tmp 65) 24 rfl B 31 i0 (.agg #[.int .i64 0, .int .i64 0, .string ⟨#[]⟩]) 3 32 Tryd.underlying24 hi hz0 hz1 hz2 rfl (by decide) v (ts).length (cellsT (ts)) rfl (World.ownsRow.alloc (unhide O2) _) ⟨w2.heap.size, 0, none⟩ 1 1 [.int .i64 4, .int .i64 0, .string ⟨#[60]⟩] rfl rfl (cell_new w2 #[.int .i64 4, .int .i64 0, .string ⟨#[60]⟩] 31) (newT_one _ _ _) (by unfold maxLen; (try simp only [List.length_append, List.length_cons, List.length_nil]); omega) (by (try simp only [List.length_append, List.length_cons, List.length_nil]); omega) (by have := (unhide D2).size; simp; omega) ?_; intro v3 w3 hown3 hgrow3 _; have O3 := hide (ownT_app (t := ⟨4, 0, ⟨#[60]⟩⟩) hown3); have D3 := hide (((unhide D2).alloc (Nat.le_trans hB (unhide D2).size) (.cells #[.int .i64 4, .int .i64 0, .string ⟨#[60]⟩] 31)).grown hgrow3 (by have := (unhide D2).size; simp; omega) (fun g hg => ((unhide O2).lt hg).1)); have P3 := hide ((KpT.of (below_new w2 (.cells #[.int .i64 4, .int .i64 0, .string ⟨#[60]⟩] 31))).trans (KpT.own (B := B) (ts := ts) (World.ownsRow.alloc (unhide O2) _) hgrow3)); clear hown3 hgrow3; have Q3 := hide ((unhide P2).trans (unhide P3)); have G3 := hide (unhide P3 _ _ _ _ (unhide G2) (by decide)); have A3 := hide (unhide H1 (ts ++ [⟨4, 0, ⟨#[60]⟩⟩]) v3 w3 (unhide O3) (Nat.le_trans hB (unhide D3).size) (by simp only [List.length_append, List.length_cons, List.length_nil]; omega) ((unhide HT).later (unhide D3) hs)))) | (go_at_call 78; refine (unhide A3).mono ?_; rintro r w4 ⟨v4, rfl, o4, hb4, hp4⟩))
  have O4 := hide o4
  have D4 := hide ((unhide D3).trans hb4)
  have P4 := hide ((unhide Q3).trans hp4)
  have G4 := hide (hp4 _ _ _ _ (unhide G3) (by decide))
  have T4 := unhide SG w4 ((unhide HT).later (unhide D4) hs)
  have c1 := Lib.cell_of_heap (unhide G4) 1
  clear o4 hb4 hp4 O3 D3 P3 Q3 G3 A3 O2 D2 P2 G2
  have l4 : ((ts ++ [Tk.mk 4 0 ⟨#[60]⟩]) ++ us).length = ts.length + 1 + us.length := by simp only [List.length_append, List.length_cons, List.length_nil]
  generalize hts1 : (ts ++ [Tk.mk 4 0 ⟨#[60]⟩]) ++ us = ts1 at *
  have E2 := hide (unhide E1 ts1 (by first | rfl | exact hts1))
  clear E1 hts1
  rw [rounds_succ]
  go_wp2_with (first | (go_at_call 100; refine (unhide KD _).mono ?_; rintro r w' ⟨rfl, hw'⟩; rw [hw']; clear hw' w') | (go_at_call 40; refine (markI_any ⟨#[124]⟩ w4).mono ?_; rintro r w5 ⟨rfl, hb5⟩; have O5 := hide ((unhide O4).later hb5); have D5 := hide ((unhide D4).trans (hb5.mono (Nat.le_trans hB (unhide D4).size))); have P5 := hide ((unhide P4).trans (KpT.of hb5)); have G5 := hide (KpT.of hb5 _ _ _ _ (unhide G4) (by decide)); clear hb5; unfold Tk.v Tk.cs) | (at_builtin; go_must (refine wpList_append_own _ rfl (.tmp 62) (.tmp 65) 24 rfl B 31 i0 (.agg #[.int .i64 0, .int .i64 0, .string ⟨#[]⟩]) 3 32 Tryd.underlying24 hi hz0 hz1 hz2 rfl (by decide) v4 (ts1).length (cellsT (ts1)) rfl (World.ownsRow.alloc (unhide O5) _) ⟨w5.heap.size, 0, none⟩ 1 1 [.int .i64 4, .int .i64 0, .string ⟨#[124]⟩] rfl rfl (cell_new w5 #[.int .i64 4, .int .i64 0, .string ⟨#[124]⟩] 31) (newT_one _ _ _) (by unfold maxLen; (try simp only [List.length_append, List.length_cons, List.length_nil]); omega) (by (try simp only [List.length_append, List.length_cons, List.length_nil]); omega) (by have := (unhide D5).size; simp; omega) ?_; intro v6 w6 hown6 hgrow6 _; have O6 := hide (ownT_app (t := ⟨4, 0, ⟨#[124]⟩⟩) hown6); have D6 := hide (((unhide D5).alloc (Nat.le_trans hB (unhide D5).size) (.cells #[.int .i64 4, .int .i64 0, .string ⟨#[124]⟩] 31)).grown hgrow6 (by have := (unhide D5).size; simp; omega) (fun g hg => ((unhide O5).lt hg).1)); have P6 := hide ((KpT.of (below_new w5 (.cells #[.int .i64 4, .int .i64 0, .string ⟨#[124]⟩] 31))).trans (KpT.own (B := B) (ts := ts1) (World.ownsRow.alloc (unhide O5) _) hgrow6)); clear hown6 hgrow6; have Q6 := hide ((unhide P5).trans (unhide P6)); have G6 := hide (unhide P6 _ _ _ _ (unhide G5) (by decide)); have A6 := hide (unhide H2 (ts1 ++ [⟨4, 0, ⟨#[124]⟩⟩]) v6 w6 (unhide O6) (Nat.le_trans hB (unhide D6).size) (by simp only [List.length_append, List.length_cons, List.length_nil]; omega) ((unhide HT).later (unhide D6) hs)))) | (go_at_call 78; refine (unhide A6).mono ?_; rintro r w7 ⟨v7, rfl, o7, hb7, hp7⟩))
  have O7 := hide o7
  have D7 := hide ((unhide D6).trans hb7)
  have P7 := hide ((unhide Q6).trans hp7)
  clear o7 hb7 hp7 O6 D6 P6 Q6 G6 A6 T4 c1 G4 O5 D5 P5 G5 O4 D4 P4
  have l7 : ((ts1 ++ [Tk.mk 4 0 ⟨#[124]⟩]) ++ us2).length = ts1.length + 1 + us2.length := by simp only [List.length_append, List.length_cons, List.length_nil]
  generalize hts2 : (ts1 ++ [Tk.mk 4 0 ⟨#[124]⟩]) ++ us2 = ts2 at *
  have E3 := hide (unhide E2 ts2 (by first | rfl | exact hts2))
  clear E2 hts2
  rw [rounds_succ]
  go_wp2_with fail
  refine (markI_any ⟨#[62]⟩ w7).mono ?_
  rintro r w8 ⟨rfl, hb8⟩
  have O8 := hide ((unhide O7).later hb8)
  have D8 := hide ((unhide D7).trans (hb8.mono (Nat.le_trans hB (unhide D7).size)))
  have P8 := hide ((unhide P7).trans (KpT.of hb8))
  clear hb8 O7 D7 P7
  unfold Tk.v Tk.cs
  go_wp2_with (at_builtin; go_must (refine wpList_append_own _ rfl (.tmp 70) (.tmp 72) 24 rfl B 31 i0 (.agg #[.int .i64 0, .int .i64 0, .string ⟨#[]⟩]) 3 32 Tryd.underlying24 hi hz0 hz1 hz2 rfl (by decide) v7 (ts2).length (cellsT (ts2)) rfl (World.ownsRow.alloc (unhide O8) _) ⟨w8.heap.size, 0, none⟩ 1 1 [.int .i64 4, .int .i64 0, .string ⟨#[62]⟩] rfl rfl (cell_new w8 #[.int .i64 4, .int .i64 0, .string ⟨#[62]⟩] 31) (newT_one _ _ _) (by unfold maxLen; (try simp only [List.length_append, List.length_cons, List.length_nil]); omega) (by (try simp only [List.length_append, List.length_cons, List.length_nil]); omega) (by have := (unhide D8).size; simp; omega) ?_; intro v9 w9 hown9 hgrow9 _; have O9 := hide (ownT_app (t := ⟨4, 0, ⟨#[62]⟩⟩) hown9); have D9 := hide (((unhide D8).alloc (Nat.le_trans hB (unhide D8).size) (.cells #[.int .i64 4, .int .i64 0, .string ⟨#[62]⟩] 31)).grown hgrow9 (by have := (unhide D8).size; simp; omega) (fun g hg => ((unhide O8).lt hg).1)); have P9 := hide ((KpT.of (below_new w8 (.cells #[.int .i64 4, .int .i64 0, .string ⟨#[62]⟩] 31))).trans (KpT.own (B := B) (ts := ts2) (World.ownsRow.alloc (unhide O8) _) hgrow9)); clear hown9 hgrow9))
  go_ret
  rw [unhide E3] at O9
  exact ⟨_, rfl, unhide O9, unhide D9, (unhide P8).trans (unhide P9)⟩
theorem put_all : ∀ d : Nat, d ≤ 6 → PutP d := by
  intro d
  induction d with
  | zero => intro _ e ts v B w h; cases h
  | succ d ih =>
    intro hd e ts v B w h ho hB hl hT hs
    have ihd := ih (by omega)
    rw [mxT] at hl
    rcases plain_cases h with ⟨n, hn, rfl⟩ | ⟨s, hs, rfl⟩ | rfl | ⟨a, ha, rfl⟩ | ⟨k, a, b, hk, ha, hb, rfl⟩
    · rw [tv_num, toks_num]; exact put_num n ts v B w ho hB (by omega)
    · rw [tv_sym, toks_sym]; exact put_sym s ts v B w ho hB (by omega)
    · rw [tv_here, toks_here]; exact put_here ts v B w ho hB (by omega)
    · obtain ⟨t, x, e1⟩ := tv_if a
      have h1 := fun ts v w ho hB hl hT => ihd a ts v B w ha ho hB hl hT hs
      rw [e1] at h1
      rw [tv_neg, e1, toks_neg]
      have hm := (toks_ok d a ha).2
      have R := put_neg t x B ts.length (by omega) (toksF d a) (fun ts' v w ho hB hl hT => h1 ts' v w ho hB (by omega) hT) ts v w ho hB (Nat.le_refl _) hT hs
      rw [List.append_assoc] at R
      exact R
    · obtain ⟨t, x, e1⟩ := tv_if a
      obtain ⟨u, y, e2⟩ := tv_if b
      have h1 := fun ts v w ho hB hl hT => ihd a ts v B w ha ho hB hl hT hs
      have h2 := fun ts v w ho hB hl hT => ihd b ts v B w hb ho hB hl hT hs
      rw [e1] at h1
      rw [e2] at h2
      rw [tv_two hk, e1, e2, toks_two d hk]
      have hm1 := (toks_ok d a ha).2
      have hm2 := (toks_ok d b hb).2
      have hx := mxT_le d (by omega)
      have F1 := fun (ts' : List Tk) v w ho hB (hl : ts'.length ≤ ts.length + 1) hT => h1 ts' v w ho hB (by omega) hT
      have F2 := fun (ts' : List Tk) v w ho hB (hl : ts'.length ≤ ts.length + mxT d + 2) hT => h2 ts' v w ho hB (by omega) hT
      have : k = 5 ∨ k = 6 ∨ k = 7 ∨ k = 8 ∨ k = 9 ∨ k = 10 := by omega
      rcases this with rfl | rfl | rfl | rfl | rfl | rfl
      · have R := put_add t u x y B ts.length (mxT d) (toksF d a) F1 hm1 (toksF d b) F2 hm2 (by omega) ts v w ho hB (Nat.le_refl _) hT hs
        simp only [List.append_assoc, List.cons_append, List.nil_append] at R
        exact R
      · have R := put_sub t u x y B ts.length (mxT d) (toksF d a) F1 hm1 (toksF d b) F2 hm2 (by omega) ts v w ho hB (Nat.le_refl _) hT hs
        simp only [List.append_assoc, List.cons_append, List.nil_append] at R
        exact R
      · have R := put_mul t u x y B ts.length (mxT d) (toksF d a) F1 hm1 (toksF d b) F2 hm2 (by omega) ts v w ho hB (Nat.le_refl _) hT hs
        simp only [List.append_assoc, List.cons_append, List.nil_append] at R
        exact R
      · have R := put_div t u x y B ts.length (mxT d) (toksF d a) F1 hm1 (toksF d b) F2 hm2 (by omega) ts v w ho hB (Nat.le_refl _) hT hs
        simp only [List.append_assoc, List.cons_append, List.nil_append] at R
        exact R
      · have R := put_and t u x y B ts.length (mxT d) (toksF d a) F1 hm1 (toksF d b) F2 hm2 (by omega) ts v w ho hB (Nat.le_refl _) hT hs
        simp only [List.append_assoc, List.cons_append, List.nil_append] at R
        exact R
      · have R := put_or t u x y B ts.length (mxT d) (toksF d a) F1 hm1 (toksF d b) F2 hm2 (by omega) ts v w ho hB (Nat.le_refl _) hT hs
        simp only [List.append_assoc, List.cons_append, List.nil_append] at R
        exact R
end Go.Proofs.YthgbpofcfmnpdaaDoor

namespace Go.Proofs.YthgbpofcfmnpdaaDoor
open Go.ChangeShapes Go.WideShapes Go.ChangeAt Go.RowKit
set_option linter.unusedVariables false
set_option maxRecDepth 8000
set_option linter.unusedSimpArgs false

/-- What the text's road reads: kept words, marks, digits' table. -/
structure TabX (w : World) : Prop where
  k : TabK w
  g : TabG w
  b : w.cell? ⟨8, 7, none⟩ = some (.int .u8 3)
theorem TabX.next {w w' : World} (h : TabX w) (hb : Below w.heap.size w w') : TabX w' :=
  ⟨h.k.next hb, h.g.later hb h.g.lt, (hb.cell (p := ⟨8, 7, none⟩) (World.block_lt_of_cell? w _ h.b)).trans h.b⟩
set_option maxHeartbeats 2000000 in
theorem textI_any (e : Ex) (b : Option Addr) (cap : Nat) (w : World) (hr : RdX w 0 e b) (hz : e.sz ≤ 1048576) (ht : TabX w) : Calls Tryd.prog 34 #[.agg (e.cs b cap)] w fun r w' => r = .returned (.string (textE e)) ∧ Below w.heap.size w w' := by
  have B0 := below_new w (.cells (e.cs b cap) 37)
  have HH := hide (term_all 6 (by omega) e b cap _ (hr.later B0) hz (ht.next B0).k)
  have HB := hide B0
  have IP := hide (fun w1 h => isp_all 6 e w1 h)
  have NP := hide (plain_not (d := 6) (e := e))
  have TB := hide (fun w1 (hb : Below w.heap.size w w1) => ht.next hb)
  have PU := hide (fun w1 (h : okF 6 true e = true) (hx : TabX w1) => put_all 6 (by omega) e [] (.slice none 0 0) w1.heap.size w1 h (ownT_none _ _) (Nat.le_refl _) (by have := mxT_le 6 (by omega); simp; omega) hx.g hx.g.lt)
  have LI := hide (fun w1 a c (h : okF 6 true e = true) (h2 : RdT w1 a (toksF 6 e)) hx => lineI_any a (toksF 6 e).length c (toksF 6 e) w1 rfl (text_len h) h2 hx)
  have TE := hide (show (okF 6 true e = true → textE e = strOf (lineOf (toksF 6 e))) ∧ (okF 6 true e = false → textE e = E0) from ⟨fun h => by unfold textE; rw [if_pos h], fun h => by unfold textE; rw [if_neg (by rw [h]; decide)]⟩)
  clear hr B0 ht
  unfold TermR at HH
  obtain ⟨t, x, e1⟩ := tv_if e
  rw [e1] at HH IP PU
  clear e1
  simp only [List.nil_append] at PU
  generalize okF 6 false e = q at *
  generalize okF 6 true e = q2 at *
  generalize toksF 6 e = ts at *
  generalize textE e = tx at *
  unfold Ex.cs at HH HB ⊢
  generalize e.l.length = ll at *
  go_enter Tryd.func34, Tryd.ntmps34
  go_wp2_with fail
  refine (unhide HH).mono ?_
  rintro r w1 ⟨v, rfl, hv, hb1⟩
  have BB := hide ((unhide HB).trans (hb1.mono (unhide HB).size))
  cases q with
  | false =>
    have E := hide ((unhide TE).2 (unhide NP rfl))
    clear hb1 HH HB hv IP PU LI TE NP
    go_wp2
    go_ret
    exact ⟨by rw [unhide E]; rfl, unhide BB⟩
  | true =>
    have hve := hv rfl
    subst hve
    have I2 := hide (unhide IP w1 rfl)
    clear hb1 HH HB hv IP NP
    go_wp2_with fail
    refine (unhide I2).mono ?_
    rintro r w2 ⟨rfl, hb2⟩
    have B2 := hide ((unhide BB).trans (hb2.mono (unhide BB).size))
    clear hb2 I2 BB
    cases q2 with
    | false =>
      have E := hide ((unhide TE).2 rfl)
      clear PU LI TE
      go_wp2
      go_ret
      exact ⟨by rw [unhide E]; rfl, unhide B2⟩
    | true =>
      have E := hide ((unhide TE).1 rfl)
      have P2 := hide (unhide PU w2 rfl (unhide TB w2 (unhide B2)))
      have L2 := hide (fun w1 a c => unhide LI w1 a c rfl)
      clear PU LI TE
      go_wp2_with fail
      refine (unhide P2).mono ?_
      rintro r w3 ⟨v3, rfl, o3, hb3, _⟩
      have B3 := hide ((unhide B2).trans (hb3.mono (unhide B2).size))
      obtain ⟨a3, c3, rfl, r3⟩ := o3.rd
      have L3 := hide (unhide L2 w3 a3 c3 r3 (unhide TB w3 (unhide B3)).b)
      clear o3 r3 hb3 P2 L2 B2
      go_wp2_with (go_at_call 12; refine (unhide L3).mono ?_; rintro r w4 ⟨rfl, hb4⟩)
      go_ret
      exact ⟨by rw [unhide E]; rfl, (unhide B3).trans (hb4.mono (unhide B3).size)⟩
end Go.Proofs.YthgbpofcfmnpdaaDoor

namespace Go.Proofs.YthgbpofcfmnpdaaDoor
open Go.ChangeShapes Go.WideShapes Go.ChangeAt Go.RowKit
set_option linter.unusedVariables false
set_option maxRecDepth 8000

section
variable {H : Type} {enc : TypeId × Value → H} {P : Program} {w : World} {spare : Nat → Bool}
theorem vars_three {n0 n1 n2 : String} {gs : List (DataW H)} {ps : List MemPlace} (h : DataW.TrodVars enc P w spare [n0, n1, n2] gs ps) : ∃ d0 d1 d2, gs = [d0, d1, d2] := by
  cases gs with
  | nil => simp [DataW.TrodVars] at h
  | cons d ds =>
    obtain ⟨g0, t0, cs0, f0, p0, q0, h1, h2, h3, h4, hs, e⟩ := h
    obtain ⟨g1, t1, cs1, f1, d1, p1, g2, t2, cs2, f2, d2, p2, rfl, _⟩ := trodVars_two hs
    exact ⟨d, d1, d2, rfl⟩
end
theorem gSg : Tryd.prog.globalNamed "loop.example/g00329/impl.signs" = some 2 := by kernel_rfl
theorem tSg : (Tryd.prog.globals[2]?).map (·.type) = some 134 := by kernel_rfl
theorem sgD_eq : (Rows.laid_loop_example_g00329_impl_signs : DataW Unit) = strData sgnL := by kernel_rfl
theorem tab3_of {W : World} (h : laidMet Tryd.prog [("loop.example/g00329/impl.opWords", Rows.laid_loop_example_g00329_impl_opWords), ("loop.example/g00329/impl.regWords", Rows.laid_loop_example_g00329_impl_regWords), ("loop.example/g00329/impl.signs", Rows.laid_loop_example_g00329_impl_signs)] W) : TabK W ∧ TabG W := by
  rw [opD_eq, rgD_eq, sgD_eq] at h
  exact ⟨⟨strs_of_head gOp tOp Tryd.underlying114 Tryd.underlying9 (by kernel_rfl) (by kernel_rfl) h, strs_of_head gRg tRg Tryd.underlying115 Tryd.underlying9 (by kernel_rfl) (by kernel_rfl) h.tail⟩, strs_of_head gSg tSg Tryd.underlying134 Tryd.underlying9 (by kernel_rfl) (by kernel_rfl) h.tail.tail⟩
theorem tabx_of {W : World} (h : laidMetH Tryd.prog [("math/bits.deBruijn32tab", Rows.laid_math_bits_deBruijn32tab), ("math/bits.deBruijn64tab", Rows.laid_math_bits_deBruijn64tab), ("internal/strconv.uint64pow10", Rows.laid_internal_strconv_uint64pow10), ("loop.example/g00329/impl.opWords", Rows.laid_loop_example_g00329_impl_opWords), ("loop.example/g00329/impl.regWords", Rows.laid_loop_example_g00329_impl_regWords), ("loop.example/g00329/impl.signs", Rows.laid_loop_example_g00329_impl_signs)] W) : TabX W := by
  rw [MakeChecks.laidMetH_plain _ _ _ (by kernel_rfl)] at h
  obtain ⟨h1, h2⟩ := tab3_of h.tail.tail.tail
  exact ⟨h1, h2, db_of h.tail⟩
/-- What reading a term leans on. -/
structure EnvX (w : World) : Prop where
  env : Env w
  x : TabX w
theorem EnvX.next {w w' : World} (h : EnvX w) (hb : Below w.heap.size w w') : EnvX w' := ⟨h.env.later hb, h.x.next hb⟩
theorem envx_of {W : World} (h : laidMetH Tryd.prog [("math/bits.deBruijn32tab", Rows.laid_math_bits_deBruijn32tab), ("math/bits.deBruijn64tab", Rows.laid_math_bits_deBruijn64tab), ("internal/strconv.uint64pow10", Rows.laid_internal_strconv_uint64pow10), ("strconv.ErrRange", Rows.laid_strconv_ErrRange), ("strconv.ErrSyntax", Rows.laid_strconv_ErrSyntax), ("loop.example/g00329/impl.opWords", Rows.laid_loop_example_g00329_impl_opWords), ("loop.example/g00329/impl.regWords", Rows.laid_loop_example_g00329_impl_regWords), ("loop.example/g00329/impl.signs", Rows.laid_loop_example_g00329_impl_signs)] W) : EnvX W := by
  rw [MakeChecks.laidMetH_plain _ _ _ (by kernel_rfl)] at h
  have h3 := h.tail.tail.tail
  obtain ⟨a2, s2, hv2, -, -, -⟩ := laid_sentinel h3 gER tER Tryd.underlying62 rowES Tryd.underlying175 Tryd.underlying177 rfl rfl Tryd.underlying9 cellsES cellsSt
  obtain ⟨a1, s1, hv1, -, -, -⟩ := laid_sentinel h3.tail gES tES Tryd.underlying62 rowES Tryd.underlying175 Tryd.underlying177 rfl rfl Tryd.underlying9 cellsES cellsSt
  obtain ⟨k1, k2⟩ := tab3_of h3.tail.tail
  exact ⟨⟨k1, db_of h.tail, ⟨_, _, by have h0 := World.var?_cell gES hv1 0; simpa using h0⟩, ⟨_, _, by have h0 := World.var?_cell gER hv2 0; simpa using h0⟩⟩, ⟨k1, k2, db_of h.tail⟩⟩
end Go.Proofs.YthgbpofcfmnpdaaDoor

namespace Go.Proofs.YthgbpofcfmnpdaaDoor
open Go.ChangeShapes Go.WideShapes Go.ChangeAt Go.RowKit
set_option linter.unusedVariables false
set_option maxRecDepth 8000

set_option maxHeartbeats 1000000 in
theorem toXS_of (e : Ex) (ih : ∀ i, i < e.l.length → ToP (xAt e.l i)) (b : Option Addr) (cap : Nat) (w : World) (hr : RdX w 0 e b) (hz : e.sz ≤ 1048576) : Calls Tryd.prog 74 #[.slice b e.l.length cap] w fun r w' => r = .returned (.slice (some ⟨w.heap.size, 0, none⟩) e.l.length e.l.length) ∧ NewX w' w.heap.size e (some ⟨w.heap.size, 0, none⟩) ∧ Below w.heap.size w w' := by
  have hsz := sz_is e
  have RD := hide (fun (w' : World) (M : Nat) (h : DoneX w' w.heap.size e.l e.l.length e.l.length e.l.length M) => DoneX.new h)
  rw [RdX_eq] at hr
  have hp : ∀ i, i < e.l.length → (xAt e.l i).sz ≤ 1048576 := fun i hi => by have := sz_part hi; omega
  have hm : e.l.length ≤ 1048576 := by omega
  clear hsz hz
  generalize hR : (fun w' => NewX w' w.heap.size e (some ⟨w.heap.size, 0, none⟩)) = R
  have hR' : ∀ w', NewX w' w.heap.size e (some ⟨w.heap.size, 0, none⟩) = R w' := fun w' => congrFun hR w'
  simp only [hR'] at RD ⊢
  clear hR hR'
  generalize e.l = l at *
  obtain ⟨len, hl⟩ : ∃ len, l.length = len := ⟨_, rfl⟩
  rw [hl] at hm ih hr hp RD ⊢
  obtain ⟨i0, hi, hz0, hz1, hz2⟩ := info_parts infoX
  obtain ⟨w1, hmk, hown, hgr⟩ := run_make_full (P := Tryd.prog) w w.heap.size 35 37 i0 _ 4 Tryd.underlying35 hi hz0 hz1 .i64 .i64 len (by rw [hz2]; omega) (by unfold maxLen; omega) (Nat.le_refl _)
  have O0 := hide (show DoneX w1 w.heap.size l len len 0 w1.heap.size from ⟨_, [], hown, rfl, List.nodup_nil, (fun b hb => by simp at hb), (fun i hi => by omega)⟩)
  have B0 := hide ((Below.refl w.heap.size w).grown hgr (Nat.le_refl _) (fun k h => by cases h))
  have G0 := hide (World.ownsRow.lt hown w.heap.size rfl).2
  clear hown hgr
  go_enter Tryd.func74, Tryd.ntmps74
  go_wp2
  clear hmk
  go_loopw [4] (fun i wr => ∃ k : Nat, k ≤ len ∧ i = .int .i64 k ∧ DoneX wr w.heap.size l len len k wr.heap.size ∧ w.heap.size < wr.heap.size ∧ Below w.heap.size w wr) (fun i _ => len - (intOf i).toNat)
  case atStart => exact ⟨0, Nat.zero_le _, rfl, unhide O0, unhide G0, unhide B0⟩
  case round =>
    clear O0 B0 G0
    obtain ⟨k, hk, rfl, ho, hgl, hb⟩ := hrel
    by_cases hlt : k < len
    · rcases hr with h0 | ⟨b, off, rfl, _, hbl, hc⟩
      · rw [h0] at hl; simp at hl; omega
      obtain ⟨c0, c1, c2, c, cap', c3, c4⟩ := hc k (by omega)
      have d0 : wr.cell? ⟨b, off + k * 4, none⟩ = _ := (hb.cell (p := ⟨b, _, none⟩) hbl).trans c0
      have d1 : wr.cell? ⟨b, off + k * 4 + 1, none⟩ = _ := (hb.cell (p := ⟨b, _, none⟩) hbl).trans c1
      have d2 : wr.cell? ⟨b, off + k * 4 + 2, none⟩ = _ := (hb.cell (p := ⟨b, _, none⟩) hbl).trans c2
      have d3 : wr.cell? ⟨b, off + k * 4 + 3, none⟩ = _ := (hb.cell (p := ⟨b, _, none⟩) hbl).trans c3
      have HT := hide (ih k hlt c cap' wr (c4.later hb) (hp k hlt))
      have PT := hide (fun (w2 : World) (hz2 : wr.heap.size ≤ w2.heap.size) (h : DoneX w2 w.heap.size l len len k wr.heap.size) (q : Option Addr) (cp : Nat) (hq : NewX w2 wr.heap.size (xAt l k) q) => h.put hlt hgl hz2 q cp hq (Nat.le_refl _))
      have O1 := hide ho
      have B1 := hide hb
      have ZB := hide hb.size
      have GL := hide hgl
      clear c0 c1 c2 c3 c4 hc ho hb hgl
      unfold Ex.cs at HT
      generalize (xAt l k).s = ss at d2 HT PT
      generalize (xAt l k).k = kk at d0 HT PT
      generalize (xAt l k).n = nn at d1 HT PT
      generalize (xAt l k).l.length = ll at d3 HT PT
      go_wp2_with fail
      refine (unhide HT).mono ?_
      rintro e w2 ⟨q, cq, rfl, hq, hb2⟩
      have O2 := hide ((unhide O1).later hb2)
      have B2 := hide ((unhide B1).trans (hb2.mono (unhide ZB)))
      have G2 := hide (Nat.lt_of_lt_of_le (unhide GL) hb2.size)
      have PP := hide (unhide PT w2 hb2.size (unhide O2) q cq hq)
      obtain ⟨cs, _, own2, _⟩ := unhide O2
      have hcl : cs.length = len * 4 := own2.1
      obtain ⟨v0, e0⟩ : ∃ v, cs[k * 4]? = some v := ⟨_, List.getElem?_eq_getElem (by omega)⟩
      obtain ⟨v1, e1⟩ : ∃ v, cs[k * 4 + 1]? = some v := ⟨_, List.getElem?_eq_getElem (by omega)⟩
      obtain ⟨v2, e2⟩ : ∃ v, cs[k * 4 + 2]? = some v := ⟨_, List.getElem?_eq_getElem (by omega)⟩
      obtain ⟨v3, e3⟩ : ∃ v, cs[k * 4 + 3]? = some v := ⟨_, List.getElem?_eq_getElem (by omega)⟩
      have c0 := (World.ownsRow.cellAt own2 (k * 4) (by omega)).trans e0
      have c1 := (World.ownsRow.cellAt own2 (k * 4 + 1) (by omega)).trans e1
      have c2 := (World.ownsRow.cellAt own2 (k * 4 + 2) (by omega)).trans e2
      have c3 := (World.ownsRow.cellAt own2 (k * 4 + 3) (by omega)).trans e3
      have f0 := World.ownsRow.frozenAt own2 (k * 4)
      have f1 := World.ownsRow.frozenAt own2 (k * 4 + 1)
      have f2 := World.ownsRow.frozenAt own2 (k * 4 + 2)
      have f3 := World.ownsRow.frozenAt own2 (k * 4 + 3)
      clear own2 hb2 O1 B1 HT PT O2 d0 d1 d2 d3 e0 e1 e2 e3 hq hcl
      go_wp2
      go_roundw
      case rel => exact ⟨k + 1, by omega, by go_num, by simpa using unhide PP, by simpa using unhide G2, ((((unhide B2).setCell (p := ⟨w.heap.size, _, none⟩) (Nat.le_refl _) _).setCell (p := ⟨w.heap.size, _, none⟩) (Nat.le_refl _) _).setCell (p := ⟨w.heap.size, _, none⟩) (Nat.le_refl _) _).setCell (p := ⟨w.heap.size, _, none⟩) (Nat.le_refl _) _⟩
      case measure => simp [intOf]; omega
    · obtain rfl : k = len := by omega
      have R1 := hide (unhide RD wr _ ho)
      clear ho
      go_wp2
      go_ret
      exact ⟨rfl, unhide R1, hb⟩
end Go.Proofs.YthgbpofcfmnpdaaDoor

namespace Go.Proofs.YthgbpofcfmnpdaaDoor
open Go.ChangeShapes Go.WideShapes Go.ChangeAt Go.RowKit
set_option linter.unusedVariables false
set_option maxRecDepth 8000
theorem three_new (w : World) (o1 o2 o3 : Obj) : Below w.heap.size w (((w.alloc o1).alloc o2).alloc o3) ∧ (((w.alloc o1).alloc o2).alloc o3).heap[w.heap.size + 1]? = some o2 ∧ (((w.alloc o1).alloc o2).alloc o3).heap[w.heap.size + 1 + 1]? = some o3 := by
  have h1 : (w.alloc o1).heap.size = w.heap.size + 1 := by simp
  have h2 : ((w.alloc o1).alloc o2).heap.size = w.heap.size + 1 + 1 := by simp
  have p2 : ((w.alloc o1).alloc o2).heap[w.heap.size + 1]? = some o2 := by rw [← h1]; exact Array.getElem?_push_size
  refine ⟨(((Below.refl _ _).alloc (Nat.le_refl _) _).alloc (by simp) _).alloc (by simp; omega) _, ?_, ?_⟩
  · exact ((Below.refl ((w.alloc o1).alloc o2).heap.size _).alloc (Nat.le_refl _) o3).block _ (by simp) |>.trans p2
  · rw [← h2]; exact Array.getElem?_push_size
theorem row4_set {w : World} {g : Nat} {u0 u1 u2 u3 : Value} {t : TypeId} (h : w.heap[g]? = some (.cells #[u0, u1, u2, u3] t (0, 0))) (v0 v1 v2 v3 : Value) : ((((w.setCell ⟨g, 0, none⟩ v0).setCell ⟨g, 1, none⟩ v1).setCell ⟨g, 2, none⟩ v2).setCell ⟨g, 3, none⟩ v3).heap[g]? = some (.cells #[v0, v1, v2, v3] t (0, 0)) :=
  heap_setCell_same _ g 3 _ t v3 (heap_setCell_same _ g 2 _ t v2 (heap_setCell_same _ g 1 _ t v1 (heap_setCell_same _ g 0 _ t v0 h)))
set_option maxHeartbeats 1000000 in
theorem toX_any (e : Ex) : ToP e := by
  induction e using Ex.ind with
  | h k n s l ih =>
    intro b cap w hr hz
    have e2 : (Ex.mk k n s l).l = l := rfl
    obtain ⟨W, hW⟩ : ∃ W, ((w.alloc (.cells #[.int .i64 k, .int .i64 n, .string s, .slice b l.length cap] 47)).alloc (.cells #[.int .i64 0, .int .i64 0, .string ⟨#[]⟩, .slice none 0 0] 37)).alloc (.cells #[.int .i64 k, .int .i64 n, .string s, .slice none 0 0] 37) = W := ⟨_, rfl⟩
    obtain ⟨hb, hg1, hg2⟩ := three_new w (.cells #[.int .i64 k, .int .i64 n, .string s, .slice b l.length cap] 47) (.cells #[.int .i64 0, .int .i64 0, .string ⟨#[]⟩, .slice none 0 0] 37) (.cells #[.int .i64 k, .int .i64 n, .string s, .slice none 0 0] 37)
    have hsz : w.heap.size + 3 = W.heap.size := by rw [← hW]; simp
    rw [hW] at hb hg1 hg2
    have HC := toXS_of ⟨k, n, s, l⟩ (fun i hi => ih _ (xAt_mem hi)) b cap W (hr.later hb) hz
    rw [e2] at HC
    have HD := HC.mono (R' := fun r w' => ∃ g, r = .returned (.slice (some ⟨g, 0, none⟩) l.length l.length) ∧ NewX w' (w.heap.size + 3) ⟨k, n, s, l⟩ (some ⟨g, 0, none⟩) ∧ Below w.heap.size w w' ∧ w'.heap[w.heap.size + 1]? = some (.cells #[.int .i64 0, .int .i64 0, .string ⟨#[]⟩, .slice none 0 0] 37 (0, 0)) ∧ w'.heap[w.heap.size + 1 + 1]? = some (.cells #[.int .i64 k, .int .i64 n, .string s, .slice none 0 0] 37 (0, 0))) (by
      rintro r w' ⟨rfl, h1, h2⟩
      exact ⟨_, rfl, h1.lower (by omega), hb.trans (h2.mono (by omega)), (h2.block _ (by omega)).trans hg1, (h2.block _ (by omega)).trans hg2⟩)
    have HH := hide HD
    rw [← hW] at HH
    unfold Ex.cs
    simp only
    clear hr hz ih HC HD hb hg1 hg2 hW hsz e2 W
    generalize hll : l.length = ll at *
    go_enter Tryd.func29, Tryd.ntmps29
    go_wp2_with fail
    refine (unhide HH).mono ?_
    rintro r w2 ⟨g, rfl, hrd, hb2, hg1, hg2⟩
    have a0 := Lib.cell_of_heap hg1 0
    have a1 := Lib.cell_of_heap hg1 1
    have a2 := Lib.cell_of_heap hg1 2
    have a3 := Lib.cell_of_heap hg1 3
    have b0 := Lib.cell_of_heap hg2 0
    have b1 := Lib.cell_of_heap hg2 1
    have b2 := Lib.cell_of_heap hg2 2
    have b3 := Lib.cell_of_heap hg2 3
    have f0 := Lib.frozen_of_heap hg1 0
    have f1 := Lib.frozen_of_heap hg1 1
    have f2 := Lib.frozen_of_heap hg1 2
    have f3 := Lib.frozen_of_heap hg1 3
    have f4 := Lib.frozen_of_heap hg2 3
    clear HH
    have hg3 : (w2.setCell ⟨w.heap.size + 1 + 1, 3, none⟩ (.slice (some ⟨g, 0, none⟩) ll ll)).heap[w.heap.size + 1]? = _ := (heap_setCell_other w2 ⟨w.heap.size + 1 + 1, 3, none⟩ (w.heap.size + 1) (.slice (some ⟨g, 0, none⟩) ll ll) (by simp)).trans hg1
    have H1 := hide (fun v0 v1 v2 v3 => row4_set hg3 v0 v1 v2 v3)
    have R := hide (fun u v0 v1 v2 v3 => ((((hrd.far ⟨w.heap.size + 1 + 1, 3, none⟩ u (by simp)).far ⟨w.heap.size + 1, 0, none⟩ v0 (by simp)).far ⟨w.heap.size + 1, 1, none⟩ v1 (by simp)).far ⟨w.heap.size + 1, 2, none⟩ v2 (by simp)).far ⟨w.heap.size + 1, 3, none⟩ v3 (by simp))
    have B := hide (fun u v0 v1 v2 v3 => ((((hb2.setCell (p := ⟨w.heap.size + 1 + 1, 3, none⟩) (by simp; omega) u).setCell (p := ⟨w.heap.size + 1, 0, none⟩) (by simp) v0).setCell (p := ⟨w.heap.size + 1, 1, none⟩) (by simp) v1).setCell (p := ⟨w.heap.size + 1, 2, none⟩) (by simp) v2).setCell (p := ⟨w.heap.size + 1, 3, none⟩) (by simp) v3)
    clear hrd hb2 hg3
    go_wp2
    refine bodyPost_ret (results_cell_row (P := Tryd.prog) rfl _ _ (w.heap.size + 1) 37 #[.int .i64 k, .int .i64 n, .string s, .slice (some ⟨g, 0, none⟩) ll ll] (0, 0) _ rfl (unhide H1 _ _ _ _) Tryd.underlying37 rfl (by kernel_rfl)) rfl ?_
    exact ⟨_, _, rfl, (unhide R _ _ _ _ _).lower (by omega), unhide B _ _ _ _ _⟩
end Go.Proofs.YthgbpofcfmnpdaaDoor

namespace Go.Proofs.YthgbpofcfmnpdaaDoor
open Go.ChangeShapes Go.WideShapes Go.ChangeAt Go.RowKit
set_option linter.unusedVariables false
set_option maxRecDepth 8000

def EqP (e : Ex) : Prop := ∀ (a b : Option Addr) (c1 c2 : Nat) (w : World), RdX w 0 e a → RdX w 0 e b → e.sz ≤ 1048576 → Calls Tryd.prog 30 #[.agg (e.cs a c1), .agg (e.cs b c2)] w fun r w' => r = .returned (.bool true) ∧ Below w.heap.size w w'
set_option maxHeartbeats 1000000 in
theorem eqXS_of (e : Ex) (ih : ∀ i, i < e.l.length → EqP (xAt e.l i)) (a b : Option Addr) (c1 c2 : Nat) (w : World) (h1 : RdX w 0 e a) (h2 : RdX w 0 e b) (hz : e.sz ≤ 1048576) :
    Calls Tryd.prog 75 #[.slice a e.l.length c1, .slice b e.l.length c2] w fun r w' => r = .returned (.bool true) ∧ Below w.heap.size w w' := by
  have hsz := sz_is e
  rw [RdX_eq] at h1 h2
  have hp : ∀ i, i < e.l.length → (xAt e.l i).sz ≤ 1048576 := fun i hi => by have := sz_part hi; omega
  have hm : e.l.length ≤ 1048576 := by omega
  clear hsz hz
  generalize e.l = l at *
  obtain ⟨len, hl⟩ : ∃ len, l.length = len := ⟨_, rfl⟩
  rw [hl] at hm ih h1 h2 hp ⊢
  go_enter Tryd.func75, Tryd.ntmps75
  go_wp2
  go_loopw [5] (fun i wr => ∃ (k : Nat) (y : Sub w.heap.size w), k ≤ len ∧ i = .int .i64 k ∧ wr = y.w) (fun i _ => len - (intOf i).toNat)
  case atStart => exact ⟨0, ⟨w, Below.refl _ _⟩, Nat.zero_le _, rfl, rfl⟩
  case round =>
    obtain ⟨k, x, hk, rfl, rfl⟩ := hrel
    by_cases hlt : k < len
    · rcases h1 with h0 | ⟨p, po, rfl, _, hp1, hpc⟩
      · rw [h0] at hl; simp at hl; omega
      rcases h2 with h0 | ⟨q, qo, rfl, _, hq1, hqc⟩
      · rw [h0] at hl; simp at hl; omega
      obtain ⟨e0, e1, e2, pc, pp, e3, e4⟩ := hpc k (by omega)
      obtain ⟨g0, g1, g2, qc, qp, g3, g4⟩ := hqc k (by omega)
      have d0 : ∀ y : Sub w.heap.size w, y.w.cell? ⟨p, po + k * 4, none⟩ = _ := fun y => (y.h.cell (p := ⟨p, _, none⟩) hp1).trans e0
      have d1 : ∀ y : Sub w.heap.size w, y.w.cell? ⟨p, po + k * 4 + 1, none⟩ = _ := fun y => (y.h.cell (p := ⟨p, _, none⟩) hp1).trans e1
      have d2 : ∀ y : Sub w.heap.size w, y.w.cell? ⟨p, po + k * 4 + 2, none⟩ = _ := fun y => (y.h.cell (p := ⟨p, _, none⟩) hp1).trans e2
      have d3 : ∀ y : Sub w.heap.size w, y.w.cell? ⟨p, po + k * 4 + 3, none⟩ = _ := fun y => (y.h.cell (p := ⟨p, _, none⟩) hp1).trans e3
      have f0 : ∀ y : Sub w.heap.size w, y.w.cell? ⟨q, qo + k * 4, none⟩ = _ := fun y => (y.h.cell (p := ⟨q, _, none⟩) hq1).trans g0
      have f1 : ∀ y : Sub w.heap.size w, y.w.cell? ⟨q, qo + k * 4 + 1, none⟩ = _ := fun y => (y.h.cell (p := ⟨q, _, none⟩) hq1).trans g1
      have f2 : ∀ y : Sub w.heap.size w, y.w.cell? ⟨q, qo + k * 4 + 2, none⟩ = _ := fun y => (y.h.cell (p := ⟨q, _, none⟩) hq1).trans g2
      have f3 : ∀ y : Sub w.heap.size w, y.w.cell? ⟨q, qo + k * 4 + 3, none⟩ = _ := fun y => (y.h.cell (p := ⟨q, _, none⟩) hq1).trans g3
      have HE := hide (fun y : Sub w.heap.size w => ih k hlt pc qc pp qp y.w (e4.later y.h) (g4.later y.h) (hp k hlt))
      have ne := Sub.ne w.heap.size w
      have HZ := hide (Nat.le_refl w.heap.size)
      clear e0 e1 e2 e3 e4 g0 g1 g2 g3 g4 hpc hqc ih hp
      unfold Ex.cs at HE
      generalize (xAt l k).s = ss at *
      generalize (xAt l k).k = kk at *
      generalize (xAt l k).n = nn at *
      generalize (xAt l k).l.length = ll at *
      go_wp2_with fail
      refine wp_region_sub x (by kernel_rfl) (by kernel_rfl) ?_
      repeat (go_big_quiet_step (first | (go_at_call 30; exact Sub.call (unhide HZ) (unhide HE _))))
      refine wpQuiet_nil ?_
      intro y
      go_wp2
      go_roundw
      case rel => exact ⟨k + 1, y, by omega, by go_num, rfl⟩
      case measure => simp [intOf]; omega
    · go_wp2
      go_ret
      exact ⟨rfl, x.h⟩
set_option maxHeartbeats 1000000 in
theorem eqX_same (e : Ex) : EqP e := by
  induction e using Ex.ind with
  | h k n s l ih =>
    intro a b c1 c2 w h1 h2 hz
    have e2 : (Ex.mk k n s l).l = l := rfl
    have hbW : Below w.heap.size w ((w.alloc (.cells #[.int .i64 k, .int .i64 n, .string s, .slice a l.length c1] 37)).alloc (.cells #[.int .i64 k, .int .i64 n, .string s, .slice b l.length c2] 37)) := ((Below.refl _ _).alloc (Nat.le_refl _) _).alloc (by simp) _
    have HZ := eqXS_of ⟨k, n, s, l⟩ (fun i hi => ih _ (xAt_mem hi)) a b c1 c2 _ (h1.later hbW) (h2.later hbW) hz
    rw [e2] at HZ
    have HS := hide (HZ.mono (R' := fun r w' => r = .returned (.bool true) ∧ Below w.heap.size w w') (by rintro r w' ⟨rfl, h⟩; exact ⟨rfl, hbW.trans (h.mono hbW.size)⟩))
    unfold Ex.cs
    simp only
    clear h1 h2 hz ih HZ hbW e2
    generalize l.length = ll at *
    go_enter Tryd.func30, Tryd.ntmps30
    go_wp2_with (go_at_call 75; refine (unhide HS).mono ?_; rintro e w1 ⟨rfl, hb1⟩)
    go_ret
    exact ⟨rfl, hb1⟩
end Go.Proofs.YthgbpofcfmnpdaaDoor
