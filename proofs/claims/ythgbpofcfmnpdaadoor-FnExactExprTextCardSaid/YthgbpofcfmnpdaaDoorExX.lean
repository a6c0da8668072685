/- The kind of a program's term; the text of a term, by the model; over this seat's translation; conditions stand as hypotheses of each. -/
import Derived.Test.YthgbpofcfmnpdaaDoorExU
import Derived.Test.YthgbpofcfmnpdaaDoorExW
namespace Go.Proofs.YthgbpofcfmnpdaaDoor
open Go.ChangeShapes Go.WideShapes Go.ChangeAt Go.RowKit
set_option linter.unusedVariables false
set_option maxRecDepth 8000
set_option linter.unusedSimpArgs false

set_option maxHeartbeats 2000000 in
theorem kind_num (n : Int) (s : ByteArray) (t u : TypeId) (x y : Value) (w : World) : Calls Tryd.prog 100 #[.iface 130 (.agg #[.int .i64 n])] w fun r w' => r = .returned (.int .i64 1) ∧ w' = w := by
  have tt := taY_num (.agg #[.int .i64 n])
  go_enter Tryd.func100, Tryd.ntmps100
  go_wp2
  go_ret
  exact ⟨rfl, rfl⟩
set_option maxHeartbeats 2000000 in
theorem kind_sym (n : Int) (s : ByteArray) (t u : TypeId) (x y : Value) (w : World) : Calls Tryd.prog 100 #[.iface 131 (.agg #[.string s])] w fun r w' => r = .returned (.int .i64 2) ∧ w' = w := by
  have t0 := taN_num 131 (.agg #[.string s]) (by decide)
  have tt := taY_sym (.agg #[.string s])
  go_enter Tryd.func100, Tryd.ntmps100
  go_wp2
  go_ret
  exact ⟨rfl, rfl⟩
set_option maxHeartbeats 2000000 in
theorem kind_here (n : Int) (s : ByteArray) (t u : TypeId) (x y : Value) (w : World) : Calls Tryd.prog 100 #[.iface 133 (.agg #[])] w fun r w' => r = .returned (.int .i64 3) ∧ w' = w := by
  have t0 := taN_num 133 (.agg #[]) (by decide)
  have t1 := taN_sym 133 (.agg #[]) (by decide)
  have tt := taY_here (.agg #[])
  go_enter Tryd.func100, Tryd.ntmps100
  go_wp2
  go_ret
  exact ⟨rfl, rfl⟩
set_option maxHeartbeats 2000000 in
theorem kind_neg (n : Int) (s : ByteArray) (t u : TypeId) (x y : Value) (w : World) : Calls Tryd.prog 100 #[.iface 119 (.agg #[.iface t x])] w fun r w' => r = .returned (.int .i64 4) ∧ w' = w := by
  have t0 := taN_num 119 (.agg #[.iface t x]) (by decide)
  have t1 := taN_sym 119 (.agg #[.iface t x]) (by decide)
  have t2 := taN_here 119 (.agg #[.iface t x]) (by decide)
  have tt := taY_neg (.agg #[.iface t x])
  go_enter Tryd.func100, Tryd.ntmps100
  go_wp2
  go_ret
  exact ⟨rfl, rfl⟩
set_option maxHeartbeats 2000000 in
theorem kind_add (n : Int) (s : ByteArray) (t u : TypeId) (x y : Value) (w : World) : Calls Tryd.prog 100 #[.iface 145 (.agg #[.iface t x, .iface u y])] w fun r w' => r = .returned (.int .i64 5) ∧ w' = w := by
  have t0 := taN_num 145 (.agg #[.iface t x, .iface u y]) (by decide)
  have t1 := taN_sym 145 (.agg #[.iface t x, .iface u y]) (by decide)
  have t2 := taN_here 145 (.agg #[.iface t x, .iface u y]) (by decide)
  have t3 := taN_neg 145 (.agg #[.iface t x, .iface u y]) (by decide)
  have tt := taY_add (.agg #[.iface t x, .iface u y])
  go_enter Tryd.func100, Tryd.ntmps100
  go_wp2
  go_ret
  exact ⟨rfl, rfl⟩
set_option maxHeartbeats 2000000 in
theorem kind_sub (n : Int) (s : ByteArray) (t u : TypeId) (x y : Value) (w : World) : Calls Tryd.prog 100 #[.iface 146 (.agg #[.iface t x, .iface u y])] w fun r w' => r = .returned (.int .i64 6) ∧ w' = w := by
  have t0 := taN_num 146 (.agg #[.iface t x, .iface u y]) (by decide)
  have t1 := taN_sym 146 (.agg #[.iface t x, .iface u y]) (by decide)
  have t2 := taN_here 146 (.agg #[.iface t x, .iface u y]) (by decide)
  have t3 := taN_neg 146 (.agg #[.iface t x, .iface u y]) (by decide)
  have t4 := taN_add 146 (.agg #[.iface t x, .iface u y]) (by decide)
  have tt := taY_sub (.agg #[.iface t x, .iface u y])
  go_enter Tryd.func100, Tryd.ntmps100
  go_wp2
  go_ret
  exact ⟨rfl, rfl⟩
set_option maxHeartbeats 2000000 in
theorem kind_mul (n : Int) (s : ByteArray) (t u : TypeId) (x y : Value) (w : World) : Calls Tryd.prog 100 #[.iface 147 (.agg #[.iface t x, .iface u y])] w fun r w' => r = .returned (.int .i64 7) ∧ w' = w := by
  have t0 := taN_num 147 (.agg #[.iface t x, .iface u y]) (by decide)
  have t1 := taN_sym 147 (.agg #[.iface t x, .iface u y]) (by decide)
  have t2 := taN_here 147 (.agg #[.iface t x, .iface u y]) (by decide)
  have t3 := taN_neg 147 (.agg #[.iface t x, .iface u y]) (by decide)
  have t4 := taN_add 147 (.agg #[.iface t x, .iface u y]) (by decide)
  have t5 := taN_sub 147 (.agg #[.iface t x, .iface u y]) (by decide)
  have tt := taY_mul (.agg #[.iface t x, .iface u y])
  go_enter Tryd.func100, Tryd.ntmps100
  go_wp2
  go_ret
  exact ⟨rfl, rfl⟩
set_option maxHeartbeats 2000000 in
theorem kind_div (n : Int) (s : ByteArray) (t u : TypeId) (x y : Value) (w : World) : Calls Tryd.prog 100 #[.iface 148 (.agg #[.iface t x, .iface u y])] w fun r w' => r = .returned (.int .i64 8) ∧ w' = w := by
  have t0 := taN_num 148 (.agg #[.iface t x, .iface u y]) (by decide)
  have t1 := taN_sym 148 (.agg #[.iface t x, .iface u y]) (by decide)
  have t2 := taN_here 148 (.agg #[.iface t x, .iface u y]) (by decide)
  have t3 := taN_neg 148 (.agg #[.iface t x, .iface u y]) (by decide)
  have t4 := taN_add 148 (.agg #[.iface t x, .iface u y]) (by decide)
  have t5 := taN_sub 148 (.agg #[.iface t x, .iface u y]) (by decide)
  have t6 := taN_mul 148 (.agg #[.iface t x, .iface u y]) (by decide)
  have tt := taY_div (.agg #[.iface t x, .iface u y])
  go_enter Tryd.func100, Tryd.ntmps100
  go_wp2
  go_ret
  exact ⟨rfl, rfl⟩
set_option maxHeartbeats 2000000 in
theorem kind_and (n : Int) (s : ByteArray) (t u : TypeId) (x y : Value) (w : World) : Calls Tryd.prog 100 #[.iface 149 (.agg #[.iface t x, .iface u y])] w fun r w' => r = .returned (.int .i64 9) ∧ w' = w := by
  have t0 := taN_num 149 (.agg #[.iface t x, .iface u y]) (by decide)
  have t1 := taN_sym 149 (.agg #[.iface t x, .iface u y]) (by decide)
  have t2 := taN_here 149 (.agg #[.iface t x, .iface u y]) (by decide)
  have t3 := taN_neg 149 (.agg #[.iface t x, .iface u y]) (by decide)
  have t4 := taN_add 149 (.agg #[.iface t x, .iface u y]) (by decide)
  have t5 := taN_sub 149 (.agg #[.iface t x, .iface u y]) (by decide)
  have t6 := taN_mul 149 (.agg #[.iface t x, .iface u y]) (by decide)
  have t7 := taN_div 149 (.agg #[.iface t x, .iface u y]) (by decide)
  have tt := taY_and (.agg #[.iface t x, .iface u y])
  go_enter Tryd.func100, Tryd.ntmps100
  go_wp2
  go_ret
  exact ⟨rfl, rfl⟩
set_option maxHeartbeats 2000000 in
theorem kind_or (n : Int) (s : ByteArray) (t u : TypeId) (x y : Value) (w : World) : Calls Tryd.prog 100 #[.iface 150 (.agg #[.iface t x, .iface u y])] w fun r w' => r = .returned (.int .i64 10) ∧ w' = w := by
  have t0 := taN_num 150 (.agg #[.iface t x, .iface u y]) (by decide)
  have t1 := taN_sym 150 (.agg #[.iface t x, .iface u y]) (by decide)
  have t2 := taN_here 150 (.agg #[.iface t x, .iface u y]) (by decide)
  have t3 := taN_neg 150 (.agg #[.iface t x, .iface u y]) (by decide)
  have t4 := taN_add 150 (.agg #[.iface t x, .iface u y]) (by decide)
  have t5 := taN_sub 150 (.agg #[.iface t x, .iface u y]) (by decide)
  have t6 := taN_mul 150 (.agg #[.iface t x, .iface u y]) (by decide)
  have t7 := taN_div 150 (.agg #[.iface t x, .iface u y]) (by decide)
  have t8 := taN_and 150 (.agg #[.iface t x, .iface u y]) (by decide)
  have tt := taY_or (.agg #[.iface t x, .iface u y])
  go_enter Tryd.func100, Tryd.ntmps100
  go_wp2
  go_ret
  exact ⟨rfl, rfl⟩
set_option maxHeartbeats 2000000 in
theorem kind_sect (n : Int) (s : ByteArray) (t u : TypeId) (x y : Value) (w : World) : Calls Tryd.prog 100 #[.iface 125 (.agg #[.int .i64 n])] w fun r w' => r = .returned (.int .i64 11) ∧ w' = w := by
  have t0 := taN_num 125 (.agg #[.int .i64 n]) (by decide)
  have t1 := taN_sym 125 (.agg #[.int .i64 n]) (by decide)
  have t2 := taN_here 125 (.agg #[.int .i64 n]) (by decide)
  have t3 := taN_neg 125 (.agg #[.int .i64 n]) (by decide)
  have t4 := taN_add 125 (.agg #[.int .i64 n]) (by decide)
  have t5 := taN_sub 125 (.agg #[.int .i64 n]) (by decide)
  have t6 := taN_mul 125 (.agg #[.int .i64 n]) (by decide)
  have t7 := taN_div 125 (.agg #[.int .i64 n]) (by decide)
  have t8 := taN_and 125 (.agg #[.int .i64 n]) (by decide)
  have t9 := taN_or 125 (.agg #[.int .i64 n]) (by decide)
  have tt := taY_sect (.agg #[.int .i64 n])
  go_enter Tryd.func100, Tryd.ntmps100
  go_wp2
  go_ret
  exact ⟨rfl, rfl⟩
set_option maxHeartbeats 2000000 in
theorem kind_glob (n : Int) (s : ByteArray) (t u : TypeId) (x y : Value) (w : World) : Calls Tryd.prog 100 #[.iface 127 (.agg #[.string s])] w fun r w' => r = .returned (.int .i64 12) ∧ w' = w := by
  have t0 := taN_num 127 (.agg #[.string s]) (by decide)
  have t1 := taN_sym 127 (.agg #[.string s]) (by decide)
  have t2 := taN_here 127 (.agg #[.string s]) (by decide)
  have t3 := taN_neg 127 (.agg #[.string s]) (by decide)
  have t4 := taN_add 127 (.agg #[.string s]) (by decide)
  have t5 := taN_sub 127 (.agg #[.string s]) (by decide)
  have t6 := taN_mul 127 (.agg #[.string s]) (by decide)
  have t7 := taN_div 127 (.agg #[.string s]) (by decide)
  have t8 := taN_and 127 (.agg #[.string s]) (by decide)
  have t9 := taN_or 127 (.agg #[.string s]) (by decide)
  have t10 := taN_sect 127 (.agg #[.string s]) (by decide)
  have tt := taY_glob (.agg #[.string s])
  go_enter Tryd.func100, Tryd.ntmps100
  go_wp2
  go_ret
  exact ⟨rfl, rfl⟩
theorem kindI_any {d : Nat} {e : Ex} (h : okF d false e = true) (w : World) : Calls Tryd.prog 100 #[tv e] w fun r w' => r = .returned (.int .i64 e.k) ∧ w' = w := by
  cases d with
  | zero => cases h
  | succ d =>
    rcases ok_cases h with ⟨n, hn, rfl⟩ | ⟨s, hs, rfl⟩ | rfl | ⟨a, ha, rfl⟩ | ⟨k, a, b, hk, ha, hb, rfl⟩ | ⟨n, hn, rfl⟩ | ⟨s, hs, rfl⟩
    · rw [tv_num]; exact kind_num n E0 0 0 .nilIface .nilIface w
    · rw [tv_sym]; exact kind_sym 0 s 0 0 .nilIface .nilIface w
    · rw [tv_here]; exact kind_here 0 E0 0 0 .nilIface .nilIface w
    · obtain ⟨t, x, e1⟩ := tv_if a
      rw [tv_neg, e1]; exact kind_neg 0 E0 t 0 x .nilIface w
    · obtain ⟨t, x, e1⟩ := tv_if a
      obtain ⟨u, y, e2⟩ := tv_if b
      rw [tv_two hk, e1, e2]
      have : k = 5 ∨ k = 6 ∨ k = 7 ∨ k = 8 ∨ k = 9 ∨ k = 10 := by omega
      rcases this with rfl | rfl | rfl | rfl | rfl | rfl
      · exact kind_add 0 E0 t u x y w
      · exact kind_sub 0 E0 t u x y w
      · exact kind_mul 0 E0 t u x y w
      · exact kind_div 0 E0 t u x y w
      · exact kind_and 0 E0 t u x y w
      · exact kind_or 0 E0 t u x y w
    · rw [tv_sect]; exact kind_sect n E0 0 0 .nilIface .nilIface w
    · rw [tv_glob]; exact kind_glob 0 s 0 0 .nilIface .nilIface w
theorem szL_allOk : ∀ ts : List Tk, AllOk ts → szL ts ≤ 10 * ts.length := by
  intro ts
  induction ts with
  | nil => intro _; simp [szL]
  | cons t r ih =>
    intro h
    obtain ⟨h1, h2⟩ := h.head
    have := ok_size h1
    have := ih h2
    simp only [szL, List.length_cons]
    omega
theorem text_len {e : Ex} (h : okF 6 true e = true) : (toksF 6 e).length + szL (toksF 6 e) ≤ 1048576 := by
  obtain ⟨h1, h2⟩ := toks_ok 6 e h
  have := szL_allOk _ h1
  have := mxT_le 6 (by omega)
  omega
set_option maxHeartbeats 1000000 in
theorem textS_any (e : Ex) (b : Option Addr) (cap : Nat) (w : World) (hr : RdX w 0 e b) (hz : e.sz ≤ 1048576) : Calls Tryd.prog 33 #[.agg (e.cs b cap)] w fun r w' => r = .returned (.string (textE e)) ∧ Below w.heap.size w w' := by
  have B0 := below_new w (.cells (e.cs b cap) 37)
  obtain ⟨x0, x1, x2, x3⟩ := box4 w e b cap 37
  have xl : w.heap.size < (w.alloc (.cells (e.cs b cap) 37)).heap.size := by simp
  have PS := hide (plainS_any e b cap _ (hr.later B0) hz)
  have HB := hide B0
  have TS := hide (fun w1 (hb : Below (w.alloc (.cells (e.cs b cap) 37)).heap.size (w.alloc (.cells (e.cs b cap) 37)) w1) (h : okF 6 true e = true) => toksS_all 6 (by omega) e b cap w1 h ((hr.later B0).later hb))
  have LS := hide (fun w1 a c (h : okF 6 true e = true) (h2 : RdT w1 a (toksF 6 e)) => lineS_any a (toksF 6 e).length c (toksF 6 e) w1 rfl (text_len h) h2)
  have TE := hide (show (okF 6 true e = true → textE e = strOf (lineOf (toksF 6 e))) ∧ (okF 6 true e = false → textE e = E0) from ⟨fun h => by unfold textE; rw [if_pos h], fun h => by unfold textE; rw [if_neg (by rw [h]; decide)]⟩)
  clear hr B0
  unfold Ex.cs at PS HB TS x0 x1 x2 x3 xl ⊢
  generalize okF 6 true e = q at *
  generalize toksF 6 e = ts at *
  generalize textE e = tx at *
  generalize e.l.length = ll at *
  generalize e.k = k at *
  generalize e.n = n at *
  generalize e.s = s at *
  generalize hW : w.alloc (.cells #[.int .i64 k, .int .i64 n, .string s, .slice b ll cap] 37) = W at *
  have Y0 := hide (fun w1 (hb : Below W.heap.size W w1) => (hb.cell (p := ⟨w.heap.size, 0, none⟩) xl).trans x0)
  have Y1 := hide (fun w1 (hb : Below W.heap.size W w1) => (hb.cell (p := ⟨w.heap.size, 1, none⟩) xl).trans x1)
  have Y2 := hide (fun w1 (hb : Below W.heap.size W w1) => (hb.cell (p := ⟨w.heap.size, 2, none⟩) xl).trans x2)
  have Y3 := hide (fun w1 (hb : Below W.heap.size W w1) => (hb.cell (p := ⟨w.heap.size, 3, none⟩) xl).trans x3)
  clear xl
  go_enter Tryd.func33, Tryd.ntmps33
  go_wp2_with fail
  refine (unhide PS).mono ?_
  rintro r w1 ⟨rfl, hb1⟩
  have BB := hide ((unhide HB).trans (hb1.mono (unhide HB).size))
  cases q with
  | false =>
    have E := hide ((unhide TE).2 rfl)
    clear hb1 PS TS LS TE
    go_wp2
    go_ret
    exact ⟨by rw [unhide E]; rfl, unhide BB⟩
  | true =>
    have E := hide ((unhide TE).1 rfl)
    have T1 := hide (unhide TS w1 hb1 rfl)
    have L1 := hide (fun w1 a c => unhide LS w1 a c rfl)
    have y0 := unhide Y0 w1 hb1
    have y1 := unhide Y1 w1 hb1
    have y2 := unhide Y2 w1 hb1
    have y3 := unhide Y3 w1 hb1
    clear hb1 PS TS LS TE x0 x1 x2 x3
    go_wp2_with fail
    refine (unhide T1).mono ?_
    rintro r w2 ⟨v2, rfl, o2, hb2⟩
    have B2 := hide ((unhide BB).trans (hb2.mono (unhide BB).size))
    obtain ⟨a2, c2, rfl, r2⟩ := o2.rd
    have L2 := hide (unhide L1 w2 a2 c2 r2)
    clear o2 r2 hb2 T1 L1 y0 y1 y2 y3
    go_wp2_with (go_at_call 49; refine (unhide L2).mono ?_; rintro r w3 ⟨rfl, hb3⟩)
    go_ret
    exact ⟨by rw [unhide E]; rfl, (unhide B2).trans (hb3.mono (unhide B2).size)⟩
end Go.Proofs.YthgbpofcfmnpdaaDoor
