/- Contracts over this seat's translation, laid together; conditions stand as hypotheses of each. -/
import Derived.Test.YtmhcbehplhfgfaaGreatDoorTxC
import Derived.Test.YtmhcbehplhfgfaaGreatDoorTxE
import Derived.Test.YtmhcbehplhfgfaaGreatDoorTxF
import Derived.Test.YtmhcbehplhfgfaaGreatDoorTxH
import Derived.OwnWalk

namespace Go.Proofs.YtmhcbehplhfgfaaGreatDoor
open Go.ChangeShapes Go.WideShapes Go.ChangeAt Go.RowKit
set_option linter.unusedVariables false
set_option maxRecDepth 8000
set_option linter.unusedSimpArgs false
set_option maxHeartbeats 2000000 in
theorem kind_num (n : Int) (s : ByteArray) (t u : TypeId) (x y : Value) (w : World) : Calls Tryz.prog 66 #[.iface 117 (.agg #[.int .i64 n])] w fun r w' => r = .returned (.int .i64 1) ∧ w' = w := by
  have tt := taY_num (.agg #[.int .i64 n])
  go_enter Tryz.func66, Tryz.ntmps66
  go_wp2
  go_ret
  exact ⟨rfl, rfl⟩
set_option maxHeartbeats 2000000 in
theorem kind_sym (n : Int) (s : ByteArray) (t u : TypeId) (x y : Value) (w : World) : Calls Tryz.prog 66 #[.iface 119 (.agg #[.string s])] w fun r w' => r = .returned (.int .i64 2) ∧ w' = w := by
  have t0 := taN_num 119 (.agg #[.string s]) (by decide)
  have tt := taY_sym (.agg #[.string s])
  go_enter Tryz.func66, Tryz.ntmps66
  go_wp2
  go_ret
  exact ⟨rfl, rfl⟩
set_option maxHeartbeats 2000000 in
theorem kind_here (n : Int) (s : ByteArray) (t u : TypeId) (x y : Value) (w : World) : Calls Tryz.prog 66 #[.iface 121 (.agg #[])] w fun r w' => r = .returned (.int .i64 3) ∧ w' = w := by
  have t0 := taN_num 121 (.agg #[]) (by decide)
  have t1 := taN_sym 121 (.agg #[]) (by decide)
  have tt := taY_here (.agg #[])
  go_enter Tryz.func66, Tryz.ntmps66
  go_wp2
  go_ret
  exact ⟨rfl, rfl⟩
set_option maxHeartbeats 2000000 in
theorem kind_neg (n : Int) (s : ByteArray) (t u : TypeId) (x y : Value) (w : World) : Calls Tryz.prog 66 #[.iface 123 (.agg #[.iface t x])] w fun r w' => r = .returned (.int .i64 4) ∧ w' = w := by
  have t0 := taN_num 123 (.agg #[.iface t x]) (by decide)
  have t1 := taN_sym 123 (.agg #[.iface t x]) (by decide)
  have t2 := taN_here 123 (.agg #[.iface t x]) (by decide)
  have tt := taY_neg (.agg #[.iface t x])
  go_enter Tryz.func66, Tryz.ntmps66
  go_wp2
  go_ret
  exact ⟨rfl, rfl⟩
set_option maxHeartbeats 2000000 in
theorem kind_add (n : Int) (s : ByteArray) (t u : TypeId) (x y : Value) (w : World) : Calls Tryz.prog 66 #[.iface 138 (.agg #[.iface t x, .iface u y])] w fun r w' => r = .returned (.int .i64 5) ∧ w' = w := by
  have t0 := taN_num 138 (.agg #[.iface t x, .iface u y]) (by decide)
  have t1 := taN_sym 138 (.agg #[.iface t x, .iface u y]) (by decide)
  have t2 := taN_here 138 (.agg #[.iface t x, .iface u y]) (by decide)
  have t3 := taN_neg 138 (.agg #[.iface t x, .iface u y]) (by decide)
  have tt := taY_add (.agg #[.iface t x, .iface u y])
  go_enter Tryz.func66, Tryz.ntmps66
  go_wp2
  go_ret
  exact ⟨rfl, rfl⟩
set_option maxHeartbeats 2000000 in
theorem kind_sub (n : Int) (s : ByteArray) (t u : TypeId) (x y : Value) (w : World) : Calls Tryz.prog 66 #[.iface 139 (.agg #[.iface t x, .iface u y])] w fun r w' => r = .returned (.int .i64 6) ∧ w' = w := by
  have t0 := taN_num 139 (.agg #[.iface t x, .iface u y]) (by decide)
  have t1 := taN_sym 139 (.agg #[.iface t x, .iface u y]) (by decide)
  have t2 := taN_here 139 (.agg #[.iface t x, .iface u y]) (by decide)
  have t3 := taN_neg 139 (.agg #[.iface t x, .iface u y]) (by decide)
  have t4 := taN_add 139 (.agg #[.iface t x, .iface u y]) (by decide)
  have tt := taY_sub (.agg #[.iface t x, .iface u y])
  go_enter Tryz.func66, Tryz.ntmps66
  go_wp2
  go_ret
  exact ⟨rfl, rfl⟩
set_option maxHeartbeats 2000000 in
theorem kind_mul (n : Int) (s : ByteArray) (t u : TypeId) (x y : Value) (w : World) : Calls Tryz.prog 66 #[.iface 140 (.agg #[.iface t x, .iface u y])] w fun r w' => r = .returned (.int .i64 7) ∧ w' = w := by
  have t0 := taN_num 140 (.agg #[.iface t x, .iface u y]) (by decide)
  have t1 := taN_sym 140 (.agg #[.iface t x, .iface u y]) (by decide)
  have t2 := taN_here 140 (.agg #[.iface t x, .iface u y]) (by decide)
  have t3 := taN_neg 140 (.agg #[.iface t x, .iface u y]) (by decide)
  have t4 := taN_add 140 (.agg #[.iface t x, .iface u y]) (by decide)
  have t5 := taN_sub 140 (.agg #[.iface t x, .iface u y]) (by decide)
  have tt := taY_mul (.agg #[.iface t x, .iface u y])
  go_enter Tryz.func66, Tryz.ntmps66
  go_wp2
  go_ret
  exact ⟨rfl, rfl⟩
set_option maxHeartbeats 2000000 in
theorem kind_div (n : Int) (s : ByteArray) (t u : TypeId) (x y : Value) (w : World) : Calls Tryz.prog 66 #[.iface 141 (.agg #[.iface t x, .iface u y])] w fun r w' => r = .returned (.int .i64 8) ∧ w' = w := by
  have t0 := taN_num 141 (.agg #[.iface t x, .iface u y]) (by decide)
  have t1 := taN_sym 141 (.agg #[.iface t x, .iface u y]) (by decide)
  have t2 := taN_here 141 (.agg #[.iface t x, .iface u y]) (by decide)
  have t3 := taN_neg 141 (.agg #[.iface t x, .iface u y]) (by decide)
  have t4 := taN_add 141 (.agg #[.iface t x, .iface u y]) (by decide)
  have t5 := taN_sub 141 (.agg #[.iface t x, .iface u y]) (by decide)
  have t6 := taN_mul 141 (.agg #[.iface t x, .iface u y]) (by decide)
  have tt := taY_div (.agg #[.iface t x, .iface u y])
  go_enter Tryz.func66, Tryz.ntmps66
  go_wp2
  go_ret
  exact ⟨rfl, rfl⟩
set_option maxHeartbeats 2000000 in
theorem kind_and (n : Int) (s : ByteArray) (t u : TypeId) (x y : Value) (w : World) : Calls Tryz.prog 66 #[.iface 142 (.agg #[.iface t x, .iface u y])] w fun r w' => r = .returned (.int .i64 9) ∧ w' = w := by
  have t0 := taN_num 142 (.agg #[.iface t x, .iface u y]) (by decide)
  have t1 := taN_sym 142 (.agg #[.iface t x, .iface u y]) (by decide)
  have t2 := taN_here 142 (.agg #[.iface t x, .iface u y]) (by decide)
  have t3 := taN_neg 142 (.agg #[.iface t x, .iface u y]) (by decide)
  have t4 := taN_add 142 (.agg #[.iface t x, .iface u y]) (by decide)
  have t5 := taN_sub 142 (.agg #[.iface t x, .iface u y]) (by decide)
  have t6 := taN_mul 142 (.agg #[.iface t x, .iface u y]) (by decide)
  have t7 := taN_div 142 (.agg #[.iface t x, .iface u y]) (by decide)
  have tt := taY_and (.agg #[.iface t x, .iface u y])
  go_enter Tryz.func66, Tryz.ntmps66
  go_wp2
  go_ret
  exact ⟨rfl, rfl⟩
set_option maxHeartbeats 2000000 in
theorem kind_or (n : Int) (s : ByteArray) (t u : TypeId) (x y : Value) (w : World) : Calls Tryz.prog 66 #[.iface 143 (.agg #[.iface t x, .iface u y])] w fun r w' => r = .returned (.int .i64 10) ∧ w' = w := by
  have t0 := taN_num 143 (.agg #[.iface t x, .iface u y]) (by decide)
  have t1 := taN_sym 143 (.agg #[.iface t x, .iface u y]) (by decide)
  have t2 := taN_here 143 (.agg #[.iface t x, .iface u y]) (by decide)
  have t3 := taN_neg 143 (.agg #[.iface t x, .iface u y]) (by decide)
  have t4 := taN_add 143 (.agg #[.iface t x, .iface u y]) (by decide)
  have t5 := taN_sub 143 (.agg #[.iface t x, .iface u y]) (by decide)
  have t6 := taN_mul 143 (.agg #[.iface t x, .iface u y]) (by decide)
  have t7 := taN_div 143 (.agg #[.iface t x, .iface u y]) (by decide)
  have t8 := taN_and 143 (.agg #[.iface t x, .iface u y]) (by decide)
  have tt := taY_or (.agg #[.iface t x, .iface u y])
  go_enter Tryz.func66, Tryz.ntmps66
  go_wp2
  go_ret
  exact ⟨rfl, rfl⟩
set_option maxHeartbeats 2000000 in
theorem kind_sect (n : Int) (s : ByteArray) (t u : TypeId) (x y : Value) (w : World) : Calls Tryz.prog 66 #[.iface 144 (.agg #[.int .i64 n])] w fun r w' => r = .returned (.int .i64 11) ∧ w' = w := by
  have t0 := taN_num 144 (.agg #[.int .i64 n]) (by decide)
  have t1 := taN_sym 144 (.agg #[.int .i64 n]) (by decide)
  have t2 := taN_here 144 (.agg #[.int .i64 n]) (by decide)
  have t3 := taN_neg 144 (.agg #[.int .i64 n]) (by decide)
  have t4 := taN_add 144 (.agg #[.int .i64 n]) (by decide)
  have t5 := taN_sub 144 (.agg #[.int .i64 n]) (by decide)
  have t6 := taN_mul 144 (.agg #[.int .i64 n]) (by decide)
  have t7 := taN_div 144 (.agg #[.int .i64 n]) (by decide)
  have t8 := taN_and 144 (.agg #[.int .i64 n]) (by decide)
  have t9 := taN_or 144 (.agg #[.int .i64 n]) (by decide)
  have tt := taY_sect (.agg #[.int .i64 n])
  go_enter Tryz.func66, Tryz.ntmps66
  go_wp2
  go_ret
  exact ⟨rfl, rfl⟩
set_option maxHeartbeats 2000000 in
theorem kind_glob (n : Int) (s : ByteArray) (t u : TypeId) (x y : Value) (w : World) : Calls Tryz.prog 66 #[.iface 145 (.agg #[.string s])] w fun r w' => r = .returned (.int .i64 12) ∧ w' = w := by
  have t0 := taN_num 145 (.agg #[.string s]) (by decide)
  have t1 := taN_sym 145 (.agg #[.string s]) (by decide)
  have t2 := taN_here 145 (.agg #[.string s]) (by decide)
  have t3 := taN_neg 145 (.agg #[.string s]) (by decide)
  have t4 := taN_add 145 (.agg #[.string s]) (by decide)
  have t5 := taN_sub 145 (.agg #[.string s]) (by decide)
  have t6 := taN_mul 145 (.agg #[.string s]) (by decide)
  have t7 := taN_div 145 (.agg #[.string s]) (by decide)
  have t8 := taN_and 145 (.agg #[.string s]) (by decide)
  have t9 := taN_or 145 (.agg #[.string s]) (by decide)
  have t10 := taN_sect 145 (.agg #[.string s]) (by decide)
  have tt := taY_glob (.agg #[.string s])
  go_enter Tryz.func66, Tryz.ntmps66
  go_wp2
  go_ret
  exact ⟨rfl, rfl⟩
theorem kindI_any {d : Nat} {e : Ex} (h : okF d false e = true) (w : World) : Calls Tryz.prog 66 #[tv e] w fun r w' => r = .returned (.int .i64 e.k) ∧ w' = w := by
  cases d with
  | zero => cases h
  | succ d =>
    rcases ok_cases h with ⟨n, hn, rfl⟩ | ⟨s, hs, rfl⟩ | rfl | ⟨a, ha, rfl⟩ | ⟨k, a, b, hk, ha, hb, rfl⟩ | ⟨n, hn, rfl⟩ | ⟨s, hs, rfl⟩
    · rw [tv_num]; exact kind_num n E0 0 0 .nilIface .nilIface w
    · rw [tv_sym]; exact kind_sym 0 s 0 0 .nilIface .nilIface w
    · rw [tv_here]; exact kind_here 0 E0 0 0 .nilIface .nilIface w
    · obtain ⟨t, x, e1⟩ := tv_if a
      rw [tv_neg, e1]; exact kind_neg 0 E0 t 0 x .nilIface w
    · obtain ⟨t, x, e1⟩ := tv_if a
      obtain ⟨u, y, e2⟩ := tv_if b
      rw [tv_two hk, e1, e2]
      have : k = 5 ∨ k = 6 ∨ k = 7 ∨ k = 8 ∨ k = 9 ∨ k = 10 := by omega
      rcases this with rfl | rfl | rfl | rfl | rfl | rfl
      · exact kind_add 0 E0 t u x y w
      · exact kind_sub 0 E0 t u x y w
      · exact kind_mul 0 E0 t u x y w
      · exact kind_div 0 E0 t u x y w
      · exact kind_and 0 E0 t u x y w
      · exact kind_or 0 E0 t u x y w
    · rw [tv_sect]; exact kind_sect n E0 0 0 .nilIface .nilIface w
    · rw [tv_glob]; exact kind_glob 0 s 0 0 .nilIface .nilIface w
theorem szL_allOk : ∀ ts : List Tk, AllOk ts → szL ts ≤ 10 * ts.length := by
  intro ts
  induction ts with
  | nil => intro _; simp [szL]
  | cons t r ih =>
    intro h
    obtain ⟨h1, h2⟩ := h.head
    have := ok_size h1
    have := ih h2
    simp only [szL, List.length_cons]
    omega
end Go.Proofs.YtmhcbehplhfgfaaGreatDoor

namespace Go.Proofs.YtmhcbehplhfgfaaGreatDoor
open Go.ChangeShapes Go.WideShapes Go.ChangeAt Go.RowKit
set_option linter.unusedVariables false
set_option maxRecDepth 8000
set_option linter.unusedSimpArgs false
theorem infTm : (Tryz.prog.info? 85).map (fun i => (i.zero, i.size, i.bytes)) = some (some .nilIface, 1, 16) := by kernel_rfl
/-- A row of the program's terms that is owned. -/
def OwnV (w : World) (B : Nat) (v : Value) (l : List Value) : Prop := w.ownsRow B 85 1 v l.length l
theorem OwnV.later {w w' : World} {B : Nat} {v : Value} {l : List Value} (h : OwnV w B v l) (hb : Below w.heap.size w w') : OwnV w' B v l := by
  obtain ⟨h1, h2 | ⟨g, cap, cur, e, hg, hh, r⟩⟩ := h
  · exact ⟨h1, .inl h2⟩
  · exact ⟨h1, .inr ⟨g, cap, cur, e, hg, (hb.block g (Array.getElem?_eq_some_iff.1 hh).1).trans hh, r⟩⟩
theorem OwnV.base {w : World} {B B' : Nat} {v : Value} {l : List Value} (h : OwnV w B v l) (hB : B' ≤ B) : OwnV w B' v l := by
  obtain ⟨h1, h2 | ⟨g, cap, cur, e, hg, r⟩⟩ := h
  · exact ⟨h1, .inl h2⟩
  · exact ⟨h1, .inr ⟨g, cap, cur, e, Nat.le_trans hB hg, r⟩⟩
theorem ownV_none (w : World) (B : Nat) : OwnV w B (.slice none 0 0) [] := ⟨rfl, .inl ⟨rfl, rfl⟩⟩
section
variable {ops : Array Oper} {rest : List Oper} {o : Oper} {a : Act} {Q : Exit → Act → World → Prop} {w w0 : World} {B : Nat} {K : Act → World → Prop}
/-- One term appended. -/
theorem wp_appV (s x : Operand) (ho : o.op = .call { callee := .builtin .append, args := #[s, x], argTypes := #[50, 50] }) (hB : B ≤ w0.heap.size) (hD : Below B w0 w) {v : Value} {l : List Value} (hs : a.eval s = v) (hown : OwnV w B v l) (g : Nat) (p : Value) (hx : a.eval x = .slice (some ⟨g, 0, none⟩) 1 1) (hg : w.heap[g]? = some (.cells #[p] 85 (0, 0))) (hi : IfV p) (hl : l.length ≤ 1048576)
    (h : ∀ (v' : Value) (y : Sub B w0), OwnV y.w B v' (l ++ [p]) → K (a.put o.dst v') y.w) : o.wp Tryz.prog a w K Q := by
  obtain ⟨i0, hi0, hz0, hz1, hz2⟩ := info_parts infTm
  have hsz := hD.size
  refine wp_append_own w s x 50 ho B 85 i0 .nilIface 1 16 Tryz.underlying50 hi0 hz0 hz1 hz2 rfl (by decide) v l.length l hs hown ⟨g, 0, none⟩ 1 1 [p] hx rfl (fun j u hj => by
    have hc := Lib.cell_of_heap hg j
    have e : (#[p] : Array Value)[j]? = some u := by rw [← hj]; simp
    have ha : (⟨g, 0, none⟩ : Addr).add j = ⟨g, j, none⟩ := by simp [Addr.add]; exact fun h => h.symm
    rw [ha]
    exact hc.trans e) (fun u hu => by rw [List.mem_singleton.1 hu]; exact hi.one) (by unfold maxLen; omega) (by omega) (by omega) ?_
  intro v' w' h1 h2 _
  refine h v' ⟨w', hD.grown h2 (Nat.le_trans hB hD.size) (fun g hg => (World.ownsRow.lt hown g hg).1)⟩ ?_
  unfold OwnV
  rw [List.length_append]
  exact h1
theorem appV (hgd : o.guard = none) (s x : Operand) (ho : o.op = .call { callee := .builtin .append, args := #[s, x], argTypes := #[50, 50] }) (hB : B ≤ w0.heap.size) (hD : Below B w0 w) {v : Value} {l : List Value} (hs : a.eval s = v) (hown : OwnV w B v l) (g : Nat) (p : Value) (hx : a.eval x = .slice (some ⟨g, 0, none⟩) 1 1) (hg : w.heap[g]? = some (.cells #[p] 85 (0, 0))) (hi : IfV p) (hl : l.length ≤ 1048576)
    (h : ∀ (v' : Value) (y : Sub B w0), OwnV y.w B v' (l ++ [p]) → wpList Tryz.prog ops Q rest (a.put o.dst v') y.w) : wpList Tryz.prog ops Q (o :: rest) a w :=
  wpList_plain hgd fun _ hK => wp_appV s x ho hB hD hs hown g p hx hg hi hl fun v' y h1 => hK _ _ (h v' y h1)
end
/-- Whether a term fits: plain, and a name alone where it must be. -/
def tmF (na : Bool) (e : Ex) : Bool := okF 6 true e && (!na || e.k == 2)
theorem tmF_take {na : Bool} {l : List Ex} {k : Nat} (h : k < l.length) : (l.take (k + 1)).all (tmF na) = ((l.take k).all (tmF na) && tmF na (xAt l k)) := by
  rw [List.take_succ_eq_append_getElem h, List.all_append]
  simp [xAt, List.getD_eq_getElem?_getD, h]
theorem tmF_no {na : Bool} {l : List Ex} {k : Nat} (h : k < l.length) (hk : tmF na (xAt l k) = false) : l.all (tmF na) = false := by
  cases hq : l.all (tmF na) with
  | false => rfl
  | true =>
    have := List.all_eq_true.1 hq (xAt l k) (by simp [xAt, List.getD_eq_getElem?_getD, h])
    rw [hk] at this
    cases this
theorem tvJ_take {l : List Ex} {k : Nat} (h : k < l.length) : (l.take (k + 1)).map tv = (l.take k).map tv ++ [tv (xAt l k)] := by
  rw [List.take_succ_eq_append_getElem h, List.map_append]
  simp [xAt, List.getD_eq_getElem?_getD, h]
/-- Whether the terms of a line fit its shape. -/
def tmX (S : Sh) (l : List Ex) : Bool := inB l.length S.fw S.mo && l.all (tmF S.na)
/-- What plainTerms answers. -/
def TmsR (S : Sh) (l : List Ex) (w : World) (r : Ending) (w' : World) : Prop := ∃ v, r = .returned (.tuple #[v, .bool (tmX S l)]) ∧ (tmX S l = true → OwnV w' w.heap.size v (l.map tv)) ∧ Below w.heap.size w w'
set_option maxHeartbeats 8000000 in
theorem ptmI_any (S : Sh) (l : List Ex) (b : Option Addr) (n cap : Nat) (w : World) (hn : l.length = n) (hm : n ≤ 1048576) (hz : ∀ i, i < n → (xAt l i).sz ≤ 1048576) (hr : RdX w 0 ⟨0, 0, E0, l⟩ b) (ht : TabK w) : Calls Tryz.prog 40 #[.agg S.cs, .slice b n cap] w (TmsR S l w) := by
  obtain ⟨a1, a2, a3, a4, a5, a6, a7⟩ := S
  have FN := hide (fun (r : Ending) (w' : World) (v : Value) (q : Bool) (h0 : (inB (n : Int) a5 a6 && l.all (tmF a7)) = q) (h : r = .returned (.tuple #[v, .bool q])) (h1 : q = true → OwnV w' w.heap.size v (l.map tv)) (h2 : Below w.heap.size w w') => (show TmsR ⟨a1, a2, a3, a4, a5, a6, a7⟩ l w r w' from ⟨v, by rw [h, ← h0, ← hn]; rfl, fun e => h1 (by rw [← h0, ← hn]; exact e), h2⟩))
  unfold Sh.cs
  simp only
  obtain ⟨W, hW⟩ : ∃ W, w.alloc (.cells #[.bool a1, .bool a2, .bool a3, .int .i64 a4, .int .i64 a5, .int .i64 a6, .bool a7] 73) = W := ⟨_, rfl⟩
  have hbW : Below w.heap.size w W := by rw [← hW]; exact below_new _ _
  have rS : W.heap[w.heap.size]? = some (.cells #[.bool a1, .bool a2, .bool a3, .int .i64 a4, .int .i64 a5, .int .i64 a6, .bool a7] 73 (0, 0)) := by rw [← hW]; exact Array.getElem?_push_size
  have lS := (Array.getElem?_eq_some_iff.1 rS).1
  have BY := hide (fun y : Sub W.heap.size W => hbW.trans (y.h.mono hbW.size))
  have HO := hide (fun (y : Sub W.heap.size W) v l (h : OwnV y.w W.heap.size v l) => h.base hbW.size)
  have E4 : ∀ y : Sub W.heap.size W, y.w.cell? ⟨w.heap.size, 4, none⟩ = some (.int .i64 a5) := fun y => (y.h.cell (p := ⟨w.heap.size, 4, none⟩) lS).trans (Lib.cell_of_heap rS 4)
  have E5 : ∀ y : Sub W.heap.size W, y.w.cell? ⟨w.heap.size, 5, none⟩ = some (.int .i64 a6) := fun y => (y.h.cell (p := ⟨w.heap.size, 5, none⟩) lS).trans (Lib.cell_of_heap rS 5)
  have E6 : ∀ y : Sub W.heap.size W, y.w.cell? ⟨w.heap.size, 6, none⟩ = some (.bool a7) := fun y => (y.h.cell (p := ⟨w.heap.size, 6, none⟩) lS).trans (Lib.cell_of_heap rS 6)
  have ne := Sub.ne W.heap.size W
  have HZ := hide (Nat.le_refl W.heap.size)
  have TM := hide (fun i (hi : i < n) (c : Option Addr) (cp : Nat) (y : Sub W.heap.size W) (h : RdX y.w 0 (xAt l i) c) => plnO_any (xAt l i) c cp y.w h (hz i hi) (ht.next (unhide BY y)))
  unfold PlnR at TM
  have KD := hide (fun i (h : okF 6 true (xAt l i) = true) (w : World) => kindI_any (plain_ok 6 _ h) w)
  have RD := hide (fun i (h : i < n) => rd_at (hr.later hbW) (i := i) (by show i < l.length; omega))
  have OT := hide (fun k (h : k < n) => tmF_take (na := a7) (l := l) (k := k) (by omega))
  have ON := hide (fun k (h : k < n) => tmF_no (na := a7) (l := l) (k := k) (by omega))
  have TT := hide (fun k (h : k < n) => tvJ_take (l := l) (k := k) (by omega))
  have EN := hide (show l.take n = l by rw [← hn, List.take_length])
  obtain ⟨y0, hy0⟩ : ∃ z : Sub W.heap.size W, W = z.w := ⟨⟨W, Below.refl _ _⟩, rfl⟩
  rw [hy0] at hW
  generalize TmsR ⟨a1, a2, a3, a4, a5, a6, a7⟩ l w = R at *
  clear hr hz ht hn hbW rS lS hy0
  by_cases hlo : (n : Int) < a5
  · have F2 := hide (fun r w' v => unhide FN r w' v false (by rw [inB_f (n : Int) a5 a6 (by omega)]; rfl))
    clear FN TM KD RD OT ON TT EN
    go_enter Tryz.func40, Tryz.ntmps40
    go_wp2
    (try go_ret2)
    exact unhide F2 _ _ _ rfl (fun h => by cases h) (unhide BY y0)
  by_cases hhi : a6 < (n : Int)
  · have F2 := hide (fun r w' v => unhide FN r w' v false (by rw [inB_f (n : Int) a5 a6 (by omega)]; rfl))
    clear FN TM KD RD OT ON TT EN
    go_enter Tryz.func40, Tryz.ntmps40
    go_wp2
    (try go_ret2)
    exact unhide F2 _ _ _ rfl (fun h => by cases h) (unhide BY y0)
  have F2 := hide (fun r w' v q (h : l.all (tmF a7) = q) => unhide FN r w' v q (by rw [inB_t (n : Int) a5 a6 (by omega) (by omega)]; exact h))
  clear FN
  have g1 : decide ((n : Int) < a5) = false := decide_eq_false hlo
  have g2 : decide (a6 < (n : Int)) = false := decide_eq_false hhi
  go_enter Tryz.func40, Tryz.ntmps40
  go_wp2
  go_loopw [6, 25] (fun v i wr => ∃ (k : Nat) (z : Sub W.heap.size W), k ≤ n ∧ i = .int .i64 k ∧ (l.take k).all (tmF a7) = true ∧ OwnV z.w W.heap.size v ((l.take k).map tv) ∧ wr = z.w) (fun _ i _ => n - (intOf i).toNat)
  case atStart => exact ⟨0, y0, Nat.zero_le _, rfl, by simp, ownV_none _ _, rfl⟩
  case round =>
    obtain ⟨k, z, hk, rfl, hok, hown, rfl⟩ := hrel
    by_cases hlt : k < n
    · obtain ⟨p, po, rfl, hp, o1⟩ := unhide RD k hlt
      obtain ⟨e0, e1, e2, c, cp, e3, e4⟩ := o1
      have c0 := (z.h.cell (p := ⟨p, po + k * 4, none⟩) hp).trans e0
      have c1 := (z.h.cell (p := ⟨p, po + k * 4 + 1, none⟩) hp).trans e1
      have c2 := (z.h.cell (p := ⟨p, po + k * 4 + 2, none⟩) hp).trans e2
      have c3 := (z.h.cell (p := ⟨p, po + k * 4 + 3, none⟩) hp).trans e3
      have T1 := hide (unhide OT k hlt)
      have T2 := hide (unhide TT k hlt)
      have T3 := hide (unhide ON k hlt)
      have T4 := hide (show tmF a7 (xAt l k) = (okF 6 true (xAt l k) && (!a7 || (xAt l k).k == 2)) from rfl)
      have X0 := hide (fun y : Sub W.heap.size W => e4.later y.h)
      have TK := hide (fun y : Sub W.heap.size W => unhide TM k hlt c cp y (unhide X0 y))
      have K0 := hide (unhide KD k)
      have OK := hide hok
      have OW := hide hown
      unfold Ex.cs at TK
      have hkn : ¬ ((n : Int) ≤ (k : Int)) := by omega
      clear e0 e1 e2 e3 e4 hok hown hp X0
      obtain ⟨tt, xx, ett⟩ := tv_if (xAt l k)
      rw [ett] at TK T2 K0
      clear ett
      generalize (xAt l k).k = ek at *
      generalize (xAt l k).n = en at *
      generalize (xAt l k).s = es at *
      generalize (xAt l k).l.length = el at *
      have hb1 := below_new z.w (.cells #[.int .i64 ek, .int .i64 en, .string es, .slice c el cp] 33)
      obtain ⟨z1, hz1⟩ := Sub.step (unhide HZ) hb1
      have G1 := hide (show z1.w.heap[z.w.heap.size]? = some (.cells #[.int .i64 ek, .int .i64 en, .string es, .slice c el cp] 33 (0, 0)) by rw [← hz1]; exact Array.getElem?_push_size)
      have O1 := hide (show OwnV z1.w W.heap.size u6 ((l.take k).map tv) by rw [← hz1]; exact (unhide OW).later hb1)
      have C1 := hide (unhide TK z1)
      clear hb1 TK OW
      go_wp2_with (refine wpList_load_row rfl 33 _ rfl z.w.heap.size rfl 33 #[.int .i64 ek, .int .i64 en, .string es, .slice c el cp] (0, 0) _ (unhide G1) Tryz.underlying33 rfl (by kernel_rfl) ?_)
      refine (unhide C1).mono ?_
      rintro r w2 ⟨tk, rfl, htk, hb2⟩
      have O2 := hide ((unhide O1).later hb2)
      obtain ⟨z2, rfl⟩ := Sub.step (unhide HZ) hb2
      have HT := hide htk.2
      clear htk hb2 O1 C1 G1 c0 c1 c2 c3 hz1
      generalize hq : okF 6 true (xAt l k) = q at *
      cases q with
      | false =>
        have F := hide (unhide T3 (by rw [unhide T4]; rfl))
        clear T1 T2 T3 T4 K0 HT
        go_wp2
        (first | go_ret2 | go_ret | skip)
        exact unhide F2 _ _ _ false (unhide F) rfl (fun h => by cases h) (unhide BY z2)
      | true =>
        have etk := unhide HT rfl
        subst etk
        have K1 := hide (unhide K0 rfl)
        clear HT K0
        cases a7 with
        | false =>
          have E1 := hide (show (l.take (k + 1)).all (tmF false) = true by rw [unhide T1, unhide OK, unhide T4]; rfl)
          clear T1 T3 T4 OK
          have hb3 := below_new z2.w (.cells #[.iface tt xx] 85)
          obtain ⟨z3, hz3⟩ := Sub.step (unhide HZ) hb3
          have O3 := hide (show OwnV z3.w W.heap.size u6 ((l.take k).map tv) by rw [← hz3]; exact (unhide O2).later hb3)
          have G3 := hide (show z3.w.heap[z2.w.heap.size]? = some (.cells #[.iface tt xx] 85 (0, 0)) by rw [← hz3]; exact Array.getElem?_push_size)
          have LN := hide (show ((l.take k).map tv).length ≤ 1048576 by simp; omega)
          clear hb3 O2
          go_wp2_with (first | (go_at_call 66; refine (unhide K1 _).mono ?_; rintro r w' ⟨rfl, hw'⟩; rw [hw']; clear hw' w') | (at_builtin; go_must (refine appV rfl _ _ rfl (unhide HZ) z3.h rfl (unhide O3) z2.w.heap.size (.iface tt xx) rfl (unhide G3) (.inr ⟨_, _, rfl⟩) (unhide LN) ?_; intro v4 z4 hO; have O4 := hide hO; clear hO)))
          go_roundw
          case rel => exact ⟨k + 1, z4, by omega, by go_num, unhide E1, by rw [unhide T2]; exact unhide O4, rfl⟩
          case measure => simp [intOf]; omega
        | true =>
          by_cases h2 : ek = 2
          · subst h2
            have E1 := hide (show (l.take (k + 1)).all (tmF true) = true by rw [unhide T1, unhide OK, unhide T4]; rfl)
            clear T1 T3 T4 OK
            have hb3 := below_new z2.w (.cells #[.iface tt xx] 85)
            obtain ⟨z3, hz3⟩ := Sub.step (unhide HZ) hb3
            have O3 := hide (show OwnV z3.w W.heap.size u6 ((l.take k).map tv) by rw [← hz3]; exact (unhide O2).later hb3)
            have G3 := hide (show z3.w.heap[z2.w.heap.size]? = some (.cells #[.iface tt xx] 85 (0, 0)) by rw [← hz3]; exact Array.getElem?_push_size)
            have LN := hide (show ((l.take k).map tv).length ≤ 1048576 by simp; omega)
            clear hb3 O2
            go_wp2_with (first | (go_at_call 66; refine (unhide K1 _).mono ?_; rintro r w' ⟨rfl, hw'⟩; rw [hw']; clear hw' w') | (at_builtin; go_must (refine appV rfl _ _ rfl (unhide HZ) z3.h rfl (unhide O3) z2.w.heap.size (.iface tt xx) rfl (unhide G3) (.inr ⟨_, _, rfl⟩) (unhide LN) ?_; intro v4 z4 hO; have O4 := hide hO; clear hO)))
            go_roundw
            case rel => exact ⟨k + 1, z4, by omega, by go_num, unhide E1, by rw [unhide T2]; exact unhide O4, rfl⟩
            case measure => simp [intOf]; omega
          · have g2 : (ek == 2) = false := beq_eq_false_iff_ne.2 h2
            have F := hide (unhide T3 (by rw [unhide T4, g2]; rfl))
            clear T1 T2 T3 T4 OK
            go_wp2_with (go_at_call 66; refine (unhide K1 _).mono ?_; rintro r w' ⟨rfl, hw'⟩; rw [hw']; clear hw' w')
            (first | go_ret2 | go_ret | skip)
            exact unhide F2 _ _ _ false (unhide F) rfl (fun h => by cases h) (unhide BY z2)
    · obtain rfl : k = n := by omega
      rw [unhide EN] at hok hown
      have OW := hide hown
      have OK := hide hok
      clear hok hown
      go_wp2
      (first | go_ret2 | go_ret | skip)
      exact unhide F2 _ _ _ true (unhide OK) rfl (fun _ => unhide HO _ _ _ (unhide OW)) (unhide BY z)
end Go.Proofs.YtmhcbehplhfgfaaGreatDoor

namespace Go.Proofs.YtmhcbehplhfgfaaGreatDoor
open Go.ChangeShapes Go.WideShapes Go.ChangeAt Go.RowKit
set_option linter.unusedVariables false
set_option maxRecDepth 8000
set_option linter.unusedSimpArgs false
/-- Whether a line is right, as the program finds it. -/
def stX (x : Ln) : Bool := shB x.k x.op && (nmX (shX x.k x.op).nm x.s && (inB x.n 0 (shX x.k x.op).gn && ((agW (shX x.k x.op).src x.src && agW (shX x.k x.op).dst x.dst) && tmX (shX x.k x.op) x.l)))
theorem n00 (n : Int) : inB n 0 0 = (n == 0) := by
  by_cases h : n = 0
  · subst h; rfl
  · rw [inB_f n 0 0 (by omega), beq_eq_false_iff_ne.2 h]
theorem len00 (l : List Ex) : inB (l.length : Int) 0 0 = (l.length == 0) := by
  by_cases h : l.length = 0
  · rw [h]; rfl
  · rw [inB_f _ 0 0 (by omega), beq_eq_false_iff_ne.2 h]
theorem len11 (l : List Ex) : inB (l.length : Int) 1 1 = (l.length == 1) := by
  by_cases h : l.length = 1
  · rw [h]; rfl
  · rw [inB_f _ 1 1 (by omega), beq_eq_false_iff_ne.2 h]
theorem tmF_f : tmF false = okF 6 true := by
  funext e
  unfold tmF
  simp
theorem tmF_t : tmF true = nmF := by
  funext e
  unfold tmF nmF
  simp
theorem t00 (na : Bool) (l : List Ex) : (inB (l.length : Int) 0 0 && l.all (tmF na)) = (l.length == 0) := by
  rw [len00]
  cases l with
  | nil => rfl
  | cons a l => rfl
theorem tm_00 (a b c na : Bool) (g : Int) (l : List Ex) : tmX ⟨a, b, c, g, 0, 0, na⟩ l = (l.length == 0) := t00 na l
theorem tm_11 (a b c : Bool) (g : Int) (l : List Ex) : tmX ⟨a, b, c, g, 1, 1, false⟩ l = (l.length == 1 && l.all (okF 6 true)) := by
  unfold tmX
  simp only
  rw [len11, tmF_f]
theorem tm_16 (a b c : Bool) (g : Int) (l : List Ex) : tmX ⟨a, b, c, g, 1, 6, false⟩ l = (inB l.length 1 6 && l.all (okF 6 true)) := by
  unfold tmX
  simp only
  rw [tmF_f]
theorem tm_16n (a b c : Bool) (g : Int) (l : List Ex) : tmX ⟨a, b, c, g, 1, 6, true⟩ l = nmsX l := by
  unfold tmX nmsX
  simp only
  rw [tmF_t, Bool.and_comm]
theorem stX_of {x : Ln} {S : Sh} {q : Bool} (h : shX x.k x.op = S) (hq : shB x.k x.op = q) : stX x = (q && (nmX S.nm x.s && (inB x.n 0 S.gn && ((agW S.src x.src && agW S.dst x.dst) && tmX S x.l)))) := by
  unfold stX
  rw [h, hq]
theorem st_eq (x : Ln) : stX x = lnX x := by
  obtain ⟨k, s, op, src, dst, n, l⟩ := x
  by_cases hk : k = 3
  · subst hk
    by_cases h : 1 ≤ op ∧ op ≤ 6
    · have f1 : inB op 1 6 = true := inB_t _ _ _ (by omega) (by omega)
      have f2 : inB op 1 15 = true := inB_t _ _ _ (by omega) (by omega)
      have f3 : inB op 7 14 = false := inB_f _ _ _ (by omega)
      have f4 : inB op 17 21 = false := inB_f _ _ _ (by omega)
      have f5 : inB op 1 23 = true := inB_t _ _ _ (by omega) (by omega)
      have e1 : (op == 15) = false := beq_eq_false_iff_ne.2 (by omega)
      have e2 : (op == 16) = false := beq_eq_false_iff_ne.2 (by omega)
      have e3 : (op == 22) = false := beq_eq_false_iff_ne.2 (by omega)
      have e4 : (op == 23) = false := beq_eq_false_iff_ne.2 (by omega)
      have R : regB op = false := by unfold regB; rw [e1, e2]; rfl
      have hX : shX 3 op = ⟨false, true, true, 0, 0, 0, false⟩ := by unfold shX; rw [if_pos rfl, R, f1, f2, f4, e4]; rfl
      have hB : shB 3 op = true := by unfold shB; rw [if_pos rfl, f5]
      rw [stX_of (x := Ln.mk 3 s op src dst n l) hX hB]
      simp only [nmX, agW, if_true, Bool.false_eq_true, if_false, Bool.true_and]
      rw [n00, tm_00]
      show _ = lnV 3 s op (nonX src) (nonX dst) n l.length (nameB s) (l.all (okF 6 true)) (nmsX l) (insV op (nonX src) (nonX dst) (agX src) (agX dst) n l.length (l.all (okF 6 true)))
      unfold lnV insV
      simp only [f1, f2, f3, f4, f5, e1, e2, e3, e4, Bool.false_eq_true, if_false, if_true, Bool.or_false, Bool.false_or, Bool.true_or, Bool.or_true, beq_self_eq_true, Bool.not_true, Bool.not_false]
      generalize eqS s E0 = b0
      generalize (n == 0) = b1
      generalize (l.length == 0) = b2
      generalize agX src = b3
      generalize agX dst = b4
      cases b0 <;> cases b1 <;> cases b2 <;> cases b3 <;> cases b4 <;> rfl
    by_cases h : 7 ≤ op ∧ op ≤ 14
    · have f1 : inB op 1 6 = false := inB_f _ _ _ (by omega)
      have f2 : inB op 1 15 = true := inB_t _ _ _ (by omega) (by omega)
      have f3 : inB op 7 14 = true := inB_t _ _ _ (by omega) (by omega)
      have f4 : inB op 17 21 = false := inB_f _ _ _ (by omega)
      have f5 : inB op 1 23 = true := inB_t _ _ _ (by omega) (by omega)
      have e1 : (op == 15) = false := beq_eq_false_iff_ne.2 (by omega)
      have e2 : (op == 16) = false := beq_eq_false_iff_ne.2 (by omega)
      have e3 : (op == 22) = false := beq_eq_false_iff_ne.2 (by omega)
      have e4 : (op == 23) = false := beq_eq_false_iff_ne.2 (by omega)
      have R : regB op = false := by unfold regB; rw [e1, e2]; rfl
      have hX : shX 3 op = ⟨false, false, true, 0, 0, 0, false⟩ := by unfold shX; rw [if_pos rfl, R, f1, f2, f4, e4]; rfl
      have hB : shB 3 op = true := by unfold shB; rw [if_pos rfl, f5]
      rw [stX_of (x := Ln.mk 3 s op src dst n l) hX hB]
      simp only [nmX, agW, if_true, Bool.false_eq_true, if_false, Bool.true_and]
      rw [n00, tm_00]
      show _ = lnV 3 s op (nonX src) (nonX dst) n l.length (nameB s) (l.all (okF 6 true)) (nmsX l) (insV op (nonX src) (nonX dst) (agX src) (agX dst) n l.length (l.all (okF 6 true)))
      unfold lnV insV
      simp only [f1, f2, f3, f4, f5, e1, e2, e3, e4, Bool.false_eq_true, if_false, if_true, Bool.or_false, Bool.false_or, Bool.true_or, Bool.or_true, beq_self_eq_true, Bool.not_true, Bool.not_false]
      generalize eqS s E0 = b0
      generalize (n == 0) = b1
      generalize (l.length == 0) = b2
      generalize nonX src = b3
      generalize agX dst = b4
      cases b0 <;> cases b1 <;> cases b2 <;> cases b3 <;> cases b4 <;> rfl
    by_cases h : op = 15
    · have f1 : inB op 1 6 = false := inB_f _ _ _ (by omega)
      have f2 : inB op 1 15 = true := inB_t _ _ _ (by omega) (by omega)
      have f3 : inB op 7 14 = false := inB_f _ _ _ (by omega)
      have f4 : inB op 17 21 = false := inB_f _ _ _ (by omega)
      have f5 : inB op 1 23 = true := inB_t _ _ _ (by omega) (by omega)
      have e1 : (op == 15) = true := by rw [h]; rfl
      have e2 : (op == 16) = false := beq_eq_false_iff_ne.2 (by omega)
      have e3 : (op == 22) = false := beq_eq_false_iff_ne.2 (by omega)
      have e4 : (op == 23) = false := beq_eq_false_iff_ne.2 (by omega)
      have R : regB op = true := by unfold regB; rw [e1, e2]; rfl
      have hX : shX 3 op = ⟨false, false, true, 7, 0, 0, false⟩ := by unfold shX; rw [if_pos rfl, R, f1, f2, f4, e4]; rfl
      have hB : shB 3 op = true := by unfold shB; rw [if_pos rfl, f5]
      rw [stX_of (x := Ln.mk 3 s op src dst n l) hX hB]
      simp only [nmX, agW, if_true, Bool.false_eq_true, if_false, Bool.true_and]
      rw [tm_00]
      show _ = lnV 3 s op (nonX src) (nonX dst) n l.length (nameB s) (l.all (okF 6 true)) (nmsX l) (insV op (nonX src) (nonX dst) (agX src) (agX dst) n l.length (l.all (okF 6 true)))
      unfold lnV insV
      simp only [f1, f2, f3, f4, f5, e1, e2, e3, e4, Bool.false_eq_true, if_false, if_true, Bool.or_false, Bool.false_or, Bool.true_or, Bool.or_true, beq_self_eq_true, Bool.not_true, Bool.not_false]
      generalize eqS s E0 = b0
      generalize inB n 0 7 = b1
      generalize (l.length == 0) = b2
      generalize nonX src = b3
      generalize agX dst = b4
      cases b0 <;> cases b1 <;> cases b2 <;> cases b3 <;> cases b4 <;> rfl
    by_cases h : op = 16
    · have f1 : inB op 1 6 = false := inB_f _ _ _ (by omega)
      have f2 : inB op 1 15 = false := inB_f _ _ _ (by omega)
      have f3 : inB op 7 14 = false := inB_f _ _ _ (by omega)
      have f4 : inB op 17 21 = false := inB_f _ _ _ (by omega)
      have f5 : inB op 1 23 = true := inB_t _ _ _ (by omega) (by omega)
      have e1 : (op == 15) = false := beq_eq_false_iff_ne.2 (by omega)
      have e2 : (op == 16) = true := by rw [h]; rfl
      have e3 : (op == 22) = false := beq_eq_false_iff_ne.2 (by omega)
      have e4 : (op == 23) = false := beq_eq_false_iff_ne.2 (by omega)
      have R : regB op = true := by unfold regB; rw [e1, e2]; rfl
      have hX : shX 3 op = ⟨false, false, false, 7, 0, 0, false⟩ := by unfold shX; rw [if_pos rfl, R, f1, f2, f4, e4]; rfl
      have hB : shB 3 op = true := by unfold shB; rw [if_pos rfl, f5]
      rw [stX_of (x := Ln.mk 3 s op src dst n l) hX hB]
      simp only [nmX, agW, if_true, Bool.false_eq_true, if_false, Bool.true_and]
      rw [tm_00]
      show _ = lnV 3 s op (nonX src) (nonX dst) n l.length (nameB s) (l.all (okF 6 true)) (nmsX l) (insV op (nonX src) (nonX dst) (agX src) (agX dst) n l.length (l.all (okF 6 true)))
      unfold lnV insV
      simp only [f1, f2, f3, f4, f5, e1, e2, e3, e4, Bool.false_eq_true, if_false, if_true, Bool.or_false, Bool.false_or, Bool.true_or, Bool.or_true, beq_self_eq_true, Bool.not_true, Bool.not_false]
      generalize eqS s E0 = b0
      generalize inB n 0 7 = b1
      generalize (l.length == 0) = b2
      generalize nonX src = b3
      generalize nonX dst = b4
      cases b0 <;> cases b1 <;> cases b2 <;> cases b3 <;> cases b4 <;> rfl
    by_cases h : 17 ≤ op ∧ op ≤ 21
    · have f1 : inB op 1 6 = false := inB_f _ _ _ (by omega)
      have f2 : inB op 1 15 = false := inB_f _ _ _ (by omega)
      have f3 : inB op 7 14 = false := inB_f _ _ _ (by omega)
      have f4 : inB op 17 21 = true := inB_t _ _ _ (by omega) (by omega)
      have f5 : inB op 1 23 = true := inB_t _ _ _ (by omega) (by omega)
      have e1 : (op == 15) = false := beq_eq_false_iff_ne.2 (by omega)
      have e2 : (op == 16) = false := beq_eq_false_iff_ne.2 (by omega)
      have e3 : (op == 22) = false := beq_eq_false_iff_ne.2 (by omega)
      have e4 : (op == 23) = false := beq_eq_false_iff_ne.2 (by omega)
      have R : regB op = false := by unfold regB; rw [e1, e2]; rfl
      have hX : shX 3 op = ⟨false, false, false, 0, 1, 1, false⟩ := by unfold shX; rw [if_pos rfl, R, f1, f2, f4, e4]; rfl
      have hB : shB 3 op = true := by unfold shB; rw [if_pos rfl, f5]
      rw [stX_of (x := Ln.mk 3 s op src dst n l) hX hB]
      simp only [nmX, agW, if_true, Bool.false_eq_true, if_false, Bool.true_and]
      rw [n00, tm_11]
      show _ = lnV 3 s op (nonX src) (nonX dst) n l.length (nameB s) (l.all (okF 6 true)) (nmsX l) (insV op (nonX src) (nonX dst) (agX src) (agX dst) n l.length (l.all (okF 6 true)))
      unfold lnV insV
      simp only [f1, f2, f3, f4, f5, e1, e2, e3, e4, Bool.false_eq_true, if_false, if_true, Bool.or_false, Bool.false_or, Bool.true_or, Bool.or_true, beq_self_eq_true, Bool.not_true, Bool.not_false]
      generalize eqS s E0 = b0
      generalize (n == 0) = b1
      generalize (l.length == 1) = b2
      generalize l.all (okF 6 true) = b3
      generalize nonX src = b4
      generalize nonX dst = b5
      cases b0 <;> cases b1 <;> cases b2 <;> cases b3 <;> cases b4 <;> cases b5 <;> rfl
    by_cases h : op = 22
    · have f1 : inB op 1 6 = false := inB_f _ _ _ (by omega)
      have f2 : inB op 1 15 = false := inB_f _ _ _ (by omega)
      have f3 : inB op 7 14 = false := inB_f _ _ _ (by omega)
      have f4 : inB op 17 21 = false := inB_f _ _ _ (by omega)
      have f5 : inB op 1 23 = true := inB_t _ _ _ (by omega) (by omega)
      have e1 : (op == 15) = false := beq_eq_false_iff_ne.2 (by omega)
      have e2 : (op == 16) = false := beq_eq_false_iff_ne.2 (by omega)
      have e3 : (op == 22) = true := by rw [h]; rfl
      have e4 : (op == 23) = false := beq_eq_false_iff_ne.2 (by omega)
      have R : regB op = false := by unfold regB; rw [e1, e2]; rfl
      have hX : shX 3 op = ⟨false, false, false, 0, 0, 0, false⟩ := by unfold shX; rw [if_pos rfl, R, f1, f2, f4, e4]; rfl
      have hB : shB 3 op = true := by unfold shB; rw [if_pos rfl, f5]
      rw [stX_of (x := Ln.mk 3 s op src dst n l) hX hB]
      simp only [nmX, agW, if_true, Bool.false_eq_true, if_false, Bool.true_and]
      rw [n00, tm_00]
      show _ = lnV 3 s op (nonX src) (nonX dst) n l.length (nameB s) (l.all (okF 6 true)) (nmsX l) (insV op (nonX src) (nonX dst) (agX src) (agX dst) n l.length (l.all (okF 6 true)))
      unfold lnV insV
      simp only [f1, f2, f3, f4, f5, e1, e2, e3, e4, Bool.false_eq_true, if_false, if_true, Bool.or_false, Bool.false_or, Bool.true_or, Bool.or_true, beq_self_eq_true, Bool.not_true, Bool.not_false]
      generalize eqS s E0 = b0
      generalize (n == 0) = b1
      generalize (l.length == 0) = b2
      generalize nonX src = b3
      generalize nonX dst = b4
      cases b0 <;> cases b1 <;> cases b2 <;> cases b3 <;> cases b4 <;> rfl
    by_cases h : op = 23
    · have f1 : inB op 1 6 = false := inB_f _ _ _ (by omega)
      have f2 : inB op 1 15 = false := inB_f _ _ _ (by omega)
      have f3 : inB op 7 14 = false := inB_f _ _ _ (by omega)
      have f4 : inB op 17 21 = false := inB_f _ _ _ (by omega)
      have f5 : inB op 1 23 = true := inB_t _ _ _ (by omega) (by omega)
      have e1 : (op == 15) = false := beq_eq_false_iff_ne.2 (by omega)
      have e2 : (op == 16) = false := beq_eq_false_iff_ne.2 (by omega)
      have e3 : (op == 22) = false := beq_eq_false_iff_ne.2 (by omega)
      have e4 : (op == 23) = true := by rw [h]; rfl
      have R : regB op = false := by unfold regB; rw [e1, e2]; rfl
      have hX : shX 3 op = ⟨false, false, false, 0, 1, 1, false⟩ := by unfold shX; rw [if_pos rfl, R, f1, f2, f4, e4]; rfl
      have hB : shB 3 op = true := by unfold shB; rw [if_pos rfl, f5]
      rw [stX_of (x := Ln.mk 3 s op src dst n l) hX hB]
      simp only [nmX, agW, if_true, Bool.false_eq_true, if_false, Bool.true_and]
      rw [n00, tm_11]
      show _ = lnV 3 s op (nonX src) (nonX dst) n l.length (nameB s) (l.all (okF 6 true)) (nmsX l) (insV op (nonX src) (nonX dst) (agX src) (agX dst) n l.length (l.all (okF 6 true)))
      unfold lnV insV
      simp only [f1, f2, f3, f4, f5, e1, e2, e3, e4, Bool.false_eq_true, if_false, if_true, Bool.or_false, Bool.false_or, Bool.true_or, Bool.or_true, beq_self_eq_true, Bool.not_true, Bool.not_false]
      generalize eqS s E0 = b0
      generalize (n == 0) = b1
      generalize (l.length == 1) = b2
      generalize l.all (okF 6 true) = b3
      generalize nonX src = b4
      generalize nonX dst = b5
      cases b0 <;> cases b1 <;> cases b2 <;> cases b3 <;> cases b4 <;> cases b5 <;> rfl
    have f1 : inB op 1 6 = false := inB_f _ _ _ (by omega)
    have f2 : inB op 1 15 = false := inB_f _ _ _ (by omega)
    have f3 : inB op 7 14 = false := inB_f _ _ _ (by omega)
    have f4 : inB op 17 21 = false := inB_f _ _ _ (by omega)
    have f5 : inB op 1 23 = false := inB_f _ _ _ (by omega)
    have e1 : (op == 15) = false := beq_eq_false_iff_ne.2 (by omega)
    have e2 : (op == 16) = false := beq_eq_false_iff_ne.2 (by omega)
    have e3 : (op == 22) = false := beq_eq_false_iff_ne.2 (by omega)
    have e4 : (op == 23) = false := beq_eq_false_iff_ne.2 (by omega)
    have hB : shB 3 op = false := by unfold shB; rw [if_pos rfl, f5]
    rw [stX_of (x := Ln.mk 3 s op src dst n l) rfl hB, Bool.false_and]
    show _ = lnV 3 s op (nonX src) (nonX dst) n l.length (nameB s) (l.all (okF 6 true)) (nmsX l) (insV op (nonX src) (nonX dst) (agX src) (agX dst) n l.length (l.all (okF 6 true)))
    unfold lnV insV
    simp only [f1, f2, f3, f4, f5, e1, e2, e3, e4, Bool.false_eq_true, if_false, if_true, Bool.or_false, beq_self_eq_true]
    generalize eqS s E0 = b0
    generalize nonX src = b1
    generalize nonX dst = b2
    cases b0 <;> cases b1 <;> cases b2 <;> rfl
  by_cases ho : op = 0
  · subst ho
    by_cases h0 : k = 0
    · subst h0
      have hX : shX 0 0 = ⟨false, false, false, 0, 0, 0, false⟩ := rfl
      have hB : shB 0 0 = true := rfl
      have g0 : ((0 : Int) == 0) = true := by decide
      have g1 : ((0 : Int) == 1) = false := by decide
      have g2 : ((0 : Int) == 2) = false := by decide
      have g3 : ((0 : Int) == 3) = false := by decide
      have g4 : ((0 : Int) == 4) = false := by decide
      have g5 : ((0 : Int) == 5) = false := by decide
      have g6 : ((0 : Int) == 6) = false := by decide
      have g7 : ((0 : Int) == 7) = false := by decide
      have g8 : ((0 : Int) == 8) = false := by decide
      rw [stX_of (x := Ln.mk 0 s 0 src dst n l) hX hB]
      simp only [nmX, agW, if_true, Bool.false_eq_true, if_false, Bool.true_and]
      rw [n00, tm_00]
      show _ = lnV 0 s 0 (nonX src) (nonX dst) n l.length (nameB s) (l.all (okF 6 true)) (nmsX l) (insV 0 (nonX src) (nonX dst) (agX src) (agX dst) n l.length (l.all (okF 6 true)))
      unfold lnV insV
      simp only [g0, g1, g2, g3, g4, g5, g6, g7, g8, Bool.false_eq_true, if_false, if_true, Bool.or_false, Bool.false_or, Bool.true_or, Bool.or_true, beq_self_eq_true, Bool.not_true, Bool.not_false]
      generalize eqS s E0 = b0
      generalize (n == 0) = b1
      generalize (l.length == 0) = b2
      generalize nonX src = b3
      generalize nonX dst = b4
      cases b0 <;> cases b1 <;> cases b2 <;> cases b3 <;> cases b4 <;> rfl
    by_cases h8 : k = 8
    · subst h8
      have hX : shX 8 0 = ⟨false, false, false, 0, 0, 0, false⟩ := rfl
      have hB : shB 8 0 = true := rfl
      have g0 : ((8 : Int) == 0) = false := by decide
      have g1 : ((8 : Int) == 1) = false := by decide
      have g2 : ((8 : Int) == 2) = false := by decide
      have g3 : ((8 : Int) == 3) = false := by decide
      have g4 : ((8 : Int) == 4) = false := by decide
      have g5 : ((8 : Int) == 5) = false := by decide
      have g6 : ((8 : Int) == 6) = false := by decide
      have g7 : ((8 : Int) == 7) = false := by decide
      have g8 : ((8 : Int) == 8) = true := by decide
      rw [stX_of (x := Ln.mk 8 s 0 src dst n l) hX hB]
      simp only [nmX, agW, if_true, Bool.false_eq_true, if_false, Bool.true_and]
      rw [n00, tm_00]
      show _ = lnV 8 s 0 (nonX src) (nonX dst) n l.length (nameB s) (l.all (okF 6 true)) (nmsX l) (insV 0 (nonX src) (nonX dst) (agX src) (agX dst) n l.length (l.all (okF 6 true)))
      unfold lnV insV
      simp only [g0, g1, g2, g3, g4, g5, g6, g7, g8, Bool.false_eq_true, if_false, if_true, Bool.or_false, Bool.false_or, Bool.true_or, Bool.or_true, beq_self_eq_true, Bool.not_true, Bool.not_false]
      generalize eqS s E0 = b0
      generalize (n == 0) = b1
      generalize (l.length == 0) = b2
      generalize nonX src = b3
      generalize nonX dst = b4
      cases b0 <;> cases b1 <;> cases b2 <;> cases b3 <;> cases b4 <;> rfl
    by_cases h1 : k = 1
    · subst h1
      have hX : shX 1 0 = ⟨true, false, false, 0, 0, 0, false⟩ := rfl
      have hB : shB 1 0 = true := rfl
      have g0 : ((1 : Int) == 0) = false := by decide
      have g1 : ((1 : Int) == 1) = true := by decide
      have g2 : ((1 : Int) == 2) = false := by decide
      have g3 : ((1 : Int) == 3) = false := by decide
      have g4 : ((1 : Int) == 4) = false := by decide
      have g5 : ((1 : Int) == 5) = false := by decide
      have g6 : ((1 : Int) == 6) = false := by decide
      have g7 : ((1 : Int) == 7) = false := by decide
      have g8 : ((1 : Int) == 8) = false := by decide
      rw [stX_of (x := Ln.mk 1 s 0 src dst n l) hX hB]
      simp only [nmX, agW, if_true, Bool.false_eq_true, if_false, Bool.true_and]
      rw [n00, tm_00]
      show _ = lnV 1 s 0 (nonX src) (nonX dst) n l.length (nameB s) (l.all (okF 6 true)) (nmsX l) (insV 0 (nonX src) (nonX dst) (agX src) (agX dst) n l.length (l.all (okF 6 true)))
      unfold lnV insV
      simp only [g0, g1, g2, g3, g4, g5, g6, g7, g8, Bool.false_eq_true, if_false, if_true, Bool.or_false, Bool.false_or, Bool.true_or, Bool.or_true, beq_self_eq_true, Bool.not_true, Bool.not_false]
      generalize nameB s = b0
      generalize (n == 0) = b1
      generalize (l.length == 0) = b2
      generalize nonX src = b3
      generalize nonX dst = b4
      cases b0 <;> cases b1 <;> cases b2 <;> cases b3 <;> cases b4 <;> rfl
    by_cases h2 : k = 2
    · subst h2
      have hX : shX 2 0 = ⟨true, false, false, 0, 1, 1, false⟩ := rfl
      have hB : shB 2 0 = true := rfl
      have g0 : ((2 : Int) == 0) = false := by decide
      have g1 : ((2 : Int) == 1) = false := by decide
      have g2 : ((2 : Int) == 2) = true := by decide
      have g3 : ((2 : Int) == 3) = false := by decide
      have g4 : ((2 : Int) == 4) = false := by decide
      have g5 : ((2 : Int) == 5) = false := by decide
      have g6 : ((2 : Int) == 6) = false := by decide
      have g7 : ((2 : Int) == 7) = false := by decide
      have g8 : ((2 : Int) == 8) = false := by decide
      rw [stX_of (x := Ln.mk 2 s 0 src dst n l) hX hB]
      simp only [nmX, agW, if_true, Bool.false_eq_true, if_false, Bool.true_and]
      rw [n00, tm_11]
      show _ = lnV 2 s 0 (nonX src) (nonX dst) n l.length (nameB s) (l.all (okF 6 true)) (nmsX l) (insV 0 (nonX src) (nonX dst) (agX src) (agX dst) n l.length (l.all (okF 6 true)))
      unfold lnV insV
      simp only [g0, g1, g2, g3, g4, g5, g6, g7, g8, Bool.false_eq_true, if_false, if_true, Bool.or_false, Bool.false_or, Bool.true_or, Bool.or_true, beq_self_eq_true, Bool.not_true, Bool.not_false]
      generalize nameB s = b0
      generalize (n == 0) = b1
      generalize (l.length == 1) = b2
      generalize l.all (okF 6 true) = b3
      generalize nonX src = b4
      generalize nonX dst = b5
      cases b0 <;> cases b1 <;> cases b2 <;> cases b3 <;> cases b4 <;> cases b5 <;> rfl
    by_cases h4 : k = 4
    · subst h4
      have hX : shX 4 0 = ⟨false, false, false, 0, 1, 6, false⟩ := rfl
      have hB : shB 4 0 = true := rfl
      have g0 : ((4 : Int) == 0) = false := by decide
      have g1 : ((4 : Int) == 1) = false := by decide
      have g2 : ((4 : Int) == 2) = false := by decide
      have g3 : ((4 : Int) == 3) = false := by decide
      have g4 : ((4 : Int) == 4) = true := by decide
      have g5 : ((4 : Int) == 5) = false := by decide
      have g6 : ((4 : Int) == 6) = false := by decide
      have g7 : ((4 : Int) == 7) = false := by decide
      have g8 : ((4 : Int) == 8) = false := by decide
      rw [stX_of (x := Ln.mk 4 s 0 src dst n l) hX hB]
      simp only [nmX, agW, if_true, Bool.false_eq_true, if_false, Bool.true_and]
      rw [n00, tm_16]
      show _ = lnV 4 s 0 (nonX src) (nonX dst) n l.length (nameB s) (l.all (okF 6 true)) (nmsX l) (insV 0 (nonX src) (nonX dst) (agX src) (agX dst) n l.length (l.all (okF 6 true)))
      unfold lnV insV
      simp only [g0, g1, g2, g3, g4, g5, g6, g7, g8, Bool.false_eq_true, if_false, if_true, Bool.or_false, Bool.false_or, Bool.true_or, Bool.or_true, beq_self_eq_true, Bool.not_true, Bool.not_false]
      generalize eqS s E0 = b0
      generalize (n == 0) = b1
      generalize inB l.length 1 6 = b2
      generalize l.all (okF 6 true) = b3
      generalize nonX src = b4
      generalize nonX dst = b5
      cases b0 <;> cases b1 <;> cases b2 <;> cases b3 <;> cases b4 <;> cases b5 <;> rfl
    by_cases h5 : k = 5
    · subst h5
      have hX : shX 5 0 = ⟨false, false, false, 0, 1, 1, false⟩ := rfl
      have hB : shB 5 0 = true := rfl
      have g0 : ((5 : Int) == 0) = false := by decide
      have g1 : ((5 : Int) == 1) = false := by decide
      have g2 : ((5 : Int) == 2) = false := by decide
      have g3 : ((5 : Int) == 3) = false := by decide
      have g4 : ((5 : Int) == 4) = false := by decide
      have g5 : ((5 : Int) == 5) = true := by decide
      have g6 : ((5 : Int) == 6) = false := by decide
      have g7 : ((5 : Int) == 7) = false := by decide
      have g8 : ((5 : Int) == 8) = false := by decide
      rw [stX_of (x := Ln.mk 5 s 0 src dst n l) hX hB]
      simp only [nmX, agW, if_true, Bool.false_eq_true, if_false, Bool.true_and]
      rw [n00, tm_11]
      show _ = lnV 5 s 0 (nonX src) (nonX dst) n l.length (nameB s) (l.all (okF 6 true)) (nmsX l) (insV 0 (nonX src) (nonX dst) (agX src) (agX dst) n l.length (l.all (okF 6 true)))
      unfold lnV insV
      simp only [g0, g1, g2, g3, g4, g5, g6, g7, g8, Bool.false_eq_true, if_false, if_true, Bool.or_false, Bool.false_or, Bool.true_or, Bool.or_true, beq_self_eq_true, Bool.not_true, Bool.not_false]
      generalize eqS s E0 = b0
      generalize (n == 0) = b1
      generalize (l.length == 1) = b2
      generalize l.all (okF 6 true) = b3
      generalize nonX src = b4
      generalize nonX dst = b5
      cases b0 <;> cases b1 <;> cases b2 <;> cases b3 <;> cases b4 <;> cases b5 <;> rfl
    by_cases h6 : k = 6
    · subst h6
      have hX : shX 6 0 = ⟨true, false, false, 1, 0, 0, false⟩ := rfl
      have hB : shB 6 0 = true := rfl
      have g0 : ((6 : Int) == 0) = false := by decide
      have g1 : ((6 : Int) == 1) = false := by decide
      have g2 : ((6 : Int) == 2) = false := by decide
      have g3 : ((6 : Int) == 3) = false := by decide
      have g4 : ((6 : Int) == 4) = false := by decide
      have g5 : ((6 : Int) == 5) = false := by decide
      have g6 : ((6 : Int) == 6) = true := by decide
      have g7 : ((6 : Int) == 7) = false := by decide
      have g8 : ((6 : Int) == 8) = false := by decide
      rw [stX_of (x := Ln.mk 6 s 0 src dst n l) hX hB]
      simp only [nmX, agW, if_true, Bool.false_eq_true, if_false, Bool.true_and]
      rw [tm_00]
      show _ = lnV 6 s 0 (nonX src) (nonX dst) n l.length (nameB s) (l.all (okF 6 true)) (nmsX l) (insV 0 (nonX src) (nonX dst) (agX src) (agX dst) n l.length (l.all (okF 6 true)))
      unfold lnV insV
      simp only [g0, g1, g2, g3, g4, g5, g6, g7, g8, Bool.false_eq_true, if_false, if_true, Bool.or_false, Bool.false_or, Bool.true_or, Bool.or_true, beq_self_eq_true, Bool.not_true, Bool.not_false]
      generalize nameB s = b0
      generalize inB n 0 1 = b1
      generalize (l.length == 0) = b2
      generalize nonX src = b3
      generalize nonX dst = b4
      cases b0 <;> cases b1 <;> cases b2 <;> cases b3 <;> cases b4 <;> rfl
    by_cases h7 : k = 7
    · subst h7
      have hX : shX 7 0 = ⟨false, false, false, 0, 1, 6, true⟩ := rfl
      have hB : shB 7 0 = true := rfl
      have g0 : ((7 : Int) == 0) = false := by decide
      have g1 : ((7 : Int) == 1) = false := by decide
      have g2 : ((7 : Int) == 2) = false := by decide
      have g3 : ((7 : Int) == 3) = false := by decide
      have g4 : ((7 : Int) == 4) = false := by decide
      have g5 : ((7 : Int) == 5) = false := by decide
      have g6 : ((7 : Int) == 6) = false := by decide
      have g7 : ((7 : Int) == 7) = true := by decide
      have g8 : ((7 : Int) == 8) = false := by decide
      rw [stX_of (x := Ln.mk 7 s 0 src dst n l) hX hB]
      simp only [nmX, agW, if_true, Bool.false_eq_true, if_false, Bool.true_and]
      rw [n00, tm_16n]
      show _ = lnV 7 s 0 (nonX src) (nonX dst) n l.length (nameB s) (l.all (okF 6 true)) (nmsX l) (insV 0 (nonX src) (nonX dst) (agX src) (agX dst) n l.length (l.all (okF 6 true)))
      unfold lnV insV
      simp only [g0, g1, g2, g3, g4, g5, g6, g7, g8, Bool.false_eq_true, if_false, if_true, Bool.or_false, Bool.false_or, Bool.true_or, Bool.or_true, beq_self_eq_true, Bool.not_true, Bool.not_false]
      generalize eqS s E0 = b0
      generalize (n == 0) = b1
      generalize nmsX l = b2
      generalize nonX src = b3
      generalize nonX dst = b4
      cases b0 <;> cases b1 <;> cases b2 <;> cases b3 <;> cases b4 <;> rfl
    have hB : shB k 0 = false := by unfold shB; rw [if_neg hk, if_pos rfl]; exact inB_f _ _ _ (by omega)
    have g0 : (k == 0) = false := beq_eq_false_iff_ne.2 h0
    have g1 : (k == 1) = false := beq_eq_false_iff_ne.2 h1
    have g2 : (k == 2) = false := beq_eq_false_iff_ne.2 h2
    have g3 : (k == 3) = false := beq_eq_false_iff_ne.2 hk
    have g4 : (k == 4) = false := beq_eq_false_iff_ne.2 h4
    have g5 : (k == 5) = false := beq_eq_false_iff_ne.2 h5
    have g6 : (k == 6) = false := beq_eq_false_iff_ne.2 h6
    have g7 : (k == 7) = false := beq_eq_false_iff_ne.2 h7
    have g8 : (k == 8) = false := beq_eq_false_iff_ne.2 h8
    rw [stX_of (x := Ln.mk k s 0 src dst n l) rfl hB, Bool.false_and]
    show _ = lnV k s 0 (nonX src) (nonX dst) n l.length (nameB s) (l.all (okF 6 true)) (nmsX l) (insX ⟨k, s, 0, src, dst, n, l⟩)
    unfold lnV
    simp only [g0, g1, g2, g3, g4, g5, g6, g7, g8, Bool.false_eq_true, if_false, Bool.or_false]
    generalize nonX src = b1
    generalize nonX dst = b2
    cases b1 <;> cases b2 <;> rfl
  have hB : shB k op = false := by unfold shB; rw [if_neg hk, if_neg ho]
  have g3 : (k == 3) = false := beq_eq_false_iff_ne.2 hk
  have g0 : (op == 0) = false := beq_eq_false_iff_ne.2 ho
  rw [stX_of (x := Ln.mk k s op src dst n l) rfl hB, Bool.false_and]
  show _ = lnV k s op (nonX src) (nonX dst) n l.length (nameB s) (l.all (okF 6 true)) (nmsX l) (insX ⟨k, s, op, src, dst, n, l⟩)
  unfold lnV
  simp only [g0, g3, Bool.false_eq_true, if_false, Bool.not_false, Bool.true_or, if_true]
end Go.Proofs.YtmhcbehplhfgfaaGreatDoor

namespace Go.Proofs.YtmhcbehplhfgfaaGreatDoor
open Go.ChangeShapes Go.WideShapes Go.ChangeAt Go.RowKit
set_option linter.unusedVariables false
set_option maxRecDepth 8000
set_option linter.unusedSimpArgs false
theorem szMt : (Tryz.prog.info? 52).map (·.size) = some 6 := by kernel_rfl
theorem mt_one (k : Int) (s : ByteArray) (op n : Int) (a : Option Addr) (i j : Nat) (b : Option Addr) (u v : Nat) : (#[.int .i64 k, .string s, .int .i64 op, .int .i64 n, .slice a i j, .slice b u v] : Array Value).all (·.oneCell') = true := by simp [Value.oneCell']
theorem OwnA.slice {w : World} {B : Nat} {v : Value} {l : List Op3} (h : OwnA w B v l) : ∃ a c, v = .slice a l.length c := by
  obtain ⟨_, ⟨h1, h2⟩ | ⟨g, cap, cur, rfl, hg, hh, hn, hm, r⟩⟩ := h
  · exact ⟨none, 0, by rw [h1, h2]⟩
  · exact ⟨_, _, rfl⟩
theorem OwnV.slice {w : World} {B : Nat} {v : Value} {l : List Value} (h : OwnV w B v l) : ∃ a c, v = .slice a l.length c := by
  obtain ⟨_, ⟨h1, h2⟩ | ⟨g, cap, cur, rfl, hg, hh, hn, hm, r⟩⟩ := h
  · exact ⟨none, 0, by rw [h1, h2]⟩
  · exact ⟨_, _, rfl⟩
theorem ownA_row {w : World} {B g : Nat} {v : Value} {l : List Op3} {cs old : Array Value} {ty : TypeId} (h : OwnA w B v l) (hg : w.heap[g]? = some (.cells old ty (0, 0))) (hne : ty ≠ 87) : OwnA (w.setRow g cs) B v l := by
  obtain ⟨h1, h2 | ⟨g', cap, cur, e, hg', hh, r⟩⟩ := h
  · exact ⟨h1, .inl h2⟩
  · refine ⟨h1, .inr ⟨g', cap, cur, e, hg', (setRow_other _ _ _ _ ?_).trans hh, r⟩⟩
    intro hq
    rw [hq, hg] at hh
    injection hh with hh
    injection hh with _ hh
    exact hne hh
theorem ownV_row {w : World} {B g : Nat} {v : Value} {l : List Value} {cs old : Array Value} {ty : TypeId} (h : OwnV w B v l) (hg : w.heap[g]? = some (.cells old ty (0, 0))) (hne : ty ≠ 85) : OwnV (w.setRow g cs) B v l := by
  obtain ⟨h1, h2 | ⟨g', cap, cur, e, hg', hh, r⟩⟩ := h
  · exact ⟨h1, .inl h2⟩
  · refine ⟨h1, .inr ⟨g', cap, cur, e, hg', (setRow_other _ _ _ _ ?_).trans hh, r⟩⟩
    intro hq
    rw [hq, hg] at hh
    injection hh with hh
    injection hh with _ hh
    exact hne hh
/-- A statement of the program. -/
structure Mt where
  k : Int
  s : ByteArray
  op : Int
  n : Int
  a : Option Addr
  an : Nat
  ac : Nat
  t : Option Addr
  tn : Nat
  tc : Nat
def Mt.cs (m : Mt) : Array Value := #[.int .i64 m.k, .string m.s, .int .i64 m.op, .int .i64 m.n, .slice m.a m.an m.ac, .slice m.t m.tn m.tc]
/-- The operands that a line has, as the program holds them. -/
def lnO (x : Ln) : List Op3 := opsL (shX x.k x.op).src x.src ++ opsL (shX x.k x.op).dst x.dst
/-- A statement that holds what a line tells. -/
structure RdM (w : World) (B : Nat) (x : Ln) (m : Mt) : Prop where
  k : m.k = x.k
  s : m.s = x.s
  op : m.op = x.op
  n : m.n = x.n
  a : OwnA w B (.slice m.a m.an m.ac) (lnO x)
  t : OwnV w B (.slice m.t m.tn m.tc) (x.l.map tv)
/-- What statementOf answers. -/
def StR (x : Ln) (w : World) (r : Ending) (w' : World) : Prop := ∃ m : Mt, r = .returned (.tuple #[.agg m.cs, .bool (lnX x)]) ∧ (lnX x = true → RdM w' w.heap.size x m) ∧ Below w.heap.size w w'
set_option maxHeartbeats 8000000 in
theorem stmI_any (x : Ln) (p : La) (w : World) (hr : RdL w x p) (hz : SzL x) (ht : TabA w) : Calls Tryz.prog 16 #[.agg (x.cs p)] w (StR x w) := by
  have F0 := hide (fun (r : Ending) (w' : World) (h : stX x = false) (hr : r = .returned (.tuple #[.agg #[.int .i64 0, .string ⟨#[]⟩, .int .i64 0, .int .i64 0, .slice none 0 0, .slice none 0 0], .bool false])) (hb : Below w.heap.size w w') => (show StR x w r w' from ⟨⟨0, ⟨#[]⟩, 0, 0, none, 0, 0, none, 0, 0⟩, by rw [← st_eq, h]; exact hr, (fun e => by rw [← st_eq, h] at e; cases e), hb⟩))
  have F1 := hide (fun (r : Ending) (w' : World) (e1 : Option Addr) (i1 j1 : Nat) (e2 : Option Addr) (i2 j2 : Nat) (h : stX x = true) (hr : r = .returned (.tuple #[.agg #[.int .i64 x.k, .string x.s, .int .i64 x.op, .int .i64 x.n, .slice e1 i1 j1, .slice e2 i2 j2], .bool true])) (ho : OwnA w' w.heap.size (.slice e1 i1 j1) (lnO x)) (hv : OwnV w' w.heap.size (.slice e2 i2 j2) (x.l.map tv)) (hb : Below w.heap.size w w') => (show StR x w r w' from ⟨⟨x.k, x.s, x.op, x.n, e1, i1, j1, e2, i2, j2⟩, by rw [← st_eq, h]; exact hr, fun _ => ⟨rfl, rfl, rfl, rfl, ho, hv⟩, hb⟩))
  have SH := hide (fun w1 => shpI_any x.k x.op w1)
  have NM := hide (fun w1 (h : Below w.heap.size w w1) => nmfI_any (shX x.k x.op) x.s w1 (by have := hz.s; omega) (ht.next h).k)
  have NB := hide (fun w1 => nbfI_any (shX x.k x.op) x.n w1)
  have OP := hide (fun w1 (h : Below w.heap.size w w1) => opsI_any (shX x.k x.op) x.src x.dst p.b1 p.c1 p.b2 p.c2 w1 (hr.later h).a hz.a (hr.later h).b hz.b (ht.next h))
  have TM := hide (fun w1 (h : Below w.heap.size w w1) => ptmI_any (shX x.k x.op) x.l p.b3 x.l.length p.c3 w1 rfl hz.l hz.p (hr.later h).l (ht.next h).k)
  clear hr hz ht
  obtain ⟨b1, c1, b2, c2, b3, c3⟩ := p
  unfold stX at F0 F1
  unfold lnO at F1
  unfold OpsR at OP
  unfold TmsR at TM
  generalize StR x w = R at *
  generalize shB x.k x.op = q1 at *
  generalize shX x.k x.op = SS at *
  obtain ⟨a1, a2, a3, a4, a5, a6, a7⟩ := SS
  unfold Sh.cs at SH NM NB OP TM
  simp only at SH NM NB OP TM F0 F1
  generalize nmX a1 x.s = q2 at *
  generalize inB x.n 0 a4 = q3 at *
  generalize (agW a2 x.src && agW a3 x.dst) = q4 at *
  generalize tmX ⟨a1, a2, a3, a4, a5, a6, a7⟩ x.l = q5 at *
  generalize opsL a2 x.src ++ opsL a3 x.dst = LO at *
  generalize x.l.map tv = LV at *
  unfold Ag.cs at OP
  unfold Ln.cs
  simp only at OP TM ⊢
  generalize x.src.f = sf at *
  generalize x.src.r = sr at *
  generalize x.src.e.k = sk at *
  generalize x.src.e.n = sn at *
  generalize x.src.e.s = ss at *
  generalize x.src.e.l.length = sl at *
  generalize x.dst.f = df at *
  generalize x.dst.r = dr at *
  generalize x.dst.e.k = dk at *
  generalize x.dst.e.n = dn at *
  generalize x.dst.e.s = ds at *
  generalize x.dst.e.l.length = dl at *
  generalize x.k = k at *
  generalize x.s = s at *
  generalize x.op = op at *
  generalize x.n = n at *
  generalize x.l.length = ll at *
  obtain ⟨V, hV⟩ : ∃ V, w.alloc (.cells #[.int .i64 k, .string s, .int .i64 op, .int .i64 sf, .int .i64 sr, .int .i64 sk, .int .i64 sn, .string ss, .slice b1 sl c1, .int .i64 df, .int .i64 dr, .int .i64 dk, .int .i64 dn, .string ds, .slice b2 dl c2, .int .i64 n, .slice b3 ll c3] 37) = V := ⟨_, rfl⟩
  have bV : Below w.heap.size w V := by rw [← hV]; exact below_new _ _
  have rX : V.heap[w.heap.size]? = some (.cells #[.int .i64 k, .string s, .int .i64 op, .int .i64 sf, .int .i64 sr, .int .i64 sk, .int .i64 sn, .string ss, .slice b1 sl c1, .int .i64 df, .int .i64 dr, .int .i64 dk, .int .i64 dn, .string ds, .slice b2 dl c2, .int .i64 n, .slice b3 ll c3] 37 (0, 0)) := by rw [← hV]; exact Array.getElem?_push_size
  have VL := hide bV.size
  obtain ⟨W, hW⟩ : ∃ W, V.alloc (.cells #[.int .i64 0, .string ⟨#[]⟩, .int .i64 0, .int .i64 0, .slice none 0 0, .slice none 0 0] 52) = W := ⟨_, rfl⟩
  have bW : Below V.heap.size V W := by rw [← hW]; exact below_new _ _
  have rZ : W.heap[V.heap.size]? = some (.cells #[.int .i64 0, .string ⟨#[]⟩, .int .i64 0, .int .i64 0, .slice none 0 0, .slice none 0 0] 52 (0, 0)) := by rw [← hW]; exact Array.getElem?_push_size
  have rX := row_keep rX bW
  have hbW : Below w.heap.size w W := bV.trans (bW.mono bV.size)
  have x0 := Lib.cell_of_heap rX 0
  have x2 := Lib.cell_of_heap rX 2
  have RX := hide rX
  have RZ := hide rZ
  have BW := hide hbW
  have S1 := hide (unhide SH W)
  clear bV bW rX rZ hbW SH
  go_enter Tryz.func16, Tryz.ntmps16
  go_wp2_with fail
  refine (unhide S1).mono ?_
  rintro r w1 ⟨rfl, hb⟩
  obtain ⟨U, hU⟩ : ∃ U, w1.alloc (.cells #[.bool a1, .bool a2, .bool a3, .int .i64 a4, .int .i64 a5, .int .i64 a6, .bool a7] 73) = U := ⟨_, rfl⟩
  have bU : Below w1.heap.size w1 U := by rw [← hU]; exact below_new _ _
  have rS : U.heap[w1.heap.size]? = some (.cells #[.bool a1, .bool a2, .bool a3, .int .i64 a4, .int .i64 a5, .int .i64 a6, .bool a7] 73 (0, 0)) := by rw [← hU]; exact Array.getElem?_push_size
  have rX := row_keep (row_keep (unhide RX) hb) bU
  have rZ := row_keep (row_keep (unhide RZ) hb) bU
  have hbU : Below w.heap.size w U := ((unhide BW).trans (hb.mono (unhide BW).size)).trans (bU.mono (Nat.le_trans (unhide BW).size hb.size))
  have lX := (Array.getElem?_eq_some_iff.1 rX).1
  have lZ := (Array.getElem?_eq_some_iff.1 rZ).1
  have lS := (Array.getElem?_eq_some_iff.1 rS).1
  have BY := hide (fun y : Sub U.heap.size U => hbU.trans (y.h.mono hbU.size))
  have RY := hide (fun y : Sub U.heap.size U => (y.h.block _ lZ).trans rZ)
  have SY := hide (fun y : Sub U.heap.size U => (y.h.block _ lS).trans rS)
  have ne := Sub.ne U.heap.size U
  have HZ := hide (Nat.le_refl U.heap.size)
  have NV := hide (show V.heap.size ≠ w1.heap.size by have := (Array.getElem?_eq_some_iff.1 (row_keep (unhide RZ) hb)).1; omega)
  have E0 : ∀ y : Sub U.heap.size U, y.w.cell? ⟨w.heap.size, 0, none⟩ = some (.int .i64 k) := fun y => (y.h.cell (p := ⟨w.heap.size, 0, none⟩) lX).trans (Lib.cell_of_heap rX 0)
  have E1 : ∀ y : Sub U.heap.size U, y.w.cell? ⟨w.heap.size, 1, none⟩ = some (.string s) := fun y => (y.h.cell (p := ⟨w.heap.size, 1, none⟩) lX).trans (Lib.cell_of_heap rX 1)
  have E2 : ∀ y : Sub U.heap.size U, y.w.cell? ⟨w.heap.size, 2, none⟩ = some (.int .i64 op) := fun y => (y.h.cell (p := ⟨w.heap.size, 2, none⟩) lX).trans (Lib.cell_of_heap rX 2)
  have E3 : ∀ y : Sub U.heap.size U, y.w.cell? ⟨w.heap.size, 3, none⟩ = some (.int .i64 sf) := fun y => (y.h.cell (p := ⟨w.heap.size, 3, none⟩) lX).trans (Lib.cell_of_heap rX 3)
  have E4 : ∀ y : Sub U.heap.size U, y.w.cell? ⟨w.heap.size, 4, none⟩ = some (.int .i64 sr) := fun y => (y.h.cell (p := ⟨w.heap.size, 4, none⟩) lX).trans (Lib.cell_of_heap rX 4)
  have E5 : ∀ y : Sub U.heap.size U, y.w.cell? ⟨w.heap.size, 5, none⟩ = some (.int .i64 sk) := fun y => (y.h.cell (p := ⟨w.heap.size, 5, none⟩) lX).trans (Lib.cell_of_heap rX 5)
  have E6 : ∀ y : Sub U.heap.size U, y.w.cell? ⟨w.heap.size, 6, none⟩ = some (.int .i64 sn) := fun y => (y.h.cell (p := ⟨w.heap.size, 6, none⟩) lX).trans (Lib.cell_of_heap rX 6)
  have E7 : ∀ y : Sub U.heap.size U, y.w.cell? ⟨w.heap.size, 7, none⟩ = some (.string ss) := fun y => (y.h.cell (p := ⟨w.heap.size, 7, none⟩) lX).trans (Lib.cell_of_heap rX 7)
  have E8 : ∀ y : Sub U.heap.size U, y.w.cell? ⟨w.heap.size, 8, none⟩ = some (.slice b1 sl c1) := fun y => (y.h.cell (p := ⟨w.heap.size, 8, none⟩) lX).trans (Lib.cell_of_heap rX 8)
  have E9 : ∀ y : Sub U.heap.size U, y.w.cell? ⟨w.heap.size, 9, none⟩ = some (.int .i64 df) := fun y => (y.h.cell (p := ⟨w.heap.size, 9, none⟩) lX).trans (Lib.cell_of_heap rX 9)
  have E10 : ∀ y : Sub U.heap.size U, y.w.cell? ⟨w.heap.size, 10, none⟩ = some (.int .i64 dr) := fun y => (y.h.cell (p := ⟨w.heap.size, 10, none⟩) lX).trans (Lib.cell_of_heap rX 10)
  have E11 : ∀ y : Sub U.heap.size U, y.w.cell? ⟨w.heap.size, 11, none⟩ = some (.int .i64 dk) := fun y => (y.h.cell (p := ⟨w.heap.size, 11, none⟩) lX).trans (Lib.cell_of_heap rX 11)
  have E12 : ∀ y : Sub U.heap.size U, y.w.cell? ⟨w.heap.size, 12, none⟩ = some (.int .i64 dn) := fun y => (y.h.cell (p := ⟨w.heap.size, 12, none⟩) lX).trans (Lib.cell_of_heap rX 12)
  have E13 : ∀ y : Sub U.heap.size U, y.w.cell? ⟨w.heap.size, 13, none⟩ = some (.string ds) := fun y => (y.h.cell (p := ⟨w.heap.size, 13, none⟩) lX).trans (Lib.cell_of_heap rX 13)
  have E14 : ∀ y : Sub U.heap.size U, y.w.cell? ⟨w.heap.size, 14, none⟩ = some (.slice b2 dl c2) := fun y => (y.h.cell (p := ⟨w.heap.size, 14, none⟩) lX).trans (Lib.cell_of_heap rX 14)
  have E15 : ∀ y : Sub U.heap.size U, y.w.cell? ⟨w.heap.size, 15, none⟩ = some (.int .i64 n) := fun y => (y.h.cell (p := ⟨w.heap.size, 15, none⟩) lX).trans (Lib.cell_of_heap rX 15)
  have E16 : ∀ y : Sub U.heap.size U, y.w.cell? ⟨w.heap.size, 16, none⟩ = some (.slice b3 ll c3) := fun y => (y.h.cell (p := ⟨w.heap.size, 16, none⟩) lX).trans (Lib.cell_of_heap rX 16)
  have G0 : ∀ y : Sub U.heap.size U, y.w.cell? ⟨w1.heap.size, 0, none⟩ = some (.bool a1) := fun y => (y.h.cell (p := ⟨w1.heap.size, 0, none⟩) lS).trans (Lib.cell_of_heap rS 0)
  have G1 : ∀ y : Sub U.heap.size U, y.w.cell? ⟨w1.heap.size, 1, none⟩ = some (.bool a2) := fun y => (y.h.cell (p := ⟨w1.heap.size, 1, none⟩) lS).trans (Lib.cell_of_heap rS 1)
  have G2 : ∀ y : Sub U.heap.size U, y.w.cell? ⟨w1.heap.size, 2, none⟩ = some (.bool a3) := fun y => (y.h.cell (p := ⟨w1.heap.size, 2, none⟩) lS).trans (Lib.cell_of_heap rS 2)
  have G3 : ∀ y : Sub U.heap.size U, y.w.cell? ⟨w1.heap.size, 3, none⟩ = some (.int .i64 a4) := fun y => (y.h.cell (p := ⟨w1.heap.size, 3, none⟩) lS).trans (Lib.cell_of_heap rS 3)
  have G4 : ∀ y : Sub U.heap.size U, y.w.cell? ⟨w1.heap.size, 4, none⟩ = some (.int .i64 a5) := fun y => (y.h.cell (p := ⟨w1.heap.size, 4, none⟩) lS).trans (Lib.cell_of_heap rS 4)
  have G5 : ∀ y : Sub U.heap.size U, y.w.cell? ⟨w1.heap.size, 5, none⟩ = some (.int .i64 a6) := fun y => (y.h.cell (p := ⟨w1.heap.size, 5, none⟩) lS).trans (Lib.cell_of_heap rS 5)
  have G6 : ∀ y : Sub U.heap.size U, y.w.cell? ⟨w1.heap.size, 6, none⟩ = some (.bool a7) := fun y => (y.h.cell (p := ⟨w1.heap.size, 6, none⟩) lS).trans (Lib.cell_of_heap rS 6)
  have NY := hide (fun y : Sub U.heap.size U => unhide NM y.w (unhide BY y))
  have MY := hide (fun y : Sub U.heap.size U => unhide NB y.w)
  have OY := hide (fun y : Sub U.heap.size U => unhide OP y.w (unhide BY y))
  have TY := hide (fun y : Sub U.heap.size U => unhide TM y.w (unhide BY y))
  obtain ⟨y0, hy0⟩ : ∃ z : Sub U.heap.size U, U = z.w := ⟨⟨U, Below.refl _ _⟩, rfl⟩
  rw [hy0] at hU
  clear bU rS rX rZ hbU lX lZ lS hb S1 NM NB OP TM RX RZ BW x0 x2 hy0
  cases q1 with
  | false =>
    clear OY TY
    have FF := hide (fun r w' => unhide F0 r w' (by simp))
    clear F0 F1
    go_wp2_with (first | (refine wpList_load_row rfl 73 _ rfl w1.heap.size rfl 73 #[.bool a1, .bool a2, .bool a3, .int .i64 a4, .int .i64 a5, .int .i64 a6, .bool a7] (0, 0) _ (unhide SY _) Tryz.underlying73 rfl (by kernel_rfl) ?_) | (go_at_call 37; refine (Sub.call (unhide HZ) (unhide NY _)).mono ?_; rintro r _ ⟨rfl, z1, rfl⟩) | (go_at_call 38; refine (Sub.call (unhide HZ) (unhide MY _)).mono ?_; rintro r _ ⟨rfl, z2, rfl⟩) | (refine wpList_store_row rfl 52 _ _ rfl V.heap.size #[.int .i64 0, .string ⟨#[]⟩, .int .i64 0, .int .i64 0, .slice none 0 0, .slice none 0 0] rfl rfl 52 _ (unhide RY _) szMt rfl (mt_one _ _ _ _ _ _ _ _ _ _) ?_))
    refine bodyPost_ret (results_row2 (P := Tryz.prog) rfl _ _ V.heap.size 52 #[.int .i64 0, .string ⟨#[]⟩, .int .i64 0, .int .i64 0, .slice none 0 0, .slice none 0 0] (0, 0) _ rfl (setRow_heap _ _ _ _ _ _ (unhide RY _)) Tryz.underlying52 rfl szMt) rfl ?_
    exact unhide FF _ _ rfl (below_rowG (unhide BY _) (unhide VL))
  | true =>
    cases q2 with
    | false =>
      clear OY TY
      have FF := hide (fun r w' => unhide F0 r w' (by simp))
      clear F0 F1
      go_wp2_with (first | (refine wpList_load_row rfl 73 _ rfl w1.heap.size rfl 73 #[.bool a1, .bool a2, .bool a3, .int .i64 a4, .int .i64 a5, .int .i64 a6, .bool a7] (0, 0) _ (unhide SY _) Tryz.underlying73 rfl (by kernel_rfl) ?_) | (go_at_call 37; refine (Sub.call (unhide HZ) (unhide NY _)).mono ?_; rintro r _ ⟨rfl, z1, rfl⟩) | (go_at_call 38; refine (Sub.call (unhide HZ) (unhide MY _)).mono ?_; rintro r _ ⟨rfl, z2, rfl⟩) | (refine wpList_store_row rfl 52 _ _ rfl V.heap.size #[.int .i64 0, .string ⟨#[]⟩, .int .i64 0, .int .i64 0, .slice none 0 0, .slice none 0 0] rfl rfl 52 _ (unhide RY _) szMt rfl (mt_one _ _ _ _ _ _ _ _ _ _) ?_))
      refine bodyPost_ret (results_row2 (P := Tryz.prog) rfl _ _ V.heap.size 52 #[.int .i64 0, .string ⟨#[]⟩, .int .i64 0, .int .i64 0, .slice none 0 0, .slice none 0 0] (0, 0) _ rfl (setRow_heap _ _ _ _ _ _ (unhide RY _)) Tryz.underlying52 rfl szMt) rfl ?_
      exact unhide FF _ _ rfl (below_rowG (unhide BY _) (unhide VL))
    | true =>
      cases q3 with
      | false =>
        clear OY TY
        have FF := hide (fun r w' => unhide F0 r w' (by simp))
        clear F0 F1
        go_wp2_with (first | (refine wpList_load_row rfl 73 _ rfl w1.heap.size rfl 73 #[.bool a1, .bool a2, .bool a3, .int .i64 a4, .int .i64 a5, .int .i64 a6, .bool a7] (0, 0) _ (unhide SY _) Tryz.underlying73 rfl (by kernel_rfl) ?_) | (go_at_call 37; refine (Sub.call (unhide HZ) (unhide NY _)).mono ?_; rintro r _ ⟨rfl, z1, rfl⟩) | (go_at_call 38; refine (Sub.call (unhide HZ) (unhide MY _)).mono ?_; rintro r _ ⟨rfl, z2, rfl⟩) | (refine wpList_store_row rfl 52 _ _ rfl V.heap.size #[.int .i64 0, .string ⟨#[]⟩, .int .i64 0, .int .i64 0, .slice none 0 0, .slice none 0 0] rfl rfl 52 _ (unhide RY _) szMt rfl (mt_one _ _ _ _ _ _ _ _ _ _) ?_))
        refine bodyPost_ret (results_row2 (P := Tryz.prog) rfl _ _ V.heap.size 52 #[.int .i64 0, .string ⟨#[]⟩, .int .i64 0, .int .i64 0, .slice none 0 0, .slice none 0 0] (0, 0) _ rfl (setRow_heap _ _ _ _ _ _ (unhide RY _)) Tryz.underlying52 rfl szMt) rfl ?_
        exact unhide FF _ _ rfl (below_rowG (unhide BY _) (unhide VL))
      | true =>
        go_wp2_with (first | (refine wpList_load_row rfl 73 _ rfl w1.heap.size rfl 73 #[.bool a1, .bool a2, .bool a3, .int .i64 a4, .int .i64 a5, .int .i64 a6, .bool a7] (0, 0) _ (unhide SY _) Tryz.underlying73 rfl (by kernel_rfl) ?_) | (go_at_call 37; refine (Sub.call (unhide HZ) (unhide NY _)).mono ?_; rintro r _ ⟨rfl, z1, rfl⟩) | (go_at_call 38; refine (Sub.call (unhide HZ) (unhide MY _)).mono ?_; rintro r _ ⟨rfl, z2, rfl⟩))
        refine (unhide OY _).mono ?_
        rintro r w2 ⟨v1, rfl, hO, hb⟩
        have OO := hide hO
        have LB := hide (unhide BY z2).size
        obtain ⟨z3, rfl⟩ := Sub.step (unhide HZ) hb
        clear hO hb OY
        cases q4 with
        | false =>
          clear TY
          have FF := hide (fun r w' => unhide F0 r w' (by simp))
          clear F0 F1
          go_wp2_with (first | (refine wpList_load_row rfl 73 _ rfl w1.heap.size rfl 73 #[.bool a1, .bool a2, .bool a3, .int .i64 a4, .int .i64 a5, .int .i64 a6, .bool a7] (0, 0) _ (unhide SY _) Tryz.underlying73 rfl (by kernel_rfl) ?_) | (refine wpList_store_row rfl 52 _ _ rfl V.heap.size #[.int .i64 0, .string ⟨#[]⟩, .int .i64 0, .int .i64 0, .slice none 0 0, .slice none 0 0] rfl rfl 52 _ (unhide RY _) szMt rfl (mt_one _ _ _ _ _ _ _ _ _ _) ?_))
          refine bodyPost_ret (results_row2 (P := Tryz.prog) rfl _ _ V.heap.size 52 #[.int .i64 0, .string ⟨#[]⟩, .int .i64 0, .int .i64 0, .slice none 0 0, .slice none 0 0] (0, 0) _ rfl (setRow_heap _ _ _ _ _ _ (unhide RY _)) Tryz.underlying52 rfl szMt) rfl ?_
          exact unhide FF _ _ rfl (below_rowG (unhide BY _) (unhide VL))
        | true =>
          obtain ⟨e1, j1, hv⟩ := (unhide OO rfl).slice
          subst hv
          have O3 := hide ((unhide OO rfl).base (unhide LB))
          clear OO LB
          generalize LO.length = i1 at *
          go_wp2_with (first | (refine wpList_load_row rfl 73 _ rfl w1.heap.size rfl 73 #[.bool a1, .bool a2, .bool a3, .int .i64 a4, .int .i64 a5, .int .i64 a6, .bool a7] (0, 0) _ (unhide SY _) Tryz.underlying73 rfl (by kernel_rfl) ?_))
          refine (unhide TY _).mono ?_
          rintro r w2 ⟨v2, rfl, hO, hb⟩
          have OO := hide hO
          have LB := hide (unhide BY z3).size
          have O4 := hide ((unhide O3).later hb)
          obtain ⟨z4, rfl⟩ := Sub.step (unhide HZ) hb
          clear hO hb TY O3
          cases q5 with
          | false =>
            have FF := hide (fun r w' => unhide F0 r w' (by simp))
            clear F0 F1
            go_wp2_with (first | (refine wpList_load_row rfl 73 _ rfl w1.heap.size rfl 73 #[.bool a1, .bool a2, .bool a3, .int .i64 a4, .int .i64 a5, .int .i64 a6, .bool a7] (0, 0) _ (unhide SY _) Tryz.underlying73 rfl (by kernel_rfl) ?_) | (refine wpList_store_row rfl 52 _ _ rfl V.heap.size #[.int .i64 0, .string ⟨#[]⟩, .int .i64 0, .int .i64 0, .slice none 0 0, .slice none 0 0] rfl rfl 52 _ (unhide RY _) szMt rfl (mt_one _ _ _ _ _ _ _ _ _ _) ?_))
            refine bodyPost_ret (results_row2 (P := Tryz.prog) rfl _ _ V.heap.size 52 #[.int .i64 0, .string ⟨#[]⟩, .int .i64 0, .int .i64 0, .slice none 0 0, .slice none 0 0] (0, 0) _ rfl (setRow_heap _ _ _ _ _ _ (unhide RY _)) Tryz.underlying52 rfl szMt) rfl ?_
            exact unhide FF _ _ rfl (below_rowG (unhide BY _) (unhide VL))
          | true =>
            obtain ⟨e2, j2, hv⟩ := (unhide OO rfl).slice
            subst hv
            have V4 := hide ((unhide OO rfl).base (unhide LB))
            clear OO LB
            generalize LV.length = i2 at *
            have FF := hide (fun r w' hr ho hv hb => unhide F1 r w' e1 i1 j1 e2 i2 j2 (by simp) hr ho hv hb)
            have O5 := hide (ownA_row (cs := #[.int .i64 k, .string s, .int .i64 op, .int .i64 n, .slice e1 i1 j1, .slice e2 i2 j2]) (unhide O4) (unhide RY z4) (by decide))
            have V5 := hide (ownV_row (cs := #[.int .i64 k, .string s, .int .i64 op, .int .i64 n, .slice e1 i1 j1, .slice e2 i2 j2]) (unhide V4) (unhide RY z4) (by decide))
            clear F0 F1 O4 V4
            go_wp2_with (first | (refine wpList_store_row rfl 52 _ _ rfl V.heap.size #[.int .i64 k, .string s, .int .i64 op, .int .i64 n, .slice e1 i1 j1, .slice e2 i2 j2] rfl rfl 52 _ (unhide RY _) szMt rfl (mt_one _ _ _ _ _ _ _ _ _ _) ?_))
            refine bodyPost_ret (results_row2 (P := Tryz.prog) rfl _ _ V.heap.size 52 #[.int .i64 k, .string s, .int .i64 op, .int .i64 n, .slice e1 i1 j1, .slice e2 i2 j2] (0, 0) _ rfl (setRow_heap _ _ _ _ _ _ (unhide RY _)) Tryz.underlying52 rfl szMt) rfl ?_
            exact unhide FF _ _ rfl (unhide O5) (unhide V5) (below_rowG (unhide BY z4) (unhide VL))
end Go.Proofs.YtmhcbehplhfgfaaGreatDoor
