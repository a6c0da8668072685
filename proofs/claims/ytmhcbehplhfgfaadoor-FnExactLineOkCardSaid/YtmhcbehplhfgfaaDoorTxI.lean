/- Contracts over this seat's translation, laid together; conditions stand as hypotheses of each. -/
import Derived.Test.YtmhcbehplhfgfaaDoorTxA
import Derived.Test.YtmhcbehplhfgfaaDoorTxB
import Derived.Test.YtmhcbehplhfgfaaDoorTxD
import Derived.Test.YtmhcbehplhfgfaaDoorTxE
import Derived.Test.YtmhcbehplhfgfaaDoorTxF
import Derived.Test.YtmhcbehplhfgfaaDoorTxH
import Derived.OwnWalk
import Derived.Test.YtmhcbehplhfgfaaDoorRows
import Derived.Lib.SmallJoins
import Derived.Lib.LaidTab
import Derived.Stop.LaidErr
import Derived.MakeChecks
import Derived.OpenVars
import Derived.Laws.Rows
import Derived.Lib.Builder
import Derived.Deep.RegionWith

namespace Go.Proofs.YtmhcbehplhfgfaaDoor
open Go.ChangeShapes Go.WideShapes Go.ChangeAt Go.RowKit
set_option linter.unusedVariables false
set_option maxRecDepth 8000
set_option linter.unusedSimpArgs false

set_option maxHeartbeats 2000000 in
theorem kind_num (n : Int) (s : ByteArray) (t u : TypeId) (x y : Value) (w : World) : Calls Tryd.prog 71 #[.iface 123 (.agg #[.int .i64 n])] w fun r w' => r = .returned (.int .i64 1) ∧ w' = w := by
  have tt := taY_num (.agg #[.int .i64 n])
  go_enter Tryd.func71, Tryd.ntmps71
  go_wp2
  go_ret
  exact ⟨rfl, rfl⟩
set_option maxHeartbeats 2000000 in
theorem kind_sym (n : Int) (s : ByteArray) (t u : TypeId) (x y : Value) (w : World) : Calls Tryd.prog 71 #[.iface 125 (.agg #[.string s])] w fun r w' => r = .returned (.int .i64 2) ∧ w' = w := by
  have t0 := taN_num 125 (.agg #[.string s]) (by decide)
  have tt := taY_sym (.agg #[.string s])
  go_enter Tryd.func71, Tryd.ntmps71
  go_wp2
  go_ret
  exact ⟨rfl, rfl⟩
set_option maxHeartbeats 2000000 in
theorem kind_here (n : Int) (s : ByteArray) (t u : TypeId) (x y : Value) (w : World) : Calls Tryd.prog 71 #[.iface 127 (.agg #[])] w fun r w' => r = .returned (.int .i64 3) ∧ w' = w := by
  have t0 := taN_num 127 (.agg #[]) (by decide)
  have t1 := taN_sym 127 (.agg #[]) (by decide)
  have tt := taY_here (.agg #[])
  go_enter Tryd.func71, Tryd.ntmps71
  go_wp2
  go_ret
  exact ⟨rfl, rfl⟩
set_option maxHeartbeats 2000000 in
theorem kind_neg (n : Int) (s : ByteArray) (t u : TypeId) (x y : Value) (w : World) : Calls Tryd.prog 71 #[.iface 129 (.agg #[.iface t x])] w fun r w' => r = .returned (.int .i64 4) ∧ w' = w := by
  have t0 := taN_num 129 (.agg #[.iface t x]) (by decide)
  have t1 := taN_sym 129 (.agg #[.iface t x]) (by decide)
  have t2 := taN_here 129 (.agg #[.iface t x]) (by decide)
  have tt := taY_neg (.agg #[.iface t x])
  go_enter Tryd.func71, Tryd.ntmps71
  go_wp2
  go_ret
  exact ⟨rfl, rfl⟩
set_option maxHeartbeats 2000000 in
theorem kind_add (n : Int) (s : ByteArray) (t u : TypeId) (x y : Value) (w : World) : Calls Tryd.prog 71 #[.iface 138 (.agg #[.iface t x, .iface u y])] w fun r w' => r = .returned (.int .i64 5) ∧ w' = w := by
  have t0 := taN_num 138 (.agg #[.iface t x, .iface u y]) (by decide)
  have t1 := taN_sym 138 (.agg #[.iface t x, .iface u y]) (by decide)
  have t2 := taN_here 138 (.agg #[.iface t x, .iface u y]) (by decide)
  have t3 := taN_neg 138 (.agg #[.iface t x, .iface u y]) (by decide)
  have tt := taY_add (.agg #[.iface t x, .iface u y])
  go_enter Tryd.func71, Tryd.ntmps71
  go_wp2
  go_ret
  exact ⟨rfl, rfl⟩
set_option maxHeartbeats 2000000 in
theorem kind_sub (n : Int) (s : ByteArray) (t u : TypeId) (x y : Value) (w : World) : Calls Tryd.prog 71 #[.iface 139 (.agg #[.iface t x, .iface u y])] w fun r w' => r = .returned (.int .i64 6) ∧ w' = w := by
  have t0 := taN_num 139 (.agg #[.iface t x, .iface u y]) (by decide)
  have t1 := taN_sym 139 (.agg #[.iface t x, .iface u y]) (by decide)
  have t2 := taN_here 139 (.agg #[.iface t x, .iface u y]) (by decide)
  have t3 := taN_neg 139 (.agg #[.iface t x, .iface u y]) (by decide)
  have t4 := taN_add 139 (.agg #[.iface t x, .iface u y]) (by decide)
  have tt := taY_sub (.agg #[.iface t x, .iface u y])
  go_enter Tryd.func71, Tryd.ntmps71
  go_wp2
  go_ret
  exact ⟨rfl, rfl⟩
set_option maxHeartbeats 2000000 in
theorem kind_mul (n : Int) (s : ByteArray) (t u : TypeId) (x y : Value) (w : World) : Calls Tryd.prog 71 #[.iface 140 (.agg #[.iface t x, .iface u y])] w fun r w' => r = .returned (.int .i64 7) ∧ w' = w := by
  have t0 := taN_num 140 (.agg #[.iface t x, .iface u y]) (by decide)
  have t1 := taN_sym 140 (.agg #[.iface t x, .iface u y]) (by decide)
  have t2 := taN_here 140 (.agg #[.iface t x, .iface u y]) (by decide)
  have t3 := taN_neg 140 (.agg #[.iface t x, .iface u y]) (by decide)
  have t4 := taN_add 140 (.agg #[.iface t x, .iface u y]) (by decide)
  have t5 := taN_sub 140 (.agg #[.iface t x, .iface u y]) (by decide)
  have tt := taY_mul (.agg #[.iface t x, .iface u y])
  go_enter Tryd.func71, Tryd.ntmps71
  go_wp2
  go_ret
  exact ⟨rfl, rfl⟩
set_option maxHeartbeats 2000000 in
theorem kind_div (n : Int) (s : ByteArray) (t u : TypeId) (x y : Value) (w : World) : Calls Tryd.prog 71 #[.iface 141 (.agg #[.iface t x, .iface u y])] w fun r w' => r = .returned (.int .i64 8) ∧ w' = w := by
  have t0 := taN_num 141 (.agg #[.iface t x, .iface u y]) (by decide)
  have t1 := taN_sym 141 (.agg #[.iface t x, .iface u y]) (by decide)
  have t2 := taN_here 141 (.agg #[.iface t x, .iface u y]) (by decide)
  have t3 := taN_neg 141 (.agg #[.iface t x, .iface u y]) (by decide)
  have t4 := taN_add 141 (.agg #[.iface t x, .iface u y]) (by decide)
  have t5 := taN_sub 141 (.agg #[.iface t x, .iface u y]) (by decide)
  have t6 := taN_mul 141 (.agg #[.iface t x, .iface u y]) (by decide)
  have tt := taY_div (.agg #[.iface t x, .iface u y])
  go_enter Tryd.func71, Tryd.ntmps71
  go_wp2
  go_ret
  exact ⟨rfl, rfl⟩
set_option maxHeartbeats 2000000 in
theorem kind_and (n : Int) (s : ByteArray) (t u : TypeId) (x y : Value) (w : World) : Calls Tryd.prog 71 #[.iface 142 (.agg #[.iface t x, .iface u y])] w fun r w' => r = .returned (.int .i64 9) ∧ w' = w := by
  have t0 := taN_num 142 (.agg #[.iface t x, .iface u y]) (by decide)
  have t1 := taN_sym 142 (.agg #[.iface t x, .iface u y]) (by decide)
  have t2 := taN_here 142 (.agg #[.iface t x, .iface u y]) (by decide)
  have t3 := taN_neg 142 (.agg #[.iface t x, .iface u y]) (by decide)
  have t4 := taN_add 142 (.agg #[.iface t x, .iface u y]) (by decide)
  have t5 := taN_sub 142 (.agg #[.iface t x, .iface u y]) (by decide)
  have t6 := taN_mul 142 (.agg #[.iface t x, .iface u y]) (by decide)
  have t7 := taN_div 142 (.agg #[.iface t x, .iface u y]) (by decide)
  have tt := taY_and (.agg #[.iface t x, .iface u y])
  go_enter Tryd.func71, Tryd.ntmps71
  go_wp2
  go_ret
  exact ⟨rfl, rfl⟩
set_option maxHeartbeats 2000000 in
theorem kind_or (n : Int) (s : ByteArray) (t u : TypeId) (x y : Value) (w : World) : Calls Tryd.prog 71 #[.iface 143 (.agg #[.iface t x, .iface u y])] w fun r w' => r = .returned (.int .i64 10) ∧ w' = w := by
  have t0 := taN_num 143 (.agg #[.iface t x, .iface u y]) (by decide)
  have t1 := taN_sym 143 (.agg #[.iface t x, .iface u y]) (by decide)
  have t2 := taN_here 143 (.agg #[.iface t x, .iface u y]) (by decide)
  have t3 := taN_neg 143 (.agg #[.iface t x, .iface u y]) (by decide)
  have t4 := taN_add 143 (.agg #[.iface t x, .iface u y]) (by decide)
  have t5 := taN_sub 143 (.agg #[.iface t x, .iface u y]) (by decide)
  have t6 := taN_mul 143 (.agg #[.iface t x, .iface u y]) (by decide)
  have t7 := taN_div 143 (.agg #[.iface t x, .iface u y]) (by decide)
  have t8 := taN_and 143 (.agg #[.iface t x, .iface u y]) (by decide)
  have tt := taY_or (.agg #[.iface t x, .iface u y])
  go_enter Tryd.func71, Tryd.ntmps71
  go_wp2
  go_ret
  exact ⟨rfl, rfl⟩
set_option maxHeartbeats 2000000 in
theorem kind_sect (n : Int) (s : ByteArray) (t u : TypeId) (x y : Value) (w : World) : Calls Tryd.prog 71 #[.iface 135 (.agg #[.int .i64 n])] w fun r w' => r = .returned (.int .i64 11) ∧ w' = w := by
  have t0 := taN_num 135 (.agg #[.int .i64 n]) (by decide)
  have t1 := taN_sym 135 (.agg #[.int .i64 n]) (by decide)
  have t2 := taN_here 135 (.agg #[.int .i64 n]) (by decide)
  have t3 := taN_neg 135 (.agg #[.int .i64 n]) (by decide)
  have t4 := taN_add 135 (.agg #[.int .i64 n]) (by decide)
  have t5 := taN_sub 135 (.agg #[.int .i64 n]) (by decide)
  have t6 := taN_mul 135 (.agg #[.int .i64 n]) (by decide)
  have t7 := taN_div 135 (.agg #[.int .i64 n]) (by decide)
  have t8 := taN_and 135 (.agg #[.int .i64 n]) (by decide)
  have t9 := taN_or 135 (.agg #[.int .i64 n]) (by decide)
  have tt := taY_sect (.agg #[.int .i64 n])
  go_enter Tryd.func71, Tryd.ntmps71
  go_wp2
  go_ret
  exact ⟨rfl, rfl⟩
set_option maxHeartbeats 2000000 in
theorem kind_glob (n : Int) (s : ByteArray) (t u : TypeId) (x y : Value) (w : World) : Calls Tryd.prog 71 #[.iface 136 (.agg #[.string s])] w fun r w' => r = .returned (.int .i64 12) ∧ w' = w := by
  have t0 := taN_num 136 (.agg #[.string s]) (by decide)
  have t1 := taN_sym 136 (.agg #[.string s]) (by decide)
  have t2 := taN_here 136 (.agg #[.string s]) (by decide)
  have t3 := taN_neg 136 (.agg #[.string s]) (by decide)
  have t4 := taN_add 136 (.agg #[.string s]) (by decide)
  have t5 := taN_sub 136 (.agg #[.string s]) (by decide)
  have t6 := taN_mul 136 (.agg #[.string s]) (by decide)
  have t7 := taN_div 136 (.agg #[.string s]) (by decide)
  have t8 := taN_and 136 (.agg #[.string s]) (by decide)
  have t9 := taN_or 136 (.agg #[.string s]) (by decide)
  have t10 := taN_sect 136 (.agg #[.string s]) (by decide)
  have tt := taY_glob (.agg #[.string s])
  go_enter Tryd.func71, Tryd.ntmps71
  go_wp2
  go_ret
  exact ⟨rfl, rfl⟩
theorem kindI_any {d : Nat} {e : Ex} (h : okF d false e = true) (w : World) : Calls Tryd.prog 71 #[tv e] w fun r w' => r = .returned (.int .i64 e.k) ∧ w' = w := by
  cases d with
  | zero => cases h
  | succ d =>
    rcases ok_cases h with ⟨n, hn, rfl⟩ | ⟨s, hs, rfl⟩ | rfl | ⟨a, ha, rfl⟩ | ⟨k, a, b, hk, ha, hb, rfl⟩ | ⟨n, hn, rfl⟩ | ⟨s, hs, rfl⟩
    · rw [tv_num]; exact kind_num n E0 0 0 .nilIface .nilIface w
    · rw [tv_sym]; exact kind_sym 0 s 0 0 .nilIface .nilIface w
    · rw [tv_here]; exact kind_here 0 E0 0 0 .nilIface .nilIface w
    · obtain ⟨t, x, e1⟩ := tv_if a
      rw [tv_neg, e1]; exact kind_neg 0 E0 t 0 x .nilIface w
    · obtain ⟨t, x, e1⟩ := tv_if a
      obtain ⟨u, y, e2⟩ := tv_if b
      rw [tv_two hk, e1, e2]
      have : k = 5 ∨ k = 6 ∨ k = 7 ∨ k = 8 ∨ k = 9 ∨ k = 10 := by omega
      rcases this with rfl | rfl | rfl | rfl | rfl | rfl
      · exact kind_add 0 E0 t u x y w
      · exact kind_sub 0 E0 t u x y w
      · exact kind_mul 0 E0 t u x y w
      · exact kind_div 0 E0 t u x y w
      · exact kind_and 0 E0 t u x y w
      · exact kind_or 0 E0 t u x y w
    · rw [tv_sect]; exact kind_sect n E0 0 0 .nilIface .nilIface w
    · rw [tv_glob]; exact kind_glob 0 s 0 0 .nilIface .nilIface w
theorem szL_allOk : ∀ ts : List Tk, AllOk ts → szL ts ≤ 10 * ts.length := by
  intro ts
  induction ts with
  | nil => intro _; simp [szL]
  | cons t r ih =>
    intro h
    obtain ⟨h1, h2⟩ := h.head
    have := ok_size h1
    have := ih h2
    simp only [szL, List.length_cons]
    omega
theorem text_len {e : Ex} (h : okF 6 true e = true) : (toksF 6 e).length + szL (toksF 6 e) ≤ 1048576 := by
  obtain ⟨h1, h2⟩ := toks_ok 6 e h
  have := szL_allOk _ h1
  have := mxT_le 6 (by omega)
  omega
end Go.Proofs.YtmhcbehplhfgfaaDoor

namespace Go.Proofs.YtmhcbehplhfgfaaDoor
open Go.ChangeShapes Go.WideShapes Go.ChangeAt Go.RowKit
set_option linter.unusedVariables false
set_option maxRecDepth 8000
set_option linter.unusedSimpArgs false

theorem infTm : (Tryd.prog.info? 52).map (fun i => (i.zero, i.size, i.bytes)) = some (some .nilIface, 1, 16) := by kernel_rfl
/-- A row of the program's terms that is owned. -/
def OwnV (w : World) (B : Nat) (v : Value) (l : List Value) : Prop := w.ownsRow B 52 1 v l.length l
theorem OwnV.later {w w' : World} {B : Nat} {v : Value} {l : List Value} (h : OwnV w B v l) (hb : Below w.heap.size w w') : OwnV w' B v l := by
  obtain ⟨h1, h2 | ⟨g, cap, cur, e, hg, hh, r⟩⟩ := h
  · exact ⟨h1, .inl h2⟩
  · exact ⟨h1, .inr ⟨g, cap, cur, e, hg, (hb.block g (Array.getElem?_eq_some_iff.1 hh).1).trans hh, r⟩⟩
theorem OwnV.base {w : World} {B B' : Nat} {v : Value} {l : List Value} (h : OwnV w B v l) (hB : B' ≤ B) : OwnV w B' v l := by
  obtain ⟨h1, h2 | ⟨g, cap, cur, e, hg, r⟩⟩ := h
  · exact ⟨h1, .inl h2⟩
  · exact ⟨h1, .inr ⟨g, cap, cur, e, Nat.le_trans hB hg, r⟩⟩
theorem ownV_none (w : World) (B : Nat) : OwnV w B (.slice none 0 0) [] := ⟨rfl, .inl ⟨rfl, rfl⟩⟩
section
variable {ops : Array Oper} {rest : List Oper} {o : Oper} {a : Act} {Q : Exit → Act → World → Prop} {w w0 : World} {B : Nat} {K : Act → World → Prop}
/-- One term appended. -/
theorem wp_appV (s x : Operand) (ho : o.op = .call { callee := .builtin .append, args := #[s, x], argTypes := #[63, 63] }) (hB : B ≤ w0.heap.size) (hD : Below B w0 w) {v : Value} {l : List Value} (hs : a.eval s = v) (hown : OwnV w B v l) (g : Nat) (p : Value) (hx : a.eval x = .slice (some ⟨g, 0, none⟩) 1 1) (hg : w.heap[g]? = some (.cells #[p] 52 (0, 0))) (hi : IfV p) (hl : l.length ≤ 1048576)
    (h : ∀ (v' : Value) (y : Sub B w0), OwnV y.w B v' (l ++ [p]) → K (a.put o.dst v') y.w) : o.wp Tryd.prog a w K Q := by
  obtain ⟨i0, hi0, hz0, hz1, hz2⟩ := info_parts infTm
  have hsz := hD.size
  refine wp_append_own w s x 63 ho B 52 i0 .nilIface 1 16 Tryd.underlying63 hi0 hz0 hz1 hz2 rfl (by decide) v l.length l hs hown ⟨g, 0, none⟩ 1 1 [p] hx rfl (fun j u hj => by
    have hc := Lib.cell_of_heap hg j
    have e : (#[p] : Array Value)[j]? = some u := by rw [← hj]; simp
    have ha : (⟨g, 0, none⟩ : Addr).add j = ⟨g, j, none⟩ := by simp [Addr.add]; exact fun h => h.symm
    rw [ha]
    exact hc.trans e) (fun u hu => by rw [List.mem_singleton.1 hu]; exact hi.one) (by unfold maxLen; omega) (by omega) (by omega) ?_
  intro v' w' h1 h2 _
  refine h v' ⟨w', hD.grown h2 (Nat.le_trans hB hD.size) (fun g hg => (World.ownsRow.lt hown g hg).1)⟩ ?_
  unfold OwnV
  rw [List.length_append]
  exact h1
theorem appV (hgd : o.guard = none) (s x : Operand) (ho : o.op = .call { callee := .builtin .append, args := #[s, x], argTypes := #[63, 63] }) (hB : B ≤ w0.heap.size) (hD : Below B w0 w) {v : Value} {l : List Value} (hs : a.eval s = v) (hown : OwnV w B v l) (g : Nat) (p : Value) (hx : a.eval x = .slice (some ⟨g, 0, none⟩) 1 1) (hg : w.heap[g]? = some (.cells #[p] 52 (0, 0))) (hi : IfV p) (hl : l.length ≤ 1048576)
    (h : ∀ (v' : Value) (y : Sub B w0), OwnV y.w B v' (l ++ [p]) → wpList Tryd.prog ops Q rest (a.put o.dst v') y.w) : wpList Tryd.prog ops Q (o :: rest) a w :=
  wpList_plain hgd fun _ hK => wp_appV s x ho hB hD hs hown g p hx hg hi hl fun v' y h1 => hK _ _ (h v' y h1)
end
/-- Whether a term fits: plain, and a name alone where it must be. -/
def tmF (na : Bool) (e : Ex) : Bool := okF 6 true e && (!na || e.k == 2)
theorem tmF_take {na : Bool} {l : List Ex} {k : Nat} (h : k < l.length) : (l.take (k + 1)).all (tmF na) = ((l.take k).all (tmF na) && tmF na (xAt l k)) := by
  rw [List.take_succ_eq_append_getElem h, List.all_append]
  simp [xAt, List.getD_eq_getElem?_getD, h]
theorem tmF_no {na : Bool} {l : List Ex} {k : Nat} (h : k < l.length) (hk : tmF na (xAt l k) = false) : l.all (tmF na) = false := by
  cases hq : l.all (tmF na) with
  | false => rfl
  | true =>
    have := List.all_eq_true.1 hq (xAt l k) (by simp [xAt, List.getD_eq_getElem?_getD, h])
    rw [hk] at this
    cases this
theorem tvJ_take {l : List Ex} {k : Nat} (h : k < l.length) : (l.take (k + 1)).map tv = (l.take k).map tv ++ [tv (xAt l k)] := by
  rw [List.take_succ_eq_append_getElem h, List.map_append]
  simp [xAt, List.getD_eq_getElem?_getD, h]
/-- Whether the terms of a line fit its shape. -/
def tmX (S : Sh) (l : List Ex) : Bool := inB l.length S.fw S.mo && l.all (tmF S.na)
/-- What plainTerms answers. -/
def TmsR (S : Sh) (l : List Ex) (w : World) (r : Ending) (w' : World) : Prop := ∃ v, r = .returned (.tuple #[v, .bool (tmX S l)]) ∧ (tmX S l = true → OwnV w' w.heap.size v (l.map tv)) ∧ Below w.heap.size w w'
set_option maxHeartbeats 8000000 in
theorem ptmI_any (S : Sh) (l : List Ex) (b : Option Addr) (n cap : Nat) (w : World) (hn : l.length = n) (hm : n ≤ 1048576) (hz : ∀ i, i < n → (xAt l i).sz ≤ 1048576) (hr : RdX w 0 ⟨0, 0, E0, l⟩ b) (ht : TabK w) : Calls Tryd.prog 49 #[.agg S.cs, .slice b n cap] w (TmsR S l w) := by
  obtain ⟨a1, a2, a3, a4, a5, a6, a7⟩ := S
  have FN := hide (fun (r : Ending) (w' : World) (v : Value) (q : Bool) (h0 : (inB (n : Int) a5 a6 && l.all (tmF a7)) = q) (h : r = .returned (.tuple #[v, .bool q])) (h1 : q = true → OwnV w' w.heap.size v (l.map tv)) (h2 : Below w.heap.size w w') => (show TmsR ⟨a1, a2, a3, a4, a5, a6, a7⟩ l w r w' from ⟨v, by rw [h, ← h0, ← hn]; rfl, fun e => h1 (by rw [← h0, ← hn]; exact e), h2⟩))
  unfold Sh.cs
  simp only
  obtain ⟨W, hW⟩ : ∃ W, w.alloc (.cells #[.bool a1, .bool a2, .bool a3, .int .i64 a4, .int .i64 a5, .int .i64 a6, .bool a7] 82) = W := ⟨_, rfl⟩
  have hbW : Below w.heap.size w W := by rw [← hW]; exact below_new _ _
  have rS : W.heap[w.heap.size]? = some (.cells #[.bool a1, .bool a2, .bool a3, .int .i64 a4, .int .i64 a5, .int .i64 a6, .bool a7] 82 (0, 0)) := by rw [← hW]; exact Array.getElem?_push_size
  have lS := (Array.getElem?_eq_some_iff.1 rS).1
  have BY := hide (fun y : Sub W.heap.size W => hbW.trans (y.h.mono hbW.size))
  have HO := hide (fun (y : Sub W.heap.size W) v l (h : OwnV y.w W.heap.size v l) => h.base hbW.size)
  have E4 : ∀ y : Sub W.heap.size W, y.w.cell? ⟨w.heap.size, 4, none⟩ = some (.int .i64 a5) := fun y => (y.h.cell (p := ⟨w.heap.size, 4, none⟩) lS).trans (Lib.cell_of_heap rS 4)
  have E5 : ∀ y : Sub W.heap.size W, y.w.cell? ⟨w.heap.size, 5, none⟩ = some (.int .i64 a6) := fun y => (y.h.cell (p := ⟨w.heap.size, 5, none⟩) lS).trans (Lib.cell_of_heap rS 5)
  have E6 : ∀ y : Sub W.heap.size W, y.w.cell? ⟨w.heap.size, 6, none⟩ = some (.bool a7) := fun y => (y.h.cell (p := ⟨w.heap.size, 6, none⟩) lS).trans (Lib.cell_of_heap rS 6)
  have ne := Sub.ne W.heap.size W
  have HZ := hide (Nat.le_refl W.heap.size)
  have TM := hide (fun i (hi : i < n) (c : Option Addr) (cp : Nat) (y : Sub W.heap.size W) (h : RdX y.w 0 (xAt l i) c) => plnO_any (xAt l i) c cp y.w h (hz i hi) (ht.next (unhide BY y)))
  unfold PlnR at TM
  have KD := hide (fun i (h : okF 6 true (xAt l i) = true) (w : World) => kindI_any (plain_ok 6 _ h) w)
  have RD := hide (fun i (h : i < n) => rd_at (hr.later hbW) (i := i) (by show i < l.length; omega))
  have OT := hide (fun k (h : k < n) => tmF_take (na := a7) (l := l) (k := k) (by omega))
  have ON := hide (fun k (h : k < n) => tmF_no (na := a7) (l := l) (k := k) (by omega))
  have TT := hide (fun k (h : k < n) => tvJ_take (l := l) (k := k) (by omega))
  have EN := hide (show l.take n = l by rw [← hn, List.take_length])
  obtain ⟨y0, hy0⟩ : ∃ z : Sub W.heap.size W, W = z.w := ⟨⟨W, Below.refl _ _⟩, rfl⟩
  rw [hy0] at hW
  generalize TmsR ⟨a1, a2, a3, a4, a5, a6, a7⟩ l w = R at *
  clear hr hz ht hn hbW rS lS hy0
  by_cases hlo : (n : Int) < a5
  · have F2 := hide (fun r w' v => unhide FN r w' v false (by rw [inB_f (n : Int) a5 a6 (by omega)]; rfl))
    clear FN TM KD RD OT ON TT EN
    go_enter Tryd.func49, Tryd.ntmps49
    go_wp2
    (try go_ret2)
    exact unhide F2 _ _ _ rfl (fun h => by cases h) (unhide BY y0)
  by_cases hhi : a6 < (n : Int)
  · have F2 := hide (fun r w' v => unhide FN r w' v false (by rw [inB_f (n : Int) a5 a6 (by omega)]; rfl))
    clear FN TM KD RD OT ON TT EN
    go_enter Tryd.func49, Tryd.ntmps49
    go_wp2
    (try go_ret2)
    exact unhide F2 _ _ _ rfl (fun h => by cases h) (unhide BY y0)
  have F2 := hide (fun r w' v q (h : l.all (tmF a7) = q) => unhide FN r w' v q (by rw [inB_t (n : Int) a5 a6 (by omega) (by omega)]; exact h))
  clear FN
  have g1 : decide ((n : Int) < a5) = false := decide_eq_false hlo
  have g2 : decide (a6 < (n : Int)) = false := decide_eq_false hhi
  go_enter Tryd.func49, Tryd.ntmps49
  go_wp2
  go_loopw [6, 25] (fun v i wr => ∃ (k : Nat) (z : Sub W.heap.size W), k ≤ n ∧ i = .int .i64 k ∧ (l.take k).all (tmF a7) = true ∧ OwnV z.w W.heap.size v ((l.take k).map tv) ∧ wr = z.w) (fun _ i _ => n - (intOf i).toNat)
  case atStart => exact ⟨0, y0, Nat.zero_le _, rfl, by simp, ownV_none _ _, rfl⟩
  case round =>
    obtain ⟨k, z, hk, rfl, hok, hown, rfl⟩ := hrel
    by_cases hlt : k < n
    · obtain ⟨p, po, rfl, hp, o1⟩ := unhide RD k hlt
      obtain ⟨e0, e1, e2, c, cp, e3, e4⟩ := o1
      have c0 := (z.h.cell (p := ⟨p, po + k * 4, none⟩) hp).trans e0
      have c1 := (z.h.cell (p := ⟨p, po + k * 4 + 1, none⟩) hp).trans e1
      have c2 := (z.h.cell (p := ⟨p, po + k * 4 + 2, none⟩) hp).trans e2
      have c3 := (z.h.cell (p := ⟨p, po + k * 4 + 3, none⟩) hp).trans e3
      have T1 := hide (unhide OT k hlt)
      have T2 := hide (unhide TT k hlt)
      have T3 := hide (unhide ON k hlt)
      have T4 := hide (show tmF a7 (xAt l k) = (okF 6 true (xAt l k) && (!a7 || (xAt l k).k == 2)) from rfl)
      have X0 := hide (fun y : Sub W.heap.size W => e4.later y.h)
      have TK := hide (fun y : Sub W.heap.size W => unhide TM k hlt c cp y (unhide X0 y))
      have K0 := hide (unhide KD k)
      have OK := hide hok
      have OW := hide hown
      unfold Ex.cs at TK
      have hkn : ¬ ((n : Int) ≤ (k : Int)) := by omega
      clear e0 e1 e2 e3 e4 hok hown hp X0
      obtain ⟨tt, xx, ett⟩ := tv_if (xAt l k)
      rw [ett] at TK T2 K0
      clear ett
      generalize (xAt l k).k = ek at *
      generalize (xAt l k).n = en at *
      generalize (xAt l k).s = es at *
      generalize (xAt l k).l.length = el at *
      have hb1 := below_new z.w (.cells #[.int .i64 ek, .int .i64 en, .string es, .slice c el cp] 31)
      obtain ⟨z1, hz1⟩ := Sub.step (unhide HZ) hb1
      have G1 := hide (show z1.w.heap[z.w.heap.size]? = some (.cells #[.int .i64 ek, .int .i64 en, .string es, .slice c el cp] 31 (0, 0)) by rw [← hz1]; exact Array.getElem?_push_size)
      have O1 := hide (show OwnV z1.w W.heap.size u6 ((l.take k).map tv) by rw [← hz1]; exact (unhide OW).later hb1)
      have C1 := hide (unhide TK z1)
      clear hb1 TK OW
      go_wp2_with (refine wpList_load_row rfl 31 _ rfl z.w.heap.size rfl 31 #[.int .i64 ek, .int .i64 en, .string es, .slice c el cp] (0, 0) _ (unhide G1) Tryd.underlying31 rfl (by kernel_rfl) ?_)
      refine (unhide C1).mono ?_
      rintro r w2 ⟨tk, rfl, htk, hb2⟩
      have O2 := hide ((unhide O1).later hb2)
      obtain ⟨z2, rfl⟩ := Sub.step (unhide HZ) hb2
      have HT := hide htk.2
      clear htk hb2 O1 C1 G1 c0 c1 c2 c3 hz1
      generalize hq : okF 6 true (xAt l k) = q at *
      cases q with
      | false =>
        have F := hide (unhide T3 (by rw [unhide T4]; rfl))
        clear T1 T2 T3 T4 K0 HT
        go_wp2
        (first | go_ret2 | go_ret | skip)
        exact unhide F2 _ _ _ false (unhide F) rfl (fun h => by cases h) (unhide BY z2)
      | true =>
        have etk := unhide HT rfl
        subst etk
        have K1 := hide (unhide K0 rfl)
        clear HT K0
        cases a7 with
        | false =>
          have E1 := hide (show (l.take (k + 1)).all (tmF false) = true by rw [unhide T1, unhide OK, unhide T4]; rfl)
          clear T1 T3 T4 OK
          have hb3 := below_new z2.w (.cells #[.iface tt xx] 52)
          obtain ⟨z3, hz3⟩ := Sub.step (unhide HZ) hb3
          have O3 := hide (show OwnV z3.w W.heap.size u6 ((l.take k).map tv) by rw [← hz3]; exact (unhide O2).later hb3)
          have G3 := hide (show z3.w.heap[z2.w.heap.size]? = some (.cells #[.iface tt xx] 52 (0, 0)) by rw [← hz3]; exact Array.getElem?_push_size)
          have LN := hide (show ((l.take k).map tv).length ≤ 1048576 by simp; omega)
          clear hb3 O2
          go_wp2_with (first | (go_at_call 71; refine (unhide K1 _).mono ?_; rintro r w' ⟨rfl, hw'⟩; rw [hw']; clear hw' w') | (at_builtin; go_must (refine appV rfl _ _ rfl (unhide HZ) z3.h rfl (unhide O3) z2.w.heap.size (.iface tt xx) rfl (unhide G3) (.inr ⟨_, _, rfl⟩) (unhide LN) ?_; intro v4 z4 hO; have O4 := hide hO; clear hO)))
          go_roundw
          case rel => exact ⟨k + 1, z4, by omega, by go_num, unhide E1, by rw [unhide T2]; exact unhide O4, rfl⟩
          case measure => simp [intOf]; omega
        | true =>
          by_cases h2 : ek = 2
          · subst h2
            have E1 := hide (show (l.take (k + 1)).all (tmF true) = true by rw [unhide T1, unhide OK, unhide T4]; rfl)
            clear T1 T3 T4 OK
            have hb3 := below_new z2.w (.cells #[.iface tt xx] 52)
            obtain ⟨z3, hz3⟩ := Sub.step (unhide HZ) hb3
            have O3 := hide (show OwnV z3.w W.heap.size u6 ((l.take k).map tv) by rw [← hz3]; exact (unhide O2).later hb3)
            have G3 := hide (show z3.w.heap[z2.w.heap.size]? = some (.cells #[.iface tt xx] 52 (0, 0)) by rw [← hz3]; exact Array.getElem?_push_size)
            have LN := hide (show ((l.take k).map tv).length ≤ 1048576 by simp; omega)
            clear hb3 O2
            go_wp2_with (first | (go_at_call 71; refine (unhide K1 _).mono ?_; rintro r w' ⟨rfl, hw'⟩; rw [hw']; clear hw' w') | (at_builtin; go_must (refine appV rfl _ _ rfl (unhide HZ) z3.h rfl (unhide O3) z2.w.heap.size (.iface tt xx) rfl (unhide G3) (.inr ⟨_, _, rfl⟩) (unhide LN) ?_; intro v4 z4 hO; have O4 := hide hO; clear hO)))
            go_roundw
            case rel => exact ⟨k + 1, z4, by omega, by go_num, unhide E1, by rw [unhide T2]; exact unhide O4, rfl⟩
            case measure => simp [intOf]; omega
          · have g2 : (ek == 2) = false := beq_eq_false_iff_ne.2 h2
            have F := hide (unhide T3 (by rw [unhide T4, g2]; rfl))
            clear T1 T2 T3 T4 OK
            go_wp2_with (go_at_call 71; refine (unhide K1 _).mono ?_; rintro r w' ⟨rfl, hw'⟩; rw [hw']; clear hw' w')
            (first | go_ret2 | go_ret | skip)
            exact unhide F2 _ _ _ false (unhide F) rfl (fun h => by cases h) (unhide BY z2)
    · obtain rfl : k = n := by omega
      rw [unhide EN] at hok hown
      have OW := hide hown
      have OK := hide hok
      clear hok hown
      go_wp2
      (first | go_ret2 | go_ret | skip)
      exact unhide F2 _ _ _ true (unhide OK) rfl (fun _ => unhide HO _ _ _ (unhide OW)) (unhide BY z)
end Go.Proofs.YtmhcbehplhfgfaaDoor

namespace Go.Proofs.YtmhcbehplhfgfaaDoor
open Go.ChangeShapes Go.WideShapes Go.ChangeAt Go.RowKit
set_option linter.unusedVariables false
set_option maxRecDepth 8000
set_option linter.unusedSimpArgs false

/-- Whether a line is right, as the program finds it. -/
def stX (x : Ln) : Bool := shB x.k x.op && (nmX (shX x.k x.op).nm x.s && (inB x.n 0 (shX x.k x.op).gn && ((agW (shX x.k x.op).src x.src && agW (shX x.k x.op).dst x.dst) && tmX (shX x.k x.op) x.l)))
theorem n00 (n : Int) : inB n 0 0 = (n == 0) := by
  by_cases h : n = 0
  · subst h; rfl
  · rw [inB_f n 0 0 (by omega), beq_eq_false_iff_ne.2 h]
theorem len00 (l : List Ex) : inB (l.length : Int) 0 0 = (l.length == 0) := by
  by_cases h : l.length = 0
  · rw [h]; rfl
  · rw [inB_f _ 0 0 (by omega), beq_eq_false_iff_ne.2 h]
theorem len11 (l : List Ex) : inB (l.length : Int) 1 1 = (l.length == 1) := by
  by_cases h : l.length = 1
  · rw [h]; rfl
  · rw [inB_f _ 1 1 (by omega), beq_eq_false_iff_ne.2 h]
theorem tmF_f : tmF false = okF 6 true := by
  funext e
  unfold tmF
  simp
theorem tmF_t : tmF true = nmF := by
  funext e
  unfold tmF nmF
  simp
theorem t00 (na : Bool) (l : List Ex) : (inB (l.length : Int) 0 0 && l.all (tmF na)) = (l.length == 0) := by
  rw [len00]
  cases l with
  | nil => rfl
  | cons a l => rfl
theorem tm_00 (a b c na : Bool) (g : Int) (l : List Ex) : tmX ⟨a, b, c, g, 0, 0, na⟩ l = (l.length == 0) := t00 na l
theorem tm_11 (a b c : Bool) (g : Int) (l : List Ex) : tmX ⟨a, b, c, g, 1, 1, false⟩ l = (l.length == 1 && l.all (okF 6 true)) := by
  unfold tmX
  simp only
  rw [len11, tmF_f]
theorem tm_16 (a b c : Bool) (g : Int) (l : List Ex) : tmX ⟨a, b, c, g, 1, 6, false⟩ l = (inB l.length 1 6 && l.all (okF 6 true)) := by
  unfold tmX
  simp only
  rw [tmF_f]
theorem tm_16n (a b c : Bool) (g : Int) (l : List Ex) : tmX ⟨a, b, c, g, 1, 6, true⟩ l = nmsX l := by
  unfold tmX nmsX
  simp only
  rw [tmF_t, Bool.and_comm]
theorem stX_of {x : Ln} {S : Sh} {q : Bool} (h : shX x.k x.op = S) (hq : shB x.k x.op = q) : stX x = (q && (nmX S.nm x.s && (inB x.n 0 S.gn && ((agW S.src x.src && agW S.dst x.dst) && tmX S x.l)))) := by
  unfold stX
  rw [h, hq]
theorem st_eq (x : Ln) : stX x = lnX x := by
  obtain ⟨k, s, op, src, dst, n, l⟩ := x
  by_cases hk : k = 3
  · subst hk
    by_cases h : 1 ≤ op ∧ op ≤ 6
    · have f1 : inB op 1 6 = true := inB_t _ _ _ (by omega) (by omega)
      have f2 : inB op 1 15 = true := inB_t _ _ _ (by omega) (by omega)
      have f3 : inB op 7 14 = false := inB_f _ _ _ (by omega)
      have f4 : inB op 17 21 = false := inB_f _ _ _ (by omega)
      have f5 : inB op 1 23 = true := inB_t _ _ _ (by omega) (by omega)
      have e1 : (op == 15) = false := beq_eq_false_iff_ne.2 (by omega)
      have e2 : (op == 16) = false := beq_eq_false_iff_ne.2 (by omega)
      have e3 : (op == 22) = false := beq_eq_false_iff_ne.2 (by omega)
      have e4 : (op == 23) = false := beq_eq_false_iff_ne.2 (by omega)
      have R : regB op = false := by unfold regB; rw [e1, e2]; rfl
      have hX : shX 3 op = ⟨false, true, true, 0, 0, 0, false⟩ := by unfold shX; rw [if_pos rfl, R, f1, f2, f4, e4]; rfl
      have hB : shB 3 op = true := by unfold shB; rw [if_pos rfl, f5]
      rw [stX_of (x := Ln.mk 3 s op src dst n l) hX hB]
      simp only [nmX, agW, if_true, Bool.false_eq_true, if_false, Bool.true_and]
      rw [n00, tm_00]
      show _ = lnV 3 s op (nonX src) (nonX dst) n l.length (nameB s) (l.all (okF 6 true)) (nmsX l) (insV op (nonX src) (nonX dst) (agX src) (agX dst) n l.length (l.all (okF 6 true)))
      unfold lnV insV
      simp only [f1, f2, f3, f4, f5, e1, e2, e3, e4, Bool.false_eq_true, if_false, if_true, Bool.or_false, Bool.false_or, Bool.true_or, Bool.or_true, beq_self_eq_true, Bool.not_true, Bool.not_false]
      generalize eqS s E0 = b0
      generalize (n == 0) = b1
      generalize (l.length == 0) = b2
      generalize agX src = b3
      generalize agX dst = b4
      cases b0 <;> cases b1 <;> cases b2 <;> cases b3 <;> cases b4 <;> rfl
    by_cases h : 7 ≤ op ∧ op ≤ 14
    · have f1 : inB op 1 6 = false := inB_f _ _ _ (by omega)
      have f2 : inB op 1 15 = true := inB_t _ _ _ (by omega) (by omega)
      have f3 : inB op 7 14 = true := inB_t _ _ _ (by omega) (by omega)
      have f4 : inB op 17 21 = false := inB_f _ _ _ (by omega)
      have f5 : inB op 1 23 = true := inB_t _ _ _ (by omega) (by omega)
      have e1 : (op == 15) = false := beq_eq_false_iff_ne.2 (by omega)
      have e2 : (op == 16) = false := beq_eq_false_iff_ne.2 (by omega)
      have e3 : (op == 22) = false := beq_eq_false_iff_ne.2 (by omega)
      have e4 : (op == 23) = false := beq_eq_false_iff_ne.2 (by omega)
      have R : regB op = false := by unfold regB; rw [e1, e2]; rfl
      have hX : shX 3 op = ⟨false, false, true, 0, 0, 0, false⟩ := by unfold shX; rw [if_pos rfl, R, f1, f2, f4, e4]; rfl
      have hB : shB 3 op = true := by unfold shB; rw [if_pos rfl, f5]
      rw [stX_of (x := Ln.mk 3 s op src dst n l) hX hB]
      simp only [nmX, agW, if_true, Bool.false_eq_true, if_false, Bool.true_and]
      rw [n00, tm_00]
      show _ = lnV 3 s op (nonX src) (nonX dst) n l.length (nameB s) (l.all (okF 6 true)) (nmsX l) (insV op (nonX src) (nonX dst) (agX src) (agX dst) n l.length (l.all (okF 6 true)))
      unfold lnV insV
      simp only [f1, f2, f3, f4, f5, e1, e2, e3, e4, Bool.false_eq_true, if_false, if_true, Bool.or_false, Bool.false_or, Bool.true_or, Bool.or_true, beq_self_eq_true, Bool.not_true, Bool.not_false]
      generalize eqS s E0 = b0
      generalize (n == 0) = b1
      generalize (l.length == 0) = b2
      generalize nonX src = b3
      generalize agX dst = b4
      cases b0 <;> cases b1 <;> cases b2 <;> cases b3 <;> cases b4 <;> rfl
    by_cases h : op = 15
    · have f1 : inB op 1 6 = false := inB_f _ _ _ (by omega)
      have f2 : inB op 1 15 = true := inB_t _ _ _ (by omega) (by omega)
      have f3 : inB op 7 14 = false := inB_f _ _ _ (by omega)
      have f4 : inB op 17 21 = false := inB_f _ _ _ (by omega)
      have f5 : inB op 1 23 = true := inB_t _ _ _ (by omega) (by omega)
      have e1 : (op == 15) = true := by rw [h]; rfl
      have e2 : (op == 16) = false := beq_eq_false_iff_ne.2 (by omega)
      have e3 : (op == 22) = false := beq_eq_false_iff_ne.2 (by omega)
      have e4 : (op == 23) = false := beq_eq_false_iff_ne.2 (by omega)
      have R : regB op = true := by unfold regB; rw [e1, e2]; rfl
      have hX : shX 3 op = ⟨false, false, true, 7, 0, 0, false⟩ := by unfold shX; rw [if_pos rfl, R, f1, f2, f4, e4]; rfl
      have hB : shB 3 op = true := by unfold shB; rw [if_pos rfl, f5]
      rw [stX_of (x := Ln.mk 3 s op src dst n l) hX hB]
      simp only [nmX, agW, if_true, Bool.false_eq_true, if_false, Bool.true_and]
      rw [tm_00]
      show _ = lnV 3 s op (nonX src) (nonX dst) n l.length (nameB s) (l.all (okF 6 true)) (nmsX l) (insV op (nonX src) (nonX dst) (agX src) (agX dst) n l.length (l.all (okF 6 true)))
      unfold lnV insV
      simp only [f1, f2, f3, f4, f5, e1, e2, e3, e4, Bool.false_eq_true, if_false, if_true, Bool.or_false, Bool.false_or, Bool.true_or, Bool.or_true, beq_self_eq_true, Bool.not_true, Bool.not_false]
      generalize eqS s E0 = b0
      generalize inB n 0 7 = b1
      generalize (l.length == 0) = b2
      generalize nonX src = b3
      generalize agX dst = b4
      cases b0 <;> cases b1 <;> cases b2 <;> cases b3 <;> cases b4 <;> rfl
    by_cases h : op = 16
    · have f1 : inB op 1 6 = false := inB_f _ _ _ (by omega)
      have f2 : inB op 1 15 = false := inB_f _ _ _ (by omega)
      have f3 : inB op 7 14 = false := inB_f _ _ _ (by omega)
      have f4 : inB op 17 21 = false := inB_f _ _ _ (by omega)
      have f5 : inB op 1 23 = true := inB_t _ _ _ (by omega) (by omega)
      have e1 : (op == 15) = false := beq_eq_false_iff_ne.2 (by omega)
      have e2 : (op == 16) = true := by rw [h]; rfl
      have e3 : (op == 22) = false := beq_eq_false_iff_ne.2 (by omega)
      have e4 : (op == 23) = false := beq_eq_false_iff_ne.2 (by omega)
      have R : regB op = true := by unfold regB; rw [e1, e2]; rfl
      have hX : shX 3 op = ⟨false, false, false, 7, 0, 0, false⟩ := by unfold shX; rw [if_pos rfl, R, f1, f2, f4, e4]; rfl
      have hB : shB 3 op = true := by unfold shB; rw [if_pos rfl, f5]
      rw [stX_of (x := Ln.mk 3 s op src dst n l) hX hB]
      simp only [nmX, agW, if_true, Bool.false_eq_true, if_false, Bool.true_and]
      rw [tm_00]
      show _ = lnV 3 s op (nonX src) (nonX dst) n l.length (nameB s) (l.all (okF 6 true)) (nmsX l) (insV op (nonX src) (nonX dst) (agX src) (agX dst) n l.length (l.all (okF 6 true)))
      unfold lnV insV
      simp only [f1, f2, f3, f4, f5, e1, e2, e3, e4, Bool.false_eq_true, if_false, if_true, Bool.or_false, Bool.false_or, Bool.true_or, Bool.or_true, beq_self_eq_true, Bool.not_true, Bool.not_false]
      generalize eqS s E0 = b0
      generalize inB n 0 7 = b1
      generalize (l.length == 0) = b2
      generalize nonX src = b3
      generalize nonX dst = b4
      cases b0 <;> cases b1 <;> cases b2 <;> cases b3 <;> cases b4 <;> rfl
    by_cases h : 17 ≤ op ∧ op ≤ 21
    · have f1 : inB op 1 6 = false := inB_f _ _ _ (by omega)
      have f2 : inB op 1 15 = false := inB_f _ _ _ (by omega)
      have f3 : inB op 7 14 = false := inB_f _ _ _ (by omega)
      have f4 : inB op 17 21 = true := inB_t _ _ _ (by omega) (by omega)
      have f5 : inB op 1 23 = true := inB_t _ _ _ (by omega) (by omega)
      have e1 : (op == 15) = false := beq_eq_false_iff_ne.2 (by omega)
      have e2 : (op == 16) = false := beq_eq_false_iff_ne.2 (by omega)
      have e3 : (op == 22) = false := beq_eq_false_iff_ne.2 (by omega)
      have e4 : (op == 23) = false := beq_eq_false_iff_ne.2 (by omega)
      have R : regB op = false := by unfold regB; rw [e1, e2]; rfl
      have hX : shX 3 op = ⟨false, false, false, 0, 1, 1, false⟩ := by unfold shX; rw [if_pos rfl, R, f1, f2, f4, e4]; rfl
      have hB : shB 3 op = true := by unfold shB; rw [if_pos rfl, f5]
      rw [stX_of (x := Ln.mk 3 s op src dst n l) hX hB]
      simp only [nmX, agW, if_true, Bool.false_eq_true, if_false, Bool.true_and]
      rw [n00, tm_11]
      show _ = lnV 3 s op (nonX src) (nonX dst) n l.length (nameB s) (l.all (okF 6 true)) (nmsX l) (insV op (nonX src) (nonX dst) (agX src) (agX dst) n l.length (l.all (okF 6 true)))
      unfold lnV insV
      simp only [f1, f2, f3, f4, f5, e1, e2, e3, e4, Bool.false_eq_true, if_false, if_true, Bool.or_false, Bool.false_or, Bool.true_or, Bool.or_true, beq_self_eq_true, Bool.not_true, Bool.not_false]
      generalize eqS s E0 = b0
      generalize (n == 0) = b1
      generalize (l.length == 1) = b2
      generalize l.all (okF 6 true) = b3
      generalize nonX src = b4
      generalize nonX dst = b5
      cases b0 <;> cases b1 <;> cases b2 <;> cases b3 <;> cases b4 <;> cases b5 <;> rfl
    by_cases h : op = 22
    · have f1 : inB op 1 6 = false := inB_f _ _ _ (by omega)
      have f2 : inB op 1 15 = false := inB_f _ _ _ (by omega)
      have f3 : inB op 7 14 = false := inB_f _ _ _ (by omega)
      have f4 : inB op 17 21 = false := inB_f _ _ _ (by omega)
      have f5 : inB op 1 23 = true := inB_t _ _ _ (by omega) (by omega)
      have e1 : (op == 15) = false := beq_eq_false_iff_ne.2 (by omega)
      have e2 : (op == 16) = false := beq_eq_false_iff_ne.2 (by omega)
      have e3 : (op == 22) = true := by rw [h]; rfl
      have e4 : (op == 23) = false := beq_eq_false_iff_ne.2 (by omega)
      have R : regB op = false := by unfold regB; rw [e1, e2]; rfl
      have hX : shX 3 op = ⟨false, false, false, 0, 0, 0, false⟩ := by unfold shX; rw [if_pos rfl, R, f1, f2, f4, e4]; rfl
      have hB : shB 3 op = true := by unfold shB; rw [if_pos rfl, f5]
      rw [stX_of (x := Ln.mk 3 s op src dst n l) hX hB]
      simp only [nmX, agW, if_true, Bool.false_eq_true, if_false, Bool.true_and]
      rw [n00, tm_00]
      show _ = lnV 3 s op (nonX src) (nonX dst) n l.length (nameB s) (l.all (okF 6 true)) (nmsX l) (insV op (nonX src) (nonX dst) (agX src) (agX dst) n l.length (l.all (okF 6 true)))
      unfold lnV insV
      simp only [f1, f2, f3, f4, f5, e1, e2, e3, e4, Bool.false_eq_true, if_false, if_true, Bool.or_false, Bool.false_or, Bool.true_or, Bool.or_true, beq_self_eq_true, Bool.not_true, Bool.not_false]
      generalize eqS s E0 = b0
      generalize (n == 0) = b1
      generalize (l.length == 0) = b2
      generalize nonX src = b3
      generalize nonX dst = b4
      cases b0 <;> cases b1 <;> cases b2 <;> cases b3 <;> cases b4 <;> rfl
    by_cases h : op = 23
    · have f1 : inB op 1 6 = false := inB_f _ _ _ (by omega)
      have f2 : inB op 1 15 = false := inB_f _ _ _ (by omega)
      have f3 : inB op 7 14 = false := inB_f _ _ _ (by omega)
      have f4 : inB op 17 21 = false := inB_f _ _ _ (by omega)
      have f5 : inB op 1 23 = true := inB_t _ _ _ (by omega) (by omega)
      have e1 : (op == 15) = false := beq_eq_false_iff_ne.2 (by omega)
      have e2 : (op == 16) = false := beq_eq_false_iff_ne.2 (by omega)
      have e3 : (op == 22) = false := beq_eq_false_iff_ne.2 (by omega)
      have e4 : (op == 23) = true := by rw [h]; rfl
      have R : regB op = false := by unfold regB; rw [e1, e2]; rfl
      have hX : shX 3 op = ⟨false, false, false, 0, 1, 1, false⟩ := by unfold shX; rw [if_pos rfl, R, f1, f2, f4, e4]; rfl
      have hB : shB 3 op = true := by unfold shB; rw [if_pos rfl, f5]
      rw [stX_of (x := Ln.mk 3 s op src dst n l) hX hB]
      simp only [nmX, agW, if_true, Bool.false_eq_true, if_false, Bool.true_and]
      rw [n00, tm_11]
      show _ = lnV 3 s op (nonX src) (nonX dst) n l.length (nameB s) (l.all (okF 6 true)) (nmsX l) (insV op (nonX src) (nonX dst) (agX src) (agX dst) n l.length (l.all (okF 6 true)))
      unfold lnV insV
      simp only [f1, f2, f3, f4, f5, e1, e2, e3, e4, Bool.false_eq_true, if_false, if_true, Bool.or_false, Bool.false_or, Bool.true_or, Bool.or_true, beq_self_eq_true, Bool.not_true, Bool.not_false]
      generalize eqS s E0 = b0
      generalize (n == 0) = b1
      generalize (l.length == 1) = b2
      generalize l.all (okF 6 true) = b3
      generalize nonX src = b4
      generalize nonX dst = b5
      cases b0 <;> cases b1 <;> cases b2 <;> cases b3 <;> cases b4 <;> cases b5 <;> rfl
    have f1 : inB op 1 6 = false := inB_f _ _ _ (by omega)
    have f2 : inB op 1 15 = false := inB_f _ _ _ (by omega)
    have f3 : inB op 7 14 = false := inB_f _ _ _ (by omega)
    have f4 : inB op 17 21 = false := inB_f _ _ _ (by omega)
    have f5 : inB op 1 23 = false := inB_f _ _ _ (by omega)
    have e1 : (op == 15) = false := beq_eq_false_iff_ne.2 (by omega)
    have e2 : (op == 16) = false := beq_eq_false_iff_ne.2 (by omega)
    have e3 : (op == 22) = false := beq_eq_false_iff_ne.2 (by omega)
    have e4 : (op == 23) = false := beq_eq_false_iff_ne.2 (by omega)
    have hB : shB 3 op = false := by unfold shB; rw [if_pos rfl, f5]
    rw [stX_of (x := Ln.mk 3 s op src dst n l) rfl hB, Bool.false_and]
    show _ = lnV 3 s op (nonX src) (nonX dst) n l.length (nameB s) (l.all (okF 6 true)) (nmsX l) (insV op (nonX src) (nonX dst) (agX src) (agX dst) n l.length (l.all (okF 6 true)))
    unfold lnV insV
    simp only [f1, f2, f3, f4, f5, e1, e2, e3, e4, Bool.false_eq_true, if_false, if_true, Bool.or_false, beq_self_eq_true]
    generalize eqS s E0 = b0
    generalize nonX src = b1
    generalize nonX dst = b2
    cases b0 <;> cases b1 <;> cases b2 <;> rfl
  by_cases ho : op = 0
  · subst ho
    by_cases h0 : k = 0
    · subst h0
      have hX : shX 0 0 = ⟨false, false, false, 0, 0, 0, false⟩ := rfl
      have hB : shB 0 0 = true := rfl
      have g0 : ((0 : Int) == 0) = true := by decide
      have g1 : ((0 : Int) == 1) = false := by decide
      have g2 : ((0 : Int) == 2) = false := by decide
      have g3 : ((0 : Int) == 3) = false := by decide
      have g4 : ((0 : Int) == 4) = false := by decide
      have g5 : ((0 : Int) == 5) = false := by decide
      have g6 : ((0 : Int) == 6) = false := by decide
      have g7 : ((0 : Int) == 7) = false := by decide
      have g8 : ((0 : Int) == 8) = false := by decide
      rw [stX_of (x := Ln.mk 0 s 0 src dst n l) hX hB]
      simp only [nmX, agW, if_true, Bool.false_eq_true, if_false, Bool.true_and]
      rw [n00, tm_00]
      show _ = lnV 0 s 0 (nonX src) (nonX dst) n l.length (nameB s) (l.all (okF 6 true)) (nmsX l) (insV 0 (nonX src) (nonX dst) (agX src) (agX dst) n l.length (l.all (okF 6 true)))
      unfold lnV insV
      simp only [g0, g1, g2, g3, g4, g5, g6, g7, g8, Bool.false_eq_true, if_false, if_true, Bool.or_false, Bool.false_or, Bool.true_or, Bool.or_true, beq_self_eq_true, Bool.not_true, Bool.not_false]
      generalize eqS s E0 = b0
      generalize (n == 0) = b1
      generalize (l.length == 0) = b2
      generalize nonX src = b3
      generalize nonX dst = b4
      cases b0 <;> cases b1 <;> cases b2 <;> cases b3 <;> cases b4 <;> rfl
    by_cases h8 : k = 8
    · subst h8
      have hX : shX 8 0 = ⟨false, false, false, 0, 0, 0, false⟩ := rfl
      have hB : shB 8 0 = true := rfl
      have g0 : ((8 : Int) == 0) = false := by decide
      have g1 : ((8 : Int) == 1) = false := by decide
      have g2 : ((8 : Int) == 2) = false := by decide
      have g3 : ((8 : Int) == 3) = false := by decide
      have g4 : ((8 : Int) == 4) = false := by decide
      have g5 : ((8 : Int) == 5) = false := by decide
      have g6 : ((8 : Int) == 6) = false := by decide
      have g7 : ((8 : Int) == 7) = false := by decide
      have g8 : ((8 : Int) == 8) = true := by decide
      rw [stX_of (x := Ln.mk 8 s 0 src dst n l) hX hB]
      simp only [nmX, agW, if_true, Bool.false_eq_true, if_false, Bool.true_and]
      rw [n00, tm_00]
      show _ = lnV 8 s 0 (nonX src) (nonX dst) n l.length (nameB s) (l.all (okF 6 true)) (nmsX l) (insV 0 (nonX src) (nonX dst) (agX src) (agX dst) n l.length (l.all (okF 6 true)))
      unfold lnV insV
      simp only [g0, g1, g2, g3, g4, g5, g6, g7, g8, Bool.false_eq_true, if_false, if_true, Bool.or_false, Bool.false_or, Bool.true_or, Bool.or_true, beq_self_eq_true, Bool.not_true, Bool.not_false]
      generalize eqS s E0 = b0
      generalize (n == 0) = b1
      generalize (l.length == 0) = b2
      generalize nonX src = b3
      generalize nonX dst = b4
      cases b0 <;> cases b1 <;> cases b2 <;> cases b3 <;> cases b4 <;> rfl
    by_cases h1 : k = 1
    · subst h1
      have hX : shX 1 0 = ⟨true, false, false, 0, 0, 0, false⟩ := rfl
      have hB : shB 1 0 = true := rfl
      have g0 : ((1 : Int) == 0) = false := by decide
      have g1 : ((1 : Int) == 1) = true := by decide
      have g2 : ((1 : Int) == 2) = false := by decide
      have g3 : ((1 : Int) == 3) = false := by decide
      have g4 : ((1 : Int) == 4) = false := by decide
      have g5 : ((1 : Int) == 5) = false := by decide
      have g6 : ((1 : Int) == 6) = false := by decide
      have g7 : ((1 : Int) == 7) = false := by decide
      have g8 : ((1 : Int) == 8) = false := by decide
      rw [stX_of (x := Ln.mk 1 s 0 src dst n l) hX hB]
      simp only [nmX, agW, if_true, Bool.false_eq_true, if_false, Bool.true_and]
      rw [n00, tm_00]
      show _ = lnV 1 s 0 (nonX src) (nonX dst) n l.length (nameB s) (l.all (okF 6 true)) (nmsX l) (insV 0 (nonX src) (nonX dst) (agX src) (agX dst) n l.length (l.all (okF 6 true)))
      unfold lnV insV
      simp only [g0, g1, g2, g3, g4, g5, g6, g7, g8, Bool.false_eq_true, if_false, if_true, Bool.or_false, Bool.false_or, Bool.true_or, Bool.or_true, beq_self_eq_true, Bool.not_true, Bool.not_false]
      generalize nameB s = b0
      generalize (n == 0) = b1
      generalize (l.length == 0) = b2
      generalize nonX src = b3
      generalize nonX dst = b4
      cases b0 <;> cases b1 <;> cases b2 <;> cases b3 <;> cases b4 <;> rfl
    by_cases h2 : k = 2
    · subst h2
      have hX : shX 2 0 = ⟨true, false, false, 0, 1, 1, false⟩ := rfl
      have hB : shB 2 0 = true := rfl
      have g0 : ((2 : Int) == 0) = false := by decide
      have g1 : ((2 : Int) == 1) = false := by decide
      have g2 : ((2 : Int) == 2) = true := by decide
      have g3 : ((2 : Int) == 3) = false := by decide
      have g4 : ((2 : Int) == 4) = false := by decide
      have g5 : ((2 : Int) == 5) = false := by decide
      have g6 : ((2 : Int) == 6) = false := by decide
      have g7 : ((2 : Int) == 7) = false := by decide
      have g8 : ((2 : Int) == 8) = false := by decide
      rw [stX_of (x := Ln.mk 2 s 0 src dst n l) hX hB]
      simp only [nmX, agW, if_true, Bool.false_eq_true, if_false, Bool.true_and]
      rw [n00, tm_11]
      show _ = lnV 2 s 0 (nonX src) (nonX dst) n l.length (nameB s) (l.all (okF 6 true)) (nmsX l) (insV 0 (nonX src) (nonX dst) (agX src) (agX dst) n l.length (l.all (okF 6 true)))
      unfold lnV insV
      simp only [g0, g1, g2, g3, g4, g5, g6, g7, g8, Bool.false_eq_true, if_false, if_true, Bool.or_false, Bool.false_or, Bool.true_or, Bool.or_true, beq_self_eq_true, Bool.not_true, Bool.not_false]
      generalize nameB s = b0
      generalize (n == 0) = b1
      generalize (l.length == 1) = b2
      generalize l.all (okF 6 true) = b3
      generalize nonX src = b4
      generalize nonX dst = b5
      cases b0 <;> cases b1 <;> cases b2 <;> cases b3 <;> cases b4 <;> cases b5 <;> rfl
    by_cases h4 : k = 4
    · subst h4
      have hX : shX 4 0 = ⟨false, false, false, 0, 1, 6, false⟩ := rfl
      have hB : shB 4 0 = true := rfl
      have g0 : ((4 : Int) == 0) = false := by decide
      have g1 : ((4 : Int) == 1) = false := by decide
      have g2 : ((4 : Int) == 2) = false := by decide
      have g3 : ((4 : Int) == 3) = false := by decide
      have g4 : ((4 : Int) == 4) = true := by decide
      have g5 : ((4 : Int) == 5) = false := by decide
      have g6 : ((4 : Int) == 6) = false := by decide
      have g7 : ((4 : Int) == 7) = false := by decide
      have g8 : ((4 : Int) == 8) = false := by decide
      rw [stX_of (x := Ln.mk 4 s 0 src dst n l) hX hB]
      simp only [nmX, agW, if_true, Bool.false_eq_true, if_false, Bool.true_and]
      rw [n00, tm_16]
      show _ = lnV 4 s 0 (nonX src) (nonX dst) n l.length (nameB s) (l.all (okF 6 true)) (nmsX l) (insV 0 (nonX src) (nonX dst) (agX src) (agX dst) n l.length (l.all (okF 6 true)))
      unfold lnV insV
      simp only [g0, g1, g2, g3, g4, g5, g6, g7, g8, Bool.false_eq_true, if_false, if_true, Bool.or_false, Bool.false_or, Bool.true_or, Bool.or_true, beq_self_eq_true, Bool.not_true, Bool.not_false]
      generalize eqS s E0 = b0
      generalize (n == 0) = b1
      generalize inB l.length 1 6 = b2
      generalize l.all (okF 6 true) = b3
      generalize nonX src = b4
      generalize nonX dst = b5
      cases b0 <;> cases b1 <;> cases b2 <;> cases b3 <;> cases b4 <;> cases b5 <;> rfl
    by_cases h5 : k = 5
    · subst h5
      have hX : shX 5 0 = ⟨false, false, false, 0, 1, 1, false⟩ := rfl
      have hB : shB 5 0 = true := rfl
      have g0 : ((5 : Int) == 0) = false := by decide
      have g1 : ((5 : Int) == 1) = false := by decide
      have g2 : ((5 : Int) == 2) = false := by decide
      have g3 : ((5 : Int) == 3) = false := by decide
      have g4 : ((5 : Int) == 4) = false := by decide
      have g5 : ((5 : Int) == 5) = true := by decide
      have g6 : ((5 : Int) == 6) = false := by decide
      have g7 : ((5 : Int) == 7) = false := by decide
      have g8 : ((5 : Int) == 8) = false := by decide
      rw [stX_of (x := Ln.mk 5 s 0 src dst n l) hX hB]
      simp only [nmX, agW, if_true, Bool.false_eq_true, if_false, Bool.true_and]
      rw [n00, tm_11]
      show _ = lnV 5 s 0 (nonX src) (nonX dst) n l.length (nameB s) (l.all (okF 6 true)) (nmsX l) (insV 0 (nonX src) (nonX dst) (agX src) (agX dst) n l.length (l.all (okF 6 true)))
      unfold lnV insV
      simp only [g0, g1, g2, g3, g4, g5, g6, g7, g8, Bool.false_eq_true, if_false, if_true, Bool.or_false, Bool.false_or, Bool.true_or, Bool.or_true, beq_self_eq_true, Bool.not_true, Bool.not_false]
      generalize eqS s E0 = b0
      generalize (n == 0) = b1
      generalize (l.length == 1) = b2
      generalize l.all (okF 6 true) = b3
      generalize nonX src = b4
      generalize nonX dst = b5
      cases b0 <;> cases b1 <;> cases b2 <;> cases b3 <;> cases b4 <;> cases b5 <;> rfl
    by_cases h6 : k = 6
    · subst h6
      have hX : shX 6 0 = ⟨true, false, false, 1, 0, 0, false⟩ := rfl
      have hB : shB 6 0 = true := rfl
      have g0 : ((6 : Int) == 0) = false := by decide
      have g1 : ((6 : Int) == 1) = false := by decide
      have g2 : ((6 : Int) == 2) = false := by decide
      have g3 : ((6 : Int) == 3) = false := by decide
      have g4 : ((6 : Int) == 4) = false := by decide
      have g5 : ((6 : Int) == 5) = false := by decide
      have g6 : ((6 : Int) == 6) = true := by decide
      have g7 : ((6 : Int) == 7) = false := by decide
      have g8 : ((6 : Int) == 8) = false := by decide
      rw [stX_of (x := Ln.mk 6 s 0 src dst n l) hX hB]
      simp only [nmX, agW, if_true, Bool.false_eq_true, if_false, Bool.true_and]
      rw [tm_00]
      show _ = lnV 6 s 0 (nonX src) (nonX dst) n l.length (nameB s) (l.all (okF 6 true)) (nmsX l) (insV 0 (nonX src) (nonX dst) (agX src) (agX dst) n l.length (l.all (okF 6 true)))
      unfold lnV insV
      simp only [g0, g1, g2, g3, g4, g5, g6, g7, g8, Bool.false_eq_true, if_false, if_true, Bool.or_false, Bool.false_or, Bool.true_or, Bool.or_true, beq_self_eq_true, Bool.not_true, Bool.not_false]
      generalize nameB s = b0
      generalize inB n 0 1 = b1
      generalize (l.length == 0) = b2
      generalize nonX src = b3
      generalize nonX dst = b4
      cases b0 <;> cases b1 <;> cases b2 <;> cases b3 <;> cases b4 <;> rfl
    by_cases h7 : k = 7
    · subst h7
      have hX : shX 7 0 = ⟨false, false, false, 0, 1, 6, true⟩ := rfl
      have hB : shB 7 0 = true := rfl
      have g0 : ((7 : Int) == 0) = false := by decide
      have g1 : ((7 : Int) == 1) = false := by decide
      have g2 : ((7 : Int) == 2) = false := by decide
      have g3 : ((7 : Int) == 3) = false := by decide
      have g4 : ((7 : Int) == 4) = false := by decide
      have g5 : ((7 : Int) == 5) = false := by decide
      have g6 : ((7 : Int) == 6) = false := by decide
      have g7 : ((7 : Int) == 7) = true := by decide
      have g8 : ((7 : Int) == 8) = false := by decide
      rw [stX_of (x := Ln.mk 7 s 0 src dst n l) hX hB]
      simp only [nmX, agW, if_true, Bool.false_eq_true, if_false, Bool.true_and]
      rw [n00, tm_16n]
      show _ = lnV 7 s 0 (nonX src) (nonX dst) n l.length (nameB s) (l.all (okF 6 true)) (nmsX l) (insV 0 (nonX src) (nonX dst) (agX src) (agX dst) n l.length (l.all (okF 6 true)))
      unfold lnV insV
      simp only [g0, g1, g2, g3, g4, g5, g6, g7, g8, Bool.false_eq_true, if_false, if_true, Bool.or_false, Bool.false_or, Bool.true_or, Bool.or_true, beq_self_eq_true, Bool.not_true, Bool.not_false]
      generalize eqS s E0 = b0
      generalize (n == 0) = b1
      generalize nmsX l = b2
      generalize nonX src = b3
      generalize nonX dst = b4
      cases b0 <;> cases b1 <;> cases b2 <;> cases b3 <;> cases b4 <;> rfl
    have hB : shB k 0 = false := by unfold shB; rw [if_neg hk, if_pos rfl]; exact inB_f _ _ _ (by omega)
    have g0 : (k == 0) = false := beq_eq_false_iff_ne.2 h0
    have g1 : (k == 1) = false := beq_eq_false_iff_ne.2 h1
    have g2 : (k == 2) = false := beq_eq_false_iff_ne.2 h2
    have g3 : (k == 3) = false := beq_eq_false_iff_ne.2 hk
    have g4 : (k == 4) = false := beq_eq_false_iff_ne.2 h4
    have g5 : (k == 5) = false := beq_eq_false_iff_ne.2 h5
    have g6 : (k == 6) = false := beq_eq_false_iff_ne.2 h6
    have g7 : (k == 7) = false := beq_eq_false_iff_ne.2 h7
    have g8 : (k == 8) = false := beq_eq_false_iff_ne.2 h8
    rw [stX_of (x := Ln.mk k s 0 src dst n l) rfl hB, Bool.false_and]
    show _ = lnV k s 0 (nonX src) (nonX dst) n l.length (nameB s) (l.all (okF 6 true)) (nmsX l) (insX ⟨k, s, 0, src, dst, n, l⟩)
    unfold lnV
    simp only [g0, g1, g2, g3, g4, g5, g6, g7, g8, Bool.false_eq_true, if_false, Bool.or_false]
    generalize nonX src = b1
    generalize nonX dst = b2
    cases b1 <;> cases b2 <;> rfl
  have hB : shB k op = false := by unfold shB; rw [if_neg hk, if_neg ho]
  have g3 : (k == 3) = false := beq_eq_false_iff_ne.2 hk
  have g0 : (op == 0) = false := beq_eq_false_iff_ne.2 ho
  rw [stX_of (x := Ln.mk k s op src dst n l) rfl hB, Bool.false_and]
  show _ = lnV k s op (nonX src) (nonX dst) n l.length (nameB s) (l.all (okF 6 true)) (nmsX l) (insX ⟨k, s, op, src, dst, n, l⟩)
  unfold lnV
  simp only [g0, g3, Bool.false_eq_true, if_false, Bool.not_false, Bool.true_or, if_true]
end Go.Proofs.YtmhcbehplhfgfaaDoor

namespace Go.Proofs.YtmhcbehplhfgfaaDoor
open Go.ChangeShapes Go.WideShapes Go.ChangeAt Go.RowKit
set_option linter.unusedVariables false
set_option maxRecDepth 8000
set_option linter.unusedSimpArgs false

theorem szMt : (Tryd.prog.info? 65).map (·.size) = some 6 := by kernel_rfl
theorem mt_one (k : Int) (s : ByteArray) (op n : Int) (a : Option Addr) (i j : Nat) (b : Option Addr) (u v : Nat) : (#[.int .i64 k, .string s, .int .i64 op, .int .i64 n, .slice a i j, .slice b u v] : Array Value).all (·.oneCell') = true := by simp [Value.oneCell']
theorem OwnA.slice {w : World} {B : Nat} {v : Value} {l : List Op3} (h : OwnA w B v l) : ∃ a c, v = .slice a l.length c := by
  obtain ⟨_, ⟨h1, h2⟩ | ⟨g, cap, cur, rfl, hg, hh, hn, hm, r⟩⟩ := h
  · exact ⟨none, 0, by rw [h1, h2]⟩
  · exact ⟨_, _, rfl⟩
theorem OwnV.slice {w : World} {B : Nat} {v : Value} {l : List Value} (h : OwnV w B v l) : ∃ a c, v = .slice a l.length c := by
  obtain ⟨_, ⟨h1, h2⟩ | ⟨g, cap, cur, rfl, hg, hh, hn, hm, r⟩⟩ := h
  · exact ⟨none, 0, by rw [h1, h2]⟩
  · exact ⟨_, _, rfl⟩
theorem ownA_row {w : World} {B g : Nat} {v : Value} {l : List Op3} {cs old : Array Value} {ty : TypeId} (h : OwnA w B v l) (hg : w.heap[g]? = some (.cells old ty (0, 0))) (hne : ty ≠ 54) : OwnA (w.setRow g cs) B v l := by
  obtain ⟨h1, h2 | ⟨g', cap, cur, e, hg', hh, r⟩⟩ := h
  · exact ⟨h1, .inl h2⟩
  · refine ⟨h1, .inr ⟨g', cap, cur, e, hg', (setRow_other _ _ _ _ ?_).trans hh, r⟩⟩
    intro hq
    rw [hq, hg] at hh
    injection hh with hh
    injection hh with _ hh
    exact hne hh
theorem ownV_row {w : World} {B g : Nat} {v : Value} {l : List Value} {cs old : Array Value} {ty : TypeId} (h : OwnV w B v l) (hg : w.heap[g]? = some (.cells old ty (0, 0))) (hne : ty ≠ 52) : OwnV (w.setRow g cs) B v l := by
  obtain ⟨h1, h2 | ⟨g', cap, cur, e, hg', hh, r⟩⟩ := h
  · exact ⟨h1, .inl h2⟩
  · refine ⟨h1, .inr ⟨g', cap, cur, e, hg', (setRow_other _ _ _ _ ?_).trans hh, r⟩⟩
    intro hq
    rw [hq, hg] at hh
    injection hh with hh
    injection hh with _ hh
    exact hne hh
/-- A statement of the program. -/
structure Mt where
  k : Int
  s : ByteArray
  op : Int
  n : Int
  a : Option Addr
  an : Nat
  ac : Nat
  t : Option Addr
  tn : Nat
  tc : Nat
def Mt.cs (m : Mt) : Array Value := #[.int .i64 m.k, .string m.s, .int .i64 m.op, .int .i64 m.n, .slice m.a m.an m.ac, .slice m.t m.tn m.tc]
/-- The operands that a line has, as the program holds them. -/
def lnO (x : Ln) : List Op3 := opsL (shX x.k x.op).src x.src ++ opsL (shX x.k x.op).dst x.dst
/-- A statement that holds what a line tells. -/
structure RdM (w : World) (B : Nat) (x : Ln) (m : Mt) : Prop where
  k : m.k = x.k
  s : m.s = x.s
  op : m.op = x.op
  n : m.n = x.n
  a : OwnA w B (.slice m.a m.an m.ac) (lnO x)
  t : OwnV w B (.slice m.t m.tn m.tc) (x.l.map tv)
/-- What statementOf answers. -/
def StR (x : Ln) (w : World) (r : Ending) (w' : World) : Prop := ∃ m : Mt, r = .returned (.tuple #[.agg m.cs, .bool (lnX x)]) ∧ (lnX x = true → RdM w' w.heap.size x m) ∧ Below w.heap.size w w'
set_option maxHeartbeats 8000000 in
theorem stmI_any (x : Ln) (p : La) (w : World) (hr : RdL w x p) (hz : SzL x) (ht : TabA w) : Calls Tryd.prog 32 #[.agg (x.cs p)] w (StR x w) := by
  have F0 := hide (fun (r : Ending) (w' : World) (h : stX x = false) (hr : r = .returned (.tuple #[.agg #[.int .i64 0, .string ⟨#[]⟩, .int .i64 0, .int .i64 0, .slice none 0 0, .slice none 0 0], .bool false])) (hb : Below w.heap.size w w') => (show StR x w r w' from ⟨⟨0, ⟨#[]⟩, 0, 0, none, 0, 0, none, 0, 0⟩, by rw [← st_eq, h]; exact hr, (fun e => by rw [← st_eq, h] at e; cases e), hb⟩))
  have F1 := hide (fun (r : Ending) (w' : World) (e1 : Option Addr) (i1 j1 : Nat) (e2 : Option Addr) (i2 j2 : Nat) (h : stX x = true) (hr : r = .returned (.tuple #[.agg #[.int .i64 x.k, .string x.s, .int .i64 x.op, .int .i64 x.n, .slice e1 i1 j1, .slice e2 i2 j2], .bool true])) (ho : OwnA w' w.heap.size (.slice e1 i1 j1) (lnO x)) (hv : OwnV w' w.heap.size (.slice e2 i2 j2) (x.l.map tv)) (hb : Below w.heap.size w w') => (show StR x w r w' from ⟨⟨x.k, x.s, x.op, x.n, e1, i1, j1, e2, i2, j2⟩, by rw [← st_eq, h]; exact hr, fun _ => ⟨rfl, rfl, rfl, rfl, ho, hv⟩, hb⟩))
  have SH := hide (fun w1 => shpI_any x.k x.op w1)
  have NM := hide (fun w1 (h : Below w.heap.size w w1) => nmfI_any (shX x.k x.op) x.s w1 (by have := hz.s; omega) (ht.next h).k)
  have NB := hide (fun w1 => nbfI_any (shX x.k x.op) x.n w1)
  have OP := hide (fun w1 (h : Below w.heap.size w w1) => opsI_any (shX x.k x.op) x.src x.dst p.b1 p.c1 p.b2 p.c2 w1 (hr.later h).a hz.a (hr.later h).b hz.b (ht.next h))
  have TM := hide (fun w1 (h : Below w.heap.size w w1) => ptmI_any (shX x.k x.op) x.l p.b3 x.l.length p.c3 w1 rfl hz.l hz.p (hr.later h).l (ht.next h).k)
  clear hr hz ht
  obtain ⟨b1, c1, b2, c2, b3, c3⟩ := p
  unfold stX at F0 F1
  unfold lnO at F1
  unfold OpsR at OP
  unfold TmsR at TM
  generalize StR x w = R at *
  generalize shB x.k x.op = q1 at *
  generalize shX x.k x.op = SS at *
  obtain ⟨a1, a2, a3, a4, a5, a6, a7⟩ := SS
  unfold Sh.cs at SH NM NB OP TM
  simp only at SH NM NB OP TM F0 F1
  generalize nmX a1 x.s = q2 at *
  generalize inB x.n 0 a4 = q3 at *
  generalize (agW a2 x.src && agW a3 x.dst) = q4 at *
  generalize tmX ⟨a1, a2, a3, a4, a5, a6, a7⟩ x.l = q5 at *
  generalize opsL a2 x.src ++ opsL a3 x.dst = LO at *
  generalize x.l.map tv = LV at *
  unfold Ag.cs at OP
  unfold Ln.cs
  simp only at OP TM ⊢
  generalize x.src.f = sf at *
  generalize x.src.r = sr at *
  generalize x.src.e.k = sk at *
  generalize x.src.e.n = sn at *
  generalize x.src.e.s = ss at *
  generalize x.src.e.l.length = sl at *
  generalize x.dst.f = df at *
  generalize x.dst.r = dr at *
  generalize x.dst.e.k = dk at *
  generalize x.dst.e.n = dn at *
  generalize x.dst.e.s = ds at *
  generalize x.dst.e.l.length = dl at *
  generalize x.k = k at *
  generalize x.s = s at *
  generalize x.op = op at *
  generalize x.n = n at *
  generalize x.l.length = ll at *
  obtain ⟨V, hV⟩ : ∃ V, w.alloc (.cells #[.int .i64 k, .string s, .int .i64 op, .int .i64 sf, .int .i64 sr, .int .i64 sk, .int .i64 sn, .string ss, .slice b1 sl c1, .int .i64 df, .int .i64 dr, .int .i64 dk, .int .i64 dn, .string ds, .slice b2 dl c2, .int .i64 n, .slice b3 ll c3] 42) = V := ⟨_, rfl⟩
  have bV : Below w.heap.size w V := by rw [← hV]; exact below_new _ _
  have rX : V.heap[w.heap.size]? = some (.cells #[.int .i64 k, .string s, .int .i64 op, .int .i64 sf, .int .i64 sr, .int .i64 sk, .int .i64 sn, .string ss, .slice b1 sl c1, .int .i64 df, .int .i64 dr, .int .i64 dk, .int .i64 dn, .string ds, .slice b2 dl c2, .int .i64 n, .slice b3 ll c3] 42 (0, 0)) := by rw [← hV]; exact Array.getElem?_push_size
  have VL := hide bV.size
  obtain ⟨W, hW⟩ : ∃ W, V.alloc (.cells #[.int .i64 0, .string ⟨#[]⟩, .int .i64 0, .int .i64 0, .slice none 0 0, .slice none 0 0] 65) = W := ⟨_, rfl⟩
  have bW : Below V.heap.size V W := by rw [← hW]; exact below_new _ _
  have rZ : W.heap[V.heap.size]? = some (.cells #[.int .i64 0, .string ⟨#[]⟩, .int .i64 0, .int .i64 0, .slice none 0 0, .slice none 0 0] 65 (0, 0)) := by rw [← hW]; exact Array.getElem?_push_size
  have rX := row_keep rX bW
  have hbW : Below w.heap.size w W := bV.trans (bW.mono bV.size)
  have x0 := Lib.cell_of_heap rX 0
  have x2 := Lib.cell_of_heap rX 2
  have RX := hide rX
  have RZ := hide rZ
  have BW := hide hbW
  have S1 := hide (unhide SH W)
  clear bV bW rX rZ hbW SH
  go_enter Tryd.func32, Tryd.ntmps32
  go_wp2_with fail
  refine (unhide S1).mono ?_
  rintro r w1 ⟨rfl, hb⟩
  obtain ⟨U, hU⟩ : ∃ U, w1.alloc (.cells #[.bool a1, .bool a2, .bool a3, .int .i64 a4, .int .i64 a5, .int .i64 a6, .bool a7] 82) = U := ⟨_, rfl⟩
  have bU : Below w1.heap.size w1 U := by rw [← hU]; exact below_new _ _
  have rS : U.heap[w1.heap.size]? = some (.cells #[.bool a1, .bool a2, .bool a3, .int .i64 a4, .int .i64 a5, .int .i64 a6, .bool a7] 82 (0, 0)) := by rw [← hU]; exact Array.getElem?_push_size
  have rX := row_keep (row_keep (unhide RX) hb) bU
  have rZ := row_keep (row_keep (unhide RZ) hb) bU
  have hbU : Below w.heap.size w U := ((unhide BW).trans (hb.mono (unhide BW).size)).trans (bU.mono (Nat.le_trans (unhide BW).size hb.size))
  have lX := (Array.getElem?_eq_some_iff.1 rX).1
  have lZ := (Array.getElem?_eq_some_iff.1 rZ).1
  have lS := (Array.getElem?_eq_some_iff.1 rS).1
  have BY := hide (fun y : Sub U.heap.size U => hbU.trans (y.h.mono hbU.size))
  have RY := hide (fun y : Sub U.heap.size U => (y.h.block _ lZ).trans rZ)
  have SY := hide (fun y : Sub U.heap.size U => (y.h.block _ lS).trans rS)
  have ne := Sub.ne U.heap.size U
  have HZ := hide (Nat.le_refl U.heap.size)
  have NV := hide (show V.heap.size ≠ w1.heap.size by have := (Array.getElem?_eq_some_iff.1 (row_keep (unhide RZ) hb)).1; omega)
  have E0 : ∀ y : Sub U.heap.size U, y.w.cell? ⟨w.heap.size, 0, none⟩ = some (.int .i64 k) := fun y => (y.h.cell (p := ⟨w.heap.size, 0, none⟩) lX).trans (Lib.cell_of_heap rX 0)
  have E1 : ∀ y : Sub U.heap.size U, y.w.cell? ⟨w.heap.size, 1, none⟩ = some (.string s) := fun y => (y.h.cell (p := ⟨w.heap.size, 1, none⟩) lX).trans (Lib.cell_of_heap rX 1)
  have E2 : ∀ y : Sub U.heap.size U, y.w.cell? ⟨w.heap.size, 2, none⟩ = some (.int .i64 op) := fun y => (y.h.cell (p := ⟨w.heap.size, 2, none⟩) lX).trans (Lib.cell_of_heap rX 2)
  have E3 : ∀ y : Sub U.heap.size U, y.w.cell? ⟨w.heap.size, 3, none⟩ = some (.int .i64 sf) := fun y => (y.h.cell (p := ⟨w.heap.size, 3, none⟩) lX).trans (Lib.cell_of_heap rX 3)
  have E4 : ∀ y : Sub U.heap.size U, y.w.cell? ⟨w.heap.size, 4, none⟩ = some (.int .i64 sr) := fun y => (y.h.cell (p := ⟨w.heap.size, 4, none⟩) lX).trans (Lib.cell_of_heap rX 4)
  have E5 : ∀ y : Sub U.heap.size U, y.w.cell? ⟨w.heap.size, 5, none⟩ = some (.int .i64 sk) := fun y => (y.h.cell (p := ⟨w.heap.size, 5, none⟩) lX).trans (Lib.cell_of_heap rX 5)
  have E6 : ∀ y : Sub U.heap.size U, y.w.cell? ⟨w.heap.size, 6, none⟩ = some (.int .i64 sn) := fun y => (y.h.cell (p := ⟨w.heap.size, 6, none⟩) lX).trans (Lib.cell_of_heap rX 6)
  have E7 : ∀ y : Sub U.heap.size U, y.w.cell? ⟨w.heap.size, 7, none⟩ = some (.string ss) := fun y => (y.h.cell (p := ⟨w.heap.size, 7, none⟩) lX).trans (Lib.cell_of_heap rX 7)
  have E8 : ∀ y : Sub U.heap.size U, y.w.cell? ⟨w.heap.size, 8, none⟩ = some (.slice b1 sl c1) := fun y => (y.h.cell (p := ⟨w.heap.size, 8, none⟩) lX).trans (Lib.cell_of_heap rX 8)
  have E9 : ∀ y : Sub U.heap.size U, y.w.cell? ⟨w.heap.size, 9, none⟩ = some (.int .i64 df) := fun y => (y.h.cell (p := ⟨w.heap.size, 9, none⟩) lX).trans (Lib.cell_of_heap rX 9)
  have E10 : ∀ y : Sub U.heap.size U, y.w.cell? ⟨w.heap.size, 10, none⟩ = some (.int .i64 dr) := fun y => (y.h.cell (p := ⟨w.heap.size, 10, none⟩) lX).trans (Lib.cell_of_heap rX 10)
  have E11 : ∀ y : Sub U.heap.size U, y.w.cell? ⟨w.heap.size, 11, none⟩ = some (.int .i64 dk) := fun y => (y.h.cell (p := ⟨w.heap.size, 11, none⟩) lX).trans (Lib.cell_of_heap rX 11)
  have E12 : ∀ y : Sub U.heap.size U, y.w.cell? ⟨w.heap.size, 12, none⟩ = some (.int .i64 dn) := fun y => (y.h.cell (p := ⟨w.heap.size, 12, none⟩) lX).trans (Lib.cell_of_heap rX 12)
  have E13 : ∀ y : Sub U.heap.size U, y.w.cell? ⟨w.heap.size, 13, none⟩ = some (.string ds) := fun y => (y.h.cell (p := ⟨w.heap.size, 13, none⟩) lX).trans (Lib.cell_of_heap rX 13)
  have E14 : ∀ y : Sub U.heap.size U, y.w.cell? ⟨w.heap.size, 14, none⟩ = some (.slice b2 dl c2) := fun y => (y.h.cell (p := ⟨w.heap.size, 14, none⟩) lX).trans (Lib.cell_of_heap rX 14)
  have E15 : ∀ y : Sub U.heap.size U, y.w.cell? ⟨w.heap.size, 15, none⟩ = some (.int .i64 n) := fun y => (y.h.cell (p := ⟨w.heap.size, 15, none⟩) lX).trans (Lib.cell_of_heap rX 15)
  have E16 : ∀ y : Sub U.heap.size U, y.w.cell? ⟨w.heap.size, 16, none⟩ = some (.slice b3 ll c3) := fun y => (y.h.cell (p := ⟨w.heap.size, 16, none⟩) lX).trans (Lib.cell_of_heap rX 16)
  have G0 : ∀ y : Sub U.heap.size U, y.w.cell? ⟨w1.heap.size, 0, none⟩ = some (.bool a1) := fun y => (y.h.cell (p := ⟨w1.heap.size, 0, none⟩) lS).trans (Lib.cell_of_heap rS 0)
  have G1 : ∀ y : Sub U.heap.size U, y.w.cell? ⟨w1.heap.size, 1, none⟩ = some (.bool a2) := fun y => (y.h.cell (p := ⟨w1.heap.size, 1, none⟩) lS).trans (Lib.cell_of_heap rS 1)
  have G2 : ∀ y : Sub U.heap.size U, y.w.cell? ⟨w1.heap.size, 2, none⟩ = some (.bool a3) := fun y => (y.h.cell (p := ⟨w1.heap.size, 2, none⟩) lS).trans (Lib.cell_of_heap rS 2)
  have G3 : ∀ y : Sub U.heap.size U, y.w.cell? ⟨w1.heap.size, 3, none⟩ = some (.int .i64 a4) := fun y => (y.h.cell (p := ⟨w1.heap.size, 3, none⟩) lS).trans (Lib.cell_of_heap rS 3)
  have G4 : ∀ y : Sub U.heap.size U, y.w.cell? ⟨w1.heap.size, 4, none⟩ = some (.int .i64 a5) := fun y => (y.h.cell (p := ⟨w1.heap.size, 4, none⟩) lS).trans (Lib.cell_of_heap rS 4)
  have G5 : ∀ y : Sub U.heap.size U, y.w.cell? ⟨w1.heap.size, 5, none⟩ = some (.int .i64 a6) := fun y => (y.h.cell (p := ⟨w1.heap.size, 5, none⟩) lS).trans (Lib.cell_of_heap rS 5)
  have G6 : ∀ y : Sub U.heap.size U, y.w.cell? ⟨w1.heap.size, 6, none⟩ = some (.bool a7) := fun y => (y.h.cell (p := ⟨w1.heap.size, 6, none⟩) lS).trans (Lib.cell_of_heap rS 6)
  have NY := hide (fun y : Sub U.heap.size U => unhide NM y.w (unhide BY y))
  have MY := hide (fun y : Sub U.heap.size U => unhide NB y.w)
  have OY := hide (fun y : Sub U.heap.size U => unhide OP y.w (unhide BY y))
  have TY := hide (fun y : Sub U.heap.size U => unhide TM y.w (unhide BY y))
  obtain ⟨y0, hy0⟩ : ∃ z : Sub U.heap.size U, U = z.w := ⟨⟨U, Below.refl _ _⟩, rfl⟩
  rw [hy0] at hU
  clear bU rS rX rZ hbU lX lZ lS hb S1 NM NB OP TM RX RZ BW x0 x2 hy0
  cases q1 with
  | false =>
    clear OY TY
    have FF := hide (fun r w' => unhide F0 r w' (by simp))
    clear F0 F1
    go_wp2_with (first | (refine wpList_load_row rfl 82 _ rfl w1.heap.size rfl 82 #[.bool a1, .bool a2, .bool a3, .int .i64 a4, .int .i64 a5, .int .i64 a6, .bool a7] (0, 0) _ (unhide SY _) Tryd.underlying82 rfl (by kernel_rfl) ?_) | (go_at_call 46; refine (Sub.call (unhide HZ) (unhide NY _)).mono ?_; rintro r _ ⟨rfl, z1, rfl⟩) | (go_at_call 47; refine (Sub.call (unhide HZ) (unhide MY _)).mono ?_; rintro r _ ⟨rfl, z2, rfl⟩) | (refine wpList_store_row rfl 65 _ _ rfl V.heap.size #[.int .i64 0, .string ⟨#[]⟩, .int .i64 0, .int .i64 0, .slice none 0 0, .slice none 0 0] rfl rfl 65 _ (unhide RY _) szMt rfl (mt_one _ _ _ _ _ _ _ _ _ _) ?_))
    refine bodyPost_ret (results_row2 (P := Tryd.prog) rfl _ _ V.heap.size 65 #[.int .i64 0, .string ⟨#[]⟩, .int .i64 0, .int .i64 0, .slice none 0 0, .slice none 0 0] (0, 0) _ rfl (setRow_heap _ _ _ _ _ _ (unhide RY _)) Tryd.underlying65 rfl szMt) rfl ?_
    exact unhide FF _ _ rfl (below_rowG (unhide BY _) (unhide VL))
  | true =>
    cases q2 with
    | false =>
      clear OY TY
      have FF := hide (fun r w' => unhide F0 r w' (by simp))
      clear F0 F1
      go_wp2_with (first | (refine wpList_load_row rfl 82 _ rfl w1.heap.size rfl 82 #[.bool a1, .bool a2, .bool a3, .int .i64 a4, .int .i64 a5, .int .i64 a6, .bool a7] (0, 0) _ (unhide SY _) Tryd.underlying82 rfl (by kernel_rfl) ?_) | (go_at_call 46; refine (Sub.call (unhide HZ) (unhide NY _)).mono ?_; rintro r _ ⟨rfl, z1, rfl⟩) | (go_at_call 47; refine (Sub.call (unhide HZ) (unhide MY _)).mono ?_; rintro r _ ⟨rfl, z2, rfl⟩) | (refine wpList_store_row rfl 65 _ _ rfl V.heap.size #[.int .i64 0, .string ⟨#[]⟩, .int .i64 0, .int .i64 0, .slice none 0 0, .slice none 0 0] rfl rfl 65 _ (unhide RY _) szMt rfl (mt_one _ _ _ _ _ _ _ _ _ _) ?_))
      refine bodyPost_ret (results_row2 (P := Tryd.prog) rfl _ _ V.heap.size 65 #[.int .i64 0, .string ⟨#[]⟩, .int .i64 0, .int .i64 0, .slice none 0 0, .slice none 0 0] (0, 0) _ rfl (setRow_heap _ _ _ _ _ _ (unhide RY _)) Tryd.underlying65 rfl szMt) rfl ?_
      exact unhide FF _ _ rfl (below_rowG (unhide BY _) (unhide VL))
    | true =>
      cases q3 with
      | false =>
        clear OY TY
        have FF := hide (fun r w' => unhide F0 r w' (by simp))
        clear F0 F1
        go_wp2_with (first | (refine wpList_load_row rfl 82 _ rfl w1.heap.size rfl 82 #[.bool a1, .bool a2, .bool a3, .int .i64 a4, .int .i64 a5, .int .i64 a6, .bool a7] (0, 0) _ (unhide SY _) Tryd.underlying82 rfl (by kernel_rfl) ?_) | (go_at_call 46; refine (Sub.call (unhide HZ) (unhide NY _)).mono ?_; rintro r _ ⟨rfl, z1, rfl⟩) | (go_at_call 47; refine (Sub.call (unhide HZ) (unhide MY _)).mono ?_; rintro r _ ⟨rfl, z2, rfl⟩) | (refine wpList_store_row rfl 65 _ _ rfl V.heap.size #[.int .i64 0, .string ⟨#[]⟩, .int .i64 0, .int .i64 0, .slice none 0 0, .slice none 0 0] rfl rfl 65 _ (unhide RY _) szMt rfl (mt_one _ _ _ _ _ _ _ _ _ _) ?_))
        refine bodyPost_ret (results_row2 (P := Tryd.prog) rfl _ _ V.heap.size 65 #[.int .i64 0, .string ⟨#[]⟩, .int .i64 0, .int .i64 0, .slice none 0 0, .slice none 0 0] (0, 0) _ rfl (setRow_heap _ _ _ _ _ _ (unhide RY _)) Tryd.underlying65 rfl szMt) rfl ?_
        exact unhide FF _ _ rfl (below_rowG (unhide BY _) (unhide VL))
      | true =>
        go_wp2_with (first | (refine wpList_load_row rfl 82 _ rfl w1.heap.size rfl 82 #[.bool a1, .bool a2, .bool a3, .int .i64 a4, .int .i64 a5, .int .i64 a6, .bool a7] (0, 0) _ (unhide SY _) Tryd.underlying82 rfl (by kernel_rfl) ?_) | (go_at_call 46; refine (Sub.call (unhide HZ) (unhide NY _)).mono ?_; rintro r _ ⟨rfl, z1, rfl⟩) | (go_at_call 47; refine (Sub.call (unhide HZ) (unhide MY _)).mono ?_; rintro r _ ⟨rfl, z2, rfl⟩))
        refine (unhide OY _).mono ?_
        rintro r w2 ⟨v1, rfl, hO, hb⟩
        have OO := hide hO
        have LB := hide (unhide BY z2).size
        obtain ⟨z3, rfl⟩ := Sub.step (unhide HZ) hb
        clear hO hb OY
        cases q4 with
        | false =>
          clear TY
          have FF := hide (fun r w' => unhide F0 r w' (by simp))
          clear F0 F1
          go_wp2_with (first | (refine wpList_load_row rfl 82 _ rfl w1.heap.size rfl 82 #[.bool a1, .bool a2, .bool a3, .int .i64 a4, .int .i64 a5, .int .i64 a6, .bool a7] (0, 0) _ (unhide SY _) Tryd.underlying82 rfl (by kernel_rfl) ?_) | (refine wpList_store_row rfl 65 _ _ rfl V.heap.size #[.int .i64 0, .string ⟨#[]⟩, .int .i64 0, .int .i64 0, .slice none 0 0, .slice none 0 0] rfl rfl 65 _ (unhide RY _) szMt rfl (mt_one _ _ _ _ _ _ _ _ _ _) ?_))
          refine bodyPost_ret (results_row2 (P := Tryd.prog) rfl _ _ V.heap.size 65 #[.int .i64 0, .string ⟨#[]⟩, .int .i64 0, .int .i64 0, .slice none 0 0, .slice none 0 0] (0, 0) _ rfl (setRow_heap _ _ _ _ _ _ (unhide RY _)) Tryd.underlying65 rfl szMt) rfl ?_
          exact unhide FF _ _ rfl (below_rowG (unhide BY _) (unhide VL))
        | true =>
          obtain ⟨e1, j1, hv⟩ := (unhide OO rfl).slice
          subst hv
          have O3 := hide ((unhide OO rfl).base (unhide LB))
          clear OO LB
          generalize LO.length = i1 at *
          go_wp2_with (first | (refine wpList_load_row rfl 82 _ rfl w1.heap.size rfl 82 #[.bool a1, .bool a2, .bool a3, .int .i64 a4, .int .i64 a5, .int .i64 a6, .bool a7] (0, 0) _ (unhide SY _) Tryd.underlying82 rfl (by kernel_rfl) ?_))
          refine (unhide TY _).mono ?_
          rintro r w2 ⟨v2, rfl, hO, hb⟩
          have OO := hide hO
          have LB := hide (unhide BY z3).size
          have O4 := hide ((unhide O3).later hb)
          obtain ⟨z4, rfl⟩ := Sub.step (unhide HZ) hb
          clear hO hb TY O3
          cases q5 with
          | false =>
            have FF := hide (fun r w' => unhide F0 r w' (by simp))
            clear F0 F1
            go_wp2_with (first | (refine wpList_load_row rfl 82 _ rfl w1.heap.size rfl 82 #[.bool a1, .bool a2, .bool a3, .int .i64 a4, .int .i64 a5, .int .i64 a6, .bool a7] (0, 0) _ (unhide SY _) Tryd.underlying82 rfl (by kernel_rfl) ?_) | (refine wpList_store_row rfl 65 _ _ rfl V.heap.size #[.int .i64 0, .string ⟨#[]⟩, .int .i64 0, .int .i64 0, .slice none 0 0, .slice none 0 0] rfl rfl 65 _ (unhide RY _) szMt rfl (mt_one _ _ _ _ _ _ _ _ _ _) ?_))
            refine bodyPost_ret (results_row2 (P := Tryd.prog) rfl _ _ V.heap.size 65 #[.int .i64 0, .string ⟨#[]⟩, .int .i64 0, .int .i64 0, .slice none 0 0, .slice none 0 0] (0, 0) _ rfl (setRow_heap _ _ _ _ _ _ (unhide RY _)) Tryd.underlying65 rfl szMt) rfl ?_
            exact unhide FF _ _ rfl (below_rowG (unhide BY _) (unhide VL))
          | true =>
            obtain ⟨e2, j2, hv⟩ := (unhide OO rfl).slice
            subst hv
            have V4 := hide ((unhide OO rfl).base (unhide LB))
            clear OO LB
            generalize LV.length = i2 at *
            have FF := hide (fun r w' hr ho hv hb => unhide F1 r w' e1 i1 j1 e2 i2 j2 (by simp) hr ho hv hb)
            have O5 := hide (ownA_row (cs := #[.int .i64 k, .string s, .int .i64 op, .int .i64 n, .slice e1 i1 j1, .slice e2 i2 j2]) (unhide O4) (unhide RY z4) (by decide))
            have V5 := hide (ownV_row (cs := #[.int .i64 k, .string s, .int .i64 op, .int .i64 n, .slice e1 i1 j1, .slice e2 i2 j2]) (unhide V4) (unhide RY z4) (by decide))
            clear F0 F1 O4 V4
            go_wp2_with (first | (refine wpList_store_row rfl 65 _ _ rfl V.heap.size #[.int .i64 k, .string s, .int .i64 op, .int .i64 n, .slice e1 i1 j1, .slice e2 i2 j2] rfl rfl 65 _ (unhide RY _) szMt rfl (mt_one _ _ _ _ _ _ _ _ _ _) ?_))
            refine bodyPost_ret (results_row2 (P := Tryd.prog) rfl _ _ V.heap.size 65 #[.int .i64 k, .string s, .int .i64 op, .int .i64 n, .slice e1 i1 j1, .slice e2 i2 j2] (0, 0) _ rfl (setRow_heap _ _ _ _ _ _ (unhide RY _)) Tryd.underlying65 rfl szMt) rfl ?_
            exact unhide FF _ _ rfl (unhide O5) (unhide V5) (below_rowG (unhide BY z4) (unhide VL))
set_option maxHeartbeats 2000000 in
theorem lnI_any (x : Ln) (p : La) (w : World) (hr : RdL w x p) (hz : SzL x) (ht : TabA w) : Calls Tryd.prog 14 #[.agg (x.cs p)] w fun r w' => r = .returned (.bool (lnX x)) ∧ Below w.heap.size w w' := by
  have B0 := below_new w (.cells (x.cs p) 42)
  have R0 := hide (show (w.alloc (.cells (x.cs p) 42)).heap[w.heap.size]? = some (.cells (x.cs p) 42 (0, 0)) from Array.getElem?_push_size)
  have HH := hide (stmI_any x p _ (hr.later B0) hz (ht.next B0))
  have HB := hide B0
  clear hr B0 ht
  unfold StR at HH
  generalize lnX x = q at *
  go_enter Tryd.func14, Tryd.ntmps14
  generalize hW : w.alloc (.cells (x.cs p) 42) = W at *
  go_wp2_with (first | (refine wpList_load_row rfl 42 _ rfl w.heap.size rfl 42 (x.cs p) (0, 0) _ (unhide R0) Tryd.underlying42 rfl (by kernel_rfl) ?_))
  refine (unhide HH).mono ?_
  rintro r w1 ⟨m, rfl, hv, hb1⟩
  have BB := hide ((unhide HB).trans (hb1.mono (unhide HB).size))
  clear hb1 HH HB hv R0
  obtain ⟨k, s, op, n, e1, i1, j1, e2, i2, j2⟩ := m
  unfold Mt.cs
  simp only
  go_wp2
  go_ret
  exact ⟨rfl, (unhide BB).alloc (unhide BB).size _⟩
end Go.Proofs.YtmhcbehplhfgfaaDoor

namespace Go.Proofs.YtmhcbehplhfgfaaDoor
open Go.ChangeShapes Go.WideShapes Go.ChangeAt Go.RowKit
set_option linter.unusedVariables false
set_option maxRecDepth 8000

theorem own : ownKnob Tryd.prog.godebug = none := by kernel_rfl
theorem laidOut : laidOutB Tryd.prog = true := by kernel_rfl
section
variable {H : Type} {enc : TypeId × Value → H} {W : World} {b0 base : Nat} {spare : TypeId → Bool} {held : Bool}
end

/-- A table of texts as a row lists it. -/
def strData {H : Type} (L : List ByteArray) : DataW H := .agg (L.map fun s => .lit (.string s.data.toList))
theorem cells_of_strs {H : Type} {enc : TypeId × Value → H} {P : Program} {w : World} {base : Nat} {sp : Nat → Bool} {held : Bool} {fuel : Nat} {t e : TypeId} {n : Nat} {cs : List Value} {L : List ByteArray} {p : List MemPlace}
    (ht : P.underlying t = some (.array n e)) (he : P.underlying e = some .string) (hce : P.cellsOf e = 1) (hct : P.cellsOf t = n)
    (h : DataW.trod enc P w base sp held fuel t cs = some (strData L, p)) : cs = L.map Value.string := by
  cases fuel with
  | zero => simp [DataW.trod] at h
  | succ fuel =>
    simp only [DataW.trod, ht, hce, hct, Nat.mul_one] at h
    split at h
    · rename_i hl
      obtain ⟨xs, hm, hx⟩ := Option.map_eq_some_iff.1 h
      have hxs : xs.map (·.1) = L.map fun s => (DataW.lit (.string s.data.toList) : DataW H) := by
        have := congrArg Prod.fst hx
        simpa [strData] using this
      have hxl : xs.length = n := by simpa using Lib.mapM_length hm
      have hzl : L.length = n := by
        have := congrArg List.length hxs
        simp at this
        omega
      apply List.ext_getElem?
      intro i
      by_cases hi : i < n
      · obtain ⟨b, hb, hf⟩ := Lib.mapM_at hm i i (by simp [hi])
        obtain ⟨z, hc, rfl, _⟩ := DataW.trod_string he hf
        have h1 : cs[i]? = some (.string z) := by
          have := congrArg (·[0]?) hc
          simpa [List.getElem?_take, List.getElem?_drop] using this
        have h2 : (xs.map (·.1))[i]? = some (DataW.lit (.string z.data.toList) : DataW H) := by simp [hb]
        rw [hxs] at h2
        simp only [List.getElem?_map, Option.map_eq_some_iff, DataW.lit.injEq, Lit.string.injEq] at h2
        obtain ⟨z', hz', e⟩ := h2
        obtain rfl := bytes_inj e
        simp [h1, hz']
      · rw [List.getElem?_eq_none (by omega), List.getElem?_eq_none (by simp; omega)]
    · cases h
theorem strs_of_head {P : Program} {W : World} {name : String} {L : List ByteArray} {rest : List (String × DataW Unit)} {g : Nat} {t e : TypeId} {n : Nat}
    (hg : P.globalNamed name = some g) (hty : (P.globals[g]?).map (·.type) = some t) (ht : P.underlying t = some (.array n e)) (he : P.underlying e = some .string) (hce : P.cellsOf e = 1) (hct : P.cellsOf t = n)
    (h : laidMet P ((name, strData L) :: rest) W) : ∃ u fr, W.heap[g]? = some (.cells (L.map Value.string).toArray u fr) := by
  obtain ⟨ps, ⟨g', t', cs, fuel, p, q, hg', ht', hvar, hd, _, _⟩, _⟩ := h
  obtain rfl := Option.some.inj (hg.symm.trans hg')
  obtain rfl := Option.some.inj (hty.symm.trans ht')
  have hcs := cells_of_strs ht he hce hct hd
  unfold World.var? at hvar
  rw [hg] at hvar
  simp only [Option.bind_some] at hvar
  split at hvar
  · rename_i c u fr hh
    cases hvar
    exact ⟨u, fr, by rw [hh, ← hcs]⟩
  · cases hvar
theorem gOp : Tryd.prog.globalNamed "loop.example/g00329/impl.opWords" = some 4 := by kernel_rfl
theorem tOp : (Tryd.prog.globals[4]?).map (·.type) = some 147 := by kernel_rfl
theorem gRg : Tryd.prog.globalNamed "loop.example/g00329/impl.regWords" = some 1 := by kernel_rfl
theorem tRg : (Tryd.prog.globals[1]?).map (·.type) = some 119 := by kernel_rfl
theorem opD_eq : (Rows.laid_loop_example_g00329_impl_opWords : DataW Unit) = strData opL := by kernel_rfl
theorem rgD_eq : (Rows.laid_loop_example_g00329_impl_regWords : DataW Unit) = strData wRg := by kernel_rfl
theorem tabK_of {W : World} (h : laidMet Tryd.prog [("loop.example/g00329/impl.opWords", Rows.laid_loop_example_g00329_impl_opWords), ("loop.example/g00329/impl.regWords", Rows.laid_loop_example_g00329_impl_regWords)] W) : TabK W := by
  rw [opD_eq, rgD_eq] at h
  exact ⟨strs_of_head gOp tOp Tryd.underlying147 Tryd.underlying9 (by kernel_rfl) (by kernel_rfl) h, strs_of_head gRg tRg Tryd.underlying119 Tryd.underlying9 (by kernel_rfl) (by kernel_rfl) h.tail⟩
theorem tab_of_laid {W : World} (h : laidMetH Tryd.prog [("loop.example/g00329/impl.opWords", Rows.laid_loop_example_g00329_impl_opWords), ("loop.example/g00329/impl.regWords", Rows.laid_loop_example_g00329_impl_regWords)] W) : TabK W := by
  rw [MakeChecks.laidMetH_plain _ _ _ (by kernel_rfl)] at h
  exact tabK_of h
end Go.Proofs.YtmhcbehplhfgfaaDoor

namespace Go.Proofs.YtmhcbehplhfgfaaDoor
open Go.ChangeShapes Go.WideShapes Go.ChangeAt Go.RowKit
set_option linter.unusedVariables false
set_option maxRecDepth 8000
set_option linter.unusedSimpArgs false

section
variable {H : Type} {enc : TypeId × Value → H} {P : Program} {w : World} {spare : Nat → Bool}
theorem varsL_3 {n0 n1 n2 : String} {gs : List (DataW H)} {ps : List MemPlace} (h : DataW.TrodVars enc P w spare [n0, n1, n2] gs ps) : ∃ d0 d1 d2, gs = [d0, d1, d2] := by
  cases gs with
  | nil => simp [DataW.TrodVars] at h
  | cons d ds =>
    obtain ⟨g0, t0, cs0, f0, p0, q0, h1, h2, h3, h4, hs, e⟩ := h
    obtain ⟨g1, t1, cs1, f1, d1, p1, g2, t2, cs2, f2, d2, p2, rfl, _⟩ := trodVars_two hs
    exact ⟨d, d1, d2, rfl⟩
theorem varsL_4 {n0 n1 n2 n3 : String} {gs : List (DataW H)} {ps : List MemPlace} (h : DataW.TrodVars enc P w spare [n0, n1, n2, n3] gs ps) : ∃ d0 d1 d2 d3, gs = [d0, d1, d2, d3] := by
  cases gs with
  | nil => simp [DataW.TrodVars] at h
  | cons d ds =>
    obtain ⟨g0, t0, cs0, f0, p0, q0, h1, h2, h3, h4, hs, e⟩ := h
    obtain ⟨d1, d2, d3, rfl⟩ := varsL_3 hs
    exact ⟨d, d1, d2, d3, rfl⟩
theorem varsL_5 {n0 n1 n2 n3 n4 : String} {gs : List (DataW H)} {ps : List MemPlace} (h : DataW.TrodVars enc P w spare [n0, n1, n2, n3, n4] gs ps) : ∃ d0 d1 d2 d3 d4, gs = [d0, d1, d2, d3, d4] := by
  cases gs with
  | nil => simp [DataW.TrodVars] at h
  | cons d ds =>
    obtain ⟨g0, t0, cs0, f0, p0, q0, h1, h2, h3, h4, hs, e⟩ := h
    obtain ⟨d1, d2, d3, d4, rfl⟩ := varsL_4 hs
    exact ⟨d, d1, d2, d3, d4, rfl⟩
end
theorem gFm : Tryd.prog.globalNamed "loop.example/g00329/impl.argForms" = some 0 := by kernel_rfl
theorem tFm : (Tryd.prog.globals[0]?).map (·.type) = some 74 := by kernel_rfl
theorem fmD_eq : (Rows.laid_loop_example_g00329_impl_argForms : DataW Unit) = strData fmL := by kernel_rfl
theorem taba_of {W : World} (h : laidMetH Tryd.prog [("loop.example/g00329/impl.opWords", Rows.laid_loop_example_g00329_impl_opWords), ("loop.example/g00329/impl.regWords", Rows.laid_loop_example_g00329_impl_regWords), ("loop.example/g00329/impl.argForms", Rows.laid_loop_example_g00329_impl_argForms)] W) : TabA W := by
  rw [MakeChecks.laidMetH_plain _ _ _ (by kernel_rfl)] at h
  rw [opD_eq, rgD_eq, fmD_eq] at h
  exact ⟨⟨strs_of_head gOp tOp Tryd.underlying147 Tryd.underlying9 (by kernel_rfl) (by kernel_rfl) h, strs_of_head gRg tRg Tryd.underlying119 Tryd.underlying9 (by kernel_rfl) (by kernel_rfl) h.tail⟩, strs_of_head gFm tFm Tryd.underlying74 Tryd.underlying9 (by kernel_rfl) (by kernel_rfl) h.tail.tail⟩
end Go.Proofs.YtmhcbehplhfgfaaDoor

namespace Go.Proofs.YtmhcbehplhfgfaaDoor
open Go.ChangeShapes Go.WideShapes Go.ChangeAt Go.RowKit
set_option linter.unusedVariables false
set_option maxRecDepth 8000

set_option maxHeartbeats 1000000 in
theorem toXS_of (e : Ex) (ih : ∀ i, i < e.l.length → ToP (xAt e.l i)) (b : Option Addr) (cap : Nat) (w : World) (hr : RdX w 0 e b) (hz : e.sz ≤ 1048576) : Calls Tryd.prog 31 #[.slice b e.l.length cap] w fun r w' => r = .returned (.slice (some ⟨w.heap.size, 0, none⟩) e.l.length e.l.length) ∧ NewX w' w.heap.size e (some ⟨w.heap.size, 0, none⟩) ∧ Below w.heap.size w w' := by
  have hsz := sz_is e
  have RD := hide (fun (w' : World) (M : Nat) (h : DoneX w' w.heap.size e.l e.l.length e.l.length e.l.length M) => DoneX.new h)
  rw [RdX_eq] at hr
  have hp : ∀ i, i < e.l.length → (xAt e.l i).sz ≤ 1048576 := fun i hi => by have := sz_part hi; omega
  have hm : e.l.length ≤ 1048576 := by omega
  clear hsz hz
  generalize hR : (fun w' => NewX w' w.heap.size e (some ⟨w.heap.size, 0, none⟩)) = R
  have hR' : ∀ w', NewX w' w.heap.size e (some ⟨w.heap.size, 0, none⟩) = R w' := fun w' => congrFun hR w'
  simp only [hR'] at RD ⊢
  clear hR hR'
  generalize e.l = l at *
  obtain ⟨len, hl⟩ : ∃ len, l.length = len := ⟨_, rfl⟩
  rw [hl] at hm ih hr hp RD ⊢
  obtain ⟨i0, hi, hz0, hz1, hz2⟩ := info_parts infoX
  obtain ⟨w1, hmk, hown, hgr⟩ := run_make_full (P := Tryd.prog) w w.heap.size 29 31 i0 _ 4 Tryd.underlying29 hi hz0 hz1 .i64 .i64 len (by rw [hz2]; omega) (by unfold maxLen; omega) (Nat.le_refl _)
  have O0 := hide (show DoneX w1 w.heap.size l len len 0 w1.heap.size from ⟨_, [], hown, rfl, List.nodup_nil, (fun b hb => by simp at hb), (fun i hi => by omega)⟩)
  have B0 := hide ((Below.refl w.heap.size w).grown hgr (Nat.le_refl _) (fun k h => by cases h))
  have G0 := hide (World.ownsRow.lt hown w.heap.size rfl).2
  clear hown hgr
  go_enter Tryd.func31, Tryd.ntmps31
  go_wp2
  clear hmk
  go_loopw [4] (fun i wr => ∃ k : Nat, k ≤ len ∧ i = .int .i64 k ∧ DoneX wr w.heap.size l len len k wr.heap.size ∧ w.heap.size < wr.heap.size ∧ Below w.heap.size w wr) (fun i _ => len - (intOf i).toNat)
  case atStart => exact ⟨0, Nat.zero_le _, rfl, unhide O0, unhide G0, unhide B0⟩
  case round =>
    clear O0 B0 G0
    obtain ⟨k, hk, rfl, ho, hgl, hb⟩ := hrel
    by_cases hlt : k < len
    · rcases hr with h0 | ⟨b, off, rfl, _, hbl, hc⟩
      · rw [h0] at hl; simp at hl; omega
      obtain ⟨c0, c1, c2, c, cap', c3, c4⟩ := hc k (by omega)
      have d0 : wr.cell? ⟨b, off + k * 4, none⟩ = _ := (hb.cell (p := ⟨b, _, none⟩) hbl).trans c0
      have d1 : wr.cell? ⟨b, off + k * 4 + 1, none⟩ = _ := (hb.cell (p := ⟨b, _, none⟩) hbl).trans c1
      have d2 : wr.cell? ⟨b, off + k * 4 + 2, none⟩ = _ := (hb.cell (p := ⟨b, _, none⟩) hbl).trans c2
      have d3 : wr.cell? ⟨b, off + k * 4 + 3, none⟩ = _ := (hb.cell (p := ⟨b, _, none⟩) hbl).trans c3
      have HT := hide (ih k hlt c cap' wr (c4.later hb) (hp k hlt))
      have PT := hide (fun (w2 : World) (hz2 : wr.heap.size ≤ w2.heap.size) (h : DoneX w2 w.heap.size l len len k wr.heap.size) (q : Option Addr) (cp : Nat) (hq : NewX w2 wr.heap.size (xAt l k) q) => h.put hlt hgl hz2 q cp hq (Nat.le_refl _))
      have O1 := hide ho
      have B1 := hide hb
      have ZB := hide hb.size
      have GL := hide hgl
      clear c0 c1 c2 c3 c4 hc ho hb hgl
      unfold Ex.cs at HT
      generalize (xAt l k).s = ss at d2 HT PT
      generalize (xAt l k).k = kk at d0 HT PT
      generalize (xAt l k).n = nn at d1 HT PT
      generalize (xAt l k).l.length = ll at d3 HT PT
      go_wp2_with fail
      refine (unhide HT).mono ?_
      rintro e w2 ⟨q, cq, rfl, hq, hb2⟩
      have O2 := hide ((unhide O1).later hb2)
      have B2 := hide ((unhide B1).trans (hb2.mono (unhide ZB)))
      have G2 := hide (Nat.lt_of_lt_of_le (unhide GL) hb2.size)
      have PP := hide (unhide PT w2 hb2.size (unhide O2) q cq hq)
      obtain ⟨cs, _, own2, _⟩ := unhide O2
      have hcl : cs.length = len * 4 := own2.1
      obtain ⟨v0, e0⟩ : ∃ v, cs[k * 4]? = some v := ⟨_, List.getElem?_eq_getElem (by omega)⟩
      obtain ⟨v1, e1⟩ : ∃ v, cs[k * 4 + 1]? = some v := ⟨_, List.getElem?_eq_getElem (by omega)⟩
      obtain ⟨v2, e2⟩ : ∃ v, cs[k * 4 + 2]? = some v := ⟨_, List.getElem?_eq_getElem (by omega)⟩
      obtain ⟨v3, e3⟩ : ∃ v, cs[k * 4 + 3]? = some v := ⟨_, List.getElem?_eq_getElem (by omega)⟩
      have c0 := (World.ownsRow.cellAt own2 (k * 4) (by omega)).trans e0
      have c1 := (World.ownsRow.cellAt own2 (k * 4 + 1) (by omega)).trans e1
      have c2 := (World.ownsRow.cellAt own2 (k * 4 + 2) (by omega)).trans e2
      have c3 := (World.ownsRow.cellAt own2 (k * 4 + 3) (by omega)).trans e3
      have f0 := World.ownsRow.frozenAt own2 (k * 4)
      have f1 := World.ownsRow.frozenAt own2 (k * 4 + 1)
      have f2 := World.ownsRow.frozenAt own2 (k * 4 + 2)
      have f3 := World.ownsRow.frozenAt own2 (k * 4 + 3)
      clear own2 hb2 O1 B1 HT PT O2 d0 d1 d2 d3 e0 e1 e2 e3 hq hcl
      go_wp2
      go_roundw
      case rel => exact ⟨k + 1, by omega, by go_num, by simpa using unhide PP, by simpa using unhide G2, ((((unhide B2).setCell (p := ⟨w.heap.size, _, none⟩) (Nat.le_refl _) _).setCell (p := ⟨w.heap.size, _, none⟩) (Nat.le_refl _) _).setCell (p := ⟨w.heap.size, _, none⟩) (Nat.le_refl _) _).setCell (p := ⟨w.heap.size, _, none⟩) (Nat.le_refl _) _⟩
      case measure => simp [intOf]; omega
    · obtain rfl : k = len := by omega
      have R1 := hide (unhide RD wr _ ho)
      clear ho
      go_wp2
      go_ret
      exact ⟨rfl, unhide R1, hb⟩
end Go.Proofs.YtmhcbehplhfgfaaDoor

namespace Go.Proofs.YtmhcbehplhfgfaaDoor
open Go.ChangeShapes Go.WideShapes Go.ChangeAt Go.RowKit
set_option linter.unusedVariables false
set_option maxRecDepth 8000
theorem three_new (w : World) (o1 o2 o3 : Obj) : Below w.heap.size w (((w.alloc o1).alloc o2).alloc o3) ∧ (((w.alloc o1).alloc o2).alloc o3).heap[w.heap.size + 1]? = some o2 ∧ (((w.alloc o1).alloc o2).alloc o3).heap[w.heap.size + 1 + 1]? = some o3 := by
  have h1 : (w.alloc o1).heap.size = w.heap.size + 1 := by simp
  have h2 : ((w.alloc o1).alloc o2).heap.size = w.heap.size + 1 + 1 := by simp
  have p2 : ((w.alloc o1).alloc o2).heap[w.heap.size + 1]? = some o2 := by rw [← h1]; exact Array.getElem?_push_size
  refine ⟨(((Below.refl _ _).alloc (Nat.le_refl _) _).alloc (by simp) _).alloc (by simp; omega) _, ?_, ?_⟩
  · exact ((Below.refl ((w.alloc o1).alloc o2).heap.size _).alloc (Nat.le_refl _) o3).block _ (by simp) |>.trans p2
  · rw [← h2]; exact Array.getElem?_push_size
theorem row4_set {w : World} {g : Nat} {u0 u1 u2 u3 : Value} {t : TypeId} (h : w.heap[g]? = some (.cells #[u0, u1, u2, u3] t (0, 0))) (v0 v1 v2 v3 : Value) : ((((w.setCell ⟨g, 0, none⟩ v0).setCell ⟨g, 1, none⟩ v1).setCell ⟨g, 2, none⟩ v2).setCell ⟨g, 3, none⟩ v3).heap[g]? = some (.cells #[v0, v1, v2, v3] t (0, 0)) :=
  heap_setCell_same _ g 3 _ t v3 (heap_setCell_same _ g 2 _ t v2 (heap_setCell_same _ g 1 _ t v1 (heap_setCell_same _ g 0 _ t v0 h)))
set_option maxHeartbeats 1000000 in
theorem toX_any (e : Ex) : ToP e := by
  induction e using Ex.ind with
  | h k n s l ih =>
    intro b cap w hr hz
    have e2 : (Ex.mk k n s l).l = l := rfl
    obtain ⟨W, hW⟩ : ∃ W, ((w.alloc (.cells #[.int .i64 k, .int .i64 n, .string s, .slice b l.length cap] 24)).alloc (.cells #[.int .i64 0, .int .i64 0, .string ⟨#[]⟩, .slice none 0 0] 31)).alloc (.cells #[.int .i64 k, .int .i64 n, .string s, .slice none 0 0] 31) = W := ⟨_, rfl⟩
    obtain ⟨hb, hg1, hg2⟩ := three_new w (.cells #[.int .i64 k, .int .i64 n, .string s, .slice b l.length cap] 24) (.cells #[.int .i64 0, .int .i64 0, .string ⟨#[]⟩, .slice none 0 0] 31) (.cells #[.int .i64 k, .int .i64 n, .string s, .slice none 0 0] 31)
    have hsz : w.heap.size + 3 = W.heap.size := by rw [← hW]; simp
    rw [hW] at hb hg1 hg2
    have HC := toXS_of ⟨k, n, s, l⟩ (fun i hi => ih _ (xAt_mem hi)) b cap W (hr.later hb) hz
    rw [e2] at HC
    have HD := HC.mono (R' := fun r w' => ∃ g, r = .returned (.slice (some ⟨g, 0, none⟩) l.length l.length) ∧ NewX w' (w.heap.size + 3) ⟨k, n, s, l⟩ (some ⟨g, 0, none⟩) ∧ Below w.heap.size w w' ∧ w'.heap[w.heap.size + 1]? = some (.cells #[.int .i64 0, .int .i64 0, .string ⟨#[]⟩, .slice none 0 0] 31 (0, 0)) ∧ w'.heap[w.heap.size + 1 + 1]? = some (.cells #[.int .i64 k, .int .i64 n, .string s, .slice none 0 0] 31 (0, 0))) (by
      rintro r w' ⟨rfl, h1, h2⟩
      exact ⟨_, rfl, h1.lower (by omega), hb.trans (h2.mono (by omega)), (h2.block _ (by omega)).trans hg1, (h2.block _ (by omega)).trans hg2⟩)
    have HH := hide HD
    rw [← hW] at HH
    unfold Ex.cs
    simp only
    clear hr hz ih HC HD hb hg1 hg2 hW hsz e2 W
    generalize hll : l.length = ll at *
    go_enter Tryd.func22, Tryd.ntmps22
    go_wp2_with fail
    refine (unhide HH).mono ?_
    rintro r w2 ⟨g, rfl, hrd, hb2, hg1, hg2⟩
    have a0 := Lib.cell_of_heap hg1 0
    have a1 := Lib.cell_of_heap hg1 1
    have a2 := Lib.cell_of_heap hg1 2
    have a3 := Lib.cell_of_heap hg1 3
    have b0 := Lib.cell_of_heap hg2 0
    have b1 := Lib.cell_of_heap hg2 1
    have b2 := Lib.cell_of_heap hg2 2
    have b3 := Lib.cell_of_heap hg2 3
    have f0 := Lib.frozen_of_heap hg1 0
    have f1 := Lib.frozen_of_heap hg1 1
    have f2 := Lib.frozen_of_heap hg1 2
    have f3 := Lib.frozen_of_heap hg1 3
    have f4 := Lib.frozen_of_heap hg2 3
    clear HH
    have hg3 : (w2.setCell ⟨w.heap.size + 1 + 1, 3, none⟩ (.slice (some ⟨g, 0, none⟩) ll ll)).heap[w.heap.size + 1]? = _ := (heap_setCell_other w2 ⟨w.heap.size + 1 + 1, 3, none⟩ (w.heap.size + 1) (.slice (some ⟨g, 0, none⟩) ll ll) (by simp)).trans hg1
    have H1 := hide (fun v0 v1 v2 v3 => row4_set hg3 v0 v1 v2 v3)
    have R := hide (fun u v0 v1 v2 v3 => ((((hrd.far ⟨w.heap.size + 1 + 1, 3, none⟩ u (by simp)).far ⟨w.heap.size + 1, 0, none⟩ v0 (by simp)).far ⟨w.heap.size + 1, 1, none⟩ v1 (by simp)).far ⟨w.heap.size + 1, 2, none⟩ v2 (by simp)).far ⟨w.heap.size + 1, 3, none⟩ v3 (by simp))
    have B := hide (fun u v0 v1 v2 v3 => ((((hb2.setCell (p := ⟨w.heap.size + 1 + 1, 3, none⟩) (by simp; omega) u).setCell (p := ⟨w.heap.size + 1, 0, none⟩) (by simp) v0).setCell (p := ⟨w.heap.size + 1, 1, none⟩) (by simp) v1).setCell (p := ⟨w.heap.size + 1, 2, none⟩) (by simp) v2).setCell (p := ⟨w.heap.size + 1, 3, none⟩) (by simp) v3)
    clear hrd hb2 hg3
    go_wp2
    refine bodyPost_ret (results_cell_row (P := Tryd.prog) rfl _ _ (w.heap.size + 1) 31 #[.int .i64 k, .int .i64 n, .string s, .slice (some ⟨g, 0, none⟩) ll ll] (0, 0) _ rfl (unhide H1 _ _ _ _) Tryd.underlying31 rfl (by kernel_rfl)) rfl ?_
    exact ⟨_, _, rfl, (unhide R _ _ _ _ _).lower (by omega), unhide B _ _ _ _ _⟩
end Go.Proofs.YtmhcbehplhfgfaaDoor

namespace Go.Proofs.YtmhcbehplhfgfaaDoor
open Go.ChangeShapes Go.WideShapes Go.ChangeAt Go.RowKit
set_option linter.unusedVariables false
set_option maxRecDepth 8000

def EqP (e : Ex) : Prop := ∀ (a b : Option Addr) (c1 c2 : Nat) (w : World), RdX w 0 e a → RdX w 0 e b → e.sz ≤ 1048576 → Calls Tryd.prog 24 #[.agg (e.cs a c1), .agg (e.cs b c2)] w fun r w' => r = .returned (.bool true) ∧ Below w.heap.size w w'
set_option maxHeartbeats 1000000 in
theorem eqXS_of (e : Ex) (ih : ∀ i, i < e.l.length → EqP (xAt e.l i)) (a b : Option Addr) (c1 c2 : Nat) (w : World) (h1 : RdX w 0 e a) (h2 : RdX w 0 e b) (hz : e.sz ≤ 1048576) :
    Calls Tryd.prog 33 #[.slice a e.l.length c1, .slice b e.l.length c2] w fun r w' => r = .returned (.bool true) ∧ Below w.heap.size w w' := by
  have hsz := sz_is e
  rw [RdX_eq] at h1 h2
  have hp : ∀ i, i < e.l.length → (xAt e.l i).sz ≤ 1048576 := fun i hi => by have := sz_part hi; omega
  have hm : e.l.length ≤ 1048576 := by omega
  clear hsz hz
  generalize e.l = l at *
  obtain ⟨len, hl⟩ : ∃ len, l.length = len := ⟨_, rfl⟩
  rw [hl] at hm ih h1 h2 hp ⊢
  go_enter Tryd.func33, Tryd.ntmps33
  go_wp2
  go_loopw [5] (fun i wr => ∃ (k : Nat) (y : Sub w.heap.size w), k ≤ len ∧ i = .int .i64 k ∧ wr = y.w) (fun i _ => len - (intOf i).toNat)
  case atStart => exact ⟨0, ⟨w, Below.refl _ _⟩, Nat.zero_le _, rfl, rfl⟩
  case round =>
    obtain ⟨k, x, hk, rfl, rfl⟩ := hrel
    by_cases hlt : k < len
    · rcases h1 with h0 | ⟨p, po, rfl, _, hp1, hpc⟩
      · rw [h0] at hl; simp at hl; omega
      rcases h2 with h0 | ⟨q, qo, rfl, _, hq1, hqc⟩
      · rw [h0] at hl; simp at hl; omega
      obtain ⟨e0, e1, e2, pc, pp, e3, e4⟩ := hpc k (by omega)
      obtain ⟨g0, g1, g2, qc, qp, g3, g4⟩ := hqc k (by omega)
      have d0 : ∀ y : Sub w.heap.size w, y.w.cell? ⟨p, po + k * 4, none⟩ = _ := fun y => (y.h.cell (p := ⟨p, _, none⟩) hp1).trans e0
      have d1 : ∀ y : Sub w.heap.size w, y.w.cell? ⟨p, po + k * 4 + 1, none⟩ = _ := fun y => (y.h.cell (p := ⟨p, _, none⟩) hp1).trans e1
      have d2 : ∀ y : Sub w.heap.size w, y.w.cell? ⟨p, po + k * 4 + 2, none⟩ = _ := fun y => (y.h.cell (p := ⟨p, _, none⟩) hp1).trans e2
      have d3 : ∀ y : Sub w.heap.size w, y.w.cell? ⟨p, po + k * 4 + 3, none⟩ = _ := fun y => (y.h.cell (p := ⟨p, _, none⟩) hp1).trans e3
      have f0 : ∀ y : Sub w.heap.size w, y.w.cell? ⟨q, qo + k * 4, none⟩ = _ := fun y => (y.h.cell (p := ⟨q, _, none⟩) hq1).trans g0
      have f1 : ∀ y : Sub w.heap.size w, y.w.cell? ⟨q, qo + k * 4 + 1, none⟩ = _ := fun y => (y.h.cell (p := ⟨q, _, none⟩) hq1).trans g1
      have f2 : ∀ y : Sub w.heap.size w, y.w.cell? ⟨q, qo + k * 4 + 2, none⟩ = _ := fun y => (y.h.cell (p := ⟨q, _, none⟩) hq1).trans g2
      have f3 : ∀ y : Sub w.heap.size w, y.w.cell? ⟨q, qo + k * 4 + 3, none⟩ = _ := fun y => (y.h.cell (p := ⟨q, _, none⟩) hq1).trans g3
      have HE := hide (fun y : Sub w.heap.size w => ih k hlt pc qc pp qp y.w (e4.later y.h) (g4.later y.h) (hp k hlt))
      have ne := Sub.ne w.heap.size w
      have HZ := hide (Nat.le_refl w.heap.size)
      clear e0 e1 e2 e3 e4 g0 g1 g2 g3 g4 hpc hqc ih hp
      unfold Ex.cs at HE
      generalize (xAt l k).s = ss at *
      generalize (xAt l k).k = kk at *
      generalize (xAt l k).n = nn at *
      generalize (xAt l k).l.length = ll at *
      go_wp2_with fail
      refine wp_region_sub x (by kernel_rfl) (by kernel_rfl) ?_
      repeat (go_big_quiet_step (first | (go_at_call 24; exact Sub.call (unhide HZ) (unhide HE _))))
      refine wpQuiet_nil ?_
      intro y
      go_wp2
      go_roundw
      case rel => exact ⟨k + 1, y, by omega, by go_num, rfl⟩
      case measure => simp [intOf]; omega
    · go_wp2
      go_ret
      exact ⟨rfl, x.h⟩
set_option maxHeartbeats 1000000 in
theorem eqX_same (e : Ex) : EqP e := by
  induction e using Ex.ind with
  | h k n s l ih =>
    intro a b c1 c2 w h1 h2 hz
    have e2 : (Ex.mk k n s l).l = l := rfl
    have hbW : Below w.heap.size w ((w.alloc (.cells #[.int .i64 k, .int .i64 n, .string s, .slice a l.length c1] 31)).alloc (.cells #[.int .i64 k, .int .i64 n, .string s, .slice b l.length c2] 31)) := ((Below.refl _ _).alloc (Nat.le_refl _) _).alloc (by simp) _
    have HZ := eqXS_of ⟨k, n, s, l⟩ (fun i hi => ih _ (xAt_mem hi)) a b c1 c2 _ (h1.later hbW) (h2.later hbW) hz
    rw [e2] at HZ
    have HS := hide (HZ.mono (R' := fun r w' => r = .returned (.bool true) ∧ Below w.heap.size w w') (by rintro r w' ⟨rfl, h⟩; exact ⟨rfl, hbW.trans (h.mono hbW.size)⟩))
    unfold Ex.cs
    simp only
    clear h1 h2 hz ih HZ hbW e2
    generalize l.length = ll at *
    go_enter Tryd.func24, Tryd.ntmps24
    go_wp2_with (go_at_call 33; refine (unhide HS).mono ?_; rintro e w1 ⟨rfl, hb1⟩)
    go_ret
    exact ⟨rfl, hb1⟩
end Go.Proofs.YtmhcbehplhfgfaaDoor

namespace Go.Proofs.YtmhcbehplhfgfaaDoor
open Go.ChangeShapes Go.WideShapes Go.ChangeAt Go.RowKit
set_option linter.unusedVariables false
set_option maxRecDepth 8000
set_option linter.unusedSimpArgs false

/-- The cursor, while draws go on that began at w. -/
structure Dz (w wr : World) (cb : Nat) (a : Option Addr) (len cap : Nat) (xs : List UInt8) : Prop where
  cur : Cur wr cb a len cap xs
  gr : w.grownBy wr (some cb)
  lt : cb < w.heap.size
  cd : xs = [] ∨ ∀ ad, a = some ad → ad.block < w.heap.size
section
variable {w wr w' : World} {cb : Nat} {a : Option Addr} {len cap : Nat} {xs : List UInt8}
theorem dz_new (hc : Cur w cb a len cap xs) : Dz w w cb a len cap xs := ⟨hc, grownBy_below (Below.refl _ _), hc.lt, hc.code⟩
theorem Dz.size (h : Dz w wr cb a len cap xs) : w.heap.size ≤ wr.heap.size := h.gr.size
theorem Dz.draw (h : Dz w wr cb a len cap xs) (hc : Cur w' cb a len cap xs) (hg : wr.grownBy w' (some cb)) : Dz w w' cb a len cap xs := ⟨hc, grownBy_trans h.gr hg, h.lt, h.cd⟩
theorem Dz.later (h : Dz w wr cb a len cap xs) (hb : Below wr.heap.size wr w') : Dz w w' cb a len cap xs := h.draw (h.cur.later hb) (grownBy_below hb)
theorem Dz.own {row : Option Nat} (h : Dz w wr cb a len cap xs) (hg : wr.grownBy w' row) (hr : ∀ g, row = some g → w.heap.size ≤ g) : Dz w w' cb a len cap xs := ⟨h.cur.past hg h.lt h.cd hr, grownBy_own h.gr hg hr, h.lt, h.cd⟩
theorem grownBy_row {W : World} {g : Nat} (cs : Array Value) : W.grownBy (W.setRow g cs) (some g) := ⟨rfl, rfl, rfl, by simp [World.setRow], fun k _ hk => setRow_other _ _ _ _ (fun e => hk (by rw [e]))⟩
theorem Dz.row (h : Dz w wr cb a len cap xs) (cs : Array Value) : Dz w (wr.setRow w.heap.size cs) cb a len cap xs := h.own (grownBy_row cs) (fun g e => by cases e; exact Nat.le_refl _)
/-- A block of the call's own stays while draws go on. -/
theorem Dz.blk {W : World} {g : Nat} {o : Obj} (h : Dz w wr cb a len cap xs) (hg : wr.grownBy W (some cb)) (hb : wr.heap[g]? = some o) (hge : w.heap.size ≤ g) : W.heap[g]? = some o :=
  (hg.block g (Array.getElem?_eq_some_iff.1 hb).1 (fun e => by have := h.lt; simp at e; omega)).trans hb
end
theorem lit_cell (L : List ByteArray) (W : World) (j : Nat) (h : j < L.length) : (W.alloc (.cells (L.map Value.string).toArray 9)).cell? ⟨W.heap.size, j, none⟩ = some (.string (L.getD j E0)) := by
  rw [World.cell?_alloc_at _ _ _ _ rfl, List.getElem?_toArray, List.getElem?_map, List.getElem?_eq_getElem h, List.getD_eq_getElem?_getD, List.getElem?_eq_getElem h]
  rfl
def L9a : List ByteArray := [⟨#[97]⟩, ⟨#[115, 116, 97, 114, 116]⟩, ⟨#[120, 49]⟩, ⟨#[114, 54]⟩]
def L9b : List ByteArray := [⟨#[46, 119, 111, 114, 100]⟩, ⟨#[46, 109, 97, 99, 114, 111]⟩, ⟨#[46, 120]⟩]
def L9c : List ByteArray := [⟨#[109, 111, 118]⟩, ⟨#[114, 48]⟩, ⟨#[104, 97, 108, 116]⟩]
def L9d : List ByteArray := [⟨#[58]⟩, ⟨#[44]⟩, ⟨#[40]⟩, ⟨#[41]⟩, ⟨#[46]⟩, ⟨#[60]⟩, ⟨#[64]⟩]
theorem ok9a : ∀ j : Fin 4, (Tk.mk 1 0 (L9a.getD j.val E0)).ok = true := by decide +kernel
theorem ok9b : ∀ j : Fin 3, (Tk.mk 3 0 (L9b.getD j.val E0)).ok = true := by decide +kernel
theorem ok9c : ∀ j : Fin 3, (Tk.mk 5 0 (L9c.getD j.val E0)).ok = true := by decide +kernel
theorem ok9d : ∀ j : Fin 7, (Tk.mk 4 0 (L9d.getD j.val E0)).ok = true := by decide +kernel
theorem ok9n (x : Int) (h0 : 0 ≤ x) (h1 : x ≤ 65535) : (Tk.mk 2 x ⟨#[]⟩).ok = true := by
  unfold Tk.ok
  simp only
  rw [if_pos (by decide), inB_t _ _ _ h0 h1]
  rfl
end Go.Proofs.YtmhcbehplhfgfaaDoor

namespace Go.Proofs.YtmhcbehplhfgfaaDoor
open Go.ChangeShapes Go.WideShapes Go.ChangeAt Go.RowKit
set_option linter.unusedVariables false
set_option maxRecDepth 8000
set_option linter.unusedSimpArgs false

theorem szE : (Tryd.prog.info? 31).map (·.size) = some 4 := by kernel_rfl
theorem ex_one (k n : Int) (x : ByteArray) (b : Option Addr) (i j : Nat) : (#[Value.int .i64 k, .int .i64 n, .string x, .slice b i j] : Array Value).all (·.oneCell') = true := by simp [Value.oneCell']
def E0x : Array Value := #[.int .i64 0, .int .i64 0, .string ⟨#[]⟩, .slice none 0 0]
theorem NewX.drawn {wr w' : World} {cb B : Nat} {e : Ex} {c : Option Addr} (h : NewX wr B e c) (hg : wr.grownBy w' (some cb)) (hB : cb < B) : NewX w' B e c := by
  obtain ⟨F, h1, h2, h3⟩ := h
  exact ⟨F, OwX.keep e c F (fun b hF => hg.block b (OwX.lt e c F h1 b hF) (fun e => by have := h3 b hF; simp at e; omega)) h1, h2, h3⟩
theorem NewX.row {wr : World} {B g : Nat} {e : Ex} {c : Option Addr} (h : NewX wr B e c) (cs : Array Value) (hg : g < B) : NewX (wr.setRow g cs) B e c := by
  obtain ⟨F, h1, h2, h3⟩ := h
  exact ⟨F, OwX.keep e c F (fun b hF => setRow_other _ _ _ _ (by have := h3 b hF; omega)) h1, h2, h3⟩
def L10a : List ByteArray := [⟨#[97]⟩, ⟨#[98]⟩, ⟨#[99]⟩]
def L10b : List ByteArray := [⟨#[103]⟩, ⟨#[104]⟩]
theorem sz10a : ∀ j : Fin 3, (L10a.getD j.val E0).size ≤ 1 := by decide +kernel
theorem sz10b : ∀ j : Fin 2, (L10b.getD j.val E0).size ≤ 1 := by decide +kernel
end Go.Proofs.YtmhcbehplhfgfaaDoor

namespace Go.Proofs.YtmhcbehplhfgfaaDoor
open Go.ChangeShapes Go.WideShapes Go.ChangeAt Go.RowKit
set_option linter.unusedVariables false
set_option maxRecDepth 8000
set_option linter.unusedSimpArgs false

theorem fit_l {e : Ex} (h : Fit e) : Fit ⟨0, 0, E0, e.l⟩ := (Fit_eq ⟨0, 0, E0, e.l⟩).2 ⟨show E0.size ≤ 9223372036854775807 by decide, ((Fit_eq e).1 h).2⟩
set_option maxHeartbeats 2000000 in
theorem szA_any (a : Ag) (b : Option Addr) (cap : Nat) (left : Int) (w : World) (hr : RdX w 0 a.e b) (hf : Fit a.e) (h0 : 0 ≤ left) (h1 : left ≤ 1048576) : Calls Tryd.prog 6 #[.agg (a.cs b cap), .int .i64 left] w fun r w' => r = .returned (.int .i64 (lessX left a.e.sz)) ∧ Below w.heap.size w w' := by
  have B0 := below_new w (.cells (a.cs b cap) 26)
  have S := hide (szX_any a.e b cap left _ (hr.later B0) hf h0 h1)
  have HB := hide B0
  unfold lessX at S ⊢
  unfold Ex.cs at S
  unfold Ag.cs at S HB ⊢
  generalize a.e.sz = z at *
  generalize a.e.l.length = ll at *
  generalize a.e.k = k at *
  generalize a.e.n = n at *
  generalize a.e.s = s at *
  generalize a.f = f at *
  generalize a.r = r at *
  clear hr hf B0
  by_cases hneg : left - (z : Int) < 0
  · rw [if_pos hneg] at S ⊢
    clear hneg
    go_enter Tryd.func6, Tryd.ntmps6
    go_wp2_with (go_at_call 18; refine (unhide S).mono ?_; rintro e w1 ⟨rfl, hb1⟩)
    go_ret
    exact ⟨rfl, (unhide HB).trans (hb1.mono (unhide HB).size)⟩
  · rw [if_neg hneg] at S ⊢
    generalize left - (z : Int) = d at *
    go_enter Tryd.func6, Tryd.ntmps6
    go_wp2_with (go_at_call 18; refine (unhide S).mono ?_; rintro e w1 ⟨rfl, hb1⟩)
    go_ret
    exact ⟨rfl, (unhide HB).trans (hb1.mono (unhide HB).size)⟩
set_option maxHeartbeats 2000000 in
theorem eqA_same (a : Ag) (b c : Option Addr) (cp dp : Nat) (w : World) (h1 : RdX w 0 a.e b) (h2 : RdX w 0 a.e c) (hz : a.e.sz ≤ 1048576) : Calls Tryd.prog 10 #[.agg (a.cs b cp), .agg (a.cs c dp)] w fun r w' => r = .returned (.bool true) ∧ Below w.heap.size w w' := by
  have B0 : Below w.heap.size w ((w.alloc (.cells (a.cs b cp) 33)).alloc (.cells (a.cs c dp) 33)) := ((Below.refl _ _).alloc (Nat.le_refl _) _).alloc (by simp) _
  have S := hide (eqX_same a.e b c cp dp _ (h1.later B0) (h2.later B0) hz)
  have HB := hide B0
  unfold Ex.cs at S
  unfold Ag.cs at S HB ⊢
  generalize a.e.l.length = ll at *
  generalize a.e.k = k at *
  generalize a.e.n = n at *
  generalize a.e.s = s at *
  generalize a.f = f at *
  generalize a.r = r at *
  clear h1 h2 hz B0
  go_enter Tryd.func10, Tryd.ntmps10
  go_wp2_with (go_at_call 24; refine (unhide S).mono ?_; rintro e w1 ⟨rfl, hb1⟩)
  go_ret
  exact ⟨rfl, (unhide HB).trans (hb1.mono (unhide HB).size)⟩
theorem three_new0 (w : World) (o1 o2 o3 : Obj) : (((w.alloc o1).alloc o2).alloc o3).heap[w.heap.size]? = some o1 := by
  have p1 : (w.alloc o1).heap[w.heap.size]? = some o1 := Array.getElem?_push_size
  exact (((Below.refl (w.alloc o1).heap.size (w.alloc o1)).alloc (Nat.le_refl _) o2).alloc (by simp) o3).block _ (by simp) |>.trans p1
theorem heap_setK {w : World} {g : Nat} {cs : Array Value} {t : TypeId} (o : Nat) (v : Value) (h : w.heap[g]? = some (.cells cs t (0, 0))) : (w.setCell ⟨g, o, none⟩ v).heap[g]? = some (.cells (cs.setIfInBounds o v) t (0, 0)) := heap_setCell_same _ g o _ t v h
set_option maxHeartbeats 4000000 in
theorem toA_any (a : Ag) (b : Option Addr) (cap : Nat) (w : World) (hr : RdX w 0 a.e b) (hz : a.e.sz ≤ 1048576) : Calls Tryd.prog 8 #[.agg (a.cs b cap)] w fun r w' => ∃ (c : Option Addr) (cp : Nat), r = .returned (.agg (a.cs c cp)) ∧ NewX w' w.heap.size a.e c ∧ Below w.heap.size w w' := by
  obtain ⟨hb, hg1, hg2⟩ := three_new w (.cells (a.cs b cap) 26) (.cells #[.int .i64 0, .int .i64 0, .int .i64 0, .int .i64 0, .string ⟨#[]⟩, .slice none 0 0] 33) (.cells #[.int .i64 a.f, .int .i64 a.r, .int .i64 0, .int .i64 0, .string ⟨#[]⟩, .slice none 0 0] 33)
  obtain ⟨W, hW⟩ : ∃ W, ((w.alloc (.cells (a.cs b cap) 26)).alloc (.cells #[.int .i64 0, .int .i64 0, .int .i64 0, .int .i64 0, .string ⟨#[]⟩, .slice none 0 0] 33)).alloc (.cells #[.int .i64 a.f, .int .i64 a.r, .int .i64 0, .int .i64 0, .string ⟨#[]⟩, .slice none 0 0] 33) = W := ⟨_, rfl⟩
  have hsz : w.heap.size + 3 = W.heap.size := by rw [← hW]; simp
  have hg0 := three_new0 w (.cells (a.cs b cap) 26) (.cells #[.int .i64 0, .int .i64 0, .int .i64 0, .int .i64 0, .string ⟨#[]⟩, .slice none 0 0] 33) (.cells #[.int .i64 a.f, .int .i64 a.r, .int .i64 0, .int .i64 0, .string ⟨#[]⟩, .slice none 0 0] 33)
  rw [hW] at hb hg1 hg2 hg0
  have c2 := Lib.cell_of_heap hg0 2
  have c3 := Lib.cell_of_heap hg0 3
  have c4 := Lib.cell_of_heap hg0 4
  have c5 := Lib.cell_of_heap hg0 5
  have S := hide (toX_any a.e b cap W (hr.later hb) hz)
  have HB := hide hb
  have G1 := hide hg1
  have G2 := hide hg2
  have HS := hide hsz
  clear hr hb hg0 hg1 hg2 hz hsz
  unfold Ex.cs at S
  unfold Ag.cs at hW c2 c3 c4 c5 ⊢
  simp at c2 c3 c4 c5
  generalize a.e.l.length = ll at *
  generalize a.e.k = k at *
  generalize a.e.n = n at *
  generalize a.e.s = s at *
  generalize a.f = f at *
  generalize a.r = r at *
  go_enter Tryd.func8, Tryd.ntmps8
  go_wp2_with fail
  refine (unhide S).mono ?_
  rintro e w1 ⟨c, cp, rfl, hn, hb1⟩
  have hl := unhide HS
  have q1 := row_keep (unhide G1) hb1
  have q2 := row_keep (unhide G2) hb1
  have B1 := (unhide HB).trans (hb1.mono (unhide HB).size)
  have hg : w1.grownBy ((((w1.setCell ⟨w.heap.size + 1 + 1, 2, none⟩ (.int .i64 k)).setCell ⟨w.heap.size + 1 + 1, 3, none⟩ (.int .i64 n)).setCell ⟨w.heap.size + 1 + 1, 4, none⟩ (.string s)).setCell ⟨w.heap.size + 1 + 1, 5, none⟩ (.slice c ll cp)) (some (w.heap.size + 1 + 1)) := (grownBy_trans (grownBy_trans (grownBy_trans (grownBy_set (.int .i64 k)) (grownBy_set (.int .i64 n))) (grownBy_set (.string s))) (grownBy_set (.slice c ll cp)))
  have N2 := hide ((hn.drawn hg (by omega)).lower (show w.heap.size + 2 ≤ W.heap.size by omega))
  have Q1 := hide ((hg.block _ (Array.getElem?_eq_some_iff.1 q1).1 (fun e => by simp at e)).trans q1)
  have Q2 := hide (show (((((w1.setCell ⟨w.heap.size + 1 + 1, 2, none⟩ (.int .i64 k)).setCell ⟨w.heap.size + 1 + 1, 3, none⟩ (.int .i64 n)).setCell ⟨w.heap.size + 1 + 1, 4, none⟩ (.string s)).setCell ⟨w.heap.size + 1 + 1, 5, none⟩ (.slice c ll cp))).heap[w.heap.size + 1 + 1]? = some (.cells #[.int .i64 f, .int .i64 r, .int .i64 k, .int .i64 n, .string s, .slice c ll cp] 33 (0, 0)) from heap_setK 5 _ (heap_setK 4 _ (heap_setK 3 _ (heap_setK 2 _ q2))))
  have BB := hide (B1.grown hg B1.size (fun g e => by cases e; omega))
  have k2 := Lib.cell_of_heap q2 2
  have f2 := Lib.frozen_of_heap q2 2
  have k3 := Lib.cell_of_heap q2 3
  have f3 := Lib.frozen_of_heap q2 3
  have k4 := Lib.cell_of_heap q2 4
  have f4 := Lib.frozen_of_heap q2 4
  have k5 := Lib.cell_of_heap q2 5
  have f5 := Lib.frozen_of_heap q2 5
  clear hn hb1 q1 q2 B1 hg S G1 G2 hl
  obtain ⟨w2, hw2⟩ : ∃ w2, ((((w1.setCell ⟨w.heap.size + 1 + 1, 2, none⟩ (.int .i64 k)).setCell ⟨w.heap.size + 1 + 1, 3, none⟩ (.int .i64 n)).setCell ⟨w.heap.size + 1 + 1, 4, none⟩ (.string s)).setCell ⟨w.heap.size + 1 + 1, 5, none⟩ (.slice c ll cp)) = w2 := ⟨_, rfl⟩
  rw [hw2] at N2 Q1 Q2 BB
  go_wp2_with (first | (refine wpList_load_row rfl 33 _ rfl (w.heap.size + 1 + 1) rfl 33 #[.int .i64 f, .int .i64 r, .int .i64 k, .int .i64 n, .string s, .slice c ll cp] (0, 0) _ (unhide Q2) Tryd.underlying33 rfl (by kernel_rfl) ?_) | (refine wpList_store_row rfl 33 _ _ rfl (w.heap.size + 1) #[.int .i64 f, .int .i64 r, .int .i64 k, .int .i64 n, .string s, .slice c ll cp] rfl rfl 33 _ (unhide Q1) (by kernel_rfl) rfl (by simp [Value.oneCell']) ?_))
  refine bodyPost_ret (results_cell_row (P := Tryd.prog) rfl _ _ (w.heap.size + 1) 33 #[.int .i64 f, .int .i64 r, .int .i64 k, .int .i64 n, .string s, .slice c ll cp] (0, 0) _ rfl (setRow_heap _ _ _ _ _ _ (unhide Q1)) Tryd.underlying33 rfl (by kernel_rfl)) rfl ?_
  exact ⟨c, cp, rfl, ((unhide N2).row _ (by omega)).lower (by omega), (unhide BB).grown (grownBy_row _) (unhide BB).size (fun g e => by cases e; omega)⟩
end Go.Proofs.YtmhcbehplhfgfaaDoor
