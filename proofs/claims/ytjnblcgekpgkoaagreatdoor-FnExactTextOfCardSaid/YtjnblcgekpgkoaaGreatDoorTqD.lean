/- Contracts over this seat's translation, laid together; conditions stand as hypotheses of each. -/
import Derived.Test.YtjnblcgekpgkoaaGreatDoorTqC
import Derived.Lib.Strings
import Derived.Lib.Slices
import Derived.LoopN
import Derived.ScopeJumps
import Derived.Laws.AppendOwn
import Derived.Deep.WholeRow
namespace Go.Proofs.YtjnblcgekpgkoaaGreatDoor
open Go.ChangeShapes Go.WideShapes Go.ChangeAt Go.RowKit
set_option maxHeartbeats 16000000
set_option linter.unusedVariables false
set_option maxRecDepth 8000
set_option linter.unusedSimpArgs false
theorem ok_cases {d : Nat} {e : Ex} (h : okF (d + 1) false e = true) : (∃ n : Int, (0 ≤ n ∧ n ≤ 65535) ∧ e = ⟨1, n, E0, []⟩) ∨ (∃ s, nameB s = true ∧ e = ⟨2, 0, s, []⟩) ∨ e = ⟨3, 0, E0, []⟩ ∨ (∃ a, okF d false a = true ∧ e = ⟨4, 0, E0, [a]⟩) ∨ (∃ k a b, (5 ≤ k ∧ k ≤ 10) ∧ okF d false a = true ∧ okF d false b = true ∧ e = ⟨k, 0, E0, [a, b]⟩) ∨ (∃ n : Int, (0 ≤ n ∧ n ≤ 9) ∧ e = ⟨11, n, E0, []⟩) ∨ (∃ s, nameB s = true ∧ e = ⟨12, 0, s, []⟩) := by
 obtain ⟨k, n, s, l⟩ := e
 rw [okf_v, Bool.and_eq_true] at h
 obtain ⟨h1, h2⟩ := h
 match l, h1, h2 with
 | [], h1, _ =>
  have hn : k ≠ 1 → k ≠ 11 → n = 0 := fun g1 g2 => Classical.byContradiction fun hn => by
   unfold hereV Ex.here at h1
   rw [if_pos (by simp [g1, g2, hn])] at h1
   cases h1
  have hs : k ≠ 2 → k ≠ 12 → s = E0 := fun g1 g2 => Classical.byContradiction fun hn => by
   have es := (emp_E s hn).2
   unfold hereV Ex.here at h1
   rw [if_pos (by simp [g1, g2, es])] at h1
   cases h1
  by_cases k1 : k = 1
  ·
   subst k1
   obtain rfl := hs (by decide) (by decide)
   rw [show hereV 1 n E0 ([] : List Ex).length = inB n 0 65535 by simp [hereV, Ex.here, eqE]] at h1
   exact .inl ⟨n, (inB_iff _ _ _).1 h1, rfl⟩
  by_cases k2 : k = 2
  ·
   subst k2
   obtain rfl := hn (by decide) (by decide)
   rw [show hereV 2 0 s ([] : List Ex).length = nameB s by simp [hereV, Ex.here]] at h1
   exact .inr (.inl ⟨s, h1, rfl⟩)
  by_cases k11 : k = 11
  ·
   subst k11
   obtain rfl := hs (by decide) (by decide)
   rw [show hereV 11 n E0 ([] : List Ex).length = inB n 0 9 by simp [hereV, Ex.here, eqE]] at h1
   exact .inr (.inr (.inr (.inr (.inr (.inl ⟨n, (inB_iff _ _ _).1 h1, rfl⟩)))))
  by_cases k12 : k = 12
  ·
   subst k12
   obtain rfl := hn (by decide) (by decide)
   rw [show hereV 12 0 s ([] : List Ex).length = nameB s by simp [hereV, Ex.here]] at h1
   exact .inr (.inr (.inr (.inr (.inr (.inr ⟨s, h1, rfl⟩)))))
  obtain rfl := hn k1 k11
  obtain rfl := hs k2 k12
  by_cases k3 : k = 3
  · subst k3; exact .inr (.inr (.inl rfl))
  exfalso
  unfold hereV Ex.here at h1
  simp only [List.length_replicate, List.length_nil] at h1
  rw [if_neg (by simp [eqE]), if_neg k1, if_neg (by omega), if_neg k3] at h1
  repeat' (split at h1)
  all_goals first | cases h1 | exact absurd h1 (by decide) | omega
 | [a], h1, h2 =>
  have hn : n = 0 := Classical.byContradiction fun hn => by rw [hereV_n k n s _ (by simp) hn] at h1; cases h1
  have hs : s = E0 := Classical.byContradiction fun hn => by rw [hereV_s k n s _ (by simp) hn] at h1; cases h1
  subst hn hs
  have h3 : hereV k 0 ⟨#[]⟩ 1 = true := h1
  rw [here_one, beq_iff_eq] at h3
  subst h3
  exact .inr (.inr (.inr (.inl ⟨a, by simpa using h2, rfl⟩)))
 | [a, b], h1, h2 =>
  have hn : n = 0 := Classical.byContradiction fun hn => by rw [hereV_n k n s _ (by simp) hn] at h1; cases h1
  have hs : s = E0 := Classical.byContradiction fun hn => by rw [hereV_s k n s _ (by simp) hn] at h1; cases h1
  subst hn hs
  have h3 : hereV k 0 ⟨#[]⟩ 2 = true := h1
  rw [here_two] at h3
  have h4 : okF d false a = true ∧ okF d false b = true := by simpa using h2
  exact .inr (.inr (.inr (.inr (.inl ⟨k, a, b, (inB_iff _ _ _).1 h3, h4.1, h4.2, rfl⟩))))
 | a :: b :: c :: r, h1, _ => rw [here_more k n s _ (by simp)] at h1; cases h1
theorem plain_one (d : Nat) (a : Ex) : okF (d + 1) true ⟨4, 0, E0, [a]⟩ = okF d true a := by simp [okF, Ex.here, eqE]
theorem plain_pair (d : Nat) {k : Int} (hk : 5 ≤ k ∧ k ≤ 10) (a b : Ex) : okF (d + 1) true ⟨k, 0, E0, [a, b]⟩ = (okF d true a && okF d true b) := by
 have : k = 5 ∨ k = 6 ∨ k = 7 ∨ k = 8 ∨ k = 9 ∨ k = 10 := by omega
 rcases this with rfl | rfl | rfl | rfl | rfl | rfl <;> simp [okF, Ex.here, eqE]
def IsP (d : Nat) : Prop := ∀ (e : Ex) (w : World), okF d false e = true → Calls Tryz.prog 181 #[tv e] w fun r w' => r = .returned (.bool (okF d true e)) ∧ Below w.heap.size w w'
theorem ta_no {P : Program} {T u it : TypeId} {x z : Value} {fs : Array Field} (w : World) (hu : P.underlying u = some (.struct fs)) (hz : (zeroValue u).run P w = .ok z w) (h : T ≠ u) : (Instr.typeAssert (.iface T x) it u true).run P w = .ok (.tuple #[z, .bool false]) w := by
 simp [Instr.typeAssert, run_underlying hu, h, hz]
theorem taN_num (T : TypeId) (x : Value) (h : T ≠ 182) (w : World) : (Instr.typeAssert (.iface T x) 83 182 true).run Tryz.prog w = .ok (.tuple #[.agg #[.int .i64 0], .bool false]) w := ta_no w Tryz.underlying182 (by kernel_rfl) h
theorem taY_num (x : Value) (w : World) : (Instr.typeAssert (.iface 182 x) 83 182 true).run Tryz.prog w = .ok (.tuple #[x, .bool true]) w := by kernel_rfl
theorem taN_sym (T : TypeId) (x : Value) (h : T ≠ 184) (w : World) : (Instr.typeAssert (.iface T x) 83 184 true).run Tryz.prog w = .ok (.tuple #[.agg #[.string ⟨#[]⟩], .bool false]) w := ta_no w Tryz.underlying184 (by kernel_rfl) h
theorem taY_sym (x : Value) (w : World) : (Instr.typeAssert (.iface 184 x) 83 184 true).run Tryz.prog w = .ok (.tuple #[x, .bool true]) w := by kernel_rfl
theorem taN_here (T : TypeId) (x : Value) (h : T ≠ 186) (w : World) : (Instr.typeAssert (.iface T x) 83 186 true).run Tryz.prog w = .ok (.tuple #[.agg #[], .bool false]) w := ta_no w Tryz.underlying186 (by kernel_rfl) h
theorem taY_here (x : Value) (w : World) : (Instr.typeAssert (.iface 186 x) 83 186 true).run Tryz.prog w = .ok (.tuple #[x, .bool true]) w := by kernel_rfl
theorem taN_neg (T : TypeId) (x : Value) (h : T ≠ 188) (w : World) : (Instr.typeAssert (.iface T x) 83 188 true).run Tryz.prog w = .ok (.tuple #[.agg #[.nilIface], .bool false]) w := ta_no w Tryz.underlying188 (by kernel_rfl) h
theorem taY_neg (x : Value) (w : World) : (Instr.typeAssert (.iface 188 x) 83 188 true).run Tryz.prog w = .ok (.tuple #[x, .bool true]) w := by kernel_rfl
theorem taN_add (T : TypeId) (x : Value) (h : T ≠ 228) (w : World) : (Instr.typeAssert (.iface T x) 83 228 true).run Tryz.prog w = .ok (.tuple #[.agg #[.nilIface, .nilIface], .bool false]) w := ta_no w Tryz.underlying228 (by kernel_rfl) h
theorem taY_add (x : Value) (w : World) : (Instr.typeAssert (.iface 228 x) 83 228 true).run Tryz.prog w = .ok (.tuple #[x, .bool true]) w := by kernel_rfl
theorem taN_sub (T : TypeId) (x : Value) (h : T ≠ 229) (w : World) : (Instr.typeAssert (.iface T x) 83 229 true).run Tryz.prog w = .ok (.tuple #[.agg #[.nilIface, .nilIface], .bool false]) w := ta_no w Tryz.underlying229 (by kernel_rfl) h
theorem taY_sub (x : Value) (w : World) : (Instr.typeAssert (.iface 229 x) 83 229 true).run Tryz.prog w = .ok (.tuple #[x, .bool true]) w := by kernel_rfl
theorem taN_mul (T : TypeId) (x : Value) (h : T ≠ 230) (w : World) : (Instr.typeAssert (.iface T x) 83 230 true).run Tryz.prog w = .ok (.tuple #[.agg #[.nilIface, .nilIface], .bool false]) w := ta_no w Tryz.underlying230 (by kernel_rfl) h
theorem taY_mul (x : Value) (w : World) : (Instr.typeAssert (.iface 230 x) 83 230 true).run Tryz.prog w = .ok (.tuple #[x, .bool true]) w := by kernel_rfl
theorem taN_div (T : TypeId) (x : Value) (h : T ≠ 231) (w : World) : (Instr.typeAssert (.iface T x) 83 231 true).run Tryz.prog w = .ok (.tuple #[.agg #[.nilIface, .nilIface], .bool false]) w := ta_no w Tryz.underlying231 (by kernel_rfl) h
theorem taY_div (x : Value) (w : World) : (Instr.typeAssert (.iface 231 x) 83 231 true).run Tryz.prog w = .ok (.tuple #[x, .bool true]) w := by kernel_rfl
theorem taN_and (T : TypeId) (x : Value) (h : T ≠ 232) (w : World) : (Instr.typeAssert (.iface T x) 83 232 true).run Tryz.prog w = .ok (.tuple #[.agg #[.nilIface, .nilIface], .bool false]) w := ta_no w Tryz.underlying232 (by kernel_rfl) h
theorem taY_and (x : Value) (w : World) : (Instr.typeAssert (.iface 232 x) 83 232 true).run Tryz.prog w = .ok (.tuple #[x, .bool true]) w := by kernel_rfl
theorem taN_or (T : TypeId) (x : Value) (h : T ≠ 233) (w : World) : (Instr.typeAssert (.iface T x) 83 233 true).run Tryz.prog w = .ok (.tuple #[.agg #[.nilIface, .nilIface], .bool false]) w := ta_no w Tryz.underlying233 (by kernel_rfl) h
theorem taY_or (x : Value) (w : World) : (Instr.typeAssert (.iface 233 x) 83 233 true).run Tryz.prog w = .ok (.tuple #[x, .bool true]) w := by kernel_rfl
theorem taN_sect (T : TypeId) (x : Value) (h : T ≠ 234) (w : World) : (Instr.typeAssert (.iface T x) 83 234 true).run Tryz.prog w = .ok (.tuple #[.agg #[.int .i64 0], .bool false]) w := ta_no w Tryz.underlying234 (by kernel_rfl) h
theorem taY_sect (x : Value) (w : World) : (Instr.typeAssert (.iface 234 x) 83 234 true).run Tryz.prog w = .ok (.tuple #[x, .bool true]) w := by kernel_rfl
theorem taN_glob (T : TypeId) (x : Value) (h : T ≠ 235) (w : World) : (Instr.typeAssert (.iface T x) 83 235 true).run Tryz.prog w = .ok (.tuple #[.agg #[.string ⟨#[]⟩], .bool false]) w := ta_no w Tryz.underlying235 (by kernel_rfl) h
theorem taY_glob (x : Value) (w : World) : (Instr.typeAssert (.iface 235 x) 83 235 true).run Tryz.prog w = .ok (.tuple #[x, .bool true]) w := by kernel_rfl
theorem me_num (c : Value) (w : World) : (method 389 182 (.agg #[c]) "loop.example/g00329/impl.parts").run Tryz.prog w = .ok (263, .agg #[]) w := by kernel_rfl
theorem me_sym (c : Value) (w : World) : (method 389 184 (.agg #[c]) "loop.example/g00329/impl.parts").run Tryz.prog w = .ok (263, .agg #[]) w := by kernel_rfl
theorem me_here (w : World) : (method 389 186 (.agg #[]) "loop.example/g00329/impl.parts").run Tryz.prog w = .ok (263, .agg #[]) w := by kernel_rfl
theorem me_neg (c : Value) (w : World) : (method 389 188 (.agg #[c]) "loop.example/g00329/impl.parts").run Tryz.prog w = .ok (264, .agg #[c]) w := by kernel_rfl
theorem me_add (c d : Value) (w : World) : (method 389 228 (.agg #[c, d]) "loop.example/g00329/impl.parts").run Tryz.prog w = .ok (265, .agg #[c, d]) w := by kernel_rfl
theorem me_sub (c d : Value) (w : World) : (method 389 229 (.agg #[c, d]) "loop.example/g00329/impl.parts").run Tryz.prog w = .ok (265, .agg #[c, d]) w := by kernel_rfl
theorem me_mul (c d : Value) (w : World) : (method 389 230 (.agg #[c, d]) "loop.example/g00329/impl.parts").run Tryz.prog w = .ok (265, .agg #[c, d]) w := by kernel_rfl
theorem me_div (c d : Value) (w : World) : (method 389 231 (.agg #[c, d]) "loop.example/g00329/impl.parts").run Tryz.prog w = .ok (265, .agg #[c, d]) w := by kernel_rfl
theorem me_and (c d : Value) (w : World) : (method 389 232 (.agg #[c, d]) "loop.example/g00329/impl.parts").run Tryz.prog w = .ok (265, .agg #[c, d]) w := by kernel_rfl
theorem me_or (c d : Value) (w : World) : (method 389 233 (.agg #[c, d]) "loop.example/g00329/impl.parts").run Tryz.prog w = .ok (265, .agg #[c, d]) w := by kernel_rfl
theorem parts0 (w : World) : Calls Tryz.prog 263 #[.agg #[]] w fun r w' => r = .returned (.slice none 0 0) ∧ Below w.heap.size w w' := by
 go_enter Tryz.func263, Tryz.ntmps263
 go_wp2
 go_ret
 exact ⟨rfl, by first | exact Below.refl _ _ | exact below_new w _⟩
theorem two_new (w : World) (o1 o2 : Obj) : ((w.alloc o1).alloc o2).heap[w.heap.size + 1]? = some o2 ∧ Below w.heap.size w ((w.alloc o1).alloc o2) := by
 have h1 : (w.alloc o1).heap.size = w.heap.size + 1 := by simp
 refine ⟨?_, ((Below.refl _ _).alloc (Nat.le_refl _) _).alloc (by simp) _⟩
 rw [← h1]
 exact Array.getElem?_push_size
theorem parts1 (t : TypeId) (x : Value) (w : World) : Calls Tryz.prog 264 #[.agg #[.iface t x]] w fun r w' => ∃ g, r = .returned (.slice (some ⟨g, 0, none⟩) 1 1) ∧ w'.heap[g]? = some (.cells #[.iface t x] 83 (0, 0)) ∧ Below w.heap.size w w' := by
 have T := hide (two_new w (.cells #[.iface t x] 188) (.cells #[.iface t x] 83))
 go_enter Tryz.func264, Tryz.ntmps264
 go_wp2
 go_ret
 exact ⟨_, rfl, (uh T).1, (uh T).2⟩
theorem parts2 (t u : TypeId) (x y : Value) (w : World) : Calls Tryz.prog 265 #[.agg #[.iface t x, .iface u y]] w fun r w' => ∃ g, r = .returned (.slice (some ⟨g, 0, none⟩) 2 2) ∧ w'.heap[g]? = some (.cells #[.iface t x, .iface u y] 83 (0, 0)) ∧ Below w.heap.size w w' := by
 have T := hide (two_new w (.cells #[.iface t x, .iface u y] 226) (.cells #[.iface t x, .iface u y] 83))
 go_enter Tryz.func265, Tryz.ntmps265
 go_wp2
 go_ret
 exact ⟨_, rfl, (uh T).1, (uh T).2⟩
theorem isp_num (n : Int) (w : World) : Calls Tryz.prog 181 #[.iface 182 (.agg #[.int .i64 n])] w fun r w' => r = .returned (.bool true) ∧ Below w.heap.size w w' := by
 have t1 := taN_sect 182 (.agg #[.int .i64 n]) (by decide)
 have t2 := taN_glob 182 (.agg #[.int .i64 n]) (by decide)
 have m := me_num (.int .i64 n)
 have P0 := hide (parts0 w)
 go_enter Tryz.func181, Tryz.ntmps181
 go_wp2_with (go_at_call 263; refine (uh P0).mono ?_; rintro r w1 ⟨rfl, hb⟩)
 refine wp_loop_rounds 1 ?_
 rw [rounds_succ]
 go_wp2
 go_ret
 exact ⟨rfl, hb⟩
theorem isp_sym (s : ByteArray) (w : World) : Calls Tryz.prog 181 #[.iface 184 (.agg #[.string s])] w fun r w' => r = .returned (.bool true) ∧ Below w.heap.size w w' := by
 have t1 := taN_sect 184 (.agg #[.string s]) (by decide)
 have t2 := taN_glob 184 (.agg #[.string s]) (by decide)
 have m := me_sym (.string s)
 have P0 := hide (parts0 w)
 go_enter Tryz.func181, Tryz.ntmps181
 go_wp2_with (go_at_call 263; refine (uh P0).mono ?_; rintro r w1 ⟨rfl, hb⟩)
 refine wp_loop_rounds 1 ?_
 rw [rounds_succ]
 go_wp2
 go_ret
 exact ⟨rfl, hb⟩
theorem isp_here (w : World) : Calls Tryz.prog 181 #[.iface 186 (.agg #[])] w fun r w' => r = .returned (.bool true) ∧ Below w.heap.size w w' := by
 have t1 := taN_sect 186 (.agg #[]) (by decide)
 have t2 := taN_glob 186 (.agg #[]) (by decide)
 have m := me_here 
 have P0 := hide (parts0 w)
 go_enter Tryz.func181, Tryz.ntmps181
 go_wp2_with (go_at_call 263; refine (uh P0).mono ?_; rintro r w1 ⟨rfl, hb⟩)
 refine wp_loop_rounds 1 ?_
 rw [rounds_succ]
 go_wp2
 go_ret
 exact ⟨rfl, hb⟩
theorem isp_sect (n : Int) (w : World) : Calls Tryz.prog 181 #[.iface 234 (.agg #[.int .i64 n])] w fun r w' => r = .returned (.bool false) ∧ Below w.heap.size w w' := by
 have t1 := taY_sect (.agg #[.int .i64 n])
 have t2 := taN_glob 234 (.agg #[.int .i64 n]) (by decide)
 go_enter Tryz.func181, Tryz.ntmps181
 go_wp2
 go_ret
 exact ⟨rfl, Below.refl _ _⟩
theorem isp_glob (s : ByteArray) (w : World) : Calls Tryz.prog 181 #[.iface 235 (.agg #[.string s])] w fun r w' => r = .returned (.bool false) ∧ Below w.heap.size w w' := by
 have t1 := taY_glob (.agg #[.string s])
 have t2 := taN_sect 235 (.agg #[.string s]) (by decide)
 go_enter Tryz.func181, Tryz.ntmps181
 go_wp2
 go_ret
 exact ⟨rfl, Below.refl _ _⟩
theorem isp_neg (t : TypeId) (x : Value) (q1 : Bool) (h1 : ∀ w : World, Calls Tryz.prog 181 #[.iface t x] w fun r w' => r = .returned (.bool q1) ∧ Below w.heap.size w w') (w : World) : Calls Tryz.prog 181 #[.iface 188 (.agg #[.iface t x])] w fun r w' => r = .returned (.bool q1) ∧ Below w.heap.size w w' := by
 have t1 := taN_sect 188 (.agg #[.iface t x]) (by decide)
 have t2 := taN_glob 188 (.agg #[.iface t x]) (by decide)
 have m := me_neg (.iface t x)
 have P1 := hide (parts1 t x w)
 have H1 := hide h1
 clear h1
 go_enter Tryz.func181, Tryz.ntmps181
 go_wp2_with (go_at_call 264; refine (uh P1).mono ?_; rintro r w1 ⟨g, rfl, hg, hb⟩)
 have c0 := Lib.cell_of_heap hg 0
 have B1 := hide hb
 have H2 := hide (uh H1 w1)
 clear hg hb P1
 refine wp_loop_rounds 2 ?_
 rw [rounds_succ]
 go_wp2_with fail
 refine (uh H2).mono ?_
 rintro r w2 ⟨rfl, hb2⟩
 have B2 := hide ((uh B1).trans (hb2.mono (uh B1).size))
 clear hb2 c0 H2 H1
 cases q1 with
 | false =>
  go_wp2
  go_ret
  exact ⟨rfl, uh B2⟩
 | true =>
  go_wp2
  rw [rounds_succ]
  go_wp2
  go_ret
  exact ⟨rfl, uh B2⟩
theorem isp_add (t u : TypeId) (x y : Value) (q1 q2 : Bool) (h1 : ∀ w : World, Calls Tryz.prog 181 #[.iface t x] w fun r w' => r = .returned (.bool q1) ∧ Below w.heap.size w w') (h2 : ∀ w : World, Calls Tryz.prog 181 #[.iface u y] w fun r w' => r = .returned (.bool q2) ∧ Below w.heap.size w w') (w : World) : Calls Tryz.prog 181 #[.iface 228 (.agg #[.iface t x, .iface u y])] w fun r w' => r = .returned (.bool (q1 && q2)) ∧ Below w.heap.size w w' := by
 have t1 := taN_sect 228 (.agg #[.iface t x, .iface u y]) (by decide)
 have t2 := taN_glob 228 (.agg #[.iface t x, .iface u y]) (by decide)
 have m := me_add (.iface t x) (.iface u y)
 have P1 := hide (parts2 t u x y w)
 have H1 := hide h1
 have H3 := hide h2
 clear h1 h2
 obtain ⟨T, hT⟩ : ∃ T, (q1 && q2) = T := ⟨_, rfl⟩
 have HT := hide hT
 rw [hT]
 clear hT
 go_enter Tryz.func181, Tryz.ntmps181
 go_wp2_with (go_at_call 265; refine (uh P1).mono ?_; rintro r w1 ⟨g, rfl, hg, hb⟩)
 have c0 := Lib.cell_of_heap hg 0
 have c1 := hide (Lib.cell_of_heap hg 1)
 have gl := hide (Array.getElem?_eq_some_iff.1 hg).1
 have B1 := hide hb
 have H2 := hide (uh H1 w1)
 clear hg hb P1
 refine wp_loop_rounds 3 ?_
 rw [rounds_succ]
 go_wp2_with fail
 refine (uh H2).mono ?_
 rintro r w2 ⟨rfl, hb2⟩
 have B2 := hide ((uh B1).trans (hb2.mono (uh B1).size))
 have d1 := (hb2.cell (p := ⟨g, 1, none⟩) (uh gl)).trans (uh c1)
 clear hb2 c0 c1 H2 H1 gl
 cases q1 with
 | false =>
  have E := hide ((uh HT).symm.trans (Bool.false_and _))
  go_wp2
  go_ret
  exact ⟨by rw [uh E]; rfl, uh B2⟩
 | true =>
  have E := hide ((uh HT).symm.trans (Bool.true_and _))
  have H4 := hide (uh H3 w2)
  go_wp2
  rw [rounds_succ]
  go_wp2_with fail
  refine (uh H4).mono ?_
  rintro r w3 ⟨rfl, hb3⟩
  have B3 := hide ((uh B2).trans (hb3.mono (uh B2).size))
  clear hb3 d1 H4 H3
  cases q2 with
  | false =>
   go_wp2
   go_ret
   exact ⟨by rw [uh E]; rfl, uh B3⟩
  | true =>
   go_wp2
   rw [rounds_succ]
   go_wp2
   go_ret
   exact ⟨by rw [uh E]; rfl, uh B3⟩
theorem isp_sub (t u : TypeId) (x y : Value) (q1 q2 : Bool) (h1 : ∀ w : World, Calls Tryz.prog 181 #[.iface t x] w fun r w' => r = .returned (.bool q1) ∧ Below w.heap.size w w') (h2 : ∀ w : World, Calls Tryz.prog 181 #[.iface u y] w fun r w' => r = .returned (.bool q2) ∧ Below w.heap.size w w') (w : World) : Calls Tryz.prog 181 #[.iface 229 (.agg #[.iface t x, .iface u y])] w fun r w' => r = .returned (.bool (q1 && q2)) ∧ Below w.heap.size w w' := by
 have t1 := taN_sect 229 (.agg #[.iface t x, .iface u y]) (by decide)
 have t2 := taN_glob 229 (.agg #[.iface t x, .iface u y]) (by decide)
 have m := me_sub (.iface t x) (.iface u y)
 have P1 := hide (parts2 t u x y w)
 have H1 := hide h1
 have H3 := hide h2
 clear h1 h2
 obtain ⟨T, hT⟩ : ∃ T, (q1 && q2) = T := ⟨_, rfl⟩
 have HT := hide hT
 rw [hT]
 clear hT
 go_enter Tryz.func181, Tryz.ntmps181
 go_wp2_with (go_at_call 265; refine (uh P1).mono ?_; rintro r w1 ⟨g, rfl, hg, hb⟩)
 have c0 := Lib.cell_of_heap hg 0
 have c1 := hide (Lib.cell_of_heap hg 1)
 have gl := hide (Array.getElem?_eq_some_iff.1 hg).1
 have B1 := hide hb
 have H2 := hide (uh H1 w1)
 clear hg hb P1
 refine wp_loop_rounds 3 ?_
 rw [rounds_succ]
 go_wp2_with fail
 refine (uh H2).mono ?_
 rintro r w2 ⟨rfl, hb2⟩
 have B2 := hide ((uh B1).trans (hb2.mono (uh B1).size))
 have d1 := (hb2.cell (p := ⟨g, 1, none⟩) (uh gl)).trans (uh c1)
 clear hb2 c0 c1 H2 H1 gl
 cases q1 with
 | false =>
  have E := hide ((uh HT).symm.trans (Bool.false_and _))
  go_wp2
  go_ret
  exact ⟨by rw [uh E]; rfl, uh B2⟩
 | true =>
  have E := hide ((uh HT).symm.trans (Bool.true_and _))
  have H4 := hide (uh H3 w2)
  go_wp2
  rw [rounds_succ]
  go_wp2_with fail
  refine (uh H4).mono ?_
  rintro r w3 ⟨rfl, hb3⟩
  have B3 := hide ((uh B2).trans (hb3.mono (uh B2).size))
  clear hb3 d1 H4 H3
  cases q2 with
  | false =>
   go_wp2
   go_ret
   exact ⟨by rw [uh E]; rfl, uh B3⟩
  | true =>
   go_wp2
   rw [rounds_succ]
   go_wp2
   go_ret
   exact ⟨by rw [uh E]; rfl, uh B3⟩
theorem isp_mul (t u : TypeId) (x y : Value) (q1 q2 : Bool) (h1 : ∀ w : World, Calls Tryz.prog 181 #[.iface t x] w fun r w' => r = .returned (.bool q1) ∧ Below w.heap.size w w') (h2 : ∀ w : World, Calls Tryz.prog 181 #[.iface u y] w fun r w' => r = .returned (.bool q2) ∧ Below w.heap.size w w') (w : World) : Calls Tryz.prog 181 #[.iface 230 (.agg #[.iface t x, .iface u y])] w fun r w' => r = .returned (.bool (q1 && q2)) ∧ Below w.heap.size w w' := by
 have t1 := taN_sect 230 (.agg #[.iface t x, .iface u y]) (by decide)
 have t2 := taN_glob 230 (.agg #[.iface t x, .iface u y]) (by decide)
 have m := me_mul (.iface t x) (.iface u y)
 have P1 := hide (parts2 t u x y w)
 have H1 := hide h1
 have H3 := hide h2
 clear h1 h2
 obtain ⟨T, hT⟩ : ∃ T, (q1 && q2) = T := ⟨_, rfl⟩
 have HT := hide hT
 rw [hT]
 clear hT
 go_enter Tryz.func181, Tryz.ntmps181
 go_wp2_with (go_at_call 265; refine (uh P1).mono ?_; rintro r w1 ⟨g, rfl, hg, hb⟩)
 have c0 := Lib.cell_of_heap hg 0
 have c1 := hide (Lib.cell_of_heap hg 1)
 have gl := hide (Array.getElem?_eq_some_iff.1 hg).1
 have B1 := hide hb
 have H2 := hide (uh H1 w1)
 clear hg hb P1
 refine wp_loop_rounds 3 ?_
 rw [rounds_succ]
 go_wp2_with fail
 refine (uh H2).mono ?_
 rintro r w2 ⟨rfl, hb2⟩
 have B2 := hide ((uh B1).trans (hb2.mono (uh B1).size))
 have d1 := (hb2.cell (p := ⟨g, 1, none⟩) (uh gl)).trans (uh c1)
 clear hb2 c0 c1 H2 H1 gl
 cases q1 with
 | false =>
  have E := hide ((uh HT).symm.trans (Bool.false_and _))
  go_wp2
  go_ret
  exact ⟨by rw [uh E]; rfl, uh B2⟩
 | true =>
  have E := hide ((uh HT).symm.trans (Bool.true_and _))
  have H4 := hide (uh H3 w2)
  go_wp2
  rw [rounds_succ]
  go_wp2_with fail
  refine (uh H4).mono ?_
  rintro r w3 ⟨rfl, hb3⟩
  have B3 := hide ((uh B2).trans (hb3.mono (uh B2).size))
  clear hb3 d1 H4 H3
  cases q2 with
  | false =>
   go_wp2
   go_ret
   exact ⟨by rw [uh E]; rfl, uh B3⟩
  | true =>
   go_wp2
   rw [rounds_succ]
   go_wp2
   go_ret
   exact ⟨by rw [uh E]; rfl, uh B3⟩
theorem isp_div (t u : TypeId) (x y : Value) (q1 q2 : Bool) (h1 : ∀ w : World, Calls Tryz.prog 181 #[.iface t x] w fun r w' => r = .returned (.bool q1) ∧ Below w.heap.size w w') (h2 : ∀ w : World, Calls Tryz.prog 181 #[.iface u y] w fun r w' => r = .returned (.bool q2) ∧ Below w.heap.size w w') (w : World) : Calls Tryz.prog 181 #[.iface 231 (.agg #[.iface t x, .iface u y])] w fun r w' => r = .returned (.bool (q1 && q2)) ∧ Below w.heap.size w w' := by
 have t1 := taN_sect 231 (.agg #[.iface t x, .iface u y]) (by decide)
 have t2 := taN_glob 231 (.agg #[.iface t x, .iface u y]) (by decide)
 have m := me_div (.iface t x) (.iface u y)
 have P1 := hide (parts2 t u x y w)
 have H1 := hide h1
 have H3 := hide h2
 clear h1 h2
 obtain ⟨T, hT⟩ : ∃ T, (q1 && q2) = T := ⟨_, rfl⟩
 have HT := hide hT
 rw [hT]
 clear hT
 go_enter Tryz.func181, Tryz.ntmps181
 go_wp2_with (go_at_call 265; refine (uh P1).mono ?_; rintro r w1 ⟨g, rfl, hg, hb⟩)
 have c0 := Lib.cell_of_heap hg 0
 have c1 := hide (Lib.cell_of_heap hg 1)
 have gl := hide (Array.getElem?_eq_some_iff.1 hg).1
 have B1 := hide hb
 have H2 := hide (uh H1 w1)
 clear hg hb P1
 refine wp_loop_rounds 3 ?_
 rw [rounds_succ]
 go_wp2_with fail
 refine (uh H2).mono ?_
 rintro r w2 ⟨rfl, hb2⟩
 have B2 := hide ((uh B1).trans (hb2.mono (uh B1).size))
 have d1 := (hb2.cell (p := ⟨g, 1, none⟩) (uh gl)).trans (uh c1)
 clear hb2 c0 c1 H2 H1 gl
 cases q1 with
 | false =>
  have E := hide ((uh HT).symm.trans (Bool.false_and _))
  go_wp2
  go_ret
  exact ⟨by rw [uh E]; rfl, uh B2⟩
 | true =>
  have E := hide ((uh HT).symm.trans (Bool.true_and _))
  have H4 := hide (uh H3 w2)
  go_wp2
  rw [rounds_succ]
  go_wp2_with fail
  refine (uh H4).mono ?_
  rintro r w3 ⟨rfl, hb3⟩
  have B3 := hide ((uh B2).trans (hb3.mono (uh B2).size))
  clear hb3 d1 H4 H3
  cases q2 with
  | false =>
   go_wp2
   go_ret
   exact ⟨by rw [uh E]; rfl, uh B3⟩
  | true =>
   go_wp2
   rw [rounds_succ]
   go_wp2
   go_ret
   exact ⟨by rw [uh E]; rfl, uh B3⟩
theorem isp_and (t u : TypeId) (x y : Value) (q1 q2 : Bool) (h1 : ∀ w : World, Calls Tryz.prog 181 #[.iface t x] w fun r w' => r = .returned (.bool q1) ∧ Below w.heap.size w w') (h2 : ∀ w : World, Calls Tryz.prog 181 #[.iface u y] w fun r w' => r = .returned (.bool q2) ∧ Below w.heap.size w w') (w : World) : Calls Tryz.prog 181 #[.iface 232 (.agg #[.iface t x, .iface u y])] w fun r w' => r = .returned (.bool (q1 && q2)) ∧ Below w.heap.size w w' := by
 have t1 := taN_sect 232 (.agg #[.iface t x, .iface u y]) (by decide)
 have t2 := taN_glob 232 (.agg #[.iface t x, .iface u y]) (by decide)
 have m := me_and (.iface t x) (.iface u y)
 have P1 := hide (parts2 t u x y w)
 have H1 := hide h1
 have H3 := hide h2
 clear h1 h2
 obtain ⟨T, hT⟩ : ∃ T, (q1 && q2) = T := ⟨_, rfl⟩
 have HT := hide hT
 rw [hT]
 clear hT
 go_enter Tryz.func181, Tryz.ntmps181
 go_wp2_with (go_at_call 265; refine (uh P1).mono ?_; rintro r w1 ⟨g, rfl, hg, hb⟩)
 have c0 := Lib.cell_of_heap hg 0
 have c1 := hide (Lib.cell_of_heap hg 1)
 have gl := hide (Array.getElem?_eq_some_iff.1 hg).1
 have B1 := hide hb
 have H2 := hide (uh H1 w1)
 clear hg hb P1
 refine wp_loop_rounds 3 ?_
 rw [rounds_succ]
 go_wp2_with fail
 refine (uh H2).mono ?_
 rintro r w2 ⟨rfl, hb2⟩
 have B2 := hide ((uh B1).trans (hb2.mono (uh B1).size))
 have d1 := (hb2.cell (p := ⟨g, 1, none⟩) (uh gl)).trans (uh c1)
 clear hb2 c0 c1 H2 H1 gl
 cases q1 with
 | false =>
  have E := hide ((uh HT).symm.trans (Bool.false_and _))
  go_wp2
  go_ret
  exact ⟨by rw [uh E]; rfl, uh B2⟩
 | true =>
  have E := hide ((uh HT).symm.trans (Bool.true_and _))
  have H4 := hide (uh H3 w2)
  go_wp2
  rw [rounds_succ]
  go_wp2_with fail
  refine (uh H4).mono ?_
  rintro r w3 ⟨rfl, hb3⟩
  have B3 := hide ((uh B2).trans (hb3.mono (uh B2).size))
  clear hb3 d1 H4 H3
  cases q2 with
  | false =>
   go_wp2
   go_ret
   exact ⟨by rw [uh E]; rfl, uh B3⟩
  | true =>
   go_wp2
   rw [rounds_succ]
   go_wp2
   go_ret
   exact ⟨by rw [uh E]; rfl, uh B3⟩
theorem isp_or (t u : TypeId) (x y : Value) (q1 q2 : Bool) (h1 : ∀ w : World, Calls Tryz.prog 181 #[.iface t x] w fun r w' => r = .returned (.bool q1) ∧ Below w.heap.size w w') (h2 : ∀ w : World, Calls Tryz.prog 181 #[.iface u y] w fun r w' => r = .returned (.bool q2) ∧ Below w.heap.size w w') (w : World) : Calls Tryz.prog 181 #[.iface 233 (.agg #[.iface t x, .iface u y])] w fun r w' => r = .returned (.bool (q1 && q2)) ∧ Below w.heap.size w w' := by
 have t1 := taN_sect 233 (.agg #[.iface t x, .iface u y]) (by decide)
 have t2 := taN_glob 233 (.agg #[.iface t x, .iface u y]) (by decide)
 have m := me_or (.iface t x) (.iface u y)
 have P1 := hide (parts2 t u x y w)
 have H1 := hide h1
 have H3 := hide h2
 clear h1 h2
 obtain ⟨T, hT⟩ : ∃ T, (q1 && q2) = T := ⟨_, rfl⟩
 have HT := hide hT
 rw [hT]
 clear hT
 go_enter Tryz.func181, Tryz.ntmps181
 go_wp2_with (go_at_call 265; refine (uh P1).mono ?_; rintro r w1 ⟨g, rfl, hg, hb⟩)
 have c0 := Lib.cell_of_heap hg 0
 have c1 := hide (Lib.cell_of_heap hg 1)
 have gl := hide (Array.getElem?_eq_some_iff.1 hg).1
 have B1 := hide hb
 have H2 := hide (uh H1 w1)
 clear hg hb P1
 refine wp_loop_rounds 3 ?_
 rw [rounds_succ]
 go_wp2_with fail
 refine (uh H2).mono ?_
 rintro r w2 ⟨rfl, hb2⟩
 have B2 := hide ((uh B1).trans (hb2.mono (uh B1).size))
 have d1 := (hb2.cell (p := ⟨g, 1, none⟩) (uh gl)).trans (uh c1)
 clear hb2 c0 c1 H2 H1 gl
 cases q1 with
 | false =>
  have E := hide ((uh HT).symm.trans (Bool.false_and _))
  go_wp2
  go_ret
  exact ⟨by rw [uh E]; rfl, uh B2⟩
 | true =>
  have E := hide ((uh HT).symm.trans (Bool.true_and _))
  have H4 := hide (uh H3 w2)
  go_wp2
  rw [rounds_succ]
  go_wp2_with fail
  refine (uh H4).mono ?_
  rintro r w3 ⟨rfl, hb3⟩
  have B3 := hide ((uh B2).trans (hb3.mono (uh B2).size))
  clear hb3 d1 H4 H3
  cases q2 with
  | false =>
   go_wp2
   go_ret
   exact ⟨by rw [uh E]; rfl, uh B3⟩
  | true =>
   go_wp2
   rw [rounds_succ]
   go_wp2
   go_ret
   exact ⟨by rw [uh E]; rfl, uh B3⟩
theorem isp_all : ∀ d : Nat, IsP d := by
 intro d
 induction d with
 | zero => intro e w h; cases h
 | succ d ih =>
  intro e w h
  rcases ok_cases h with ⟨n, hn, rfl⟩ | ⟨s, hs, rfl⟩ | rfl | ⟨a, ha, rfl⟩ | ⟨k, a, b, hk, ha, hb, rfl⟩ | ⟨n, hn, rfl⟩ | ⟨s, hs, rfl⟩
  · rw [tv_num, plain_num hn]; exact isp_num n w
  · rw [tv_sym, plain_sym hs]; exact isp_sym s w
  · rw [tv_here, plain_here]; exact isp_here w
  ·
   obtain ⟨t, x, e1⟩ := tv_if a
   have h1 := fun w => ih a w ha
   rw [e1] at h1
   rw [tv_neg, e1, plain_one]
   exact isp_neg t x _ h1 w
  ·
   obtain ⟨t, x, e1⟩ := tv_if a
   obtain ⟨u, y, e2⟩ := tv_if b
   have h1 := fun w => ih a w ha
   have h2 := fun w => ih b w hb
   rw [e1] at h1
   rw [e2] at h2
   rw [tv_two hk, e1, e2, plain_pair d hk]
   have : k = 5 ∨ k = 6 ∨ k = 7 ∨ k = 8 ∨ k = 9 ∨ k = 10 := by omega
   rcases this with rfl | rfl | rfl | rfl | rfl | rfl
   · exact isp_add t u x y _ _ h1 h2 w
   · exact isp_sub t u x y _ _ h1 h2 w
   · exact isp_mul t u x y _ _ h1 h2 w
   · exact isp_div t u x y _ _ h1 h2 w
   · exact isp_and t u x y _ _ h1 h2 w
   · exact isp_or t u x y _ _ h1 h2 w
  · rw [tv_sect, show okF (d + 1) true ⟨11, n, E0, []⟩ = false by simp [okF]]; exact isp_sect n w
  · rw [tv_glob, show okF (d + 1) true ⟨12, 0, s, []⟩ = false by simp [okF]]; exact isp_glob s w
theorem plain_ok : ∀ (d : Nat) (e : Ex), okF d true e = true → okF d false e = true := by
 intro d
 induction d with
 | zero => intro e h; cases h
 | succ d ih =>
  intro e h
  rw [okF_s, Bool.and_eq_true, Bool.and_eq_true] at h
  rw [okF_s, h.1]
  have h3 := h.2.2
  rw [List.all_eq_true] at h3
  have : e.l.all (okF d false) = true := List.all_eq_true.2 fun x hx => ih x (h3 x hx)
  rw [this]
  rfl
theorem plain_not {d : Nat} {e : Ex} (h : okF d false e = false) : okF d true e = false := by
 cases h2 : okF d true e with
 | false => rfl
 | true => rw [plain_ok d e h2] at h; cases h
theorem kind_num (n : Int) (s : ByteArray) (t u : TypeId) (x y : Value) (w : World) : Calls Tryz.prog 151 #[.iface 182 (.agg #[.int .i64 n])] w fun r w' => r = .returned (.int .i64 1) ∧ w' = w := by
 have tt := taY_num (.agg #[.int .i64 n])
 go_enter Tryz.func151, Tryz.ntmps151
 go_wp2
 go_ret
 exact ⟨rfl, rfl⟩
theorem kind_sym (n : Int) (s : ByteArray) (t u : TypeId) (x y : Value) (w : World) : Calls Tryz.prog 151 #[.iface 184 (.agg #[.string s])] w fun r w' => r = .returned (.int .i64 2) ∧ w' = w := by
 have t0 := taN_num 184 (.agg #[.string s]) (by decide)
 have tt := taY_sym (.agg #[.string s])
 go_enter Tryz.func151, Tryz.ntmps151
 go_wp2
 go_ret
 exact ⟨rfl, rfl⟩
theorem kind_here (n : Int) (s : ByteArray) (t u : TypeId) (x y : Value) (w : World) : Calls Tryz.prog 151 #[.iface 186 (.agg #[])] w fun r w' => r = .returned (.int .i64 3) ∧ w' = w := by
 have t0 := taN_num 186 (.agg #[]) (by decide)
 have t1 := taN_sym 186 (.agg #[]) (by decide)
 have tt := taY_here (.agg #[])
 go_enter Tryz.func151, Tryz.ntmps151
 go_wp2
 go_ret
 exact ⟨rfl, rfl⟩
theorem kind_neg (n : Int) (s : ByteArray) (t u : TypeId) (x y : Value) (w : World) : Calls Tryz.prog 151 #[.iface 188 (.agg #[.iface t x])] w fun r w' => r = .returned (.int .i64 4) ∧ w' = w := by
 have t0 := taN_num 188 (.agg #[.iface t x]) (by decide)
 have t1 := taN_sym 188 (.agg #[.iface t x]) (by decide)
 have t2 := taN_here 188 (.agg #[.iface t x]) (by decide)
 have tt := taY_neg (.agg #[.iface t x])
 go_enter Tryz.func151, Tryz.ntmps151
 go_wp2
 go_ret
 exact ⟨rfl, rfl⟩
theorem kind_add (n : Int) (s : ByteArray) (t u : TypeId) (x y : Value) (w : World) : Calls Tryz.prog 151 #[.iface 228 (.agg #[.iface t x, .iface u y])] w fun r w' => r = .returned (.int .i64 5) ∧ w' = w := by
 have t0 := taN_num 228 (.agg #[.iface t x, .iface u y]) (by decide)
 have t1 := taN_sym 228 (.agg #[.iface t x, .iface u y]) (by decide)
 have t2 := taN_here 228 (.agg #[.iface t x, .iface u y]) (by decide)
 have t3 := taN_neg 228 (.agg #[.iface t x, .iface u y]) (by decide)
 have tt := taY_add (.agg #[.iface t x, .iface u y])
 go_enter Tryz.func151, Tryz.ntmps151
 go_wp2
 go_ret
 exact ⟨rfl, rfl⟩
theorem kind_sub (n : Int) (s : ByteArray) (t u : TypeId) (x y : Value) (w : World) : Calls Tryz.prog 151 #[.iface 229 (.agg #[.iface t x, .iface u y])] w fun r w' => r = .returned (.int .i64 6) ∧ w' = w := by
 have t0 := taN_num 229 (.agg #[.iface t x, .iface u y]) (by decide)
 have t1 := taN_sym 229 (.agg #[.iface t x, .iface u y]) (by decide)
 have t2 := taN_here 229 (.agg #[.iface t x, .iface u y]) (by decide)
 have t3 := taN_neg 229 (.agg #[.iface t x, .iface u y]) (by decide)
 have t4 := taN_add 229 (.agg #[.iface t x, .iface u y]) (by decide)
 have tt := taY_sub (.agg #[.iface t x, .iface u y])
 go_enter Tryz.func151, Tryz.ntmps151
 go_wp2
 go_ret
 exact ⟨rfl, rfl⟩
theorem kind_mul (n : Int) (s : ByteArray) (t u : TypeId) (x y : Value) (w : World) : Calls Tryz.prog 151 #[.iface 230 (.agg #[.iface t x, .iface u y])] w fun r w' => r = .returned (.int .i64 7) ∧ w' = w := by
 have t0 := taN_num 230 (.agg #[.iface t x, .iface u y]) (by decide)
 have t1 := taN_sym 230 (.agg #[.iface t x, .iface u y]) (by decide)
 have t2 := taN_here 230 (.agg #[.iface t x, .iface u y]) (by decide)
 have t3 := taN_neg 230 (.agg #[.iface t x, .iface u y]) (by decide)
 have t4 := taN_add 230 (.agg #[.iface t x, .iface u y]) (by decide)
 have t5 := taN_sub 230 (.agg #[.iface t x, .iface u y]) (by decide)
 have tt := taY_mul (.agg #[.iface t x, .iface u y])
 go_enter Tryz.func151, Tryz.ntmps151
 go_wp2
 go_ret
 exact ⟨rfl, rfl⟩
theorem kind_div (n : Int) (s : ByteArray) (t u : TypeId) (x y : Value) (w : World) : Calls Tryz.prog 151 #[.iface 231 (.agg #[.iface t x, .iface u y])] w fun r w' => r = .returned (.int .i64 8) ∧ w' = w := by
 have t0 := taN_num 231 (.agg #[.iface t x, .iface u y]) (by decide)
 have t1 := taN_sym 231 (.agg #[.iface t x, .iface u y]) (by decide)
 have t2 := taN_here 231 (.agg #[.iface t x, .iface u y]) (by decide)
 have t3 := taN_neg 231 (.agg #[.iface t x, .iface u y]) (by decide)
 have t4 := taN_add 231 (.agg #[.iface t x, .iface u y]) (by decide)
 have t5 := taN_sub 231 (.agg #[.iface t x, .iface u y]) (by decide)
 have t6 := taN_mul 231 (.agg #[.iface t x, .iface u y]) (by decide)
 have tt := taY_div (.agg #[.iface t x, .iface u y])
 go_enter Tryz.func151, Tryz.ntmps151
 go_wp2
 go_ret
 exact ⟨rfl, rfl⟩
theorem kind_and (n : Int) (s : ByteArray) (t u : TypeId) (x y : Value) (w : World) : Calls Tryz.prog 151 #[.iface 232 (.agg #[.iface t x, .iface u y])] w fun r w' => r = .returned (.int .i64 9) ∧ w' = w := by
 have t0 := taN_num 232 (.agg #[.iface t x, .iface u y]) (by decide)
 have t1 := taN_sym 232 (.agg #[.iface t x, .iface u y]) (by decide)
 have t2 := taN_here 232 (.agg #[.iface t x, .iface u y]) (by decide)
 have t3 := taN_neg 232 (.agg #[.iface t x, .iface u y]) (by decide)
 have t4 := taN_add 232 (.agg #[.iface t x, .iface u y]) (by decide)
 have t5 := taN_sub 232 (.agg #[.iface t x, .iface u y]) (by decide)
 have t6 := taN_mul 232 (.agg #[.iface t x, .iface u y]) (by decide)
 have t7 := taN_div 232 (.agg #[.iface t x, .iface u y]) (by decide)
 have tt := taY_and (.agg #[.iface t x, .iface u y])
 go_enter Tryz.func151, Tryz.ntmps151
 go_wp2
 go_ret
 exact ⟨rfl, rfl⟩
theorem kind_or (n : Int) (s : ByteArray) (t u : TypeId) (x y : Value) (w : World) : Calls Tryz.prog 151 #[.iface 233 (.agg #[.iface t x, .iface u y])] w fun r w' => r = .returned (.int .i64 10) ∧ w' = w := by
 have t0 := taN_num 233 (.agg #[.iface t x, .iface u y]) (by decide)
 have t1 := taN_sym 233 (.agg #[.iface t x, .iface u y]) (by decide)
 have t2 := taN_here 233 (.agg #[.iface t x, .iface u y]) (by decide)
 have t3 := taN_neg 233 (.agg #[.iface t x, .iface u y]) (by decide)
 have t4 := taN_add 233 (.agg #[.iface t x, .iface u y]) (by decide)
 have t5 := taN_sub 233 (.agg #[.iface t x, .iface u y]) (by decide)
 have t6 := taN_mul 233 (.agg #[.iface t x, .iface u y]) (by decide)
 have t7 := taN_div 233 (.agg #[.iface t x, .iface u y]) (by decide)
 have t8 := taN_and 233 (.agg #[.iface t x, .iface u y]) (by decide)
 have tt := taY_or (.agg #[.iface t x, .iface u y])
 go_enter Tryz.func151, Tryz.ntmps151
 go_wp2
 go_ret
 exact ⟨rfl, rfl⟩
theorem kind_sect (n : Int) (s : ByteArray) (t u : TypeId) (x y : Value) (w : World) : Calls Tryz.prog 151 #[.iface 234 (.agg #[.int .i64 n])] w fun r w' => r = .returned (.int .i64 11) ∧ w' = w := by
 have t0 := taN_num 234 (.agg #[.int .i64 n]) (by decide)
 have t1 := taN_sym 234 (.agg #[.int .i64 n]) (by decide)
 have t2 := taN_here 234 (.agg #[.int .i64 n]) (by decide)
 have t3 := taN_neg 234 (.agg #[.int .i64 n]) (by decide)
 have t4 := taN_add 234 (.agg #[.int .i64 n]) (by decide)
 have t5 := taN_sub 234 (.agg #[.int .i64 n]) (by decide)
 have t6 := taN_mul 234 (.agg #[.int .i64 n]) (by decide)
 have t7 := taN_div 234 (.agg #[.int .i64 n]) (by decide)
 have t8 := taN_and 234 (.agg #[.int .i64 n]) (by decide)
 have t9 := taN_or 234 (.agg #[.int .i64 n]) (by decide)
 have tt := taY_sect (.agg #[.int .i64 n])
 go_enter Tryz.func151, Tryz.ntmps151
 go_wp2
 go_ret
 exact ⟨rfl, rfl⟩
theorem kind_glob (n : Int) (s : ByteArray) (t u : TypeId) (x y : Value) (w : World) : Calls Tryz.prog 151 #[.iface 235 (.agg #[.string s])] w fun r w' => r = .returned (.int .i64 12) ∧ w' = w := by
 have t0 := taN_num 235 (.agg #[.string s]) (by decide)
 have t1 := taN_sym 235 (.agg #[.string s]) (by decide)
 have t2 := taN_here 235 (.agg #[.string s]) (by decide)
 have t3 := taN_neg 235 (.agg #[.string s]) (by decide)
 have t4 := taN_add 235 (.agg #[.string s]) (by decide)
 have t5 := taN_sub 235 (.agg #[.string s]) (by decide)
 have t6 := taN_mul 235 (.agg #[.string s]) (by decide)
 have t7 := taN_div 235 (.agg #[.string s]) (by decide)
 have t8 := taN_and 235 (.agg #[.string s]) (by decide)
 have t9 := taN_or 235 (.agg #[.string s]) (by decide)
 have t10 := taN_sect 235 (.agg #[.string s]) (by decide)
 have tt := taY_glob (.agg #[.string s])
 go_enter Tryz.func151, Tryz.ntmps151
 go_wp2
 go_ret
 exact ⟨rfl, rfl⟩
theorem kindI_any {d : Nat} {e : Ex} (h : okF d false e = true) (w : World) : Calls Tryz.prog 151 #[tv e] w fun r w' => r = .returned (.int .i64 e.k) ∧ w' = w := by
 cases d with
 | zero => cases h
 | succ d =>
  rcases ok_cases h with ⟨n, hn, rfl⟩ | ⟨s, hs, rfl⟩ | rfl | ⟨a, ha, rfl⟩ | ⟨k, a, b, hk, ha, hb, rfl⟩ | ⟨n, hn, rfl⟩ | ⟨s, hs, rfl⟩
  · rw [tv_num]; exact kind_num n E0 0 0 .nilIface .nilIface w
  · rw [tv_sym]; exact kind_sym 0 s 0 0 .nilIface .nilIface w
  · rw [tv_here]; exact kind_here 0 E0 0 0 .nilIface .nilIface w
  ·
   obtain ⟨t, x, e1⟩ := tv_if a
   rw [tv_neg, e1]; exact kind_neg 0 E0 t 0 x .nilIface w
  ·
   obtain ⟨t, x, e1⟩ := tv_if a
   obtain ⟨u, y, e2⟩ := tv_if b
   rw [tv_two hk, e1, e2]
   have : k = 5 ∨ k = 6 ∨ k = 7 ∨ k = 8 ∨ k = 9 ∨ k = 10 := by omega
   rcases this with rfl | rfl | rfl | rfl | rfl | rfl
   · exact kind_add 0 E0 t u x y w
   · exact kind_sub 0 E0 t u x y w
   · exact kind_mul 0 E0 t u x y w
   · exact kind_div 0 E0 t u x y w
   · exact kind_and 0 E0 t u x y w
   · exact kind_or 0 E0 t u x y w
  · rw [tv_sect]; exact kind_sect n E0 0 0 .nilIface .nilIface w
  · rw [tv_glob]; exact kind_glob 0 s 0 0 .nilIface .nilIface w
theorem szL_allOk : ∀ ts : List Tk, AllOk ts → szL ts ≤ 10 * ts.length := by
 intro ts
 induction ts with
 | nil => intro _; simp [szL]
 | cons t r ih =>
  intro h
  obtain ⟨h1, h2⟩ := h.head
  have := ok_size h1
  have := ih h2
  simp only [szL, List.length_cons]
  omega
theorem kpT_ok (k : Nat) (hk : k < 31) : (kpT k).ok = true := by
 have h : keptB (keptL.getD k E0) = true := hasS_iff.2 (by
  rw [List.getD_eq_getElem?_getD, List.getElem?_eq_getElem (by rw [keptL_len]; exact hk)]
  exact List.getElem_mem _)
 exact h
theorem rgT_ok (n : Nat) (hn : n < 8) : (rgT n).ok = true := kpT_ok _ (by omega)
theorem rnT_ok (n : Nat) (hn : n < 8) : AllOk (rnT n) := allOk_cons (mkT_ok (by decide)) (allOk_cons (rgT_ok n hn) (allOk_cons (mkT_ok (by decide)) allOk_nil))
theorem agX_r {a : Ag} (ok : agX a = true) : 0 ≤ a.r ∧ a.r ≤ 7 := by
 unfold agX at ok
 by_cases h1 : inB a.f 0 5 = true
 · rw [if_pos h1] at ok; exact inB_of (Bool.and_eq_true_iff.1 ok).1
 rw [if_neg h1] at ok
 by_cases h2 : (a.f == 6 || a.f == 7) = true
 · rw [if_pos h2] at ok; exact inB_of (Bool.and_eq_true_iff.1 ok).1
 rw [if_neg h2] at ok
 by_cases h3 : inB a.f 8 11 = true
 ·
  rw [if_pos h3] at ok
  have : a.r = 0 := by simpa using (Bool.and_eq_true_iff.1 ok).1
  omega
 rw [if_neg h3] at ok
 cases ok
theorem agT_all {a : Ag} (ok : agX a = true) : AllOk (agT a) := by
 obtain ⟨f1, f2⟩ := agX_f ok
 obtain ⟨r1, r2⟩ := agX_r ok
 have h8 : a.r.toNat < 8 := by omega
 have hn := rnT_ok _ h8
 have hg := rgT_ok _ h8
 have m43 : (mkT 43).ok = true := mkT_ok (by decide)
 have m64 : (mkT 64).ok = true := mkT_ok (by decide)
 have m45 : (mkT 45).ok = true := mkT_ok (by decide)
 have m35 : (mkT 35).ok = true := mkT_ok (by decide)
 by_cases h6 : 6 ≤ a.f
 ·
  have ht := (toks_ok 6 a.e (agX_e ok h6)).1
  have : a.f = 6 ∨ a.f = 7 ∨ a.f = 8 ∨ a.f = 9 ∨ a.f = 10 ∨ a.f = 11 := by omega
  rcases this with h | h | h | h | h | h <;> (unfold agT; simp only [h]; simp (decide := true) only [if_false, if_true])
  · exact allOk_app ht hn
  · exact allOk_cons m64 (allOk_app ht hn)
  · exact allOk_cons m35 ht
  · exact allOk_cons m64 (allOk_cons m35 ht)
  · exact ht
  · exact allOk_cons m64 ht
 ·
  have : a.f = 0 ∨ a.f = 1 ∨ a.f = 2 ∨ a.f = 3 ∨ a.f = 4 ∨ a.f = 5 := by omega
  rcases this with h | h | h | h | h | h <;> (unfold agT; simp only [h]; simp (decide := true) only [if_false, if_true])
  · exact allOk_cons hg allOk_nil
  · exact hn
  · exact allOk_app hn (allOk_cons m43 allOk_nil)
  · exact allOk_cons m64 (allOk_app hn (allOk_cons m43 allOk_nil))
  · exact allOk_cons m45 hn
  · exact allOk_cons m64 (allOk_cons m45 hn)
theorem cmT_all (l : List Ex) (ok : l.all (okF 6 true) = true) : AllOk (cmT l) := by
 have hl : ∀ e ∈ l, AllOk (toksF 6 e) := fun e he => (toks_ok 6 e (List.all_eq_true.1 ok e he)).1
 cases l with
 | nil => exact allOk_nil
 | cons e r =>
  refine allOk_app (hl e List.mem_cons_self) ?_
  intro t ht
  rw [List.mem_flatten] at ht
  obtain ⟨q, hq, ht⟩ := ht
  obtain ⟨x, hx, rfl⟩ := List.mem_map.1 hq
  exact allOk_cons (mkT_ok (by decide)) (hl x (List.mem_cons_of_mem _ hx)) t ht
theorem cmT_len (l : List Ex) (ok : l.all (okF 6 true) = true) : (cmT l).length ≤ 201 * l.length := by
 have := cmT_le l ok l.length (Nat.le_refl _)
 rwa [List.take_length] at this
theorem nmF_all (l : List Ex) (h : l.all nmF = true) : l.all (okF 6 true) = true := by
 rw [List.all_eq_true] at h ⊢
 intro e he
 exact (Bool.and_eq_true_iff.1 (h e he)).1
theorem insT_all {x : Ln} (ok : insX x = true) : AllOk (insT x) ∧ (insT x).length ≤ 600 := by
 unfold insX insV at ok
 unfold insT
 by_cases h1 : inB x.op 1 6 = true
 ·
  rw [if_pos h1] at ok
  simp only [Bool.and_eq_true] at ok
  obtain ⟨q1, q2⟩ := inB_of h1
  rw [if_pos q2]
  have l1 := (agT_ok ok.1).2
  have l2 := (agT_ok ok.2.1).2
  exact ⟨allOk_cons (kpT_ok _ (by omega)) (allOk_app (agT_all ok.1) (allOk_cons (mkT_ok (by decide)) (agT_all ok.2.1))), by simp only [List.length_cons, List.length_append]; omega⟩
 rw [if_neg h1] at ok
 by_cases h2 : inB x.op 7 14 = true
 ·
  rw [if_pos h2] at ok
  simp only [Bool.and_eq_true] at ok
  obtain ⟨q1, q2⟩ := inB_of h2
  rw [if_neg (by omega), if_pos q2]
  have l2 := (agT_ok ok.2.1).2
  exact ⟨allOk_cons (kpT_ok _ (by omega)) (agT_all ok.2.1), by simp only [List.length_cons]; omega⟩
 rw [if_neg h2] at ok
 by_cases h3 : x.op = 15
 ·
  rw [if_pos (by simp [h3])] at ok
  simp only [Bool.and_eq_true] at ok
  obtain ⟨q1, q2⟩ := inB_of ok.2.2.1
  rw [if_neg (by omega), if_neg (by omega), if_pos h3]
  have l2 := (agT_ok ok.2.1).2
  exact ⟨allOk_cons (kpT_ok _ (by omega)) (allOk_cons (rgT_ok _ (by omega)) (allOk_cons (mkT_ok (by decide)) (agT_all ok.2.1))), by simp only [List.length_cons]; omega⟩
 rw [if_neg (by simp [h3])] at ok
 by_cases h4 : (!nonX x.src || !nonX x.dst) = true
 ·
  rw [if_pos h4] at ok
  cases ok
 rw [if_neg h4] at ok
 by_cases h5 : x.op = 16
 ·
  rw [if_pos (by simp [h5])] at ok
  simp only [Bool.and_eq_true] at ok
  obtain ⟨q1, q2⟩ := inB_of ok.1
  rw [if_neg (by omega), if_neg (by omega), if_neg h3, if_pos h5]
  exact ⟨allOk_cons (kpT_ok _ (by omega)) (allOk_cons (rgT_ok _ (by omega)) allOk_nil), by simp⟩
 rw [if_neg (by simp [h5])] at ok
 by_cases h6 : x.op = 22
 ·
  rw [if_neg (by omega), if_neg (by omega), if_neg h3, if_neg h5, if_pos h6]
  exact ⟨allOk_cons (kpT_ok _ (by omega)) allOk_nil, by simp⟩
 rw [if_neg (by simp [h6])] at ok
 by_cases h7 : (inB x.op 17 21 || x.op == 23) = true
 ·
  rw [if_pos h7] at ok
  simp only [Bool.and_eq_true, beq_iff_eq] at ok
  have h8 : 17 ≤ x.op ∧ x.op ≤ 23 ∧ x.op ≠ 22 := by
   rcases Bool.or_eq_true_iff.1 h7 with h | h
   · have := inB_of h; omega
   ·
    have : x.op = 23 := by simpa using h
    omega
  have okt : okF 6 true (xAt x.l 0) = true := List.all_eq_true.1 ok.2.2 _ (xAt_mem (by omega))
  have l2 := toks_le okt
  rw [if_neg (by omega), if_neg (by omega), if_neg h3, if_neg h5, if_neg h6]
  exact ⟨allOk_cons (kpT_ok _ (by omega)) (toks_ok 6 _ okt).1, by simp only [List.length_cons]; omega⟩
 rw [if_neg h7] at ok
 cases ok
theorem lnT_all {x : Ln} (ok : lnX x = true) : AllOk (lnT x) ∧ (lnT x).length ≤ 1300 := by
 unfold lnX lnV at ok
 unfold lnT
 by_cases k3 : x.k = 3
 ·
  rw [if_pos (by simp [k3])] at ok
  have oki := (Bool.and_eq_true_iff.1 ok).2
  rw [if_neg (by omega), if_neg (by omega), if_pos k3]
  obtain ⟨r1, r2⟩ := insT_all oki; exact ⟨r1, by omega⟩
 rw [if_neg (by simp [k3])] at ok
 by_cases h0 : (!(x.op == 0) || (!nonX x.src || !nonX x.dst)) = true
 ·
  rw [if_pos h0] at ok
  cases ok
 rw [if_neg h0] at ok
 by_cases k0 : x.k = 0
 ·
  rw [if_neg (by omega), if_neg (by omega), if_neg (by omega), if_neg (by omega), if_neg (by omega), if_neg (by omega), if_neg (by omega), if_neg (by omega)]
  exact ⟨allOk_nil, by simp⟩
 by_cases k8 : x.k = 8
 ·
  rw [if_pos (by simp [k8])] at ok
  simp only [Bool.and_eq_true, beq_iff_eq] at ok
  have hl : x.l.length = 0 := ok.2.2
  have hnil : x.l = [] := List.eq_nil_of_length_eq_zero hl
  have okl : x.l.all (okF 6 true) = true := by rw [hnil]; rfl
  rw [if_neg (by omega), if_neg (by omega), if_neg k3, if_neg (by omega), if_neg (by omega), if_neg (by omega), if_pos k8]
  have lc := cmT_len _ okl; exact ⟨allOk_cons (by decide) (cmT_all _ okl), by unfold tmT; simp only [List.length_cons]; omega⟩
 rw [if_neg (by simp [k0, k8])] at ok
 by_cases k1 : x.k = 1
 ·
  rw [if_pos (by simp [k1])] at ok
  have oki := (Bool.and_eq_true_iff.1 ok).1
  rw [if_pos k1]
  exact ⟨allOk_cons oki (allOk_cons (mkT_ok (by decide)) allOk_nil), by simp⟩
 rw [if_neg (by simp [k1])] at ok
 by_cases k2 : x.k = 2
 ·
  rw [if_pos (by simp [k2])] at ok
  simp only [Bool.and_eq_true, beq_iff_eq] at ok
  have okt : okF 6 true (xAt x.l 0) = true := List.all_eq_true.1 ok.2.2.2 _ (xAt_mem (by omega))
  rw [if_neg k1, if_pos k2]
  have l2 := toks_le okt; exact ⟨allOk_cons ok.1 (allOk_cons (mkT_ok (by decide)) (toks_ok 6 _ okt).1), by simp only [List.length_cons]; omega⟩
 rw [if_neg (by simp [k2])] at ok
 by_cases k4 : x.k = 4
 ·
  rw [if_pos (by simp [k4])] at ok
  simp only [Bool.and_eq_true, beq_iff_eq] at ok
  obtain ⟨q1, q2⟩ := inB_of ok.2.2.1
  have hl : x.l.length ≤ 6 := by omega
  have okl := ok.2.2.2
  rw [if_neg k1, if_neg k2, if_neg k3, if_pos k4]
  have lc := cmT_len _ okl; exact ⟨allOk_cons (by decide) (cmT_all _ okl), by unfold tmT; simp only [List.length_cons]; omega⟩
 rw [if_neg (by simp [k4])] at ok
 by_cases k5 : x.k = 5
 ·
  rw [if_pos (by simp [k5])] at ok
  simp only [Bool.and_eq_true, beq_iff_eq] at ok
  have hl : x.l.length ≤ 6 := by omega
  have okl := ok.2.2.2
  rw [if_neg k1, if_neg k2, if_neg k3, if_neg k4, if_pos k5]
  have lc := cmT_len _ okl; exact ⟨allOk_cons (by decide) (cmT_all _ okl), by unfold tmT; simp only [List.length_cons]; omega⟩
 rw [if_neg (by simp [k5])] at ok
 by_cases k6 : x.k = 6
 ·
  rw [if_pos (by simp [k6])] at ok
  simp only [Bool.and_eq_true] at ok
  have oki := ok.1
  rw [if_neg k1, if_neg k2, if_neg k3, if_neg k4, if_neg k5, if_neg (by omega), if_neg k8, if_pos k6]
  by_cases n1 : x.n = 1
  ·
   rw [if_pos n1]
   exact ⟨allOk_cons (by decide) (allOk_cons oki (allOk_cons (mkT_ok (by decide)) (allOk_cons (by kernel_rfl) allOk_nil))), by simp⟩
  ·
   rw [if_neg n1]
   exact ⟨allOk_cons (by decide) (allOk_cons oki allOk_nil), by simp⟩
 rw [if_neg (by simp [k6])] at ok
 by_cases k7 : x.k = 7
 ·
  rw [if_pos (by simp [k7])] at ok
  simp only [Bool.and_eq_true] at ok
  have okn := Bool.and_eq_true_iff.1 (show (x.l.all nmF && inB x.l.length 1 6) = true from ok.2.2)
  have okl := nmF_all _ okn.1
  obtain ⟨q1, q2⟩ := inB_of okn.2
  have hl : x.l.length ≤ 6 := by omega
  rw [if_neg k1, if_neg k2, if_neg k3, if_neg k4, if_neg k5, if_pos k7]
  have lc := cmT_len _ okl; exact ⟨allOk_cons (by decide) (cmT_all _ okl), by unfold tmT; simp only [List.length_cons]; omega⟩
 rw [if_neg (by simp [k7])] at ok
 cases ok
theorem lntS_any (x : Ln) (p : La) (w : World) (hr : RdL w x p) (ok : lnX x = true) : Calls Tryz.prog 107 #[.agg (x.cs p)] w fun r w' => ∃ v, r = .returned v ∧ OwnT w' w.heap.size v (lnT x) ∧ Below w.heap.size w w' := by
 unfold lnX lnV at ok
 unfold lnT
 by_cases k3 : x.k = 3
 ·
  rw [if_pos (by simp [k3])] at ok
  have oki := (Bool.and_eq_true_iff.1 ok).2
  rw [if_neg (by omega), if_neg (by omega), if_pos k3]
  exact ln_3 x p w hr k3 oki
 rw [if_neg (by simp [k3])] at ok
 by_cases h0 : (!(x.op == 0) || (!nonX x.src || !nonX x.dst)) = true
 ·
  rw [if_pos h0] at ok
  cases ok
 rw [if_neg h0] at ok
 by_cases k0 : x.k = 0
 ·
  rw [if_neg (by omega), if_neg (by omega), if_neg (by omega), if_neg (by omega), if_neg (by omega), if_neg (by omega), if_neg (by omega), if_neg (by omega)]
  exact ln_0 x p w hr k0 trivial
 by_cases k8 : x.k = 8
 ·
  rw [if_pos (by simp [k8])] at ok
  simp only [Bool.and_eq_true, beq_iff_eq] at ok
  have hl : x.l.length = 0 := ok.2.2
  have hnil : x.l = [] := List.eq_nil_of_length_eq_zero hl
  have okl : x.l.all (okF 6 true) = true := by rw [hnil]; rfl
  rw [if_neg (by omega), if_neg (by omega), if_neg k3, if_neg (by omega), if_neg (by omega), if_neg (by omega), if_pos k8]
  exact ln_8 x p w hr k8 ⟨by omega, okl⟩
 rw [if_neg (by simp [k0, k8])] at ok
 by_cases k1 : x.k = 1
 ·
  rw [if_pos (by simp [k1])] at ok
  have oki := (Bool.and_eq_true_iff.1 ok).1
  rw [if_pos k1]
  exact ln_1 x p w hr k1 trivial
 rw [if_neg (by simp [k1])] at ok
 by_cases k2 : x.k = 2
 ·
  rw [if_pos (by simp [k2])] at ok
  simp only [Bool.and_eq_true, beq_iff_eq] at ok
  have okt : okF 6 true (xAt x.l 0) = true := List.all_eq_true.1 ok.2.2.2 _ (xAt_mem (by omega))
  rw [if_neg k1, if_pos k2]
  exact ln_2 x p w hr k2 ⟨by omega, okt⟩
 rw [if_neg (by simp [k2])] at ok
 by_cases k4 : x.k = 4
 ·
  rw [if_pos (by simp [k4])] at ok
  simp only [Bool.and_eq_true, beq_iff_eq] at ok
  obtain ⟨q1, q2⟩ := inB_of ok.2.2.1
  have hl : x.l.length ≤ 6 := by omega
  have okl := ok.2.2.2
  rw [if_neg k1, if_neg k2, if_neg k3, if_pos k4]
  exact ln_4 x p w hr k4 ⟨by omega, okl⟩
 rw [if_neg (by simp [k4])] at ok
 by_cases k5 : x.k = 5
 ·
  rw [if_pos (by simp [k5])] at ok
  simp only [Bool.and_eq_true, beq_iff_eq] at ok
  have hl : x.l.length ≤ 6 := by omega
  have okl := ok.2.2.2
  rw [if_neg k1, if_neg k2, if_neg k3, if_neg k4, if_pos k5]
  exact ln_5 x p w hr k5 ⟨by omega, okl⟩
 rw [if_neg (by simp [k5])] at ok
 by_cases k6 : x.k = 6
 ·
  rw [if_pos (by simp [k6])] at ok
  simp only [Bool.and_eq_true] at ok
  have oki := ok.1
  rw [if_neg k1, if_neg k2, if_neg k3, if_neg k4, if_neg k5, if_neg (by omega), if_neg k8, if_pos k6]
  by_cases n1 : x.n = 1
  ·
   rw [if_pos n1]
   exact ln_6n x p w hr k6 n1
  ·
   rw [if_neg n1]
   exact ln_6 x p w hr k6 n1
 rw [if_neg (by simp [k6])] at ok
 by_cases k7 : x.k = 7
 ·
  rw [if_pos (by simp [k7])] at ok
  simp only [Bool.and_eq_true] at ok
  have okn := Bool.and_eq_true_iff.1 (show (x.l.all nmF && inB x.l.length 1 6) = true from ok.2.2)
  have okl := nmF_all _ okn.1
  obtain ⟨q1, q2⟩ := inB_of okn.2
  have hl : x.l.length ≤ 6 := by omega
  rw [if_neg k1, if_neg k2, if_neg k3, if_neg k4, if_neg k5, if_pos k7]
  exact ln_7 x p w hr k7 ⟨by omega, okl⟩
 rw [if_neg (by simp [k7])] at ok
 cases ok
def lnTx (x : Ln) : ByteArray := if lnX x = true then strOf (lineOf (lnT x)) else ⟨#[]⟩
theorem lnT_sz {x : Ln} (ok : lnX x = true) : (lnT x).length + szL (lnT x) ≤ 1048576 := by
 obtain ⟨h1, h2⟩ := lnT_all ok
 have := szL_allOk _ h1
 omega
theorem ltxS_any (x : Ln) (p : La) (w : World) (hr : RdL w x p) (hz : SzL x) : Calls Tryz.prog 47 #[.agg (x.cs p)] w fun r w' => r = .returned (.string (lnTx x)) ∧ Below w.heap.size w w' := by
 have hbW := below_new w (.cells (x.cs p) 30)
 obtain ⟨W, hW⟩ : ∃ W, w.alloc (.cells (x.cs p) 30) = W := ⟨_, rfl⟩
 have hrW := hr.later hbW
 have xl : w.heap.size < W.heap.size := by rw [← hW]; simp
 have hG : W.heap[w.heap.size]? = some (.cells (x.cs p) 30 (0, 0)) := by rw [← hW]; exact Array.getElem?_push_size
 have GG := hide (fun w1 (hb : Below W.heap.size W w1) => (hb.block _ xl).trans hG)
 rw [hW] at hbW hrW
 have BB := hide (fun w1 (hb : Below W.heap.size W w1) => hbW.trans (hb.mono hbW.size))
 have OK := hide (lnS_any x p W hrW hz)
 have TO := hide (fun w1 (hb : Below W.heap.size W w1) (ok : lnX x = true) => lntS_any x p w1 (hrW.later hb) ok)
 have LS := hide (fun w1 a c (ok : lnX x = true) (h2 : RdT w1 a (lnT x)) => lineS_any a (lnT x).length c (lnT x) w1 rfl (lnT_sz ok) h2)
 have TX := hide (show (lnX x = true → lnTx x = strOf (lineOf (lnT x))) ∧ (lnX x = false → lnTx x = ⟨#[]⟩) from ⟨fun h => by unfold lnTx; rw [if_pos h], fun h => by unfold lnTx; rw [if_neg (by rw [h]; decide)]⟩)
 generalize lnX x = q at *
 generalize lnT x = ts at *
 generalize lnTx x = tx at *
 clear hr hrW hG xl hbW hz
 obtain ⟨cs, hcs⟩ : ∃ cs, x.cs p = cs := ⟨_, rfl⟩
 have hcz : cs.size = 17 := by rw [← hcs]; rfl
 have HC := hide hcz
 rw [hcs] at GG OK TO hW ⊢
 clear hcs hcz
 go_enter Tryz.func47, Tryz.ntmps47
 have G0 := hide (uh GG W (Below.refl _ _))
 go_wp2_with (refine wpList_load_row rfl 30 _ rfl w.heap.size rfl 30 cs (0, 0) _ (uh G0) Tryz.underlying30 rfl (by rw [uh HC]; kernel_rfl) ?_)
 refine (uh OK).mono ?_
 rintro r w1 ⟨rfl, hb1⟩
 have B1 := hide hb1
 clear hb1 OK G0
 cases q with
 | false =>
  have e0 := (uh TX).2 rfl
  subst e0
  go_wp2
  go_ret
  exact ⟨rfl, uh BB _ (uh B1)⟩
 | true =>
  have e0 := hide ((uh TX).1 rfl)
  have G1 := hide (uh GG w1 (uh B1))
  have T1 := hide (uh TO w1 (uh B1) rfl)
  go_wp2_with (refine wpList_load_row rfl 30 _ rfl w.heap.size rfl 30 cs (0, 0) _ (uh G1) Tryz.underlying30 rfl (by rw [uh HC]; kernel_rfl) ?_)
  refine (uh T1).mono ?_
  rintro r w2 ⟨v2, rfl, o2, hb2⟩
  obtain ⟨a2, c2, rfl, r2⟩ := o2.rd
  have B2 := hide ((uh B1).trans (hb2.mono (uh B1).size))
  have L2 := hide (uh LS w2 a2 c2 (by trivial) r2)
  clear o2 r2 hb2 T1 G1
  generalize strOf (lineOf ts) = ln at *
  go_wp2_with fail
  refine (uh L2).mono ?_
  rintro r w3 ⟨rfl, hb3⟩
  have B3 := hide ((uh B2).trans (hb3.mono (uh B2).size))
  clear hb3 L2
  go_wp2
  go_ret
  exact ⟨by rw [uh e0]; rfl, uh BB _ (uh B3)⟩
theorem storeM {P : Program} {ops : Array Oper} {rest : List Oper} {o : Oper} {a : Act} {w : World} {Q : Exit → Act → World → Prop} (hgd : o.guard = none) (ty : TypeId) (x y : Operand) (ho : o.op = .store ty x y)
  (cells : Array Value) (hx : a.eval x = .pointer (some ⟨w.heap.size, 0, none⟩)) (hy : a.eval y = .agg cells) (old : Array Value) (hi : (P.info? ty).map (·.size) = some cells.size)
  (hold : old.size = cells.size) (h1 : cells.all (·.oneCell') = true) (h : wpList P ops Q rest (a.put o.dst undef) (w.alloc (.cells cells ty))) : wpList P ops Q (o :: rest) a (w.alloc (.cells old ty)) :=
 wpList_store_row hgd ty x y ho w.heap.size cells hx hy ty old (show (w.alloc (.cells old ty)).heap[w.heap.size]? = some (.cells old ty (0, 0)) from Array.getElem?_push_size) hi hold h1 (by rw [World.setRow_alloc_new]; exact h)
def a0 : Ag := ⟨0, 0, X0⟩
def ln0 : Ln := ⟨0, ⟨#[]⟩, 0, a0, a0, 0, []⟩
section
section
variable {P : Program} {w : World}
theorem append_to (base : Nat) (t ty e : TypeId) (i : TypeInfo) (z : Value) (size bytes : Nat) (ht : P.underlying t = some (.slice e)) (hi : P.info? e = some i) (hz : i.zero = some z)
  (hsize : i.size = size) (hby : i.bytes = bytes) (hzs : z.cells.size = size) (hsz : 0 < size)
  (v : Value) (n : Nat) (xs : List Value) (hown : w.ownsRow base e size v n xs)
  (a : Addr) (m c : Nat) (news : List Value) (hl : news.length = m * size) (hnews : ∀ j u, news[j]? = some u → w.cell? (a.add j) = some u) (h1 : ∀ u ∈ news, u.oneCell' = true)
  (h63 : n + m ≤ maxLen) (hbytes : (n + m) * bytes ≤ 140737488355328) (hbase : base ≤ w.heap.size) (hm : 0 < m) :
  ∃ v' w', (Builtin.append_ #[t, t] ty #[v, .slice (some a) m c]).run P w = .ok v' w' ∧ w'.ownsRow base e size v' (n + m) (xs ++ news) ∧ w.grownBy w' v.ownBlock ∧ (∃ g cap, v' = .slice (some ⟨g, 0, none⟩) (n + m) cap ∧ (v.ownBlock = some g ∨ g = w.heap.size)) := by
 obtain ⟨v', w', hr, h2, h3, _⟩ := run_append_own (P := P) w base t ty e i z size bytes ht hi hz hsize hby hzs hsz v n xs hown a m c news hl hnews h1 h63 hbytes hbase
 refine ⟨v', w', hr, h2, h3, ?_⟩
 subst hsize
 subst hby
 have hs : n + m ≤ 9223372036854775807 := by simp only [maxLen] at h63; omega
 rcases hown.2 with ⟨rfl, rfl⟩ | ⟨g, cap, cur, rfl, hbg, hg, hnc, hcm, hcs, htake⟩
 ·
  have k := run_append_nil (P := P) w t ty e i z ht hi hz a m c news hl hnews hm (by omega) (by have hb := hbytes; simp only [Nat.zero_add] at hb; omega)
  rw [hr] at k
  injection k with k1 k2
  exact ⟨_, _, by rw [k1, Nat.zero_add], .inr rfl⟩
 ·
  by_cases hroom : n + m ≤ cap
  ·
   have hfit : n * i.size + news.length ≤ cur.size := by rw [hl, hcs, ← Nat.add_mul]; exact Nat.mul_le_mul_right _ hroom
   have k := run_append_room (P := P) w t ty e i ht hi g n cap cur hg a m c news hl hnews h1 hroom hfit
   rw [hr] at k
   injection k with k1 k2
   exact ⟨_, _, k1, .inl rfl⟩
  ·
   have k := run_append_grow (P := P) w t ty e i z ht hi hz ⟨g, 0, none⟩ n cap xs hown.1 (hown.cells (g := g) rfl) a m c news hl hnews (by omega) (by omega) (growslice_fits (by omega) hbytes)
   rw [hr] at k
   injection k with k1 k2
   exact ⟨_, _, k1, .inr rfl⟩
theorem wp_append_to {o : Oper} {a : Act} {K : Act → World → Prop} {Q : Exit → Act → World → Prop} (s x : Operand) (t : TypeId)
  (ho : o.op = .call { callee := .builtin .append, args := #[s, x], argTypes := #[t, t] })
  (base : Nat) (e : TypeId) (i : TypeInfo) (z : Value) (size bytes : Nat) (ht : P.underlying t = some (.slice e)) (hi : P.info? e = some i) (hz : i.zero = some z)
  (hsize : i.size = size) (hby : i.bytes = bytes) (hzs : z.cells.size = size) (hsz : 0 < size)
  (v : Value) (n : Nat) (xs : List Value) (hs : a.eval s = v) (hown : w.ownsRow base e size v n xs)
  (ad : Addr) (m c : Nat) (news : List Value) (hx : a.eval x = .slice (some ad) m c) (hl : news.length = m * size) (hnews : ∀ j u, news[j]? = some u → w.cell? (ad.add j) = some u) (h1 : ∀ u ∈ news, u.oneCell' = true)
  (h63 : n + m ≤ maxLen) (hbytes : (n + m) * bytes ≤ 140737488355328) (hbase : base ≤ w.heap.size) (hm : 0 < m)
  (h : ∀ g cap w', w'.ownsRow base e size (.slice (some ⟨g, 0, none⟩) (n + m) cap) (n + m) (xs ++ news) → w.grownBy w' v.ownBlock → (v.ownBlock = some g ∨ g = w.heap.size) → K (a.put o.dst (.slice (some ⟨g, 0, none⟩) (n + m : Nat) cap)) w') : o.wp P a w K Q := by
 obtain ⟨v', w', hr, h2, h3, g, cap, rfl, h4⟩ := append_to (P := P) (w := w) base t o.type e i z size bytes ht hi hz hsize hby hzs hsz v n xs hown ad m c news hl hnews h1 h63 hbytes hbase hm
 unfold Oper.wp execOp
 simp only [ho, resolve, invoke, builtin, Sem.run_bind, Sem.run_pure, Result.andThen_ok, List.map_toArray, List.map_cons, List.map_nil, hs, hx, hr]
 exact h g cap w' h2 h3 h4
theorem wpList_append_to {ops : Array Oper} {rest : List Oper} {o : Oper} {a : Act} {Q : Exit → Act → World → Prop} (hgd : o.guard = none) (s x : Operand) (t : TypeId)
  (ho : o.op = .call { callee := .builtin .append, args := #[s, x], argTypes := #[t, t] })
  (base : Nat) (e : TypeId) (i : TypeInfo) (z : Value) (size bytes : Nat) (ht : P.underlying t = some (.slice e)) (hi : P.info? e = some i) (hz : i.zero = some z)
  (hsize : i.size = size) (hby : i.bytes = bytes) (hzs : z.cells.size = size) (hsz : 0 < size)
  (v : Value) (n : Nat) (xs : List Value) (hs : a.eval s = v) (hown : w.ownsRow base e size v n xs)
  (ad : Addr) (m c : Nat) (news : List Value) (hx : a.eval x = .slice (some ad) m c) (hl : news.length = m * size) (hnews : ∀ j u, news[j]? = some u → w.cell? (ad.add j) = some u) (h1 : ∀ u ∈ news, u.oneCell' = true)
  (h63 : n + m ≤ maxLen) (hbytes : (n + m) * bytes ≤ 140737488355328) (hbase : base ≤ w.heap.size) (hm : 0 < m)
  (h : ∀ g cap w', w'.ownsRow base e size (.slice (some ⟨g, 0, none⟩) (n + m) cap) (n + m) (xs ++ news) → w.grownBy w' v.ownBlock → (v.ownBlock = some g ∨ g = w.heap.size) → wpList P ops Q rest (a.put o.dst (.slice (some ⟨g, 0, none⟩) (n + m : Nat) cap)) w') : wpList P ops Q (o :: rest) a w :=
 wpList_plain hgd fun _ hK => wp_append_to s x t ho base e i z size bytes ht hi hz hsize hby hzs hsz v n xs hs hown ad m c news hx hl hnews h1 h63 hbytes hbase hm fun g cap w' h2 h3 h4 => hK _ _ (h g cap w' h2 h3 h4)
end
end
theorem toXS_of (e : Ex) (ih : ∀ i, i < e.l.length → ToP (xAt e.l i)) (b : Option Addr) (cap : Nat) (w : World) (hr : RdX w 0 e b) (hz : e.sz ≤ 1048576) : Calls Tryz.prog 148 #[.slice b e.l.length cap] w fun r w' => r = .returned (.slice (some ⟨w.heap.size, 0, none⟩) e.l.length e.l.length) ∧ NewX w' w.heap.size e (some ⟨w.heap.size, 0, none⟩) ∧ Below w.heap.size w w' := by
 have hsz := sz_is e
 have RD := hide (fun (w' : World) (M : Nat) (h : DoneX w' w.heap.size e.l e.l.length e.l.length e.l.length M) => DoneX.new h)
 rw [RdX_eq] at hr
 have hp : ∀ i, i < e.l.length → (xAt e.l i).sz ≤ 1048576 := fun i hi => by have := sz_part hi; omega
 have hm : e.l.length ≤ 1048576 := by omega
 clear hsz hz
 generalize hR : (fun w' => NewX w' w.heap.size e (some ⟨w.heap.size, 0, none⟩)) = R
 have hR' : ∀ w', NewX w' w.heap.size e (some ⟨w.heap.size, 0, none⟩) = R w' := fun w' => congrFun hR w'
 simp only [hR'] at RD ⊢
 clear hR hR'
 generalize e.l = l at *
 obtain ⟨len, hl⟩ : ∃ len, l.length = len := ⟨_, rfl⟩
 rw [hl] at hm ih hr hp RD ⊢
 obtain ⟨i0, hi, hz0, hz1, hz2⟩ := info_parts infoX
 obtain ⟨w1, hmk, hown, hgr⟩ := run_make_full (P := Tryz.prog) w w.heap.size 24 26 i0 _ 4 Tryz.underlying24 hi hz0 hz1 .i64 .i64 len (by rw [hz2]; omega) (by unfold maxLen; omega) (Nat.le_refl _)
 have O0 := hide (show DoneX w1 w.heap.size l len len 0 w1.heap.size from ⟨_, [], hown, rfl, List.nodup_nil, (fun b hb => by simp at hb), (fun i hi => by omega)⟩)
 have B0 := hide ((Below.refl w.heap.size w).grown hgr (Nat.le_refl _) (fun k h => by cases h))
 have G0 := hide (World.ownsRow.lt hown w.heap.size rfl).2
 clear hown hgr
 go_enter Tryz.func148, Tryz.ntmps148
 go_wp2
 clear hmk
 go_loopw [4] (fun i wr => ∃ k : Nat, k ≤ len ∧ i = .int .i64 k ∧ DoneX wr w.heap.size l len len k wr.heap.size ∧ w.heap.size < wr.heap.size ∧ Below w.heap.size w wr) (fun i _ => len - (intOf i).toNat)
 case atStart => exact ⟨0, Nat.zero_le _, rfl, uh O0, uh G0, uh B0⟩
 case round =>
  clear O0 B0 G0
  obtain ⟨k, hk, rfl, ho, hgl, hb⟩ := hrel
  by_cases hlt : k < len
  ·
   rcases hr with h0 | ⟨b, off, rfl, _, hbl, hc⟩
   · rw [h0] at hl; simp at hl; omega
   obtain ⟨c0, c1, c2, c, cap', c3, c4⟩ := hc k (by omega)
   have d0 : wr.cell? ⟨b, off + k * 4, none⟩ = _ := (hb.cell (p := ⟨b, _, none⟩) hbl).trans c0
   have d1 : wr.cell? ⟨b, off + k * 4 + 1, none⟩ = _ := (hb.cell (p := ⟨b, _, none⟩) hbl).trans c1
   have d2 : wr.cell? ⟨b, off + k * 4 + 2, none⟩ = _ := (hb.cell (p := ⟨b, _, none⟩) hbl).trans c2
   have d3 : wr.cell? ⟨b, off + k * 4 + 3, none⟩ = _ := (hb.cell (p := ⟨b, _, none⟩) hbl).trans c3
   have HT := hide (ih k hlt c cap' wr (c4.later hb) (hp k hlt))
   have PT := hide (fun (w2 : World) (hz2 : wr.heap.size ≤ w2.heap.size) (h : DoneX w2 w.heap.size l len len k wr.heap.size) (q : Option Addr) (cp : Nat) (hq : NewX w2 wr.heap.size (xAt l k) q) => h.put hlt hgl hz2 q cp hq (Nat.le_refl _))
   have O1 := hide ho
   have B1 := hide hb
   have ZB := hide hb.size
   have GL := hide hgl
   clear c0 c1 c2 c3 c4 hc ho hb hgl
   unfold Ex.cs at HT
   generalize (xAt l k).s = ss at d2 HT PT
   generalize (xAt l k).k = kk at d0 HT PT
   generalize (xAt l k).n = nn at d1 HT PT
   generalize (xAt l k).l.length = ll at d3 HT PT
   go_wp2_with fail
   refine (uh HT).mono ?_
   rintro e w2 ⟨q, cq, rfl, hq, hb2⟩
   have O2 := hide ((uh O1).later hb2)
   have B2 := hide ((uh B1).trans (hb2.mono (uh ZB)))
   have G2 := hide (Nat.lt_of_lt_of_le (uh GL) hb2.size)
   have PP := hide (uh PT w2 hb2.size (uh O2) q cq hq)
   obtain ⟨cs, _, own2, _⟩ := uh O2
   have hcl : cs.length = len * 4 := own2.1
   obtain ⟨v0, e0⟩ : ∃ v, cs[k * 4]? = some v := ⟨_, List.getElem?_eq_getElem (by omega)⟩
   obtain ⟨v1, e1⟩ : ∃ v, cs[k * 4 + 1]? = some v := ⟨_, List.getElem?_eq_getElem (by omega)⟩
   obtain ⟨v2, e2⟩ : ∃ v, cs[k * 4 + 2]? = some v := ⟨_, List.getElem?_eq_getElem (by omega)⟩
   obtain ⟨v3, e3⟩ : ∃ v, cs[k * 4 + 3]? = some v := ⟨_, List.getElem?_eq_getElem (by omega)⟩
   have c0 := (World.ownsRow.cellAt own2 (k * 4) (by omega)).trans e0
   have c1 := (World.ownsRow.cellAt own2 (k * 4 + 1) (by omega)).trans e1
   have c2 := (World.ownsRow.cellAt own2 (k * 4 + 2) (by omega)).trans e2
   have c3 := (World.ownsRow.cellAt own2 (k * 4 + 3) (by omega)).trans e3
   have f0 := World.ownsRow.frozenAt own2 (k * 4)
   have f1 := World.ownsRow.frozenAt own2 (k * 4 + 1)
   have f2 := World.ownsRow.frozenAt own2 (k * 4 + 2)
   have f3 := World.ownsRow.frozenAt own2 (k * 4 + 3)
   clear own2 hb2 O1 B1 HT PT O2 d0 d1 d2 d3 e0 e1 e2 e3 hq hcl
   go_wp2
   go_roundw
   case rel => exact ⟨k + 1, by omega, by go_num, by simpa using uh PP, by simpa using uh G2, ((((uh B2).setCell (p := ⟨w.heap.size, _, none⟩) (Nat.le_refl _) _).setCell (p := ⟨w.heap.size, _, none⟩) (Nat.le_refl _) _).setCell (p := ⟨w.heap.size, _, none⟩) (Nat.le_refl _) _).setCell (p := ⟨w.heap.size, _, none⟩) (Nat.le_refl _) _⟩
   case measure => simp [intOf]; omega
  ·
   obtain rfl : k = len := by omega
   have R1 := hide (uh RD wr _ ho)
   clear ho
   go_wp2
   go_ret
   exact ⟨rfl, uh R1, hb⟩
theorem three_new (w : World) (o1 o2 o3 : Obj) : Below w.heap.size w (((w.alloc o1).alloc o2).alloc o3) ∧ (((w.alloc o1).alloc o2).alloc o3).heap[w.heap.size + 1]? = some o2 ∧ (((w.alloc o1).alloc o2).alloc o3).heap[w.heap.size + 1 + 1]? = some o3 := by
 have h1 : (w.alloc o1).heap.size = w.heap.size + 1 := by simp
 have h2 : ((w.alloc o1).alloc o2).heap.size = w.heap.size + 1 + 1 := by simp
 have p2 : ((w.alloc o1).alloc o2).heap[w.heap.size + 1]? = some o2 := by rw [← h1]; exact Array.getElem?_push_size
 refine ⟨(((Below.refl _ _).alloc (Nat.le_refl _) _).alloc (by simp) _).alloc (by simp; omega) _, ?_, ?_⟩
 · exact ((Below.refl ((w.alloc o1).alloc o2).heap.size _).alloc (Nat.le_refl _) o3).block _ (by simp) |>.trans p2
 · rw [← h2]; exact Array.getElem?_push_size
theorem row4_set {w : World} {g : Nat} {u0 u1 u2 u3 : Value} {t : TypeId} (h : w.heap[g]? = some (.cells #[u0, u1, u2, u3] t (0, 0))) (v0 v1 v2 v3 : Value) : ((((w.setCell ⟨g, 0, none⟩ v0).setCell ⟨g, 1, none⟩ v1).setCell ⟨g, 2, none⟩ v2).setCell ⟨g, 3, none⟩ v3).heap[g]? = some (.cells #[v0, v1, v2, v3] t (0, 0)) :=
 heap_setCell_same _ g 3 _ t v3 (heap_setCell_same _ g 2 _ t v2 (heap_setCell_same _ g 1 _ t v1 (heap_setCell_same _ g 0 _ t v0 h)))
theorem toX_any (e : Ex) : ToP e := by
 induction e using Ex.ind with
 | h k n s l ih =>
  intro b cap w hr hz
  have e2 : (Ex.mk k n s l).l = l := rfl
  obtain ⟨W, hW⟩ : ∃ W, ((w.alloc (.cells #[.int .i64 k, .int .i64 n, .string s, .slice b l.length cap] 117)).alloc (.cells #[.int .i64 0, .int .i64 0, .string ⟨#[]⟩, .slice none 0 0] 26)).alloc (.cells #[.int .i64 k, .int .i64 n, .string s, .slice none 0 0] 26) = W := ⟨_, rfl⟩
  obtain ⟨hb, hg1, hg2⟩ := three_new w (.cells #[.int .i64 k, .int .i64 n, .string s, .slice b l.length cap] 117) (.cells #[.int .i64 0, .int .i64 0, .string ⟨#[]⟩, .slice none 0 0] 26) (.cells #[.int .i64 k, .int .i64 n, .string s, .slice none 0 0] 26)
  have hsz : w.heap.size + 3 = W.heap.size := by rw [← hW]; simp
  rw [hW] at hb hg1 hg2
  have HC := toXS_of ⟨k, n, s, l⟩ (fun i hi => ih _ (xAt_mem hi)) b cap W (hr.later hb) hz
  rw [e2] at HC
  have HD := HC.mono (R' := fun r w' => ∃ g, r = .returned (.slice (some ⟨g, 0, none⟩) l.length l.length) ∧ NewX w' (w.heap.size + 3) ⟨k, n, s, l⟩ (some ⟨g, 0, none⟩) ∧ Below w.heap.size w w' ∧ w'.heap[w.heap.size + 1]? = some (.cells #[.int .i64 0, .int .i64 0, .string ⟨#[]⟩, .slice none 0 0] 26 (0, 0)) ∧ w'.heap[w.heap.size + 1 + 1]? = some (.cells #[.int .i64 k, .int .i64 n, .string s, .slice none 0 0] 26 (0, 0))) (by
   rintro r w' ⟨rfl, h1, h2⟩
   exact ⟨_, rfl, h1.lower (by omega), hb.trans (h2.mono (by omega)), (h2.block _ (by omega)).trans hg1, (h2.block _ (by omega)).trans hg2⟩)
  have HH := hide HD
  rw [← hW] at HH
  unfold Ex.cs
  simp only
  clear hr hz ih HC HD hb hg1 hg2 hW hsz e2 W
  generalize hll : l.length = ll at *
  go_enter Tryz.func190, Tryz.ntmps190
  go_wp2_with fail
  refine (uh HH).mono ?_
  rintro r w2 ⟨g, rfl, hrd, hb2, hg1, hg2⟩
  have a0 := Lib.cell_of_heap hg1 0
  have a1 := Lib.cell_of_heap hg1 1
  have a2 := Lib.cell_of_heap hg1 2
  have a3 := Lib.cell_of_heap hg1 3
  have b0 := Lib.cell_of_heap hg2 0
  have b1 := Lib.cell_of_heap hg2 1
  have b2 := Lib.cell_of_heap hg2 2
  have b3 := Lib.cell_of_heap hg2 3
  have f0 := Lib.frozen_of_heap hg1 0
  have f1 := Lib.frozen_of_heap hg1 1
  have f2 := Lib.frozen_of_heap hg1 2
  have f3 := Lib.frozen_of_heap hg1 3
  have f4 := Lib.frozen_of_heap hg2 3
  clear HH
  have hg3 : (w2.setCell ⟨w.heap.size + 1 + 1, 3, none⟩ (.slice (some ⟨g, 0, none⟩) ll ll)).heap[w.heap.size + 1]? = _ := (heap_setCell_other w2 ⟨w.heap.size + 1 + 1, 3, none⟩ (w.heap.size + 1) (.slice (some ⟨g, 0, none⟩) ll ll) (by simp)).trans hg1
  have H1 := hide (fun v0 v1 v2 v3 => row4_set hg3 v0 v1 v2 v3)
  have R := hide (fun u v0 v1 v2 v3 => ((((hrd.far ⟨w.heap.size + 1 + 1, 3, none⟩ u (by simp)).far ⟨w.heap.size + 1, 0, none⟩ v0 (by simp)).far ⟨w.heap.size + 1, 1, none⟩ v1 (by simp)).far ⟨w.heap.size + 1, 2, none⟩ v2 (by simp)).far ⟨w.heap.size + 1, 3, none⟩ v3 (by simp))
  have B := hide (fun u v0 v1 v2 v3 => ((((hb2.setCell (p := ⟨w.heap.size + 1 + 1, 3, none⟩) (by simp; omega) u).setCell (p := ⟨w.heap.size + 1, 0, none⟩) (by simp) v0).setCell (p := ⟨w.heap.size + 1, 1, none⟩) (by simp) v1).setCell (p := ⟨w.heap.size + 1, 2, none⟩) (by simp) v2).setCell (p := ⟨w.heap.size + 1, 3, none⟩) (by simp) v3)
  clear hrd hb2 hg3
  go_wp2
  refine bodyPost_ret (results_cell_row (P := Tryz.prog) rfl _ _ (w.heap.size + 1) 26 #[.int .i64 k, .int .i64 n, .string s, .slice (some ⟨g, 0, none⟩) ll ll] (0, 0) _ rfl (uh H1 _ _ _ _) Tryz.underlying26 rfl (by kernel_rfl)) rfl ?_
  exact ⟨_, _, rfl, (uh R _ _ _ _ _).lower (by omega), uh B _ _ _ _ _⟩
def EqP (e : Ex) : Prop := ∀ (a b : Option Addr) (c1 c2 : Nat) (w : World), RdX w 0 e a → RdX w 0 e b → e.sz ≤ 1048576 → Calls Tryz.prog 142 #[.agg (e.cs a c1), .agg (e.cs b c2)] w fun r w' => r = .returned (.bool true) ∧ Below w.heap.size w w'
theorem eqXS_of (e : Ex) (ih : ∀ i, i < e.l.length → EqP (xAt e.l i)) (a b : Option Addr) (c1 c2 : Nat) (w : World) (h1 : RdX w 0 e a) (h2 : RdX w 0 e b) (hz : e.sz ≤ 1048576) :
  Calls Tryz.prog 87 #[.slice a e.l.length c1, .slice b e.l.length c2] w fun r w' => r = .returned (.bool true) ∧ Below w.heap.size w w' := by
 have hsz := sz_is e
 rw [RdX_eq] at h1 h2
 have hp : ∀ i, i < e.l.length → (xAt e.l i).sz ≤ 1048576 := fun i hi => by have := sz_part hi; omega
 have hm : e.l.length ≤ 1048576 := by omega
 clear hsz hz
 generalize e.l = l at *
 obtain ⟨len, hl⟩ : ∃ len, l.length = len := ⟨_, rfl⟩
 rw [hl] at hm ih h1 h2 hp ⊢
 go_enter Tryz.func87, Tryz.ntmps87
 go_wp2
 go_loopw [5] (fun i wr => ∃ (k : Nat) (y : Sub w.heap.size w), k ≤ len ∧ i = .int .i64 k ∧ wr = y.w) (fun i _ => len - (intOf i).toNat)
 case atStart => exact ⟨0, ⟨w, Below.refl _ _⟩, Nat.zero_le _, rfl, rfl⟩
 case round =>
  obtain ⟨k, x, hk, rfl, rfl⟩ := hrel
  by_cases hlt : k < len
  ·
   rcases h1 with h0 | ⟨p, po, rfl, _, hp1, hpc⟩
   · rw [h0] at hl; simp at hl; omega
   rcases h2 with h0 | ⟨q, qo, rfl, _, hq1, hqc⟩
   · rw [h0] at hl; simp at hl; omega
   obtain ⟨e0, e1, e2, pc, pp, e3, e4⟩ := hpc k (by omega)
   obtain ⟨g0, g1, g2, qc, qp, g3, g4⟩ := hqc k (by omega)
   have d0 : ∀ y : Sub w.heap.size w, y.w.cell? ⟨p, po + k * 4, none⟩ = _ := fun y => (y.h.cell (p := ⟨p, _, none⟩) hp1).trans e0
   have d1 : ∀ y : Sub w.heap.size w, y.w.cell? ⟨p, po + k * 4 + 1, none⟩ = _ := fun y => (y.h.cell (p := ⟨p, _, none⟩) hp1).trans e1
   have d2 : ∀ y : Sub w.heap.size w, y.w.cell? ⟨p, po + k * 4 + 2, none⟩ = _ := fun y => (y.h.cell (p := ⟨p, _, none⟩) hp1).trans e2
   have d3 : ∀ y : Sub w.heap.size w, y.w.cell? ⟨p, po + k * 4 + 3, none⟩ = _ := fun y => (y.h.cell (p := ⟨p, _, none⟩) hp1).trans e3
   have f0 : ∀ y : Sub w.heap.size w, y.w.cell? ⟨q, qo + k * 4, none⟩ = _ := fun y => (y.h.cell (p := ⟨q, _, none⟩) hq1).trans g0
   have f1 : ∀ y : Sub w.heap.size w, y.w.cell? ⟨q, qo + k * 4 + 1, none⟩ = _ := fun y => (y.h.cell (p := ⟨q, _, none⟩) hq1).trans g1
   have f2 : ∀ y : Sub w.heap.size w, y.w.cell? ⟨q, qo + k * 4 + 2, none⟩ = _ := fun y => (y.h.cell (p := ⟨q, _, none⟩) hq1).trans g2
   have f3 : ∀ y : Sub w.heap.size w, y.w.cell? ⟨q, qo + k * 4 + 3, none⟩ = _ := fun y => (y.h.cell (p := ⟨q, _, none⟩) hq1).trans g3
   have HE := hide (fun y : Sub w.heap.size w => ih k hlt pc qc pp qp y.w (e4.later y.h) (g4.later y.h) (hp k hlt))
   have ne := Sub.ne w.heap.size w
   have HZ := hide (Nat.le_refl w.heap.size)
   clear e0 e1 e2 e3 e4 g0 g1 g2 g3 g4 hpc hqc ih hp
   unfold Ex.cs at HE
   generalize (xAt l k).s = ss at *
   generalize (xAt l k).k = kk at *
   generalize (xAt l k).n = nn at *
   generalize (xAt l k).l.length = ll at *
   go_wp2_with fail
   refine wp_region_sub x (by kernel_rfl) (by kernel_rfl) ?_
   repeat (go_big_quiet_step (first | (go_at_call 142; exact Sub.call (uh HZ) (uh HE _))))
   refine wpQuiet_nil ?_
   intro y
   go_wp2
   go_roundw
   case rel => exact ⟨k + 1, y, by omega, by go_num, rfl⟩
   case measure => simp [intOf]; omega
  ·
   go_wp2
   go_ret
   exact ⟨rfl, x.h⟩
theorem eqX_same (e : Ex) : EqP e := by
 induction e using Ex.ind with
 | h k n s l ih =>
  intro a b c1 c2 w h1 h2 hz
  have e2 : (Ex.mk k n s l).l = l := rfl
  have hbW : Below w.heap.size w ((w.alloc (.cells #[.int .i64 k, .int .i64 n, .string s, .slice a l.length c1] 26)).alloc (.cells #[.int .i64 k, .int .i64 n, .string s, .slice b l.length c2] 26)) := ((Below.refl _ _).alloc (Nat.le_refl _) _).alloc (by simp) _
  have HZ := eqXS_of ⟨k, n, s, l⟩ (fun i hi => ih _ (xAt_mem hi)) a b c1 c2 _ (h1.later hbW) (h2.later hbW) hz
  rw [e2] at HZ
  have HS := hide (HZ.mono (R' := fun r w' => r = .returned (.bool true) ∧ Below w.heap.size w w') (by rintro r w' ⟨rfl, h⟩; exact ⟨rfl, hbW.trans (h.mono hbW.size)⟩))
  unfold Ex.cs
  simp only
  clear h1 h2 hz ih HZ hbW e2
  generalize l.length = ll at *
  go_enter Tryz.func142, Tryz.ntmps142
  go_wp2_with (go_at_call 87; refine (uh HS).mono ?_; rintro e w1 ⟨rfl, hb1⟩)
  go_ret
  exact ⟨rfl, hb1⟩
theorem fit_l {e : Ex} (h : Fit e) : Fit ⟨0, 0, E0, e.l⟩ := (Fit_eq ⟨0, 0, E0, e.l⟩).2 ⟨show E0.size ≤ 9223372036854775807 by decide, ((Fit_eq e).1 h).2⟩
theorem szA_any (a : Ag) (b : Option Addr) (cap : Nat) (left : Int) (w : World) (hr : RdX w 0 a.e b) (hf : Fit a.e) (h0 : 0 ≤ left) (h1 : left ≤ 1048576) : Calls Tryz.prog 145 #[.agg (a.cs b cap), .int .i64 left] w fun r w' => r = .returned (.int .i64 (lessX left a.e.sz)) ∧ Below w.heap.size w w' := by
 have B0 := below_new w (.cells (a.cs b cap) 119)
 have S := hide (szX_any a.e b cap left _ (hr.later B0) hf h0 h1)
 have HB := hide B0
 unfold lessX at S ⊢
 unfold Ex.cs at S
 unfold Ag.cs at S HB ⊢
 generalize a.e.sz = z at *
 generalize a.e.l.length = ll at *
 generalize a.e.k = k at *
 generalize a.e.n = n at *
 generalize a.e.s = s at *
 generalize a.f = f at *
 generalize a.r = r at *
 clear hr hf B0
 by_cases hneg : left - (z : Int) < 0
 ·
  rw [if_pos hneg] at S ⊢
  clear hneg
  go_enter Tryz.func145, Tryz.ntmps145
  go_wp2_with (go_at_call 189; refine (uh S).mono ?_; rintro e w1 ⟨rfl, hb1⟩)
  go_ret
  exact ⟨rfl, (uh HB).trans (hb1.mono (uh HB).size)⟩
 ·
  rw [if_neg hneg] at S ⊢
  generalize left - (z : Int) = d at *
  go_enter Tryz.func145, Tryz.ntmps145
  go_wp2_with (go_at_call 189; refine (uh S).mono ?_; rintro e w1 ⟨rfl, hb1⟩)
  go_ret
  exact ⟨rfl, (uh HB).trans (hb1.mono (uh HB).size)⟩
theorem eqA_same (a : Ag) (b c : Option Addr) (cp dp : Nat) (w : World) (h1 : RdX w 0 a.e b) (h2 : RdX w 0 a.e c) (hz : a.e.sz ≤ 1048576) : Calls Tryz.prog 86 #[.agg (a.cs b cp), .agg (a.cs c dp)] w fun r w' => r = .returned (.bool true) ∧ Below w.heap.size w w' := by
 have B0 : Below w.heap.size w ((w.alloc (.cells (a.cs b cp) 28)).alloc (.cells (a.cs c dp) 28)) := ((Below.refl _ _).alloc (Nat.le_refl _) _).alloc (by simp) _
 have S := hide (eqX_same a.e b c cp dp _ (h1.later B0) (h2.later B0) hz)
 have HB := hide B0
 unfold Ex.cs at S
 unfold Ag.cs at S HB ⊢
 generalize a.e.l.length = ll at *
 generalize a.e.k = k at *
 generalize a.e.n = n at *
 generalize a.e.s = s at *
 generalize a.f = f at *
 generalize a.r = r at *
 clear h1 h2 hz B0
 go_enter Tryz.func86, Tryz.ntmps86
 go_wp2_with (go_at_call 142; refine (uh S).mono ?_; rintro e w1 ⟨rfl, hb1⟩)
 go_ret
 exact ⟨rfl, (uh HB).trans (hb1.mono (uh HB).size)⟩
theorem three_new0 (w : World) (o1 o2 o3 : Obj) : (((w.alloc o1).alloc o2).alloc o3).heap[w.heap.size]? = some o1 := by
 have p1 : (w.alloc o1).heap[w.heap.size]? = some o1 := Array.getElem?_push_size
 exact (((Below.refl (w.alloc o1).heap.size (w.alloc o1)).alloc (Nat.le_refl _) o2).alloc (by simp) o3).block _ (by simp) |>.trans p1
theorem heap_setK {w : World} {g : Nat} {cs : Array Value} {t : TypeId} (o : Nat) (v : Value) (h : w.heap[g]? = some (.cells cs t (0, 0))) : (w.setCell ⟨g, o, none⟩ v).heap[g]? = some (.cells (cs.setIfInBounds o v) t (0, 0)) := heap_setCell_same _ g o _ t v h
theorem toA_any (a : Ag) (b : Option Addr) (cap : Nat) (w : World) (hr : RdX w 0 a.e b) (hz : a.e.sz ≤ 1048576) : Calls Tryz.prog 147 #[.agg (a.cs b cap)] w fun r w' => ∃ (c : Option Addr) (cp : Nat), r = .returned (.agg (a.cs c cp)) ∧ NewX w' w.heap.size a.e c ∧ Below w.heap.size w w' := by
 obtain ⟨hb, hg1, hg2⟩ := three_new w (.cells (a.cs b cap) 119) (.cells #[.int .i64 0, .int .i64 0, .int .i64 0, .int .i64 0, .string ⟨#[]⟩, .slice none 0 0] 28) (.cells #[.int .i64 a.f, .int .i64 a.r, .int .i64 0, .int .i64 0, .string ⟨#[]⟩, .slice none 0 0] 28)
 obtain ⟨W, hW⟩ : ∃ W, ((w.alloc (.cells (a.cs b cap) 119)).alloc (.cells #[.int .i64 0, .int .i64 0, .int .i64 0, .int .i64 0, .string ⟨#[]⟩, .slice none 0 0] 28)).alloc (.cells #[.int .i64 a.f, .int .i64 a.r, .int .i64 0, .int .i64 0, .string ⟨#[]⟩, .slice none 0 0] 28) = W := ⟨_, rfl⟩
 have hsz : w.heap.size + 3 = W.heap.size := by rw [← hW]; simp
 have hg0 := three_new0 w (.cells (a.cs b cap) 119) (.cells #[.int .i64 0, .int .i64 0, .int .i64 0, .int .i64 0, .string ⟨#[]⟩, .slice none 0 0] 28) (.cells #[.int .i64 a.f, .int .i64 a.r, .int .i64 0, .int .i64 0, .string ⟨#[]⟩, .slice none 0 0] 28)
 rw [hW] at hb hg1 hg2 hg0
 have c2 := Lib.cell_of_heap hg0 2
 have c3 := Lib.cell_of_heap hg0 3
 have c4 := Lib.cell_of_heap hg0 4
 have c5 := Lib.cell_of_heap hg0 5
 have S := hide (toX_any a.e b cap W (hr.later hb) hz)
 have HB := hide hb
 have G1 := hide hg1
 have G2 := hide hg2
 have HS := hide hsz
 clear hr hb hg0 hg1 hg2 hz hsz
 unfold Ex.cs at S
 unfold Ag.cs at hW c2 c3 c4 c5 ⊢
 simp at c2 c3 c4 c5
 generalize a.e.l.length = ll at *
 generalize a.e.k = k at *
 generalize a.e.n = n at *
 generalize a.e.s = s at *
 generalize a.f = f at *
 generalize a.r = r at *
 go_enter Tryz.func147, Tryz.ntmps147
 go_wp2_with fail
 refine (uh S).mono ?_
 rintro e w1 ⟨c, cp, rfl, hn, hb1⟩
 have hl := uh HS
 have q1 := row_keep (uh G1) hb1
 have q2 := row_keep (uh G2) hb1
 have B1 := (uh HB).trans (hb1.mono (uh HB).size)
 have hg : w1.grownBy ((((w1.setCell ⟨w.heap.size + 1 + 1, 2, none⟩ (.int .i64 k)).setCell ⟨w.heap.size + 1 + 1, 3, none⟩ (.int .i64 n)).setCell ⟨w.heap.size + 1 + 1, 4, none⟩ (.string s)).setCell ⟨w.heap.size + 1 + 1, 5, none⟩ (.slice c ll cp)) (some (w.heap.size + 1 + 1)) := (grownBy_trans (grownBy_trans (grownBy_trans (grownBy_set (.int .i64 k)) (grownBy_set (.int .i64 n))) (grownBy_set (.string s))) (grownBy_set (.slice c ll cp)))
 have N2 := hide ((hn.drawn hg (by omega)).lower (show w.heap.size + 2 ≤ W.heap.size by omega))
 have Q1 := hide ((hg.block _ (Array.getElem?_eq_some_iff.1 q1).1 (fun e => by simp at e)).trans q1)
 have Q2 := hide (show (((((w1.setCell ⟨w.heap.size + 1 + 1, 2, none⟩ (.int .i64 k)).setCell ⟨w.heap.size + 1 + 1, 3, none⟩ (.int .i64 n)).setCell ⟨w.heap.size + 1 + 1, 4, none⟩ (.string s)).setCell ⟨w.heap.size + 1 + 1, 5, none⟩ (.slice c ll cp))).heap[w.heap.size + 1 + 1]? = some (.cells #[.int .i64 f, .int .i64 r, .int .i64 k, .int .i64 n, .string s, .slice c ll cp] 28 (0, 0)) from heap_setK 5 _ (heap_setK 4 _ (heap_setK 3 _ (heap_setK 2 _ q2))))
 have BB := hide (B1.grown hg B1.size (fun g e => by cases e; omega))
 have k2 := Lib.cell_of_heap q2 2
 have f2 := Lib.frozen_of_heap q2 2
 have k3 := Lib.cell_of_heap q2 3
 have f3 := Lib.frozen_of_heap q2 3
 have k4 := Lib.cell_of_heap q2 4
 have f4 := Lib.frozen_of_heap q2 4
 have k5 := Lib.cell_of_heap q2 5
 have f5 := Lib.frozen_of_heap q2 5
 clear hn hb1 q1 q2 B1 hg S G1 G2 hl
 obtain ⟨w2, hw2⟩ : ∃ w2, ((((w1.setCell ⟨w.heap.size + 1 + 1, 2, none⟩ (.int .i64 k)).setCell ⟨w.heap.size + 1 + 1, 3, none⟩ (.int .i64 n)).setCell ⟨w.heap.size + 1 + 1, 4, none⟩ (.string s)).setCell ⟨w.heap.size + 1 + 1, 5, none⟩ (.slice c ll cp)) = w2 := ⟨_, rfl⟩
 rw [hw2] at N2 Q1 Q2 BB
 go_wp2_with (first | (refine wpList_load_row rfl 28 _ rfl (w.heap.size + 1 + 1) rfl 28 #[.int .i64 f, .int .i64 r, .int .i64 k, .int .i64 n, .string s, .slice c ll cp] (0, 0) _ (uh Q2) Tryz.underlying28 rfl (by kernel_rfl) ?_) | (refine wpList_store_row rfl 28 _ _ rfl (w.heap.size + 1) #[.int .i64 f, .int .i64 r, .int .i64 k, .int .i64 n, .string s, .slice c ll cp] rfl rfl 28 _ (uh Q1) (by kernel_rfl) rfl (by simp [Value.oneCell']) ?_))
 refine bodyPost_ret (results_cell_row (P := Tryz.prog) rfl _ _ (w.heap.size + 1) 28 #[.int .i64 f, .int .i64 r, .int .i64 k, .int .i64 n, .string s, .slice c ll cp] (0, 0) _ rfl (setRow_heap _ _ _ _ _ _ (uh Q1)) Tryz.underlying28 rfl (by kernel_rfl)) rfl ?_
 exact ⟨c, cp, rfl, ((uh N2).row _ (by omega)).lower (by omega), (uh BB).grown (grownBy_row _) (uh BB).size (fun g e => by cases e; omega)⟩
def Ln.zz (x : Ln) : Nat := x.s.size + x.src.e.sz + x.dst.e.sz + (x.l.length + szX x.l)
structure FtL (x : Ln) : Prop where
 s : x.s.size ≤ 9223372036854775807
 a : Fit x.src.e
 b : Fit x.dst.e
 l : Fit ⟨0, 0, E0, x.l⟩
theorem SzL.of {x : Ln} (h : x.zz ≤ 1048576) : SzL x := by
 unfold Ln.zz at h
 refine ⟨by omega, by omega, by omega, by omega, fun i hi => ?_⟩
 have := sz_part hi
 omega
theorem szL_any (x : Ln) (p : La) (left : Int) (w : World) (hr : RdL w x p) (hf : FtL x) (h0 : 0 ≤ left) (h1 : left ≤ 1048576) : Calls Tryz.prog 93 #[.agg (x.cs p), .int .i64 left] w fun r w' => r = .returned (.int .i64 (lessX left x.zz)) ∧ Below w.heap.size w w' := by
 have hbW := below_new w (.cells (x.cs p) 121)
 obtain ⟨W, hW⟩ : ∃ W, w.alloc (.cells (x.cs p) 121) = W := ⟨_, rfl⟩
 have hrW := hr.later hbW
 have xl : w.heap.size < W.heap.size := by rw [← hW]; simp
 have xc : ∀ (i : Nat) (v : Value), (x.cs p)[i]? = some v → ∀ y : Sub W.heap.size W, y.w.cell? ⟨w.heap.size, i, none⟩ = some v := fun i v h y => (y.h.cell (p := ⟨w.heap.size, i, none⟩) xl).trans (by rw [← hW]; exact box17 w _ _ i v h)
 rw [hW] at hbW hrW
 obtain ⟨z, hz0⟩ : ∃ z : Sub W.heap.size W, w.alloc (.cells (x.cs p) 121) = z.w := ⟨⟨W, Below.refl _ _⟩, hW⟩
 have ne := Sub.ne W.heap.size W
 have HZ := hide (Nat.le_refl W.heap.size)
 have HB := hide (fun y : Sub W.heap.size W => hbW.trans (y.h.mono hbW.size))
 have F0 : ∀ y : Sub W.heap.size W, y.w.cell? ⟨w.heap.size, 0, none⟩ = some (.int .i64 x.k) := xc 0 _ rfl
 have F1 : ∀ y : Sub W.heap.size W, y.w.cell? ⟨w.heap.size, 1, none⟩ = some (.string x.s) := xc 1 _ rfl
 have F2 : ∀ y : Sub W.heap.size W, y.w.cell? ⟨w.heap.size, 2, none⟩ = some (.int .i64 x.op) := xc 2 _ rfl
 have F3 : ∀ y : Sub W.heap.size W, y.w.cell? ⟨w.heap.size, 3, none⟩ = some (.int .i64 x.src.f) := xc 3 _ rfl
 have F4 : ∀ y : Sub W.heap.size W, y.w.cell? ⟨w.heap.size, 4, none⟩ = some (.int .i64 x.src.r) := xc 4 _ rfl
 have F5 : ∀ y : Sub W.heap.size W, y.w.cell? ⟨w.heap.size, 5, none⟩ = some (.int .i64 x.src.e.k) := xc 5 _ rfl
 have F6 : ∀ y : Sub W.heap.size W, y.w.cell? ⟨w.heap.size, 6, none⟩ = some (.int .i64 x.src.e.n) := xc 6 _ rfl
 have F7 : ∀ y : Sub W.heap.size W, y.w.cell? ⟨w.heap.size, 7, none⟩ = some (.string x.src.e.s) := xc 7 _ rfl
 have F8 : ∀ y : Sub W.heap.size W, y.w.cell? ⟨w.heap.size, 8, none⟩ = some (.slice p.b1 x.src.e.l.length p.c1) := xc 8 _ rfl
 have F9 : ∀ y : Sub W.heap.size W, y.w.cell? ⟨w.heap.size, 9, none⟩ = some (.int .i64 x.dst.f) := xc 9 _ rfl
 have F10 : ∀ y : Sub W.heap.size W, y.w.cell? ⟨w.heap.size, 10, none⟩ = some (.int .i64 x.dst.r) := xc 10 _ rfl
 have F11 : ∀ y : Sub W.heap.size W, y.w.cell? ⟨w.heap.size, 11, none⟩ = some (.int .i64 x.dst.e.k) := xc 11 _ rfl
 have F12 : ∀ y : Sub W.heap.size W, y.w.cell? ⟨w.heap.size, 12, none⟩ = some (.int .i64 x.dst.e.n) := xc 12 _ rfl
 have F13 : ∀ y : Sub W.heap.size W, y.w.cell? ⟨w.heap.size, 13, none⟩ = some (.string x.dst.e.s) := xc 13 _ rfl
 have F14 : ∀ y : Sub W.heap.size W, y.w.cell? ⟨w.heap.size, 14, none⟩ = some (.slice p.b2 x.dst.e.l.length p.c2) := xc 14 _ rfl
 have F15 : ∀ y : Sub W.heap.size W, y.w.cell? ⟨w.heap.size, 15, none⟩ = some (.int .i64 x.n) := xc 15 _ rfl
 have F16 : ∀ y : Sub W.heap.size W, y.w.cell? ⟨w.heap.size, 16, none⟩ = some (.slice p.b3 x.l.length p.c3) := xc 16 _ rfl
 obtain ⟨hfs, hfa, hfb, hfl⟩ := hf
 have S1 := hide (fun (d : Int) (q0 : 0 ≤ d) (q1 : d ≤ 1048576) (y : Sub W.heap.size W) => szA_any x.src p.b1 p.c1 d y.w (hrW.a.later y.h) hfa q0 q1)
 have S2 := hide (fun (d : Int) (q0 : 0 ≤ d) (q1 : d ≤ 1048576) (y : Sub W.heap.size W) => szA_any x.dst p.b2 p.c2 d y.w (hrW.b.later y.h) hfb q0 q1)
 have S3 := hide (fun (d : Int) (q0 : 0 ≤ d) (q1 : d ≤ 1048576) (y : Sub W.heap.size W) => (show Calls Tryz.prog 146 #[.slice p.b3 x.l.length p.c3, .int .i64 d] y.w fun r w' => r = .returned (.int .i64 (lessX d (x.l.length + szX x.l))) ∧ Below y.w.heap.size y.w w' from szXS_of ⟨0, 0, E0, x.l⟩ (fun i hi => szX_any _) p.b3 p.c3 d y.w (hrW.l.later y.h) hfl q0 q1))
 unfold Ln.zz
 unfold Ag.cs at S1 S2
 unfold Ln.cs at hz0 ⊢
 clear hr hrW hfa hfb hfl xl hW xc hbW
 generalize x.src.e.sz = za at *
 generalize x.dst.e.sz = zb at *
 generalize x.l.length + szX x.l = zc at *
 generalize hzs : x.s.size = zs at *
 have HS := hide hzs
 clear hzs
 generalize x.src.f = sf at *
 generalize x.src.r = sr at *
 generalize x.src.e.k = sk at *
 generalize x.src.e.n = sn at *
 generalize x.src.e.s = ss at *
 generalize x.src.e.l.length = sl at *
 generalize x.dst.f = df at *
 generalize x.dst.r = dr at *
 generalize x.dst.e.k = dk at *
 generalize x.dst.e.n = dn at *
 generalize x.dst.e.s = ds at *
 generalize x.dst.e.l.length = dl at *
 generalize x.k = k at *
 generalize x.op = op at *
 generalize x.n = n at *
 generalize x.l.length = ll at *
 generalize p.b1 = b1 at *
 generalize p.c1 = c1 at *
 generalize p.b2 = b2 at *
 generalize p.c2 = c2 at *
 generalize p.b3 = b3 at *
 generalize p.c3 = c3 at *
 have hw : IntKind.i64.wrap (left - (zs : Int)) = left - (zs : Int) := by rw [IntKind.wrap_i64]; omega
 have hsz : x.s.size = zs := uh HS
 unfold lessX at S1 S2 S3 ⊢
 by_cases n1 : left - (zs : Int) < 0
 ·
  rw [if_pos (show left - ((zs + za + zb + zc : Nat) : Int) < 0 by omega)]
  go_enter Tryz.func93, Tryz.ntmps93
  go_wp2_with fail
  go_ret
  exact ⟨rfl, uh HB _⟩
 obtain ⟨d1, hd1⟩ : ∃ d, left - (zs : Int) = d := ⟨_, rfl⟩
 rw [hd1] at hw n1
 have g1 : (0 : Int) ≤ d1 := by omega
 have C1 := hide (uh S1 d1 g1 (by omega))
 clear S1
 by_cases n2 : d1 - (za : Int) < 0
 ·
  rw [if_pos n2] at C1
  rw [if_pos (show left - ((zs + za + zb + zc : Nat) : Int) < 0 by omega)]
  clear n2 g1
  go_enter Tryz.func93, Tryz.ntmps93
  go_wp2_with (go_at_call_of 145 sf; refine (Sub.call (uh HZ) (uh C1 _)).mono ?_; rintro r _ ⟨rfl, z2, rfl⟩)
  go_ret
  exact ⟨rfl, uh HB _⟩
 obtain ⟨d2, hd2⟩ : ∃ d, d1 - (za : Int) = d := ⟨_, rfl⟩
 rw [if_neg n2, hd2] at C1
 rw [hd2] at n2
 have g2 : (0 : Int) ≤ d2 := by omega
 have C2 := hide (uh S2 d2 g2 (by omega))
 clear S2
 by_cases n3 : d2 - (zb : Int) < 0
 ·
  rw [if_pos n3] at C2
  rw [if_pos (show left - ((zs + za + zb + zc : Nat) : Int) < 0 by omega)]
  clear n3 g1 g2 hd2
  go_enter Tryz.func93, Tryz.ntmps93
  go_wp2_with (first | (go_at_call_of 145 sf; refine (Sub.call (uh HZ) (uh C1 _)).mono ?_; rintro r _ ⟨rfl, z2, rfl⟩) | (go_at_call_of 145 df; refine (Sub.call (uh HZ) (uh C2 _)).mono ?_; rintro r _ ⟨rfl, z2, rfl⟩))
  go_ret
  exact ⟨rfl, uh HB _⟩
 obtain ⟨d3, hd3⟩ : ∃ d, d2 - (zb : Int) = d := ⟨_, rfl⟩
 rw [if_neg n3, hd3] at C2
 rw [hd3] at n3
 have g3 : (0 : Int) ≤ d3 := by omega
 have C3 := hide (uh S3 d3 g3 (by omega))
 clear S3
 by_cases n4 : d3 - (zc : Int) < 0
 ·
  rw [if_pos n4] at C3
  rw [if_pos (show left - ((zs + za + zb + zc : Nat) : Int) < 0 by omega)]
  clear n4 g1 g2 g3 hd2 hd3
  go_enter Tryz.func93, Tryz.ntmps93
  go_wp2_with (first | (go_at_call_of 145 sf; refine (Sub.call (uh HZ) (uh C1 _)).mono ?_; rintro r _ ⟨rfl, z2, rfl⟩) | (go_at_call_of 145 df; refine (Sub.call (uh HZ) (uh C2 _)).mono ?_; rintro r _ ⟨rfl, z2, rfl⟩) | (go_at_call 146; refine (Sub.call (uh HZ) (uh C3 _)).mono ?_; rintro r _ ⟨rfl, z2, rfl⟩))
  go_ret
  exact ⟨rfl, uh HB _⟩
 obtain ⟨d4, hd4⟩ : ∃ d, d3 - (zc : Int) = d := ⟨_, rfl⟩
 rw [if_neg n4, hd4] at C3
 rw [hd4] at n4
 rw [if_neg (show ¬ (left - ((zs + za + zb + zc : Nat) : Int) < 0) by omega)]
 rw [show left - ((zs + za + zb + zc : Nat) : Int) = d4 by omega]
 clear hd2 hd3 hd4 g1 g2 g3
 go_enter Tryz.func93, Tryz.ntmps93
 go_wp2_with (first | (go_at_call_of 145 sf; refine (Sub.call (uh HZ) (uh C1 _)).mono ?_; rintro r _ ⟨rfl, z2, rfl⟩) | (go_at_call_of 145 df; refine (Sub.call (uh HZ) (uh C2 _)).mono ?_; rintro r _ ⟨rfl, z2, rfl⟩) | (go_at_call 146; refine (Sub.call (uh HZ) (uh C3 _)).mono ?_; rintro r _ ⟨rfl, z2, rfl⟩))
 go_ret
 exact ⟨rfl, uh HB _⟩
theorem eqL_same (x : Ln) (p q : La) (w : World) (hp : RdL w x p) (hq : RdL w x q) (hz : SzL x) (hzl : (Ex.mk 0 0 E0 x.l).sz ≤ 1048576) : Calls Tryz.prog 31 #[.agg (x.cs p), .agg (x.cs q)] w fun r w' => r = .returned (.bool true) ∧ Below w.heap.size w w' := by
 have b1 := below_new w (.cells (x.cs p) 30)
 have b2 := below_new (w.alloc (.cells (x.cs p) 30)) (.cells (x.cs q) 30)
 have hbW := b1.trans (b2.mono b1.size)
 obtain ⟨W, hW⟩ : ∃ W, (w.alloc (.cells (x.cs p) 30)).alloc (.cells (x.cs q) 30) = W := ⟨_, rfl⟩
 have hpW := hp.later hbW
 have hqW := hq.later hbW
 have xl : w.heap.size + 1 < W.heap.size := by rw [← hW]; simp
 have xc : ∀ (i : Nat) (v : Value), (x.cs p)[i]? = some v → ∀ y : Sub W.heap.size W, y.w.cell? ⟨w.heap.size, i, none⟩ = some v := fun i v h y => (y.h.cell (p := ⟨w.heap.size, i, none⟩) (by show w.heap.size < W.heap.size; omega)).trans (by rw [← hW]; exact (b2.cell (p := ⟨w.heap.size, i, none⟩) (by simp)).trans (box17 w _ _ i v h))
 have xd : ∀ (i : Nat) (v : Value), (x.cs q)[i]? = some v → ∀ y : Sub W.heap.size W, y.w.cell? ⟨w.heap.size + 1, i, none⟩ = some v := fun i v h y => (y.h.cell (p := ⟨w.heap.size + 1, i, none⟩) xl).trans (by rw [← hW]; have := box17 (w.alloc (.cells (x.cs p) 30)) (x.cs q) 30 i v h; rw [show (w.alloc (.cells (x.cs p) 30)).heap.size = w.heap.size + 1 by simp] at this; exact this)
 rw [hW] at hbW hpW hqW
 obtain ⟨z, hz0⟩ : ∃ z : Sub W.heap.size W, (w.alloc (.cells (x.cs p) 30)).alloc (.cells (x.cs q) 30) = z.w := ⟨⟨W, Below.refl _ _⟩, hW⟩
 have ne := Sub.ne W.heap.size W
 have HZ := hide (Nat.le_refl W.heap.size)
 have HB := hide (fun y : Sub W.heap.size W => hbW.trans (y.h.mono hbW.size))
 obtain ⟨hza, hzb, hzc, hzd, hze⟩ := hz
 have C1 := hide (fun y : Sub W.heap.size W => eqA_same x.src p.b1 q.b1 p.c1 q.c1 y.w (hpW.a.later y.h) (hqW.a.later y.h) hzb)
 have C2 := hide (fun y : Sub W.heap.size W => eqA_same x.dst p.b2 q.b2 p.c2 q.c2 y.w (hpW.b.later y.h) (hqW.b.later y.h) hzc)
 have C3 := hide (fun y : Sub W.heap.size W => (show Calls Tryz.prog 87 #[.slice p.b3 x.l.length p.c3, .slice q.b3 x.l.length q.c3] y.w fun r w' => r = .returned (.bool true) ∧ Below y.w.heap.size y.w w' from eqXS_of ⟨0, 0, E0, x.l⟩ (fun i hi => eqX_same _) p.b3 q.b3 p.c3 q.c3 y.w (hpW.l.later y.h) (hqW.l.later y.h) hzl))
 have F0 : ∀ y : Sub W.heap.size W, y.w.cell? ⟨w.heap.size, 0, none⟩ = some (.int .i64 x.k) := xc 0 _ rfl
 have G0 : ∀ y : Sub W.heap.size W, y.w.cell? ⟨w.heap.size + 1, 0, none⟩ = some (.int .i64 x.k) := xd 0 _ rfl
 have F1 : ∀ y : Sub W.heap.size W, y.w.cell? ⟨w.heap.size, 1, none⟩ = some (.string x.s) := xc 1 _ rfl
 have G1 : ∀ y : Sub W.heap.size W, y.w.cell? ⟨w.heap.size + 1, 1, none⟩ = some (.string x.s) := xd 1 _ rfl
 have F2 : ∀ y : Sub W.heap.size W, y.w.cell? ⟨w.heap.size, 2, none⟩ = some (.int .i64 x.op) := xc 2 _ rfl
 have G2 : ∀ y : Sub W.heap.size W, y.w.cell? ⟨w.heap.size + 1, 2, none⟩ = some (.int .i64 x.op) := xd 2 _ rfl
 have F3 : ∀ y : Sub W.heap.size W, y.w.cell? ⟨w.heap.size, 3, none⟩ = some (.int .i64 x.src.f) := xc 3 _ rfl
 have G3 : ∀ y : Sub W.heap.size W, y.w.cell? ⟨w.heap.size + 1, 3, none⟩ = some (.int .i64 x.src.f) := xd 3 _ rfl
 have F4 : ∀ y : Sub W.heap.size W, y.w.cell? ⟨w.heap.size, 4, none⟩ = some (.int .i64 x.src.r) := xc 4 _ rfl
 have G4 : ∀ y : Sub W.heap.size W, y.w.cell? ⟨w.heap.size + 1, 4, none⟩ = some (.int .i64 x.src.r) := xd 4 _ rfl
 have F5 : ∀ y : Sub W.heap.size W, y.w.cell? ⟨w.heap.size, 5, none⟩ = some (.int .i64 x.src.e.k) := xc 5 _ rfl
 have G5 : ∀ y : Sub W.heap.size W, y.w.cell? ⟨w.heap.size + 1, 5, none⟩ = some (.int .i64 x.src.e.k) := xd 5 _ rfl
 have F6 : ∀ y : Sub W.heap.size W, y.w.cell? ⟨w.heap.size, 6, none⟩ = some (.int .i64 x.src.e.n) := xc 6 _ rfl
 have G6 : ∀ y : Sub W.heap.size W, y.w.cell? ⟨w.heap.size + 1, 6, none⟩ = some (.int .i64 x.src.e.n) := xd 6 _ rfl
 have F7 : ∀ y : Sub W.heap.size W, y.w.cell? ⟨w.heap.size, 7, none⟩ = some (.string x.src.e.s) := xc 7 _ rfl
 have G7 : ∀ y : Sub W.heap.size W, y.w.cell? ⟨w.heap.size + 1, 7, none⟩ = some (.string x.src.e.s) := xd 7 _ rfl
 have F8 : ∀ y : Sub W.heap.size W, y.w.cell? ⟨w.heap.size, 8, none⟩ = some (.slice p.b1 x.src.e.l.length p.c1) := xc 8 _ rfl
 have G8 : ∀ y : Sub W.heap.size W, y.w.cell? ⟨w.heap.size + 1, 8, none⟩ = some (.slice q.b1 x.src.e.l.length q.c1) := xd 8 _ rfl
 have F9 : ∀ y : Sub W.heap.size W, y.w.cell? ⟨w.heap.size, 9, none⟩ = some (.int .i64 x.dst.f) := xc 9 _ rfl
 have G9 : ∀ y : Sub W.heap.size W, y.w.cell? ⟨w.heap.size + 1, 9, none⟩ = some (.int .i64 x.dst.f) := xd 9 _ rfl
 have F10 : ∀ y : Sub W.heap.size W, y.w.cell? ⟨w.heap.size, 10, none⟩ = some (.int .i64 x.dst.r) := xc 10 _ rfl
 have G10 : ∀ y : Sub W.heap.size W, y.w.cell? ⟨w.heap.size + 1, 10, none⟩ = some (.int .i64 x.dst.r) := xd 10 _ rfl
 have F11 : ∀ y : Sub W.heap.size W, y.w.cell? ⟨w.heap.size, 11, none⟩ = some (.int .i64 x.dst.e.k) := xc 11 _ rfl
 have G11 : ∀ y : Sub W.heap.size W, y.w.cell? ⟨w.heap.size + 1, 11, none⟩ = some (.int .i64 x.dst.e.k) := xd 11 _ rfl
 have F12 : ∀ y : Sub W.heap.size W, y.w.cell? ⟨w.heap.size, 12, none⟩ = some (.int .i64 x.dst.e.n) := xc 12 _ rfl
 have G12 : ∀ y : Sub W.heap.size W, y.w.cell? ⟨w.heap.size + 1, 12, none⟩ = some (.int .i64 x.dst.e.n) := xd 12 _ rfl
 have F13 : ∀ y : Sub W.heap.size W, y.w.cell? ⟨w.heap.size, 13, none⟩ = some (.string x.dst.e.s) := xc 13 _ rfl
 have G13 : ∀ y : Sub W.heap.size W, y.w.cell? ⟨w.heap.size + 1, 13, none⟩ = some (.string x.dst.e.s) := xd 13 _ rfl
 have F14 : ∀ y : Sub W.heap.size W, y.w.cell? ⟨w.heap.size, 14, none⟩ = some (.slice p.b2 x.dst.e.l.length p.c2) := xc 14 _ rfl
 have G14 : ∀ y : Sub W.heap.size W, y.w.cell? ⟨w.heap.size + 1, 14, none⟩ = some (.slice q.b2 x.dst.e.l.length q.c2) := xd 14 _ rfl
 have F15 : ∀ y : Sub W.heap.size W, y.w.cell? ⟨w.heap.size, 15, none⟩ = some (.int .i64 x.n) := xc 15 _ rfl
 have G15 : ∀ y : Sub W.heap.size W, y.w.cell? ⟨w.heap.size + 1, 15, none⟩ = some (.int .i64 x.n) := xd 15 _ rfl
 have F16 : ∀ y : Sub W.heap.size W, y.w.cell? ⟨w.heap.size, 16, none⟩ = some (.slice p.b3 x.l.length p.c3) := xc 16 _ rfl
 have G16 : ∀ y : Sub W.heap.size W, y.w.cell? ⟨w.heap.size + 1, 16, none⟩ = some (.slice q.b3 x.l.length q.c3) := xd 16 _ rfl
 unfold Ag.cs at C1 C2
 unfold Ln.cs at hz0 ⊢
 clear hp hq hpW hqW xl hW xc xd hbW b1 b2 hza hzb hzc hzd hze hzl
 generalize x.src.f = sf at *
 generalize x.src.r = sr at *
 generalize x.src.e.k = sk at *
 generalize x.src.e.n = sn at *
 generalize x.src.e.s = ss at *
 generalize x.src.e.l.length = sl at *
 generalize x.dst.f = df at *
 generalize x.dst.r = dr at *
 generalize x.dst.e.k = dk at *
 generalize x.dst.e.n = dn at *
 generalize x.dst.e.s = ds at *
 generalize x.dst.e.l.length = dl at *
 generalize x.k = k at *
 generalize x.s = s at *
 generalize x.op = op at *
 generalize x.n = n at *
 generalize x.l.length = ll at *
 generalize p.b1 = b1 at *
 generalize p.c1 = c1 at *
 generalize p.b2 = b2 at *
 generalize p.c2 = c2 at *
 generalize p.b3 = b3 at *
 generalize p.c3 = c3 at *
 generalize q.b1 = qb1 at *
 generalize q.c1 = qc1 at *
 generalize q.b2 = qb2 at *
 generalize q.c2 = qc2 at *
 generalize q.b3 = qb3 at *
 generalize q.c3 = qc3 at *
 go_enter Tryz.func31, Tryz.ntmps31
 go_wp2_with (first | (go_at_call_of 86 sf; refine (Sub.call (uh HZ) (uh C1 _)).mono ?_; rintro r _ ⟨rfl, z2, rfl⟩) | (go_at_call_of 86 df; refine (Sub.call (uh HZ) (uh C2 _)).mono ?_; rintro r _ ⟨rfl, z2, rfl⟩) | (go_at_call 87; refine (Sub.call (uh HZ) (uh C3 _)).mono ?_; rintro r _ ⟨rfl, z2, rfl⟩))
 go_ret
 exact ⟨rfl, uh HB _⟩
structure NwL (w : World) (B : Nat) (x : Ln) (p : La) : Prop where
 a : NewX w B x.src.e p.b1
 b : NewX w B x.dst.e p.b2
 l : NewX w B ⟨0, 0, E0, x.l⟩ p.b3
theorem NwL.rd {w : World} {B : Nat} {x : Ln} {p : La} (h : NwL w B x p) : RdL w x p := ⟨h.a.rd.lower (Nat.zero_le _) _ _, h.b.rd.lower (Nat.zero_le _) _ _, h.l.rd.lower (Nat.zero_le _) _ _⟩
theorem toL_any (x : Ln) (p : La) (w : World) (hr : RdL w x p) (hz : SzL x) (hzl : (Ex.mk 0 0 E0 x.l).sz ≤ 1048576) : Calls Tryz.prog 94 #[.agg (x.cs p)] w fun r w' => ∃ q : La, r = .returned (.agg (x.cs q)) ∧ NwL w' w.heap.size x q ∧ Below w.heap.size w w' := by
 obtain ⟨hb, hg1, hg2⟩ := three_new w (.cells (x.cs p) 121) (.cells #[.int .i64 0, .string ⟨#[]⟩, .int .i64 0, .int .i64 0, .int .i64 0, .int .i64 0, .int .i64 0, .string ⟨#[]⟩, .slice none 0 0, .int .i64 0, .int .i64 0, .int .i64 0, .int .i64 0, .string ⟨#[]⟩, .slice none 0 0, .int .i64 0, .slice none 0 0] 30) (.cells #[.int .i64 x.k, .string x.s, .int .i64 x.op, .int .i64 0, .int .i64 0, .int .i64 0, .int .i64 0, .string ⟨#[]⟩, .slice none 0 0, .int .i64 0, .int .i64 0, .int .i64 0, .int .i64 0, .string ⟨#[]⟩, .slice none 0 0, .int .i64 0, .slice none 0 0] 30)
 have hg0 := three_new0 w (.cells (x.cs p) 121) (.cells #[.int .i64 0, .string ⟨#[]⟩, .int .i64 0, .int .i64 0, .int .i64 0, .int .i64 0, .int .i64 0, .string ⟨#[]⟩, .slice none 0 0, .int .i64 0, .int .i64 0, .int .i64 0, .int .i64 0, .string ⟨#[]⟩, .slice none 0 0, .int .i64 0, .slice none 0 0] 30) (.cells #[.int .i64 x.k, .string x.s, .int .i64 x.op, .int .i64 0, .int .i64 0, .int .i64 0, .int .i64 0, .string ⟨#[]⟩, .slice none 0 0, .int .i64 0, .int .i64 0, .int .i64 0, .int .i64 0, .string ⟨#[]⟩, .slice none 0 0, .int .i64 0, .slice none 0 0] 30)
 obtain ⟨W, hW⟩ : ∃ W, ((w.alloc (.cells (x.cs p) 121)).alloc (.cells #[.int .i64 0, .string ⟨#[]⟩, .int .i64 0, .int .i64 0, .int .i64 0, .int .i64 0, .int .i64 0, .string ⟨#[]⟩, .slice none 0 0, .int .i64 0, .int .i64 0, .int .i64 0, .int .i64 0, .string ⟨#[]⟩, .slice none 0 0, .int .i64 0, .slice none 0 0] 30)).alloc (.cells #[.int .i64 x.k, .string x.s, .int .i64 x.op, .int .i64 0, .int .i64 0, .int .i64 0, .int .i64 0, .string ⟨#[]⟩, .slice none 0 0, .int .i64 0, .int .i64 0, .int .i64 0, .int .i64 0, .string ⟨#[]⟩, .slice none 0 0, .int .i64 0, .slice none 0 0] 30) = W := ⟨_, rfl⟩
 have hsz : w.heap.size + 3 = W.heap.size := by rw [← hW]; simp
 rw [hW] at hb hg1 hg2 hg0
 have hrW := hr.later hb
 obtain ⟨hza, hzb, hzc, hzd, hze⟩ := hz
 have S1 := hide (toA_any x.src p.b1 p.c1 W hrW.a hzb)
 have S2 := hide (fun wr (h : Below w.heap.size w wr) => toA_any x.dst p.b2 p.c2 wr (hr.b.later h) hzc)
 have S3 := hide (fun wr (h : Below w.heap.size w wr) => (show Calls Tryz.prog 148 #[.slice p.b3 x.l.length p.c3] wr fun r w' => r = .returned (.slice (some ⟨wr.heap.size, 0, none⟩) x.l.length x.l.length) ∧ NewX w' wr.heap.size ⟨0, 0, E0, x.l⟩ (some ⟨wr.heap.size, 0, none⟩) ∧ Below wr.heap.size wr w' from toXS_of ⟨0, 0, E0, x.l⟩ (fun i hi => toX_any _) p.b3 p.c3 wr (hr.l.later h) hzl))
 have B0 := hide hb
 have P0 := hide hg0
 have Q0 := hide hg1
 have R0 := hide hg2
 have HL := hide hsz
 have a3 := Lib.cell_of_heap hg0 3
 have a4 := Lib.cell_of_heap hg0 4
 have a5 := Lib.cell_of_heap hg0 5
 have a6 := Lib.cell_of_heap hg0 6
 have a7 := Lib.cell_of_heap hg0 7
 have a8 := Lib.cell_of_heap hg0 8
 clear hr hrW hb hg0 hg1 hg2 hza hzb hzc hzd hze hzl hsz
 unfold Ag.cs at S1 S2
 unfold Ln.cs at hW P0 a3 a4 a5 a6 a7 a8 ⊢
 simp at a3 a4 a5 a6 a7 a8
 generalize x.src.f = sf at *
 generalize x.src.r = sr at *
 generalize x.src.e.k = sk at *
 generalize x.src.e.n = sn at *
 generalize x.src.e.s = ss at *
 generalize x.src.e.l.length = sl at *
 generalize x.dst.f = df at *
 generalize x.dst.r = dr at *
 generalize x.dst.e.k = dk at *
 generalize x.dst.e.n = dn at *
 generalize x.dst.e.s = ds at *
 generalize x.dst.e.l.length = dl at *
 generalize x.k = k at *
 generalize x.s = s at *
 generalize x.op = op at *
 generalize x.n = n at *
 generalize x.l.length = ll at *
 generalize p.b1 = b1 at *
 generalize p.c1 = c1_ at *
 generalize p.b2 = b2 at *
 generalize p.c2 = c2_ at *
 generalize p.b3 = b3 at *
 generalize p.c3 = c3_ at *
 go_enter Tryz.func94, Tryz.ntmps94
 go_wp2_with fail
 refine (uh S1).mono ?_
 rintro r v1 ⟨c1, cp1, rfl, hn, hb⟩
 have p1 := row_keep (uh P0) hb
 have q1 := row_keep (uh Q0) hb
 have r1 := row_keep (uh R0) hb
 have b1 := (uh B0).trans (hb.mono (uh B0).size)
 have Nv1 := hn.lower (show w.heap.size + 3 ≤ W.heap.size by have := uh HL; omega)
 clear hn S1
 have hg : v1.grownBy ((((((v1.setCell ⟨w.heap.size + 1 + 1, 3, none⟩ (.int .i64 sf)).setCell ⟨w.heap.size + 1 + 1, 4, none⟩ (.int .i64 sr)).setCell ⟨w.heap.size + 1 + 1, 5, none⟩ (.int .i64 sk)).setCell ⟨w.heap.size + 1 + 1, 6, none⟩ (.int .i64 sn)).setCell ⟨w.heap.size + 1 + 1, 7, none⟩ (.string ss)).setCell ⟨w.heap.size + 1 + 1, 8, none⟩ (.slice c1 sl cp1)) (some (w.heap.size + 1 + 1)) := (grownBy_trans (grownBy_trans (grownBy_trans (grownBy_trans (grownBy_trans (grownBy_set (.int .i64 sf)) (grownBy_set (.int .i64 sr))) (grownBy_set (.int .i64 sk))) (grownBy_set (.int .i64 sn))) (grownBy_set (.string ss))) (grownBy_set (.slice c1 sl cp1)))
 have P1 := hide ((hg.block _ (Array.getElem?_eq_some_iff.1 p1).1 (fun e => by simp at e; omega)).trans p1)
 have Q1 := hide ((hg.block _ (Array.getElem?_eq_some_iff.1 q1).1 (fun e => by simp at e)).trans q1)
 have R1 := hide (show (((((((v1.setCell ⟨w.heap.size + 1 + 1, 3, none⟩ (.int .i64 sf)).setCell ⟨w.heap.size + 1 + 1, 4, none⟩ (.int .i64 sr)).setCell ⟨w.heap.size + 1 + 1, 5, none⟩ (.int .i64 sk)).setCell ⟨w.heap.size + 1 + 1, 6, none⟩ (.int .i64 sn)).setCell ⟨w.heap.size + 1 + 1, 7, none⟩ (.string ss)).setCell ⟨w.heap.size + 1 + 1, 8, none⟩ (.slice c1 sl cp1))).heap[w.heap.size + 1 + 1]? = some (.cells #[.int .i64 k, .string s, .int .i64 op, .int .i64 sf, .int .i64 sr, .int .i64 sk, .int .i64 sn, .string ss, .slice c1 sl cp1, .int .i64 0, .int .i64 0, .int .i64 0, .int .i64 0, .string ⟨#[]⟩, .slice none 0 0, .int .i64 0, .slice none 0 0] 30 (0, 0)) from (heap_setK 8 _ (heap_setK 7 _ (heap_setK 6 _ (heap_setK 5 _ (heap_setK 4 _ (heap_setK 3 _ r1)))))))
 have B1 := hide (b1.grown hg b1.size (fun g e => by cases e; omega))
 have N1 := hide (Nv1.drawn hg (by have := uh HL; omega))
 have k3 := Lib.cell_of_heap r1 3
 have f3 := Lib.frozen_of_heap r1 3
 have k4 := Lib.cell_of_heap r1 4
 have f4 := Lib.frozen_of_heap r1 4
 have k5 := Lib.cell_of_heap r1 5
 have f5 := Lib.frozen_of_heap r1 5
 have k6 := Lib.cell_of_heap r1 6
 have f6 := Lib.frozen_of_heap r1 6
 have k7 := Lib.cell_of_heap r1 7
 have f7 := Lib.frozen_of_heap r1 7
 have k8 := Lib.cell_of_heap r1 8
 have f8 := Lib.frozen_of_heap r1 8
 obtain ⟨w1, hw1⟩ : ∃ w2, ((((((v1.setCell ⟨w.heap.size + 1 + 1, 3, none⟩ (.int .i64 sf)).setCell ⟨w.heap.size + 1 + 1, 4, none⟩ (.int .i64 sr)).setCell ⟨w.heap.size + 1 + 1, 5, none⟩ (.int .i64 sk)).setCell ⟨w.heap.size + 1 + 1, 6, none⟩ (.int .i64 sn)).setCell ⟨w.heap.size + 1 + 1, 7, none⟩ (.string ss)).setCell ⟨w.heap.size + 1 + 1, 8, none⟩ (.slice c1 sl cp1)) = w2 := ⟨_, rfl⟩
 rw [hw1] at P1 Q1 R1 B1 N1
 have a9 := Lib.cell_of_heap (uh P1) 9
 have a10 := Lib.cell_of_heap (uh P1) 10
 have a11 := Lib.cell_of_heap (uh P1) 11
 have a12 := Lib.cell_of_heap (uh P1) 12
 have a13 := Lib.cell_of_heap (uh P1) 13
 have a14 := Lib.cell_of_heap (uh P1) 14
 simp at a9 a10 a11 a12 a13 a14
 have ZS1 := hide (show W.heap.size ≤ w1.heap.size by rw [← hw1]; exact Nat.le_trans hb.size hg.size)
 clear hg p1 q1 r1 b1 hb P0 Q0 R0 B0 Nv1
 have Z1 := hide (show W.heap.size ≤ w1.heap.size from uh ZS1)
 have C1 := hide (uh S2 w1 (uh B1))
 go_wp2_with fail
 refine (uh C1).mono ?_
 rintro r v2 ⟨c2, cp2, rfl, hn, hb⟩
 have p2 := row_keep (uh P1) hb
 have q2 := row_keep (uh Q1) hb
 have r2 := row_keep (uh R1) hb
 have b2 := (uh B1).trans (hb.mono (uh B1).size)
 have Nv2 := (uh N1).later hb
 clear k3 f3 k4 f4 k5 f5 k6 f6 k7 f7 k8 f8 hw1 C1 S2
 have Mv2 := hn.lower (show w.heap.size + 3 ≤ w1.heap.size by have := uh HL; have := uh Z1; omega)
 clear hn
 have hg : v2.grownBy ((((((v2.setCell ⟨w.heap.size + 1 + 1, 9, none⟩ (.int .i64 df)).setCell ⟨w.heap.size + 1 + 1, 10, none⟩ (.int .i64 dr)).setCell ⟨w.heap.size + 1 + 1, 11, none⟩ (.int .i64 dk)).setCell ⟨w.heap.size + 1 + 1, 12, none⟩ (.int .i64 dn)).setCell ⟨w.heap.size + 1 + 1, 13, none⟩ (.string ds)).setCell ⟨w.heap.size + 1 + 1, 14, none⟩ (.slice c2 dl cp2)) (some (w.heap.size + 1 + 1)) := (grownBy_trans (grownBy_trans (grownBy_trans (grownBy_trans (grownBy_trans (grownBy_set (.int .i64 df)) (grownBy_set (.int .i64 dr))) (grownBy_set (.int .i64 dk))) (grownBy_set (.int .i64 dn))) (grownBy_set (.string ds))) (grownBy_set (.slice c2 dl cp2)))
 have P2 := hide ((hg.block _ (Array.getElem?_eq_some_iff.1 p2).1 (fun e => by simp at e; omega)).trans p2)
 have Q2 := hide ((hg.block _ (Array.getElem?_eq_some_iff.1 q2).1 (fun e => by simp at e)).trans q2)
 have R2 := hide (show (((((((v2.setCell ⟨w.heap.size + 1 + 1, 9, none⟩ (.int .i64 df)).setCell ⟨w.heap.size + 1 + 1, 10, none⟩ (.int .i64 dr)).setCell ⟨w.heap.size + 1 + 1, 11, none⟩ (.int .i64 dk)).setCell ⟨w.heap.size + 1 + 1, 12, none⟩ (.int .i64 dn)).setCell ⟨w.heap.size + 1 + 1, 13, none⟩ (.string ds)).setCell ⟨w.heap.size + 1 + 1, 14, none⟩ (.slice c2 dl cp2))).heap[w.heap.size + 1 + 1]? = some (.cells #[.int .i64 k, .string s, .int .i64 op, .int .i64 sf, .int .i64 sr, .int .i64 sk, .int .i64 sn, .string ss, .slice c1 sl cp1, .int .i64 df, .int .i64 dr, .int .i64 dk, .int .i64 dn, .string ds, .slice c2 dl cp2, .int .i64 0, .slice none 0 0] 30 (0, 0)) from (heap_setK 14 _ (heap_setK 13 _ (heap_setK 12 _ (heap_setK 11 _ (heap_setK 10 _ (heap_setK 9 _ r2)))))))
 have B2 := hide (b2.grown hg b2.size (fun g e => by cases e; omega))
 have N2 := hide (Nv2.drawn hg (by have := uh HL; omega))
 have M2 := hide (Mv2.drawn hg (by have := uh HL; omega))
 have k9 := Lib.cell_of_heap r2 9
 have f9 := Lib.frozen_of_heap r2 9
 have k10 := Lib.cell_of_heap r2 10
 have f10 := Lib.frozen_of_heap r2 10
 have k11 := Lib.cell_of_heap r2 11
 have f11 := Lib.frozen_of_heap r2 11
 have k12 := Lib.cell_of_heap r2 12
 have f12 := Lib.frozen_of_heap r2 12
 have k13 := Lib.cell_of_heap r2 13
 have f13 := Lib.frozen_of_heap r2 13
 have k14 := Lib.cell_of_heap r2 14
 have f14 := Lib.frozen_of_heap r2 14
 obtain ⟨w2, hw2⟩ : ∃ w2, ((((((v2.setCell ⟨w.heap.size + 1 + 1, 9, none⟩ (.int .i64 df)).setCell ⟨w.heap.size + 1 + 1, 10, none⟩ (.int .i64 dr)).setCell ⟨w.heap.size + 1 + 1, 11, none⟩ (.int .i64 dk)).setCell ⟨w.heap.size + 1 + 1, 12, none⟩ (.int .i64 dn)).setCell ⟨w.heap.size + 1 + 1, 13, none⟩ (.string ds)).setCell ⟨w.heap.size + 1 + 1, 14, none⟩ (.slice c2 dl cp2)) = w2 := ⟨_, rfl⟩
 rw [hw2] at P2 Q2 R2 B2 N2 M2
 have a15 := Lib.cell_of_heap (uh P2) 15
 simp at a15
 have ZS2 := hide (show w1.heap.size ≤ w2.heap.size by rw [← hw2]; exact Nat.le_trans hb.size hg.size)
 clear hg p2 q2 r2 b2 hb P1 Q1 R1 B1 Nv2 Mv2
 have p3 := uh P2
 have q3 := uh Q2
 have r3 := uh R2
 have b3 := uh B2
 have Nv3 := uh N2
 have Mv3 := uh M2
 obtain ⟨v3, hv3⟩ : ∃ v, w2 = v := ⟨_, rfl⟩
 rw [hv3] at p3 q3 r3 b3 Nv3 Mv3 a15 hw2
 have hb := Below.refl v3.heap.size v3
 have hg : v3.grownBy (v3.setCell ⟨w.heap.size + 1 + 1, 15, none⟩ (.int .i64 n)) (some (w.heap.size + 1 + 1)) := (grownBy_set (.int .i64 n))
 have P3 := hide ((hg.block _ (Array.getElem?_eq_some_iff.1 p3).1 (fun e => by simp at e; omega)).trans p3)
 have Q3 := hide ((hg.block _ (Array.getElem?_eq_some_iff.1 q3).1 (fun e => by simp at e)).trans q3)
 have R3 := hide (show ((v3.setCell ⟨w.heap.size + 1 + 1, 15, none⟩ (.int .i64 n))).heap[w.heap.size + 1 + 1]? = some (.cells #[.int .i64 k, .string s, .int .i64 op, .int .i64 sf, .int .i64 sr, .int .i64 sk, .int .i64 sn, .string ss, .slice c1 sl cp1, .int .i64 df, .int .i64 dr, .int .i64 dk, .int .i64 dn, .string ds, .slice c2 dl cp2, .int .i64 n, .slice none 0 0] 30 (0, 0)) from (heap_setK 15 _ r3))
 have B3 := hide (b3.grown hg b3.size (fun g e => by cases e; omega))
 have N3 := hide (Nv3.drawn hg (by have := uh HL; omega))
 have M3 := hide (Mv3.drawn hg (by have := uh HL; omega))
 have k15 := Lib.cell_of_heap r3 15
 have f15 := Lib.frozen_of_heap r3 15
 obtain ⟨w3, hw3⟩ : ∃ w2, (v3.setCell ⟨w.heap.size + 1 + 1, 15, none⟩ (.int .i64 n)) = w2 := ⟨_, rfl⟩
 rw [hw3] at P3 Q3 R3 B3 N3 M3
 have a16 := Lib.cell_of_heap (uh P3) 16
 simp at a16
 have ZS3 := hide (show w2.heap.size ≤ w3.heap.size by rw [← hw3, hv3]; exact hg.size)
 clear hg p3 q3 r3 b3 hb P2 Q2 R2 B2 Nv3 Mv3
 have Z3 := hide (show W.heap.size ≤ w3.heap.size from Nat.le_trans (uh Z1) (Nat.le_trans (uh ZS2) (uh ZS3)))
 have C3 := hide (uh S3 w3 (uh B3))
 go_wp2_with fail
 refine (uh C3).mono ?_
 rintro r v4 ⟨rfl, hn, hb⟩
 have p4 := row_keep (uh P3) hb
 have q4 := row_keep (uh Q3) hb
 have r4 := row_keep (uh R3) hb
 have b4 := (uh B3).trans (hb.mono (uh B3).size)
 have Nv4 := (uh N3).later hb
 have Mv4 := (uh M3).later hb
 clear k9 f9 k10 f10 k11 f11 k12 f12 k13 f13 k14 f14 k15 f15 hw2 hw3 C3 S3
 have Lv4 := hn.lower (show w.heap.size + 3 ≤ w3.heap.size by have := uh HL; have := uh Z3; omega)
 clear hn
 generalize w3.heap.size = gl at *
 have hg : v4.grownBy (v4.setCell ⟨w.heap.size + 1 + 1, 16, none⟩ (.slice (some ⟨gl, 0, none⟩) ll ll)) (some (w.heap.size + 1 + 1)) := (grownBy_set (.slice (some ⟨gl, 0, none⟩) ll ll))
 have P4 := hide ((hg.block _ (Array.getElem?_eq_some_iff.1 p4).1 (fun e => by simp at e; omega)).trans p4)
 have Q4 := hide ((hg.block _ (Array.getElem?_eq_some_iff.1 q4).1 (fun e => by simp at e)).trans q4)
 have R4 := hide (show ((v4.setCell ⟨w.heap.size + 1 + 1, 16, none⟩ (.slice (some ⟨gl, 0, none⟩) ll ll))).heap[w.heap.size + 1 + 1]? = some (.cells #[.int .i64 k, .string s, .int .i64 op, .int .i64 sf, .int .i64 sr, .int .i64 sk, .int .i64 sn, .string ss, .slice c1 sl cp1, .int .i64 df, .int .i64 dr, .int .i64 dk, .int .i64 dn, .string ds, .slice c2 dl cp2, .int .i64 n, .slice (some ⟨gl, 0, none⟩) ll ll] 30 (0, 0)) from (heap_setK 16 _ r4))
 have B4 := hide (b4.grown hg b4.size (fun g e => by cases e; omega))
 have N4 := hide (Nv4.drawn hg (by have := uh HL; omega))
 have M4 := hide (Mv4.drawn hg (by have := uh HL; omega))
 have L4 := hide (Lv4.drawn hg (by have := uh HL; omega))
 have k16 := Lib.cell_of_heap r4 16
 have f16 := Lib.frozen_of_heap r4 16
 obtain ⟨w4, hw4⟩ : ∃ w2, (v4.setCell ⟨w.heap.size + 1 + 1, 16, none⟩ (.slice (some ⟨gl, 0, none⟩) ll ll)) = w2 := ⟨_, rfl⟩
 rw [hw4] at P4 Q4 R4 B4 N4 M4 L4
 clear hg p4 q4 r4 b4 hb P3 Q3 R3 B3 Nv4 Mv4 Lv4
 go_wp2_with (first | (refine wpList_load_row rfl 30 _ rfl (w.heap.size + 1 + 1) rfl 30 #[.int .i64 k, .string s, .int .i64 op, .int .i64 sf, .int .i64 sr, .int .i64 sk, .int .i64 sn, .string ss, .slice c1 sl cp1, .int .i64 df, .int .i64 dr, .int .i64 dk, .int .i64 dn, .string ds, .slice c2 dl cp2, .int .i64 n, .slice (some ⟨gl, 0, none⟩) ll ll] (0, 0) _ (uh R4) Tryz.underlying30 rfl (by kernel_rfl) ?_) | (refine wpList_store_row rfl 30 _ _ rfl (w.heap.size + 1) #[.int .i64 k, .string s, .int .i64 op, .int .i64 sf, .int .i64 sr, .int .i64 sk, .int .i64 sn, .string ss, .slice c1 sl cp1, .int .i64 df, .int .i64 dr, .int .i64 dk, .int .i64 dn, .string ds, .slice c2 dl cp2, .int .i64 n, .slice (some ⟨gl, 0, none⟩) ll ll] rfl rfl 30 _ (uh Q4) (by kernel_rfl) rfl (by simp [Value.oneCell']) ?_))
 refine bodyPost_ret (results_cell_row (P := Tryz.prog) rfl _ _ (w.heap.size + 1) 30 #[.int .i64 k, .string s, .int .i64 op, .int .i64 sf, .int .i64 sr, .int .i64 sk, .int .i64 sn, .string ss, .slice c1 sl cp1, .int .i64 df, .int .i64 dr, .int .i64 dk, .int .i64 dn, .string ds, .slice c2 dl cp2, .int .i64 n, .slice (some ⟨gl, 0, none⟩) ll ll] (0, 0) _ rfl (setRow_heap _ _ _ _ _ _ (uh Q4)) Tryz.underlying30 rfl (by kernel_rfl)) rfl ?_
 exact ⟨⟨c1, cp1, c2, cp2, some ⟨gl, 0, none⟩, ll⟩, rfl, ⟨((uh N4).row _ (by omega)).lower (by omega), ((uh M4).row _ (by omega)).lower (by omega), ((uh L4).row _ (by omega)).lower (by omega)⟩, (uh B4).grown (grownBy_row _) (uh B4).size (fun g e => by cases e; omega)⟩
section
def jumps (J : Nat → Act → World → Prop) (Q : Exit → Act → World → Prop) : Exit → Act → World → Prop
 | .goto l, a, w => J l a w
 | e, a, w => Q e a w
section
variable {P : Program} {a : Act} {w : World} {Q : Exit → Act → World → Prop}
end
end
section
section
variable {w wr w' : World} {t t' : Tk} {sa : Option Addr} {cap : Nat} {acc : List Tk}
end
theorem markI_any (x : ByteArray) (w : World) : Calls Tryz.prog 44 #[.string x] w fun e w' => e = .returned (Tk.v ⟨4, 0, x⟩) ∧ Below w.heap.size w w' := by
 have B0 := hide (below_new w (.cells T0c 71))
 have R0 := hide (heap_alloc_new w (.cells T0c 71))
 unfold T0c at B0 R0
 unfold Tk.v Tk.cs
 simp only
 go_enter Tryz.func44, Tryz.ntmps44
 go_wp2_with (first | (refine wpList_store_row rfl 71 _ _ rfl w.heap.size #[.int .i64 4, .int .i64 0, .string x] rfl rfl 71 _ (uh R0) szK rfl (tk_one _ _ _) ?_))
 refine bodyPost_ret (results_cell_row (P := Tryz.prog) rfl _ _ w.heap.size 71 #[.int .i64 4, .int .i64 0, .string x] (0, 0) _ rfl (setRow_heap _ _ _ _ _ _ (uh R0)) Tryz.underlying71 rfl szK) rfl ?_
 exact ⟨rfl, below_row (uh B0)⟩
end
def KpT (w w' : World) : Prop := ∀ (g : Nat) (cs : Array Value) (t : TypeId) (fr : Nat × Nat), w.heap[g]? = some (.cells cs t fr) → t ≠ 71 → w'.heap[g]? = some (.cells cs t fr)
theorem KpT.trans {a b c : World} (h : KpT a b) (k : KpT b c) : KpT a c := fun g cs t fr h1 h2 => k g cs t fr (h g cs t fr h1 h2) h2
theorem KpT.of {w w' : World} (hb : Below w.heap.size w w') : KpT w w' := fun g cs t fr h _ => (hb.block g (Array.getElem?_eq_some_iff.1 h).1).trans h
theorem KpT.own {w w' : World} {B : Nat} {v : Value} {ts : List Tk} (ho : OwnT w B v ts) (hg : w.grownBy w' v.ownBlock) : KpT w w' := fun g cs t fr h ht => by
 refine (hg.block g (Array.getElem?_eq_some_iff.1 h).1 (fun e => ?_)).trans h
 obtain ⟨_, ⟨rfl, _⟩ | ⟨g', cap, cur, rfl, _, hh, _⟩⟩ := ho
 · simp [Value.ownBlock] at e
 ·
  simp [Value.ownBlock] at e
  subst e
  rw [hh] at h
  cases h
  exact ht rfl
def sgnL : List ByteArray := [E0, E0, E0, E0, E0, mkS 43, mkS 45, mkS 42, mkS 47, mkS 38, mkS 124]
def sgA : Array Value := (sgnL.map Value.string).toArray
def TabG (w : World) : Prop := ∃ t fr, w.heap[4]? = some (.cells sgA t fr)
theorem TabG.lt {w : World} (h : TabG w) : 4 < w.heap.size := by obtain ⟨t, fr, h⟩ := h; exact (Array.getElem?_eq_some_iff.1 h).1
theorem TabG.later {w w' : World} {B : Nat} (h : TabG w) (hb : Below B w w') (hB : 4 < B) : TabG w' := by
 obtain ⟨t, fr, h⟩ := h
 exact ⟨t, fr, (hb.block _ hB).trans h⟩
def PutP (d : Nat) : Prop := ∀ (e : Ex) (ts : List Tk) (v : Value) (B : Nat) (w : World), okF d true e = true → OwnT w B v ts → B ≤ w.heap.size → ts.length + mxT d ≤ 500 → TabG w → 4 < B → Calls Tryz.prog 104 #[v, tv e] w fun r w' => ∃ v', r = .returned v' ∧ OwnT w' B v' (ts ++ toksF d e) ∧ Below B w w' ∧ KpT w w'
theorem put_num (n : Int) (ts : List Tk) (v : Value) (B : Nat) (w : World) (ho : OwnT w B v ts) (hB : B ≤ w.heap.size) (hl : ts.length ≤ 498) : Calls Tryz.prog 104 #[v, .iface 182 (.agg #[.int .i64 n])] w fun r w' => ∃ v', r = .returned v' ∧ OwnT w' B v' (ts ++ [⟨2, n, ⟨#[]⟩⟩]) ∧ Below B w w' ∧ KpT w w' := by
 obtain ⟨i0, hi, hz0, hz1, hz2⟩ := info_parts infoT
 have hbx := below_new w (.cells #[.int .i64 n] 182)
 have D1 := hide (hbx.mono hB)
 have P1 := hide (KpT.of hbx)
 have O1 := hide (ho.later hbx)
 have W1 := hide (show (w.alloc (.cells #[.int .i64 n] 182)).heap.size = w.heap.size + 1 by simp)
 clear hbx
 have tt := taY_num (.agg #[.int .i64 n])
 generalize hw1 : w.alloc (.cells #[.int .i64 n] 182) = w1 at *
 have hg1 : w1.heap[w.heap.size]? = some (.cells #[.int .i64 n] 182 (0, 0)) := by rw [← hw1]; exact Array.getElem?_push_size
 have c0 := Lib.cell_of_heap hg1 0
 clear ho hg1
 go_enter Tryz.func104, Tryz.ntmps104
 go_wp2_with (at_builtin; go_must (refine wpList_append_own _ rfl (.tmp 16) (.tmp 20) 39 rfl B 71 i0 (.agg #[.int .i64 0, .int .i64 0, .string ⟨#[]⟩]) 3 32 Tryz.underlying39 hi hz0 hz1 hz2 rfl (by decide) v (ts).length (cellsT (ts)) rfl (World.ownsRow.alloc (uh O1) _) ⟨w1.heap.size, 0, none⟩ 1 1 [.int .i64 2, .int .i64 n, .string ⟨#[]⟩] rfl rfl (cell_new w1 #[.int .i64 2, .int .i64 n, .string ⟨#[]⟩] 71) (newT_one _ _ _) (by unfold maxLen; (try simp only [List.length_append, List.length_cons, List.length_nil]); omega) (by (try simp only [List.length_append, List.length_cons, List.length_nil]); omega) (by have := (uh D1).size; simp; omega) ?_; intro v5 w5 hown5 hgrow5 _; have O5 := hide (ownT_app (t := ⟨2, n, ⟨#[]⟩⟩) hown5); have D5 := hide (((uh D1).alloc (Nat.le_trans hB (uh D1).size) (.cells #[.int .i64 2, .int .i64 n, .string ⟨#[]⟩] 71)).grown hgrow5 (by have := (uh D1).size; simp; omega) (fun g hg => ((uh O1).lt hg).1)); have P5 := hide ((KpT.of (below_new w1 (.cells #[.int .i64 2, .int .i64 n, .string ⟨#[]⟩] 71))).trans (KpT.own (B := B) (ts := ts) (World.ownsRow.alloc (uh O1) _) hgrow5)); clear hown5 hgrow5))
 go_ret
 exact ⟨_, rfl, uh O5, uh D5, (uh P1).trans (uh P5)⟩
theorem put_sym (s : ByteArray) (ts : List Tk) (v : Value) (B : Nat) (w : World) (ho : OwnT w B v ts) (hB : B ≤ w.heap.size) (hl : ts.length ≤ 498) : Calls Tryz.prog 104 #[v, .iface 184 (.agg #[.string s])] w fun r w' => ∃ v', r = .returned v' ∧ OwnT w' B v' (ts ++ [⟨1, 0, s⟩]) ∧ Below B w w' ∧ KpT w w' := by
 obtain ⟨i0, hi, hz0, hz1, hz2⟩ := info_parts infoT
 have hbx := below_new w (.cells #[.string s] 184)
 have D1 := hide (hbx.mono hB)
 have P1 := hide (KpT.of hbx)
 have O1 := hide (ho.later hbx)
 have W1 := hide (show (w.alloc (.cells #[.string s] 184)).heap.size = w.heap.size + 1 by simp)
 clear hbx
 have t0 := taN_num 184 (.agg #[.string s]) (by decide)
 have tt := taY_sym (.agg #[.string s])
 generalize hw1 : w.alloc (.cells #[.string s] 184) = w1 at *
 have hg1 : w1.heap[w.heap.size]? = some (.cells #[.string s] 184 (0, 0)) := by rw [← hw1]; exact Array.getElem?_push_size
 have c0 := Lib.cell_of_heap hg1 0
 clear ho hg1
 go_enter Tryz.func104, Tryz.ntmps104
 go_wp2_with (at_builtin; go_must (refine wpList_append_own _ rfl (.tmp 25) (.tmp 29) 39 rfl B 71 i0 (.agg #[.int .i64 0, .int .i64 0, .string ⟨#[]⟩]) 3 32 Tryz.underlying39 hi hz0 hz1 hz2 rfl (by decide) v (ts).length (cellsT (ts)) rfl (World.ownsRow.alloc (uh O1) _) ⟨w1.heap.size, 0, none⟩ 1 1 [.int .i64 1, .int .i64 0, .string s] rfl rfl (cell_new w1 #[.int .i64 1, .int .i64 0, .string s] 71) (newT_one _ _ _) (by unfold maxLen; (try simp only [List.length_append, List.length_cons, List.length_nil]); omega) (by (try simp only [List.length_append, List.length_cons, List.length_nil]); omega) (by have := (uh D1).size; simp; omega) ?_; intro v5 w5 hown5 hgrow5 _; have O5 := hide (ownT_app (t := ⟨1, 0, s⟩) hown5); have D5 := hide (((uh D1).alloc (Nat.le_trans hB (uh D1).size) (.cells #[.int .i64 1, .int .i64 0, .string s] 71)).grown hgrow5 (by have := (uh D1).size; simp; omega) (fun g hg => ((uh O1).lt hg).1)); have P5 := hide ((KpT.of (below_new w1 (.cells #[.int .i64 1, .int .i64 0, .string s] 71))).trans (KpT.own (B := B) (ts := ts) (World.ownsRow.alloc (uh O1) _) hgrow5)); clear hown5 hgrow5))
 go_ret
 exact ⟨_, rfl, uh O5, uh D5, (uh P1).trans (uh P5)⟩
theorem put_here (ts : List Tk) (v : Value) (B : Nat) (w : World) (ho : OwnT w B v ts) (hB : B ≤ w.heap.size) (hl : ts.length ≤ 498) : Calls Tryz.prog 104 #[v, .iface 186 (.agg #[])] w fun r w' => ∃ v', r = .returned v' ∧ OwnT w' B v' (ts ++ [⟨4, 0, ⟨#[46]⟩⟩]) ∧ Below B w w' ∧ KpT w w' := by
 obtain ⟨i0, hi, hz0, hz1, hz2⟩ := info_parts infoT
 have hbx := below_new w (.cells #[] 186)
 have D1 := hide (hbx.mono hB)
 have P1 := hide (KpT.of hbx)
 have O1 := hide (ho.later hbx)
 have W1 := hide (show (w.alloc (.cells #[] 186)).heap.size = w.heap.size + 1 by simp)
 clear hbx
 have t0 := taN_num 186 (.agg #[]) (by decide)
 have t1 := taN_sym 186 (.agg #[]) (by decide)
 have tt := taY_here (.agg #[])
 generalize hw1 : w.alloc (.cells #[] 186) = w1 at *
 clear ho W1
 go_enter Tryz.func104, Tryz.ntmps104
 go_wp2_with fail
 refine (markI_any ⟨#[46]⟩ w1).mono ?_
 rintro r w2 ⟨rfl, hb2⟩
 have O2 := hide ((uh O1).later hb2)
 have D2 := hide ((uh D1).trans (hb2.mono (Nat.le_trans hB (uh D1).size)))
 have P2 := hide ((uh P1).trans (KpT.of hb2))
 clear hb2 O1 D1 P1
 unfold Tk.v Tk.cs
 go_wp2_with (at_builtin; go_must (refine wpList_append_own _ rfl (.tmp 34) (.tmp 36) 39 rfl B 71 i0 (.agg #[.int .i64 0, .int .i64 0, .string ⟨#[]⟩]) 3 32 Tryz.underlying39 hi hz0 hz1 hz2 rfl (by decide) v (ts).length (cellsT (ts)) rfl (World.ownsRow.alloc (uh O2) _) ⟨w2.heap.size, 0, none⟩ 1 1 [.int .i64 4, .int .i64 0, .string ⟨#[46]⟩] rfl rfl (cell_new w2 #[.int .i64 4, .int .i64 0, .string ⟨#[46]⟩] 71) (newT_one _ _ _) (by unfold maxLen; (try simp only [List.length_append, List.length_cons, List.length_nil]); omega) (by (try simp only [List.length_append, List.length_cons, List.length_nil]); omega) (by have := (uh D2).size; simp; omega) ?_; intro v5 w5 hown5 hgrow5 _; have O5 := hide (ownT_app (t := ⟨4, 0, ⟨#[46]⟩⟩) hown5); have D5 := hide (((uh D2).alloc (Nat.le_trans hB (uh D2).size) (.cells #[.int .i64 4, .int .i64 0, .string ⟨#[46]⟩] 71)).grown hgrow5 (by have := (uh D2).size; simp; omega) (fun g hg => ((uh O2).lt hg).1)); have P5 := hide ((KpT.of (below_new w2 (.cells #[.int .i64 4, .int .i64 0, .string ⟨#[46]⟩] 71))).trans (KpT.own (B := B) (ts := ts) (World.ownsRow.alloc (uh O2) _) hgrow5)); clear hown5 hgrow5))
 go_ret
 exact ⟨_, rfl, uh O5, uh D5, (uh P2).trans (uh P5)⟩
theorem put_neg (t : TypeId) (x : Value) (B L : Nat) (hL : L ≤ 498) (us : List Tk) (h1 : ∀ (ts : List Tk) (v : Value) (w : World), OwnT w B v ts → B ≤ w.heap.size → ts.length ≤ (L + 1) → TabG w → Calls Tryz.prog 104 #[v, .iface t x] w fun r w' => ∃ v', r = .returned v' ∧ OwnT w' B v' (ts ++ us) ∧ Below B w w' ∧ KpT w w') (ts : List Tk) (v : Value) (w : World) (ho : OwnT w B v ts) (hB : B ≤ w.heap.size) (hl : ts.length ≤ L) (hT : TabG w) (hs : 4 < B) : Calls Tryz.prog 104 #[v, .iface 188 (.agg #[.iface t x])] w fun r w' => ∃ v', r = .returned v' ∧ OwnT w' B v' ((ts ++ [⟨4, 0, ⟨#[45]⟩⟩]) ++ us) ∧ Below B w w' ∧ KpT w w' := by
 obtain ⟨i0, hi, hz0, hz1, hz2⟩ := info_parts infoT
 have hbx := below_new w (.cells #[.iface t x] 188)
 have D1 := hide (hbx.mono hB)
 have P1 := hide (KpT.of hbx)
 have O1 := hide (ho.later hbx)
 have W1 := hide (show (w.alloc (.cells #[.iface t x] 188)).heap.size = w.heap.size + 1 by simp)
 clear hbx
 have t0 := taN_num 188 (.agg #[.iface t x]) (by decide)
 have t1 := taN_sym 188 (.agg #[.iface t x]) (by decide)
 have t2 := taN_here 188 (.agg #[.iface t x]) (by decide)
 have tt := taY_neg (.agg #[.iface t x])
 generalize hw1 : w.alloc (.cells #[.iface t x] 188) = w1 at *
 have hg1 : w1.heap[w.heap.size]? = some (.cells #[.iface t x] 188 (0, 0)) := by rw [← hw1]; exact Array.getElem?_push_size
 have HG := hide hg1
 have HT := hide hT
 have H1 := hide h1
 clear ho W1 hg1 hT h1
 go_enter Tryz.func104, Tryz.ntmps104
 go_wp2_with fail
 have D0 := hide (show w1.drew.heap[w.heap.size]? = some (.cells #[.iface t x] 188 (0, 0)) from uh HG)
 have O2 := hide ((uh O1).later (below_drew (w := w1)))
 have D2 := hide ((uh D1).trans ((below_drew (w := w1)).mono (Nat.le_trans hB (uh D1).size)))
 have P2 := hide ((uh P1).trans (KpT.of (below_drew (w := w1))))
 refine wp_region_held_drew (S := fun w' => w'.heap[w.heap.size]? = some (.cells #[.iface t x] 188 (0, 0))) (by kernel_rfl) (uh D0) (fun hS => ?_)
 have HS := hide hS
 clear hS O1 D1 P1 HG D0
 refine tkB 0 (v) rfl (uh HS) ?_
 go_simp
 refine tkB 4 (.pointer (some ⟨w.heap.size, 0, none⟩)) rfl (uh HS) ?_
 go_simp
 refine tkA 5 (.iface t x) rfl (.inl ⟨by rfl, fun w hc => ?_⟩) (uh HS) ?_
 · have q := Lib.cell_of_heap hc 0; clear hc; go_simp
 go_simp
 refine wpAnyH_ready (rs := [1]) (by kernel_rfl) (by simp) ?_
 refine AllReadyH.cons rfl (fun K2 hK => ?_) AllReadyH.nil
 go_simp
 refine (markI_any ⟨#[45]⟩ _).mono ?_
 rintro r w3 ⟨rfl, hb3⟩
 unfold Tk.v Tk.cs
 have O3 := hide ((uh O2).later hb3)
 have D3 := hide ((uh D2).trans (hb3.mono (Nat.le_trans hB (uh D2).size)))
 have P3 := hide ((uh P2).trans (KpT.of hb3))
 have S3 := hide (KpT.of hb3 _ _ _ _ (uh HS) (by decide))
 refine hK.out _ _ (uh S3) (fun hS => ?_)
 clear HS
 have HS := hide hS
 clear hS hK K2
 clear hb3 O2 D2 P2
 refine wpAnyH_ready (rs := [2]) (by kernel_rfl) (by simp) ?_
 refine AllReadyH.cons rfl (fun K2 hK => ?_) AllReadyH.nil
 go_simp
 have hb4 := below_new w3 (.cells #[.int .i64 4, .int .i64 0, .string ⟨#[45]⟩] 71)
 have O4 := hide ((uh O3).later hb4)
 have D4 := hide ((uh D3).trans (hb4.mono (Nat.le_trans hB (uh D3).size)))
 have P4 := hide ((uh P3).trans (KpT.of hb4))
 have S4 := hide (KpT.of hb4 _ _ _ _ (uh S3) (by decide))
 have C4 := hide (cell_new w3 #[.int .i64 4, .int .i64 0, .string ⟨#[45]⟩] 71)
 clear hb4 O3 D3 P3 S3
 generalize w3.heap.size = g4 at *
 generalize w3.alloc (.cells #[.int .i64 4, .int .i64 0, .string ⟨#[45]⟩] 71) = w4 at *
 refine hK.out _ _ (uh S4) (fun hS => ?_)
 clear HS
 have HS := hide hS
 clear hS hK K2
 refine wpAnyH_ready (rs := [3]) (by kernel_rfl) (by simp) ?_
 refine AllReadyH.cons rfl (fun K2 hK => ?_) AllReadyH.nil
 rw [if_pos (by rfl)]
 refine wp_append_own _ (.tmp 41) (.tmp 43) 39 rfl B 71 i0 (.agg #[.int .i64 0, .int .i64 0, .string ⟨#[]⟩]) 3 32 Tryz.underlying39 hi hz0 hz1 hz2 rfl (by decide) v ts.length (cellsT ts) rfl (uh O4) ⟨g4, 0, none⟩ 1 1 [.int .i64 4, .int .i64 0, .string ⟨#[45]⟩] rfl rfl (uh C4) (newT_one _ _ _) (by unfold maxLen; omega) (by omega) (Nat.le_trans hB (uh D4).size) ?_
 intro v5 w5 hown5 hgrow5 _
 have O5 := hide (ownT_app (t := ⟨4, 0, ⟨#[45]⟩⟩) hown5)
 have D5 := hide ((uh D4).grown hgrow5 (Nat.le_trans hB (uh D4).size) (fun g hg => ((uh O4).lt hg).1))
 have P5 := hide ((uh P4).trans (KpT.own (uh O4) hgrow5))
 have S5 := hide (KpT.own (uh O4) hgrow5 _ _ _ _ (uh S4) (by decide))
 refine hK.out _ _ (uh S5) (fun hS => ?_)
 clear HS
 have HS := hide hS
 clear hS hK K2
 clear hown5 hgrow5 O4 D4 P4 S4 C4
 refine wpAnyH_ready (rs := [6]) (by kernel_rfl) (by simp) ?_
 refine AllReadyH.cons rfl (fun K2 hK => ?_) AllReadyH.nil
 go_simp
 refine (uh H1 (ts ++ [⟨4, 0, ⟨#[45]⟩⟩]) v5 w5 (uh O5) (Nat.le_trans hB (uh D5).size) (by simp only [List.length_append, List.length_cons, List.length_nil]; omega) ((uh HT).later (uh D5) hs)).mono ?_
 rintro r w6 ⟨v6, rfl, o6, hb6, hp6⟩
 refine hK.out _ _ (hp6 _ _ _ _ (uh S5) (by decide)) (fun hS => ?_)
 clear HS
 have HS := hide hS
 clear hS hK K2
 refine tkB 7 (v6) rfl (uh HS) ?_
 go_simp
 refine wpAnyH_done (by kernel_rfl) ?_ _
 have O6 := hide o6
 have D6 := hide ((uh D5).trans hb6)
 have P6 := hide ((uh P5).trans hp6)
 clear o6 hb6 hp6 O5 D5 P5 S5 HS
 go_wp2
 go_ret
 exact ⟨_, rfl, uh O6, uh D6, uh P6⟩
theorem put_add (t u : TypeId) (x y : Value) (B L M : Nat) (us : List Tk) (h1 : ∀ (ts : List Tk) (v : Value) (w : World), OwnT w B v ts → B ≤ w.heap.size → ts.length ≤ (L + 1) → TabG w → Calls Tryz.prog 104 #[v, .iface t x] w fun r w' => ∃ v', r = .returned v' ∧ OwnT w' B v' (ts ++ us) ∧ Below B w w' ∧ KpT w w') (hus : us.length ≤ M) (us2 : List Tk) (h2 : ∀ (ts : List Tk) (v : Value) (w : World), OwnT w B v ts → B ≤ w.heap.size → ts.length ≤ (L + M + 2) → TabG w → Calls Tryz.prog 104 #[v, .iface u y] w fun r w' => ∃ v', r = .returned v' ∧ OwnT w' B v' (ts ++ us2) ∧ Below B w w' ∧ KpT w w') (hus2 : us2.length ≤ M) (hLM : L + 2 * M + 3 ≤ 500) (ts : List Tk) (v : Value) (w : World) (ho : OwnT w B v ts) (hB : B ≤ w.heap.size) (hl : ts.length ≤ L) (hT : TabG w) (hs : 4 < B) : Calls Tryz.prog 104 #[v, .iface 228 (.agg #[.iface t x, .iface u y])] w fun r w' => ∃ v', r = .returned v' ∧ OwnT w' B v' ((((ts ++ [⟨4, 0, ⟨#[60]⟩⟩]) ++ us) ++ [⟨4, 0, ⟨#[43]⟩⟩]) ++ us2 ++ [⟨4, 0, ⟨#[62]⟩⟩]) ∧ Below B w w' ∧ KpT w w' := by
 obtain ⟨i0, hi, hz0, hz1, hz2⟩ := info_parts infoT
 have t0 := taN_num 228 (.agg #[.iface t x, .iface u y]) (by decide)
 have t1 := taN_sym 228 (.agg #[.iface t x, .iface u y]) (by decide)
 have t2 := taN_here 228 (.agg #[.iface t x, .iface u y]) (by decide)
 have t3 := taN_neg 228 (.agg #[.iface t x, .iface u y]) (by decide)
 have m := me_add (.iface t x) (.iface u y)
 have PT := hide (parts2 t u x y w)
 have KD := hide (fun w => kind_add 0 E0 t u x y w)
 have SG := hide (fun w1 (h : TabG w1) => (show w1.cell? ⟨4, 5, none⟩ = some (.string ⟨#[43]⟩) by obtain ⟨t, fr, h⟩ := h; exact Lib.cell_of_heap h 5))
 have HT := hide hT
 have H1 := hide h1
 have H2 := hide h2
 have O0 := hide ho
 obtain ⟨RS, hRS⟩ : ∃ RS, (((ts ++ [Tk.mk 4 0 ⟨#[60]⟩]) ++ us) ++ [Tk.mk 4 0 ⟨#[43]⟩]) ++ us2 ++ [Tk.mk 4 0 ⟨#[62]⟩] = RS := ⟨_, rfl⟩
 rw [hRS]
 have E1 := hide (fun ts1 (h : (ts ++ [Tk.mk 4 0 ⟨#[60]⟩]) ++ us = ts1) ts2 (h2 : (ts1 ++ [Tk.mk 4 0 ⟨#[43]⟩]) ++ us2 = ts2) => (show ts2 ++ [Tk.mk 4 0 ⟨#[62]⟩] = RS by rw [← hRS, h, h2]))
 clear hT h1 h2 ho hRS
 go_enter Tryz.func104, Tryz.ntmps104
 go_wp2_with fail
 refine (uh PT).mono ?_
 rintro r w1 ⟨gp, rfl, hgp, hb1⟩
 have O1 := hide ((uh O0).later hb1)
 have D1 := hide (hb1.mono hB)
 have P1 := hide (KpT.of hb1)
 have G1 := hide hgp
 have c0 := Lib.cell_of_heap hgp 0
 clear hb1 hgp O0 PT
 go_wp2
 refine wp_loop_rounds 3 ?_
 rw [rounds_succ]
 go_wp2_with fail
 refine (markI_any ⟨#[60]⟩ w1).mono ?_
 rintro r w2 ⟨rfl, hb2⟩
 have O2 := hide ((uh O1).later hb2)
 have D2 := hide ((uh D1).trans (hb2.mono (Nat.le_trans hB (uh D1).size)))
 have P2 := hide ((uh P1).trans (KpT.of hb2))
 have G2 := hide (KpT.of hb2 _ _ _ _ (uh G1) (by decide))
 clear hb2 O1 D1 P1 G1 c0
 unfold Tk.v Tk.cs
 go_wp2_with (first | (at_builtin; go_must (refine wpList_append_own _ rfl (.tmp 62) (.tmp 65) 39 rfl B 71 i0 (.agg #[.int .i64 0, .int .i64 0, .string ⟨#[]⟩]) 3 32 Tryz.underlying39 hi hz0 hz1 hz2 rfl (by decide) v (ts).length (cellsT (ts)) rfl (World.ownsRow.alloc (uh O2) _) ⟨w2.heap.size, 0, none⟩ 1 1 [.int .i64 4, .int .i64 0, .string ⟨#[60]⟩] rfl rfl (cell_new w2 #[.int .i64 4, .int .i64 0, .string ⟨#[60]⟩] 71) (newT_one _ _ _) (by unfold maxLen; (try simp only [List.length_append, List.length_cons, List.length_nil]); omega) (by (try simp only [List.length_append, List.length_cons, List.length_nil]); omega) (by have := (uh D2).size; simp; omega) ?_; intro v3 w3 hown3 hgrow3 _; have O3 := hide (ownT_app (t := ⟨4, 0, ⟨#[60]⟩⟩) hown3); have D3 := hide (((uh D2).alloc (Nat.le_trans hB (uh D2).size) (.cells #[.int .i64 4, .int .i64 0, .string ⟨#[60]⟩] 71)).grown hgrow3 (by have := (uh D2).size; simp; omega) (fun g hg => ((uh O2).lt hg).1)); have P3 := hide ((KpT.of (below_new w2 (.cells #[.int .i64 4, .int .i64 0, .string ⟨#[60]⟩] 71))).trans (KpT.own (B := B) (ts := ts) (World.ownsRow.alloc (uh O2) _) hgrow3)); clear hown3 hgrow3; have Q3 := hide ((uh P2).trans (uh P3)); have G3 := hide (uh P3 _ _ _ _ (uh G2) (by decide)); have A3 := hide (uh H1 (ts ++ [⟨4, 0, ⟨#[60]⟩⟩]) v3 w3 (uh O3) (Nat.le_trans hB (uh D3).size) (by simp only [List.length_append, List.length_cons, List.length_nil]; omega) ((uh HT).later (uh D3) hs)))) | (go_at_call 104; refine (uh A3).mono ?_; rintro r w4 ⟨v4, rfl, o4, hb4, hp4⟩))
 have O4 := hide o4
 have D4 := hide ((uh D3).trans hb4)
 have P4 := hide ((uh Q3).trans hp4)
 have G4 := hide (hp4 _ _ _ _ (uh G3) (by decide))
 have T4 := uh SG w4 ((uh HT).later (uh D4) hs)
 have c1 := Lib.cell_of_heap (uh G4) 1
 clear o4 hb4 hp4 O3 D3 P3 Q3 G3 A3 O2 D2 P2 G2
 have l4 : ((ts ++ [Tk.mk 4 0 ⟨#[60]⟩]) ++ us).length = ts.length + 1 + us.length := by simp only [List.length_append, List.length_cons, List.length_nil]
 generalize hts1 : (ts ++ [Tk.mk 4 0 ⟨#[60]⟩]) ++ us = ts1 at *
 have E2 := hide (uh E1 ts1 (by first | rfl | exact hts1))
 clear E1 hts1
 rw [rounds_succ]
 go_wp2_with (first | (go_at_call 151; refine (uh KD _).mono ?_; rintro r w' ⟨rfl, hw'⟩; rw [hw']; clear hw' w') | (go_at_call 44; refine (markI_any ⟨#[43]⟩ w4).mono ?_; rintro r w5 ⟨rfl, hb5⟩; have O5 := hide ((uh O4).later hb5); have D5 := hide ((uh D4).trans (hb5.mono (Nat.le_trans hB (uh D4).size))); have P5 := hide ((uh P4).trans (KpT.of hb5)); have G5 := hide (KpT.of hb5 _ _ _ _ (uh G4) (by decide)); clear hb5; unfold Tk.v Tk.cs) | (at_builtin; go_must (refine wpList_append_own _ rfl (.tmp 62) (.tmp 65) 39 rfl B 71 i0 (.agg #[.int .i64 0, .int .i64 0, .string ⟨#[]⟩]) 3 32 Tryz.underlying39 hi hz0 hz1 hz2 rfl (by decide) v4 (ts1).length (cellsT (ts1)) rfl (World.ownsRow.alloc (uh O5) _) ⟨w5.heap.size, 0, none⟩ 1 1 [.int .i64 4, .int .i64 0, .string ⟨#[43]⟩] rfl rfl (cell_new w5 #[.int .i64 4, .int .i64 0, .string ⟨#[43]⟩] 71) (newT_one _ _ _) (by unfold maxLen; (try simp only [List.length_append, List.length_cons, List.length_nil]); omega) (by (try simp only [List.length_append, List.length_cons, List.length_nil]); omega) (by have := (uh D5).size; simp; omega) ?_; intro v6 w6 hown6 hgrow6 _; have O6 := hide (ownT_app (t := ⟨4, 0, ⟨#[43]⟩⟩) hown6); have D6 := hide (((uh D5).alloc (Nat.le_trans hB (uh D5).size) (.cells #[.int .i64 4, .int .i64 0, .string ⟨#[43]⟩] 71)).grown hgrow6 (by have := (uh D5).size; simp; omega) (fun g hg => ((uh O5).lt hg).1)); have P6 := hide ((KpT.of (below_new w5 (.cells #[.int .i64 4, .int .i64 0, .string ⟨#[43]⟩] 71))).trans (KpT.own (B := B) (ts := ts1) (World.ownsRow.alloc (uh O5) _) hgrow6)); clear hown6 hgrow6; have Q6 := hide ((uh P5).trans (uh P6)); have G6 := hide (uh P6 _ _ _ _ (uh G5) (by decide)); have A6 := hide (uh H2 (ts1 ++ [⟨4, 0, ⟨#[43]⟩⟩]) v6 w6 (uh O6) (Nat.le_trans hB (uh D6).size) (by simp only [List.length_append, List.length_cons, List.length_nil]; omega) ((uh HT).later (uh D6) hs)))) | (go_at_call 104; refine (uh A6).mono ?_; rintro r w7 ⟨v7, rfl, o7, hb7, hp7⟩))
 have O7 := hide o7
 have D7 := hide ((uh D6).trans hb7)
 have P7 := hide ((uh Q6).trans hp7)
 clear o7 hb7 hp7 O6 D6 P6 Q6 G6 A6 T4 c1 G4 O5 D5 P5 G5 O4 D4 P4
 have l7 : ((ts1 ++ [Tk.mk 4 0 ⟨#[43]⟩]) ++ us2).length = ts1.length + 1 + us2.length := by simp only [List.length_append, List.length_cons, List.length_nil]
 generalize hts2 : (ts1 ++ [Tk.mk 4 0 ⟨#[43]⟩]) ++ us2 = ts2 at *
 have E3 := hide (uh E2 ts2 (by first | rfl | exact hts2))
 clear E2 hts2
 rw [rounds_succ]
 go_wp2_with fail
 refine (markI_any ⟨#[62]⟩ w7).mono ?_
 rintro r w8 ⟨rfl, hb8⟩
 have O8 := hide ((uh O7).later hb8)
 have D8 := hide ((uh D7).trans (hb8.mono (Nat.le_trans hB (uh D7).size)))
 have P8 := hide ((uh P7).trans (KpT.of hb8))
 clear hb8 O7 D7 P7
 unfold Tk.v Tk.cs
 go_wp2_with (at_builtin; go_must (refine wpList_append_own _ rfl (.tmp 70) (.tmp 72) 39 rfl B 71 i0 (.agg #[.int .i64 0, .int .i64 0, .string ⟨#[]⟩]) 3 32 Tryz.underlying39 hi hz0 hz1 hz2 rfl (by decide) v7 (ts2).length (cellsT (ts2)) rfl (World.ownsRow.alloc (uh O8) _) ⟨w8.heap.size, 0, none⟩ 1 1 [.int .i64 4, .int .i64 0, .string ⟨#[62]⟩] rfl rfl (cell_new w8 #[.int .i64 4, .int .i64 0, .string ⟨#[62]⟩] 71) (newT_one _ _ _) (by unfold maxLen; (try simp only [List.length_append, List.length_cons, List.length_nil]); omega) (by (try simp only [List.length_append, List.length_cons, List.length_nil]); omega) (by have := (uh D8).size; simp; omega) ?_; intro v9 w9 hown9 hgrow9 _; have O9 := hide (ownT_app (t := ⟨4, 0, ⟨#[62]⟩⟩) hown9); have D9 := hide (((uh D8).alloc (Nat.le_trans hB (uh D8).size) (.cells #[.int .i64 4, .int .i64 0, .string ⟨#[62]⟩] 71)).grown hgrow9 (by have := (uh D8).size; simp; omega) (fun g hg => ((uh O8).lt hg).1)); have P9 := hide ((KpT.of (below_new w8 (.cells #[.int .i64 4, .int .i64 0, .string ⟨#[62]⟩] 71))).trans (KpT.own (B := B) (ts := ts2) (World.ownsRow.alloc (uh O8) _) hgrow9)); clear hown9 hgrow9))
 go_ret
 rw [uh E3] at O9
 exact ⟨_, rfl, uh O9, uh D9, (uh P8).trans (uh P9)⟩
theorem put_sub (t u : TypeId) (x y : Value) (B L M : Nat) (us : List Tk) (h1 : ∀ (ts : List Tk) (v : Value) (w : World), OwnT w B v ts → B ≤ w.heap.size → ts.length ≤ (L + 1) → TabG w → Calls Tryz.prog 104 #[v, .iface t x] w fun r w' => ∃ v', r = .returned v' ∧ OwnT w' B v' (ts ++ us) ∧ Below B w w' ∧ KpT w w') (hus : us.length ≤ M) (us2 : List Tk) (h2 : ∀ (ts : List Tk) (v : Value) (w : World), OwnT w B v ts → B ≤ w.heap.size → ts.length ≤ (L + M + 2) → TabG w → Calls Tryz.prog 104 #[v, .iface u y] w fun r w' => ∃ v', r = .returned v' ∧ OwnT w' B v' (ts ++ us2) ∧ Below B w w' ∧ KpT w w') (hus2 : us2.length ≤ M) (hLM : L + 2 * M + 3 ≤ 500) (ts : List Tk) (v : Value) (w : World) (ho : OwnT w B v ts) (hB : B ≤ w.heap.size) (hl : ts.length ≤ L) (hT : TabG w) (hs : 4 < B) : Calls Tryz.prog 104 #[v, .iface 229 (.agg #[.iface t x, .iface u y])] w fun r w' => ∃ v', r = .returned v' ∧ OwnT w' B v' ((((ts ++ [⟨4, 0, ⟨#[60]⟩⟩]) ++ us) ++ [⟨4, 0, ⟨#[45]⟩⟩]) ++ us2 ++ [⟨4, 0, ⟨#[62]⟩⟩]) ∧ Below B w w' ∧ KpT w w' := by
 obtain ⟨i0, hi, hz0, hz1, hz2⟩ := info_parts infoT
 have t0 := taN_num 229 (.agg #[.iface t x, .iface u y]) (by decide)
 have t1 := taN_sym 229 (.agg #[.iface t x, .iface u y]) (by decide)
 have t2 := taN_here 229 (.agg #[.iface t x, .iface u y]) (by decide)
 have t3 := taN_neg 229 (.agg #[.iface t x, .iface u y]) (by decide)
 have m := me_sub (.iface t x) (.iface u y)
 have PT := hide (parts2 t u x y w)
 have KD := hide (fun w => kind_sub 0 E0 t u x y w)
 have SG := hide (fun w1 (h : TabG w1) => (show w1.cell? ⟨4, 6, none⟩ = some (.string ⟨#[45]⟩) by obtain ⟨t, fr, h⟩ := h; exact Lib.cell_of_heap h 6))
 have HT := hide hT
 have H1 := hide h1
 have H2 := hide h2
 have O0 := hide ho
 obtain ⟨RS, hRS⟩ : ∃ RS, (((ts ++ [Tk.mk 4 0 ⟨#[60]⟩]) ++ us) ++ [Tk.mk 4 0 ⟨#[45]⟩]) ++ us2 ++ [Tk.mk 4 0 ⟨#[62]⟩] = RS := ⟨_, rfl⟩
 rw [hRS]
 have E1 := hide (fun ts1 (h : (ts ++ [Tk.mk 4 0 ⟨#[60]⟩]) ++ us = ts1) ts2 (h2 : (ts1 ++ [Tk.mk 4 0 ⟨#[45]⟩]) ++ us2 = ts2) => (show ts2 ++ [Tk.mk 4 0 ⟨#[62]⟩] = RS by rw [← hRS, h, h2]))
 clear hT h1 h2 ho hRS
 go_enter Tryz.func104, Tryz.ntmps104
 go_wp2_with fail
 refine (uh PT).mono ?_
 rintro r w1 ⟨gp, rfl, hgp, hb1⟩
 have O1 := hide ((uh O0).later hb1)
 have D1 := hide (hb1.mono hB)
 have P1 := hide (KpT.of hb1)
 have G1 := hide hgp
 have c0 := Lib.cell_of_heap hgp 0
 clear hb1 hgp O0 PT
 go_wp2
 refine wp_loop_rounds 3 ?_
 rw [rounds_succ]
 go_wp2_with fail
 refine (markI_any ⟨#[60]⟩ w1).mono ?_
 rintro r w2 ⟨rfl, hb2⟩
 have O2 := hide ((uh O1).later hb2)
 have D2 := hide ((uh D1).trans (hb2.mono (Nat.le_trans hB (uh D1).size)))
 have P2 := hide ((uh P1).trans (KpT.of hb2))
 have G2 := hide (KpT.of hb2 _ _ _ _ (uh G1) (by decide))
 clear hb2 O1 D1 P1 G1 c0
 unfold Tk.v Tk.cs
 go_wp2_with (first | (at_builtin; go_must (refine wpList_append_own _ rfl (.tmp 62) (.tmp 65) 39 rfl B 71 i0 (.agg #[.int .i64 0, .int .i64 0, .string ⟨#[]⟩]) 3 32 Tryz.underlying39 hi hz0 hz1 hz2 rfl (by decide) v (ts).length (cellsT (ts)) rfl (World.ownsRow.alloc (uh O2) _) ⟨w2.heap.size, 0, none⟩ 1 1 [.int .i64 4, .int .i64 0, .string ⟨#[60]⟩] rfl rfl (cell_new w2 #[.int .i64 4, .int .i64 0, .string ⟨#[60]⟩] 71) (newT_one _ _ _) (by unfold maxLen; (try simp only [List.length_append, List.length_cons, List.length_nil]); omega) (by (try simp only [List.length_append, List.length_cons, List.length_nil]); omega) (by have := (uh D2).size; simp; omega) ?_; intro v3 w3 hown3 hgrow3 _; have O3 := hide (ownT_app (t := ⟨4, 0, ⟨#[60]⟩⟩) hown3); have D3 := hide (((uh D2).alloc (Nat.le_trans hB (uh D2).size) (.cells #[.int .i64 4, .int .i64 0, .string ⟨#[60]⟩] 71)).grown hgrow3 (by have := (uh D2).size; simp; omega) (fun g hg => ((uh O2).lt hg).1)); have P3 := hide ((KpT.of (below_new w2 (.cells #[.int .i64 4, .int .i64 0, .string ⟨#[60]⟩] 71))).trans (KpT.own (B := B) (ts := ts) (World.ownsRow.alloc (uh O2) _) hgrow3)); clear hown3 hgrow3; have Q3 := hide ((uh P2).trans (uh P3)); have G3 := hide (uh P3 _ _ _ _ (uh G2) (by decide)); have A3 := hide (uh H1 (ts ++ [⟨4, 0, ⟨#[60]⟩⟩]) v3 w3 (uh O3) (Nat.le_trans hB (uh D3).size) (by simp only [List.length_append, List.length_cons, List.length_nil]; omega) ((uh HT).later (uh D3) hs)))) | (go_at_call 104; refine (uh A3).mono ?_; rintro r w4 ⟨v4, rfl, o4, hb4, hp4⟩))
 have O4 := hide o4
 have D4 := hide ((uh D3).trans hb4)
 have P4 := hide ((uh Q3).trans hp4)
 have G4 := hide (hp4 _ _ _ _ (uh G3) (by decide))
 have T4 := uh SG w4 ((uh HT).later (uh D4) hs)
 have c1 := Lib.cell_of_heap (uh G4) 1
 clear o4 hb4 hp4 O3 D3 P3 Q3 G3 A3 O2 D2 P2 G2
 have l4 : ((ts ++ [Tk.mk 4 0 ⟨#[60]⟩]) ++ us).length = ts.length + 1 + us.length := by simp only [List.length_append, List.length_cons, List.length_nil]
 generalize hts1 : (ts ++ [Tk.mk 4 0 ⟨#[60]⟩]) ++ us = ts1 at *
 have E2 := hide (uh E1 ts1 (by first | rfl | exact hts1))
 clear E1 hts1
 rw [rounds_succ]
 go_wp2_with (first | (go_at_call 151; refine (uh KD _).mono ?_; rintro r w' ⟨rfl, hw'⟩; rw [hw']; clear hw' w') | (go_at_call 44; refine (markI_any ⟨#[45]⟩ w4).mono ?_; rintro r w5 ⟨rfl, hb5⟩; have O5 := hide ((uh O4).later hb5); have D5 := hide ((uh D4).trans (hb5.mono (Nat.le_trans hB (uh D4).size))); have P5 := hide ((uh P4).trans (KpT.of hb5)); have G5 := hide (KpT.of hb5 _ _ _ _ (uh G4) (by decide)); clear hb5; unfold Tk.v Tk.cs) | (at_builtin; go_must (refine wpList_append_own _ rfl (.tmp 62) (.tmp 65) 39 rfl B 71 i0 (.agg #[.int .i64 0, .int .i64 0, .string ⟨#[]⟩]) 3 32 Tryz.underlying39 hi hz0 hz1 hz2 rfl (by decide) v4 (ts1).length (cellsT (ts1)) rfl (World.ownsRow.alloc (uh O5) _) ⟨w5.heap.size, 0, none⟩ 1 1 [.int .i64 4, .int .i64 0, .string ⟨#[45]⟩] rfl rfl (cell_new w5 #[.int .i64 4, .int .i64 0, .string ⟨#[45]⟩] 71) (newT_one _ _ _) (by unfold maxLen; (try simp only [List.length_append, List.length_cons, List.length_nil]); omega) (by (try simp only [List.length_append, List.length_cons, List.length_nil]); omega) (by have := (uh D5).size; simp; omega) ?_; intro v6 w6 hown6 hgrow6 _; have O6 := hide (ownT_app (t := ⟨4, 0, ⟨#[45]⟩⟩) hown6); have D6 := hide (((uh D5).alloc (Nat.le_trans hB (uh D5).size) (.cells #[.int .i64 4, .int .i64 0, .string ⟨#[45]⟩] 71)).grown hgrow6 (by have := (uh D5).size; simp; omega) (fun g hg => ((uh O5).lt hg).1)); have P6 := hide ((KpT.of (below_new w5 (.cells #[.int .i64 4, .int .i64 0, .string ⟨#[45]⟩] 71))).trans (KpT.own (B := B) (ts := ts1) (World.ownsRow.alloc (uh O5) _) hgrow6)); clear hown6 hgrow6; have Q6 := hide ((uh P5).trans (uh P6)); have G6 := hide (uh P6 _ _ _ _ (uh G5) (by decide)); have A6 := hide (uh H2 (ts1 ++ [⟨4, 0, ⟨#[45]⟩⟩]) v6 w6 (uh O6) (Nat.le_trans hB (uh D6).size) (by simp only [List.length_append, List.length_cons, List.length_nil]; omega) ((uh HT).later (uh D6) hs)))) | (go_at_call 104; refine (uh A6).mono ?_; rintro r w7 ⟨v7, rfl, o7, hb7, hp7⟩))
 have O7 := hide o7
 have D7 := hide ((uh D6).trans hb7)
 have P7 := hide ((uh Q6).trans hp7)
 clear o7 hb7 hp7 O6 D6 P6 Q6 G6 A6 T4 c1 G4 O5 D5 P5 G5 O4 D4 P4
 have l7 : ((ts1 ++ [Tk.mk 4 0 ⟨#[45]⟩]) ++ us2).length = ts1.length + 1 + us2.length := by simp only [List.length_append, List.length_cons, List.length_nil]
 generalize hts2 : (ts1 ++ [Tk.mk 4 0 ⟨#[45]⟩]) ++ us2 = ts2 at *
 have E3 := hide (uh E2 ts2 (by first | rfl | exact hts2))
 clear E2 hts2
 rw [rounds_succ]
 go_wp2_with fail
 refine (markI_any ⟨#[62]⟩ w7).mono ?_
 rintro r w8 ⟨rfl, hb8⟩
 have O8 := hide ((uh O7).later hb8)
 have D8 := hide ((uh D7).trans (hb8.mono (Nat.le_trans hB (uh D7).size)))
 have P8 := hide ((uh P7).trans (KpT.of hb8))
 clear hb8 O7 D7 P7
 unfold Tk.v Tk.cs
 go_wp2_with (at_builtin; go_must (refine wpList_append_own _ rfl (.tmp 70) (.tmp 72) 39 rfl B 71 i0 (.agg #[.int .i64 0, .int .i64 0, .string ⟨#[]⟩]) 3 32 Tryz.underlying39 hi hz0 hz1 hz2 rfl (by decide) v7 (ts2).length (cellsT (ts2)) rfl (World.ownsRow.alloc (uh O8) _) ⟨w8.heap.size, 0, none⟩ 1 1 [.int .i64 4, .int .i64 0, .string ⟨#[62]⟩] rfl rfl (cell_new w8 #[.int .i64 4, .int .i64 0, .string ⟨#[62]⟩] 71) (newT_one _ _ _) (by unfold maxLen; (try simp only [List.length_append, List.length_cons, List.length_nil]); omega) (by (try simp only [List.length_append, List.length_cons, List.length_nil]); omega) (by have := (uh D8).size; simp; omega) ?_; intro v9 w9 hown9 hgrow9 _; have O9 := hide (ownT_app (t := ⟨4, 0, ⟨#[62]⟩⟩) hown9); have D9 := hide (((uh D8).alloc (Nat.le_trans hB (uh D8).size) (.cells #[.int .i64 4, .int .i64 0, .string ⟨#[62]⟩] 71)).grown hgrow9 (by have := (uh D8).size; simp; omega) (fun g hg => ((uh O8).lt hg).1)); have P9 := hide ((KpT.of (below_new w8 (.cells #[.int .i64 4, .int .i64 0, .string ⟨#[62]⟩] 71))).trans (KpT.own (B := B) (ts := ts2) (World.ownsRow.alloc (uh O8) _) hgrow9)); clear hown9 hgrow9))
 go_ret
 rw [uh E3] at O9
 exact ⟨_, rfl, uh O9, uh D9, (uh P8).trans (uh P9)⟩
theorem put_mul (t u : TypeId) (x y : Value) (B L M : Nat) (us : List Tk) (h1 : ∀ (ts : List Tk) (v : Value) (w : World), OwnT w B v ts → B ≤ w.heap.size → ts.length ≤ (L + 1) → TabG w → Calls Tryz.prog 104 #[v, .iface t x] w fun r w' => ∃ v', r = .returned v' ∧ OwnT w' B v' (ts ++ us) ∧ Below B w w' ∧ KpT w w') (hus : us.length ≤ M) (us2 : List Tk) (h2 : ∀ (ts : List Tk) (v : Value) (w : World), OwnT w B v ts → B ≤ w.heap.size → ts.length ≤ (L + M + 2) → TabG w → Calls Tryz.prog 104 #[v, .iface u y] w fun r w' => ∃ v', r = .returned v' ∧ OwnT w' B v' (ts ++ us2) ∧ Below B w w' ∧ KpT w w') (hus2 : us2.length ≤ M) (hLM : L + 2 * M + 3 ≤ 500) (ts : List Tk) (v : Value) (w : World) (ho : OwnT w B v ts) (hB : B ≤ w.heap.size) (hl : ts.length ≤ L) (hT : TabG w) (hs : 4 < B) : Calls Tryz.prog 104 #[v, .iface 230 (.agg #[.iface t x, .iface u y])] w fun r w' => ∃ v', r = .returned v' ∧ OwnT w' B v' ((((ts ++ [⟨4, 0, ⟨#[60]⟩⟩]) ++ us) ++ [⟨4, 0, ⟨#[42]⟩⟩]) ++ us2 ++ [⟨4, 0, ⟨#[62]⟩⟩]) ∧ Below B w w' ∧ KpT w w' := by
 obtain ⟨i0, hi, hz0, hz1, hz2⟩ := info_parts infoT
 have t0 := taN_num 230 (.agg #[.iface t x, .iface u y]) (by decide)
 have t1 := taN_sym 230 (.agg #[.iface t x, .iface u y]) (by decide)
 have t2 := taN_here 230 (.agg #[.iface t x, .iface u y]) (by decide)
 have t3 := taN_neg 230 (.agg #[.iface t x, .iface u y]) (by decide)
 have m := me_mul (.iface t x) (.iface u y)
 have PT := hide (parts2 t u x y w)
 have KD := hide (fun w => kind_mul 0 E0 t u x y w)
 have SG := hide (fun w1 (h : TabG w1) => (show w1.cell? ⟨4, 7, none⟩ = some (.string ⟨#[42]⟩) by obtain ⟨t, fr, h⟩ := h; exact Lib.cell_of_heap h 7))
 have HT := hide hT
 have H1 := hide h1
 have H2 := hide h2
 have O0 := hide ho
 obtain ⟨RS, hRS⟩ : ∃ RS, (((ts ++ [Tk.mk 4 0 ⟨#[60]⟩]) ++ us) ++ [Tk.mk 4 0 ⟨#[42]⟩]) ++ us2 ++ [Tk.mk 4 0 ⟨#[62]⟩] = RS := ⟨_, rfl⟩
 rw [hRS]
 have E1 := hide (fun ts1 (h : (ts ++ [Tk.mk 4 0 ⟨#[60]⟩]) ++ us = ts1) ts2 (h2 : (ts1 ++ [Tk.mk 4 0 ⟨#[42]⟩]) ++ us2 = ts2) => (show ts2 ++ [Tk.mk 4 0 ⟨#[62]⟩] = RS by rw [← hRS, h, h2]))
 clear hT h1 h2 ho hRS
 go_enter Tryz.func104, Tryz.ntmps104
 go_wp2_with fail
 refine (uh PT).mono ?_
 rintro r w1 ⟨gp, rfl, hgp, hb1⟩
 have O1 := hide ((uh O0).later hb1)
 have D1 := hide (hb1.mono hB)
 have P1 := hide (KpT.of hb1)
 have G1 := hide hgp
 have c0 := Lib.cell_of_heap hgp 0
 clear hb1 hgp O0 PT
 go_wp2
 refine wp_loop_rounds 3 ?_
 rw [rounds_succ]
 go_wp2_with fail
 refine (markI_any ⟨#[60]⟩ w1).mono ?_
 rintro r w2 ⟨rfl, hb2⟩
 have O2 := hide ((uh O1).later hb2)
 have D2 := hide ((uh D1).trans (hb2.mono (Nat.le_trans hB (uh D1).size)))
 have P2 := hide ((uh P1).trans (KpT.of hb2))
 have G2 := hide (KpT.of hb2 _ _ _ _ (uh G1) (by decide))
 clear hb2 O1 D1 P1 G1 c0
 unfold Tk.v Tk.cs
 go_wp2_with (first | (at_builtin; go_must (refine wpList_append_own _ rfl (.tmp 62) (.tmp 65) 39 rfl B 71 i0 (.agg #[.int .i64 0, .int .i64 0, .string ⟨#[]⟩]) 3 32 Tryz.underlying39 hi hz0 hz1 hz2 rfl (by decide) v (ts).length (cellsT (ts)) rfl (World.ownsRow.alloc (uh O2) _) ⟨w2.heap.size, 0, none⟩ 1 1 [.int .i64 4, .int .i64 0, .string ⟨#[60]⟩] rfl rfl (cell_new w2 #[.int .i64 4, .int .i64 0, .string ⟨#[60]⟩] 71) (newT_one _ _ _) (by unfold maxLen; (try simp only [List.length_append, List.length_cons, List.length_nil]); omega) (by (try simp only [List.length_append, List.length_cons, List.length_nil]); omega) (by have := (uh D2).size; simp; omega) ?_; intro v3 w3 hown3 hgrow3 _; have O3 := hide (ownT_app (t := ⟨4, 0, ⟨#[60]⟩⟩) hown3); have D3 := hide (((uh D2).alloc (Nat.le_trans hB (uh D2).size) (.cells #[.int .i64 4, .int .i64 0, .string ⟨#[60]⟩] 71)).grown hgrow3 (by have := (uh D2).size; simp; omega) (fun g hg => ((uh O2).lt hg).1)); have P3 := hide ((KpT.of (below_new w2 (.cells #[.int .i64 4, .int .i64 0, .string ⟨#[60]⟩] 71))).trans (KpT.own (B := B) (ts := ts) (World.ownsRow.alloc (uh O2) _) hgrow3)); clear hown3 hgrow3; have Q3 := hide ((uh P2).trans (uh P3)); have G3 := hide (uh P3 _ _ _ _ (uh G2) (by decide)); have A3 := hide (uh H1 (ts ++ [⟨4, 0, ⟨#[60]⟩⟩]) v3 w3 (uh O3) (Nat.le_trans hB (uh D3).size) (by simp only [List.length_append, List.length_cons, List.length_nil]; omega) ((uh HT).later (uh D3) hs)))) | (go_at_call 104; refine (uh A3).mono ?_; rintro r w4 ⟨v4, rfl, o4, hb4, hp4⟩))
 have O4 := hide o4
 have D4 := hide ((uh D3).trans hb4)
 have P4 := hide ((uh Q3).trans hp4)
 have G4 := hide (hp4 _ _ _ _ (uh G3) (by decide))
 have T4 := uh SG w4 ((uh HT).later (uh D4) hs)
 have c1 := Lib.cell_of_heap (uh G4) 1
 clear o4 hb4 hp4 O3 D3 P3 Q3 G3 A3 O2 D2 P2 G2
 have l4 : ((ts ++ [Tk.mk 4 0 ⟨#[60]⟩]) ++ us).length = ts.length + 1 + us.length := by simp only [List.length_append, List.length_cons, List.length_nil]
 generalize hts1 : (ts ++ [Tk.mk 4 0 ⟨#[60]⟩]) ++ us = ts1 at *
 have E2 := hide (uh E1 ts1 (by first | rfl | exact hts1))
 clear E1 hts1
 rw [rounds_succ]
 go_wp2_with (first | (go_at_call 151; refine (uh KD _).mono ?_; rintro r w' ⟨rfl, hw'⟩; rw [hw']; clear hw' w') | (go_at_call 44; refine (markI_any ⟨#[42]⟩ w4).mono ?_; rintro r w5 ⟨rfl, hb5⟩; have O5 := hide ((uh O4).later hb5); have D5 := hide ((uh D4).trans (hb5.mono (Nat.le_trans hB (uh D4).size))); have P5 := hide ((uh P4).trans (KpT.of hb5)); have G5 := hide (KpT.of hb5 _ _ _ _ (uh G4) (by decide)); clear hb5; unfold Tk.v Tk.cs) | (at_builtin; go_must (refine wpList_append_own _ rfl (.tmp 62) (.tmp 65) 39 rfl B 71 i0 (.agg #[.int .i64 0, .int .i64 0, .string ⟨#[]⟩]) 3 32 Tryz.underlying39 hi hz0 hz1 hz2 rfl (by decide) v4 (ts1).length (cellsT (ts1)) rfl (World.ownsRow.alloc (uh O5) _) ⟨w5.heap.size, 0, none⟩ 1 1 [.int .i64 4, .int .i64 0, .string ⟨#[42]⟩] rfl rfl (cell_new w5 #[.int .i64 4, .int .i64 0, .string ⟨#[42]⟩] 71) (newT_one _ _ _) (by unfold maxLen; (try simp only [List.length_append, List.length_cons, List.length_nil]); omega) (by (try simp only [List.length_append, List.length_cons, List.length_nil]); omega) (by have := (uh D5).size; simp; omega) ?_; intro v6 w6 hown6 hgrow6 _; have O6 := hide (ownT_app (t := ⟨4, 0, ⟨#[42]⟩⟩) hown6); have D6 := hide (((uh D5).alloc (Nat.le_trans hB (uh D5).size) (.cells #[.int .i64 4, .int .i64 0, .string ⟨#[42]⟩] 71)).grown hgrow6 (by have := (uh D5).size; simp; omega) (fun g hg => ((uh O5).lt hg).1)); have P6 := hide ((KpT.of (below_new w5 (.cells #[.int .i64 4, .int .i64 0, .string ⟨#[42]⟩] 71))).trans (KpT.own (B := B) (ts := ts1) (World.ownsRow.alloc (uh O5) _) hgrow6)); clear hown6 hgrow6; have Q6 := hide ((uh P5).trans (uh P6)); have G6 := hide (uh P6 _ _ _ _ (uh G5) (by decide)); have A6 := hide (uh H2 (ts1 ++ [⟨4, 0, ⟨#[42]⟩⟩]) v6 w6 (uh O6) (Nat.le_trans hB (uh D6).size) (by simp only [List.length_append, List.length_cons, List.length_nil]; omega) ((uh HT).later (uh D6) hs)))) | (go_at_call 104; refine (uh A6).mono ?_; rintro r w7 ⟨v7, rfl, o7, hb7, hp7⟩))
 have O7 := hide o7
 have D7 := hide ((uh D6).trans hb7)
 have P7 := hide ((uh Q6).trans hp7)
 clear o7 hb7 hp7 O6 D6 P6 Q6 G6 A6 T4 c1 G4 O5 D5 P5 G5 O4 D4 P4
 have l7 : ((ts1 ++ [Tk.mk 4 0 ⟨#[42]⟩]) ++ us2).length = ts1.length + 1 + us2.length := by simp only [List.length_append, List.length_cons, List.length_nil]
 generalize hts2 : (ts1 ++ [Tk.mk 4 0 ⟨#[42]⟩]) ++ us2 = ts2 at *
 have E3 := hide (uh E2 ts2 (by first | rfl | exact hts2))
 clear E2 hts2
 rw [rounds_succ]
 go_wp2_with fail
 refine (markI_any ⟨#[62]⟩ w7).mono ?_
 rintro r w8 ⟨rfl, hb8⟩
 have O8 := hide ((uh O7).later hb8)
 have D8 := hide ((uh D7).trans (hb8.mono (Nat.le_trans hB (uh D7).size)))
 have P8 := hide ((uh P7).trans (KpT.of hb8))
 clear hb8 O7 D7 P7
 unfold Tk.v Tk.cs
 go_wp2_with (at_builtin; go_must (refine wpList_append_own _ rfl (.tmp 70) (.tmp 72) 39 rfl B 71 i0 (.agg #[.int .i64 0, .int .i64 0, .string ⟨#[]⟩]) 3 32 Tryz.underlying39 hi hz0 hz1 hz2 rfl (by decide) v7 (ts2).length (cellsT (ts2)) rfl (World.ownsRow.alloc (uh O8) _) ⟨w8.heap.size, 0, none⟩ 1 1 [.int .i64 4, .int .i64 0, .string ⟨#[62]⟩] rfl rfl (cell_new w8 #[.int .i64 4, .int .i64 0, .string ⟨#[62]⟩] 71) (newT_one _ _ _) (by unfold maxLen; (try simp only [List.length_append, List.length_cons, List.length_nil]); omega) (by (try simp only [List.length_append, List.length_cons, List.length_nil]); omega) (by have := (uh D8).size; simp; omega) ?_; intro v9 w9 hown9 hgrow9 _; have O9 := hide (ownT_app (t := ⟨4, 0, ⟨#[62]⟩⟩) hown9); have D9 := hide (((uh D8).alloc (Nat.le_trans hB (uh D8).size) (.cells #[.int .i64 4, .int .i64 0, .string ⟨#[62]⟩] 71)).grown hgrow9 (by have := (uh D8).size; simp; omega) (fun g hg => ((uh O8).lt hg).1)); have P9 := hide ((KpT.of (below_new w8 (.cells #[.int .i64 4, .int .i64 0, .string ⟨#[62]⟩] 71))).trans (KpT.own (B := B) (ts := ts2) (World.ownsRow.alloc (uh O8) _) hgrow9)); clear hown9 hgrow9))
 go_ret
 rw [uh E3] at O9
 exact ⟨_, rfl, uh O9, uh D9, (uh P8).trans (uh P9)⟩
theorem put_div (t u : TypeId) (x y : Value) (B L M : Nat) (us : List Tk) (h1 : ∀ (ts : List Tk) (v : Value) (w : World), OwnT w B v ts → B ≤ w.heap.size → ts.length ≤ (L + 1) → TabG w → Calls Tryz.prog 104 #[v, .iface t x] w fun r w' => ∃ v', r = .returned v' ∧ OwnT w' B v' (ts ++ us) ∧ Below B w w' ∧ KpT w w') (hus : us.length ≤ M) (us2 : List Tk) (h2 : ∀ (ts : List Tk) (v : Value) (w : World), OwnT w B v ts → B ≤ w.heap.size → ts.length ≤ (L + M + 2) → TabG w → Calls Tryz.prog 104 #[v, .iface u y] w fun r w' => ∃ v', r = .returned v' ∧ OwnT w' B v' (ts ++ us2) ∧ Below B w w' ∧ KpT w w') (hus2 : us2.length ≤ M) (hLM : L + 2 * M + 3 ≤ 500) (ts : List Tk) (v : Value) (w : World) (ho : OwnT w B v ts) (hB : B ≤ w.heap.size) (hl : ts.length ≤ L) (hT : TabG w) (hs : 4 < B) : Calls Tryz.prog 104 #[v, .iface 231 (.agg #[.iface t x, .iface u y])] w fun r w' => ∃ v', r = .returned v' ∧ OwnT w' B v' ((((ts ++ [⟨4, 0, ⟨#[60]⟩⟩]) ++ us) ++ [⟨4, 0, ⟨#[47]⟩⟩]) ++ us2 ++ [⟨4, 0, ⟨#[62]⟩⟩]) ∧ Below B w w' ∧ KpT w w' := by
 obtain ⟨i0, hi, hz0, hz1, hz2⟩ := info_parts infoT
 have t0 := taN_num 231 (.agg #[.iface t x, .iface u y]) (by decide)
 have t1 := taN_sym 231 (.agg #[.iface t x, .iface u y]) (by decide)
 have t2 := taN_here 231 (.agg #[.iface t x, .iface u y]) (by decide)
 have t3 := taN_neg 231 (.agg #[.iface t x, .iface u y]) (by decide)
 have m := me_div (.iface t x) (.iface u y)
 have PT := hide (parts2 t u x y w)
 have KD := hide (fun w => kind_div 0 E0 t u x y w)
 have SG := hide (fun w1 (h : TabG w1) => (show w1.cell? ⟨4, 8, none⟩ = some (.string ⟨#[47]⟩) by obtain ⟨t, fr, h⟩ := h; exact Lib.cell_of_heap h 8))
 have HT := hide hT
 have H1 := hide h1
 have H2 := hide h2
 have O0 := hide ho
 obtain ⟨RS, hRS⟩ : ∃ RS, (((ts ++ [Tk.mk 4 0 ⟨#[60]⟩]) ++ us) ++ [Tk.mk 4 0 ⟨#[47]⟩]) ++ us2 ++ [Tk.mk 4 0 ⟨#[62]⟩] = RS := ⟨_, rfl⟩
 rw [hRS]
 have E1 := hide (fun ts1 (h : (ts ++ [Tk.mk 4 0 ⟨#[60]⟩]) ++ us = ts1) ts2 (h2 : (ts1 ++ [Tk.mk 4 0 ⟨#[47]⟩]) ++ us2 = ts2) => (show ts2 ++ [Tk.mk 4 0 ⟨#[62]⟩] = RS by rw [← hRS, h, h2]))
 clear hT h1 h2 ho hRS
 go_enter Tryz.func104, Tryz.ntmps104
 go_wp2_with fail
 refine (uh PT).mono ?_
 rintro r w1 ⟨gp, rfl, hgp, hb1⟩
 have O1 := hide ((uh O0).later hb1)
 have D1 := hide (hb1.mono hB)
 have P1 := hide (KpT.of hb1)
 have G1 := hide hgp
 have c0 := Lib.cell_of_heap hgp 0
 clear hb1 hgp O0 PT
 go_wp2
 refine wp_loop_rounds 3 ?_
 rw [rounds_succ]
 go_wp2_with fail
 refine (markI_any ⟨#[60]⟩ w1).mono ?_
 rintro r w2 ⟨rfl, hb2⟩
 have O2 := hide ((uh O1).later hb2)
 have D2 := hide ((uh D1).trans (hb2.mono (Nat.le_trans hB (uh D1).size)))
 have P2 := hide ((uh P1).trans (KpT.of hb2))
 have G2 := hide (KpT.of hb2 _ _ _ _ (uh G1) (by decide))
 clear hb2 O1 D1 P1 G1 c0
 unfold Tk.v Tk.cs
 go_wp2_with (first | (at_builtin; go_must (refine wpList_append_own _ rfl (.tmp 62) (.tmp 65) 39 rfl B 71 i0 (.agg #[.int .i64 0, .int .i64 0, .string ⟨#[]⟩]) 3 32 Tryz.underlying39 hi hz0 hz1 hz2 rfl (by decide) v (ts).length (cellsT (ts)) rfl (World.ownsRow.alloc (uh O2) _) ⟨w2.heap.size, 0, none⟩ 1 1 [.int .i64 4, .int .i64 0, .string ⟨#[60]⟩] rfl rfl (cell_new w2 #[.int .i64 4, .int .i64 0, .string ⟨#[60]⟩] 71) (newT_one _ _ _) (by unfold maxLen; (try simp only [List.length_append, List.length_cons, List.length_nil]); omega) (by (try simp only [List.length_append, List.length_cons, List.length_nil]); omega) (by have := (uh D2).size; simp; omega) ?_; intro v3 w3 hown3 hgrow3 _; have O3 := hide (ownT_app (t := ⟨4, 0, ⟨#[60]⟩⟩) hown3); have D3 := hide (((uh D2).alloc (Nat.le_trans hB (uh D2).size) (.cells #[.int .i64 4, .int .i64 0, .string ⟨#[60]⟩] 71)).grown hgrow3 (by have := (uh D2).size; simp; omega) (fun g hg => ((uh O2).lt hg).1)); have P3 := hide ((KpT.of (below_new w2 (.cells #[.int .i64 4, .int .i64 0, .string ⟨#[60]⟩] 71))).trans (KpT.own (B := B) (ts := ts) (World.ownsRow.alloc (uh O2) _) hgrow3)); clear hown3 hgrow3; have Q3 := hide ((uh P2).trans (uh P3)); have G3 := hide (uh P3 _ _ _ _ (uh G2) (by decide)); have A3 := hide (uh H1 (ts ++ [⟨4, 0, ⟨#[60]⟩⟩]) v3 w3 (uh O3) (Nat.le_trans hB (uh D3).size) (by simp only [List.length_append, List.length_cons, List.length_nil]; omega) ((uh HT).later (uh D3) hs)))) | (go_at_call 104; refine (uh A3).mono ?_; rintro r w4 ⟨v4, rfl, o4, hb4, hp4⟩))
 have O4 := hide o4
 have D4 := hide ((uh D3).trans hb4)
 have P4 := hide ((uh Q3).trans hp4)
 have G4 := hide (hp4 _ _ _ _ (uh G3) (by decide))
 have T4 := uh SG w4 ((uh HT).later (uh D4) hs)
 have c1 := Lib.cell_of_heap (uh G4) 1
 clear o4 hb4 hp4 O3 D3 P3 Q3 G3 A3 O2 D2 P2 G2
 have l4 : ((ts ++ [Tk.mk 4 0 ⟨#[60]⟩]) ++ us).length = ts.length + 1 + us.length := by simp only [List.length_append, List.length_cons, List.length_nil]
 generalize hts1 : (ts ++ [Tk.mk 4 0 ⟨#[60]⟩]) ++ us = ts1 at *
 have E2 := hide (uh E1 ts1 (by first | rfl | exact hts1))
 clear E1 hts1
 rw [rounds_succ]
 go_wp2_with (first | (go_at_call 151; refine (uh KD _).mono ?_; rintro r w' ⟨rfl, hw'⟩; rw [hw']; clear hw' w') | (go_at_call 44; refine (markI_any ⟨#[47]⟩ w4).mono ?_; rintro r w5 ⟨rfl, hb5⟩; have O5 := hide ((uh O4).later hb5); have D5 := hide ((uh D4).trans (hb5.mono (Nat.le_trans hB (uh D4).size))); have P5 := hide ((uh P4).trans (KpT.of hb5)); have G5 := hide (KpT.of hb5 _ _ _ _ (uh G4) (by decide)); clear hb5; unfold Tk.v Tk.cs) | (at_builtin; go_must (refine wpList_append_own _ rfl (.tmp 62) (.tmp 65) 39 rfl B 71 i0 (.agg #[.int .i64 0, .int .i64 0, .string ⟨#[]⟩]) 3 32 Tryz.underlying39 hi hz0 hz1 hz2 rfl (by decide) v4 (ts1).length (cellsT (ts1)) rfl (World.ownsRow.alloc (uh O5) _) ⟨w5.heap.size, 0, none⟩ 1 1 [.int .i64 4, .int .i64 0, .string ⟨#[47]⟩] rfl rfl (cell_new w5 #[.int .i64 4, .int .i64 0, .string ⟨#[47]⟩] 71) (newT_one _ _ _) (by unfold maxLen; (try simp only [List.length_append, List.length_cons, List.length_nil]); omega) (by (try simp only [List.length_append, List.length_cons, List.length_nil]); omega) (by have := (uh D5).size; simp; omega) ?_; intro v6 w6 hown6 hgrow6 _; have O6 := hide (ownT_app (t := ⟨4, 0, ⟨#[47]⟩⟩) hown6); have D6 := hide (((uh D5).alloc (Nat.le_trans hB (uh D5).size) (.cells #[.int .i64 4, .int .i64 0, .string ⟨#[47]⟩] 71)).grown hgrow6 (by have := (uh D5).size; simp; omega) (fun g hg => ((uh O5).lt hg).1)); have P6 := hide ((KpT.of (below_new w5 (.cells #[.int .i64 4, .int .i64 0, .string ⟨#[47]⟩] 71))).trans (KpT.own (B := B) (ts := ts1) (World.ownsRow.alloc (uh O5) _) hgrow6)); clear hown6 hgrow6; have Q6 := hide ((uh P5).trans (uh P6)); have G6 := hide (uh P6 _ _ _ _ (uh G5) (by decide)); have A6 := hide (uh H2 (ts1 ++ [⟨4, 0, ⟨#[47]⟩⟩]) v6 w6 (uh O6) (Nat.le_trans hB (uh D6).size) (by simp only [List.length_append, List.length_cons, List.length_nil]; omega) ((uh HT).later (uh D6) hs)))) | (go_at_call 104; refine (uh A6).mono ?_; rintro r w7 ⟨v7, rfl, o7, hb7, hp7⟩))
 have O7 := hide o7
 have D7 := hide ((uh D6).trans hb7)
 have P7 := hide ((uh Q6).trans hp7)
 clear o7 hb7 hp7 O6 D6 P6 Q6 G6 A6 T4 c1 G4 O5 D5 P5 G5 O4 D4 P4
 have l7 : ((ts1 ++ [Tk.mk 4 0 ⟨#[47]⟩]) ++ us2).length = ts1.length + 1 + us2.length := by simp only [List.length_append, List.length_cons, List.length_nil]
 generalize hts2 : (ts1 ++ [Tk.mk 4 0 ⟨#[47]⟩]) ++ us2 = ts2 at *
 have E3 := hide (uh E2 ts2 (by first | rfl | exact hts2))
 clear E2 hts2
 rw [rounds_succ]
 go_wp2_with fail
 refine (markI_any ⟨#[62]⟩ w7).mono ?_
 rintro r w8 ⟨rfl, hb8⟩
 have O8 := hide ((uh O7).later hb8)
 have D8 := hide ((uh D7).trans (hb8.mono (Nat.le_trans hB (uh D7).size)))
 have P8 := hide ((uh P7).trans (KpT.of hb8))
 clear hb8 O7 D7 P7
 unfold Tk.v Tk.cs
 go_wp2_with (at_builtin; go_must (refine wpList_append_own _ rfl (.tmp 70) (.tmp 72) 39 rfl B 71 i0 (.agg #[.int .i64 0, .int .i64 0, .string ⟨#[]⟩]) 3 32 Tryz.underlying39 hi hz0 hz1 hz2 rfl (by decide) v7 (ts2).length (cellsT (ts2)) rfl (World.ownsRow.alloc (uh O8) _) ⟨w8.heap.size, 0, none⟩ 1 1 [.int .i64 4, .int .i64 0, .string ⟨#[62]⟩] rfl rfl (cell_new w8 #[.int .i64 4, .int .i64 0, .string ⟨#[62]⟩] 71) (newT_one _ _ _) (by unfold maxLen; (try simp only [List.length_append, List.length_cons, List.length_nil]); omega) (by (try simp only [List.length_append, List.length_cons, List.length_nil]); omega) (by have := (uh D8).size; simp; omega) ?_; intro v9 w9 hown9 hgrow9 _; have O9 := hide (ownT_app (t := ⟨4, 0, ⟨#[62]⟩⟩) hown9); have D9 := hide (((uh D8).alloc (Nat.le_trans hB (uh D8).size) (.cells #[.int .i64 4, .int .i64 0, .string ⟨#[62]⟩] 71)).grown hgrow9 (by have := (uh D8).size; simp; omega) (fun g hg => ((uh O8).lt hg).1)); have P9 := hide ((KpT.of (below_new w8 (.cells #[.int .i64 4, .int .i64 0, .string ⟨#[62]⟩] 71))).trans (KpT.own (B := B) (ts := ts2) (World.ownsRow.alloc (uh O8) _) hgrow9)); clear hown9 hgrow9))
 go_ret
 rw [uh E3] at O9
 exact ⟨_, rfl, uh O9, uh D9, (uh P8).trans (uh P9)⟩
theorem put_and (t u : TypeId) (x y : Value) (B L M : Nat) (us : List Tk) (h1 : ∀ (ts : List Tk) (v : Value) (w : World), OwnT w B v ts → B ≤ w.heap.size → ts.length ≤ (L + 1) → TabG w → Calls Tryz.prog 104 #[v, .iface t x] w fun r w' => ∃ v', r = .returned v' ∧ OwnT w' B v' (ts ++ us) ∧ Below B w w' ∧ KpT w w') (hus : us.length ≤ M) (us2 : List Tk) (h2 : ∀ (ts : List Tk) (v : Value) (w : World), OwnT w B v ts → B ≤ w.heap.size → ts.length ≤ (L + M + 2) → TabG w → Calls Tryz.prog 104 #[v, .iface u y] w fun r w' => ∃ v', r = .returned v' ∧ OwnT w' B v' (ts ++ us2) ∧ Below B w w' ∧ KpT w w') (hus2 : us2.length ≤ M) (hLM : L + 2 * M + 3 ≤ 500) (ts : List Tk) (v : Value) (w : World) (ho : OwnT w B v ts) (hB : B ≤ w.heap.size) (hl : ts.length ≤ L) (hT : TabG w) (hs : 4 < B) : Calls Tryz.prog 104 #[v, .iface 232 (.agg #[.iface t x, .iface u y])] w fun r w' => ∃ v', r = .returned v' ∧ OwnT w' B v' ((((ts ++ [⟨4, 0, ⟨#[60]⟩⟩]) ++ us) ++ [⟨4, 0, ⟨#[38]⟩⟩]) ++ us2 ++ [⟨4, 0, ⟨#[62]⟩⟩]) ∧ Below B w w' ∧ KpT w w' := by
 obtain ⟨i0, hi, hz0, hz1, hz2⟩ := info_parts infoT
 have t0 := taN_num 232 (.agg #[.iface t x, .iface u y]) (by decide)
 have t1 := taN_sym 232 (.agg #[.iface t x, .iface u y]) (by decide)
 have t2 := taN_here 232 (.agg #[.iface t x, .iface u y]) (by decide)
 have t3 := taN_neg 232 (.agg #[.iface t x, .iface u y]) (by decide)
 have m := me_and (.iface t x) (.iface u y)
 have PT := hide (parts2 t u x y w)
 have KD := hide (fun w => kind_and 0 E0 t u x y w)
 have SG := hide (fun w1 (h : TabG w1) => (show w1.cell? ⟨4, 9, none⟩ = some (.string ⟨#[38]⟩) by obtain ⟨t, fr, h⟩ := h; exact Lib.cell_of_heap h 9))
 have HT := hide hT
 have H1 := hide h1
 have H2 := hide h2
 have O0 := hide ho
 obtain ⟨RS, hRS⟩ : ∃ RS, (((ts ++ [Tk.mk 4 0 ⟨#[60]⟩]) ++ us) ++ [Tk.mk 4 0 ⟨#[38]⟩]) ++ us2 ++ [Tk.mk 4 0 ⟨#[62]⟩] = RS := ⟨_, rfl⟩
 rw [hRS]
 have E1 := hide (fun ts1 (h : (ts ++ [Tk.mk 4 0 ⟨#[60]⟩]) ++ us = ts1) ts2 (h2 : (ts1 ++ [Tk.mk 4 0 ⟨#[38]⟩]) ++ us2 = ts2) => (show ts2 ++ [Tk.mk 4 0 ⟨#[62]⟩] = RS by rw [← hRS, h, h2]))
 clear hT h1 h2 ho hRS
 go_enter Tryz.func104, Tryz.ntmps104
 go_wp2_with fail
 refine (uh PT).mono ?_
 rintro r w1 ⟨gp, rfl, hgp, hb1⟩
 have O1 := hide ((uh O0).later hb1)
 have D1 := hide (hb1.mono hB)
 have P1 := hide (KpT.of hb1)
 have G1 := hide hgp
 have c0 := Lib.cell_of_heap hgp 0
 clear hb1 hgp O0 PT
 go_wp2
 refine wp_loop_rounds 3 ?_
 rw [rounds_succ]
 go_wp2_with fail
 refine (markI_any ⟨#[60]⟩ w1).mono ?_
 rintro r w2 ⟨rfl, hb2⟩
 have O2 := hide ((uh O1).later hb2)
 have D2 := hide ((uh D1).trans (hb2.mono (Nat.le_trans hB (uh D1).size)))
 have P2 := hide ((uh P1).trans (KpT.of hb2))
 have G2 := hide (KpT.of hb2 _ _ _ _ (uh G1) (by decide))
 clear hb2 O1 D1 P1 G1 c0
 unfold Tk.v Tk.cs
 go_wp2_with (first | (at_builtin; go_must (refine wpList_append_own _ rfl (.tmp 62) (.tmp 65) 39 rfl B 71 i0 (.agg #[.int .i64 0, .int .i64 0, .string ⟨#[]⟩]) 3 32 Tryz.underlying39 hi hz0 hz1 hz2 rfl (by decide) v (ts).length (cellsT (ts)) rfl (World.ownsRow.alloc (uh O2) _) ⟨w2.heap.size, 0, none⟩ 1 1 [.int .i64 4, .int .i64 0, .string ⟨#[60]⟩] rfl rfl (cell_new w2 #[.int .i64 4, .int .i64 0, .string ⟨#[60]⟩] 71) (newT_one _ _ _) (by unfold maxLen; (try simp only [List.length_append, List.length_cons, List.length_nil]); omega) (by (try simp only [List.length_append, List.length_cons, List.length_nil]); omega) (by have := (uh D2).size; simp; omega) ?_; intro v3 w3 hown3 hgrow3 _; have O3 := hide (ownT_app (t := ⟨4, 0, ⟨#[60]⟩⟩) hown3); have D3 := hide (((uh D2).alloc (Nat.le_trans hB (uh D2).size) (.cells #[.int .i64 4, .int .i64 0, .string ⟨#[60]⟩] 71)).grown hgrow3 (by have := (uh D2).size; simp; omega) (fun g hg => ((uh O2).lt hg).1)); have P3 := hide ((KpT.of (below_new w2 (.cells #[.int .i64 4, .int .i64 0, .string ⟨#[60]⟩] 71))).trans (KpT.own (B := B) (ts := ts) (World.ownsRow.alloc (uh O2) _) hgrow3)); clear hown3 hgrow3; have Q3 := hide ((uh P2).trans (uh P3)); have G3 := hide (uh P3 _ _ _ _ (uh G2) (by decide)); have A3 := hide (uh H1 (ts ++ [⟨4, 0, ⟨#[60]⟩⟩]) v3 w3 (uh O3) (Nat.le_trans hB (uh D3).size) (by simp only [List.length_append, List.length_cons, List.length_nil]; omega) ((uh HT).later (uh D3) hs)))) | (go_at_call 104; refine (uh A3).mono ?_; rintro r w4 ⟨v4, rfl, o4, hb4, hp4⟩))
 have O4 := hide o4
 have D4 := hide ((uh D3).trans hb4)
 have P4 := hide ((uh Q3).trans hp4)
 have G4 := hide (hp4 _ _ _ _ (uh G3) (by decide))
 have T4 := uh SG w4 ((uh HT).later (uh D4) hs)
 have c1 := Lib.cell_of_heap (uh G4) 1
 clear o4 hb4 hp4 O3 D3 P3 Q3 G3 A3 O2 D2 P2 G2
 have l4 : ((ts ++ [Tk.mk 4 0 ⟨#[60]⟩]) ++ us).length = ts.length + 1 + us.length := by simp only [List.length_append, List.length_cons, List.length_nil]
 generalize hts1 : (ts ++ [Tk.mk 4 0 ⟨#[60]⟩]) ++ us = ts1 at *
 have E2 := hide (uh E1 ts1 (by first | rfl | exact hts1))
 clear E1 hts1
 rw [rounds_succ]
 go_wp2_with (first | (go_at_call 151; refine (uh KD _).mono ?_; rintro r w' ⟨rfl, hw'⟩; rw [hw']; clear hw' w') | (go_at_call 44; refine (markI_any ⟨#[38]⟩ w4).mono ?_; rintro r w5 ⟨rfl, hb5⟩; have O5 := hide ((uh O4).later hb5); have D5 := hide ((uh D4).trans (hb5.mono (Nat.le_trans hB (uh D4).size))); have P5 := hide ((uh P4).trans (KpT.of hb5)); have G5 := hide (KpT.of hb5 _ _ _ _ (uh G4) (by decide)); clear hb5; unfold Tk.v Tk.cs) | (at_builtin; go_must (refine wpList_append_own _ rfl (.tmp 62) (.tmp 65) 39 rfl B 71 i0 (.agg #[.int .i64 0, .int .i64 0, .string ⟨#[]⟩]) 3 32 Tryz.underlying39 hi hz0 hz1 hz2 rfl (by decide) v4 (ts1).length (cellsT (ts1)) rfl (World.ownsRow.alloc (uh O5) _) ⟨w5.heap.size, 0, none⟩ 1 1 [.int .i64 4, .int .i64 0, .string ⟨#[38]⟩] rfl rfl (cell_new w5 #[.int .i64 4, .int .i64 0, .string ⟨#[38]⟩] 71) (newT_one _ _ _) (by unfold maxLen; (try simp only [List.length_append, List.length_cons, List.length_nil]); omega) (by (try simp only [List.length_append, List.length_cons, List.length_nil]); omega) (by have := (uh D5).size; simp; omega) ?_; intro v6 w6 hown6 hgrow6 _; have O6 := hide (ownT_app (t := ⟨4, 0, ⟨#[38]⟩⟩) hown6); have D6 := hide (((uh D5).alloc (Nat.le_trans hB (uh D5).size) (.cells #[.int .i64 4, .int .i64 0, .string ⟨#[38]⟩] 71)).grown hgrow6 (by have := (uh D5).size; simp; omega) (fun g hg => ((uh O5).lt hg).1)); have P6 := hide ((KpT.of (below_new w5 (.cells #[.int .i64 4, .int .i64 0, .string ⟨#[38]⟩] 71))).trans (KpT.own (B := B) (ts := ts1) (World.ownsRow.alloc (uh O5) _) hgrow6)); clear hown6 hgrow6; have Q6 := hide ((uh P5).trans (uh P6)); have G6 := hide (uh P6 _ _ _ _ (uh G5) (by decide)); have A6 := hide (uh H2 (ts1 ++ [⟨4, 0, ⟨#[38]⟩⟩]) v6 w6 (uh O6) (Nat.le_trans hB (uh D6).size) (by simp only [List.length_append, List.length_cons, List.length_nil]; omega) ((uh HT).later (uh D6) hs)))) | (go_at_call 104; refine (uh A6).mono ?_; rintro r w7 ⟨v7, rfl, o7, hb7, hp7⟩))
 have O7 := hide o7
 have D7 := hide ((uh D6).trans hb7)
 have P7 := hide ((uh Q6).trans hp7)
 clear o7 hb7 hp7 O6 D6 P6 Q6 G6 A6 T4 c1 G4 O5 D5 P5 G5 O4 D4 P4
 have l7 : ((ts1 ++ [Tk.mk 4 0 ⟨#[38]⟩]) ++ us2).length = ts1.length + 1 + us2.length := by simp only [List.length_append, List.length_cons, List.length_nil]
 generalize hts2 : (ts1 ++ [Tk.mk 4 0 ⟨#[38]⟩]) ++ us2 = ts2 at *
 have E3 := hide (uh E2 ts2 (by first | rfl | exact hts2))
 clear E2 hts2
 rw [rounds_succ]
 go_wp2_with fail
 refine (markI_any ⟨#[62]⟩ w7).mono ?_
 rintro r w8 ⟨rfl, hb8⟩
 have O8 := hide ((uh O7).later hb8)
 have D8 := hide ((uh D7).trans (hb8.mono (Nat.le_trans hB (uh D7).size)))
 have P8 := hide ((uh P7).trans (KpT.of hb8))
 clear hb8 O7 D7 P7
 unfold Tk.v Tk.cs
 go_wp2_with (at_builtin; go_must (refine wpList_append_own _ rfl (.tmp 70) (.tmp 72) 39 rfl B 71 i0 (.agg #[.int .i64 0, .int .i64 0, .string ⟨#[]⟩]) 3 32 Tryz.underlying39 hi hz0 hz1 hz2 rfl (by decide) v7 (ts2).length (cellsT (ts2)) rfl (World.ownsRow.alloc (uh O8) _) ⟨w8.heap.size, 0, none⟩ 1 1 [.int .i64 4, .int .i64 0, .string ⟨#[62]⟩] rfl rfl (cell_new w8 #[.int .i64 4, .int .i64 0, .string ⟨#[62]⟩] 71) (newT_one _ _ _) (by unfold maxLen; (try simp only [List.length_append, List.length_cons, List.length_nil]); omega) (by (try simp only [List.length_append, List.length_cons, List.length_nil]); omega) (by have := (uh D8).size; simp; omega) ?_; intro v9 w9 hown9 hgrow9 _; have O9 := hide (ownT_app (t := ⟨4, 0, ⟨#[62]⟩⟩) hown9); have D9 := hide (((uh D8).alloc (Nat.le_trans hB (uh D8).size) (.cells #[.int .i64 4, .int .i64 0, .string ⟨#[62]⟩] 71)).grown hgrow9 (by have := (uh D8).size; simp; omega) (fun g hg => ((uh O8).lt hg).1)); have P9 := hide ((KpT.of (below_new w8 (.cells #[.int .i64 4, .int .i64 0, .string ⟨#[62]⟩] 71))).trans (KpT.own (B := B) (ts := ts2) (World.ownsRow.alloc (uh O8) _) hgrow9)); clear hown9 hgrow9))
 go_ret
 rw [uh E3] at O9
 exact ⟨_, rfl, uh O9, uh D9, (uh P8).trans (uh P9)⟩
theorem put_or (t u : TypeId) (x y : Value) (B L M : Nat) (us : List Tk) (h1 : ∀ (ts : List Tk) (v : Value) (w : World), OwnT w B v ts → B ≤ w.heap.size → ts.length ≤ (L + 1) → TabG w → Calls Tryz.prog 104 #[v, .iface t x] w fun r w' => ∃ v', r = .returned v' ∧ OwnT w' B v' (ts ++ us) ∧ Below B w w' ∧ KpT w w') (hus : us.length ≤ M) (us2 : List Tk) (h2 : ∀ (ts : List Tk) (v : Value) (w : World), OwnT w B v ts → B ≤ w.heap.size → ts.length ≤ (L + M + 2) → TabG w → Calls Tryz.prog 104 #[v, .iface u y] w fun r w' => ∃ v', r = .returned v' ∧ OwnT w' B v' (ts ++ us2) ∧ Below B w w' ∧ KpT w w') (hus2 : us2.length ≤ M) (hLM : L + 2 * M + 3 ≤ 500) (ts : List Tk) (v : Value) (w : World) (ho : OwnT w B v ts) (hB : B ≤ w.heap.size) (hl : ts.length ≤ L) (hT : TabG w) (hs : 4 < B) : Calls Tryz.prog 104 #[v, .iface 233 (.agg #[.iface t x, .iface u y])] w fun r w' => ∃ v', r = .returned v' ∧ OwnT w' B v' ((((ts ++ [⟨4, 0, ⟨#[60]⟩⟩]) ++ us) ++ [⟨4, 0, ⟨#[124]⟩⟩]) ++ us2 ++ [⟨4, 0, ⟨#[62]⟩⟩]) ∧ Below B w w' ∧ KpT w w' := by
 obtain ⟨i0, hi, hz0, hz1, hz2⟩ := info_parts infoT
 have t0 := taN_num 233 (.agg #[.iface t x, .iface u y]) (by decide)
 have t1 := taN_sym 233 (.agg #[.iface t x, .iface u y]) (by decide)
 have t2 := taN_here 233 (.agg #[.iface t x, .iface u y]) (by decide)
 have t3 := taN_neg 233 (.agg #[.iface t x, .iface u y]) (by decide)
 have m := me_or (.iface t x) (.iface u y)
 have PT := hide (parts2 t u x y w)
 have KD := hide (fun w => kind_or 0 E0 t u x y w)
 have SG := hide (fun w1 (h : TabG w1) => (show w1.cell? ⟨4, 10, none⟩ = some (.string ⟨#[124]⟩) by obtain ⟨t, fr, h⟩ := h; exact Lib.cell_of_heap h 10))
 have HT := hide hT
 have H1 := hide h1
 have H2 := hide h2
 have O0 := hide ho
 obtain ⟨RS, hRS⟩ : ∃ RS, (((ts ++ [Tk.mk 4 0 ⟨#[60]⟩]) ++ us) ++ [Tk.mk 4 0 ⟨#[124]⟩]) ++ us2 ++ [Tk.mk 4 0 ⟨#[62]⟩] = RS := ⟨_, rfl⟩
 rw [hRS]
 have E1 := hide (fun ts1 (h : (ts ++ [Tk.mk 4 0 ⟨#[60]⟩]) ++ us = ts1) ts2 (h2 : (ts1 ++ [Tk.mk 4 0 ⟨#[124]⟩]) ++ us2 = ts2) => (show ts2 ++ [Tk.mk 4 0 ⟨#[62]⟩] = RS by rw [← hRS, h, h2]))
 clear hT h1 h2 ho hRS
 go_enter Tryz.func104, Tryz.ntmps104
 go_wp2_with fail
 refine (uh PT).mono ?_
 rintro r w1 ⟨gp, rfl, hgp, hb1⟩
 have O1 := hide ((uh O0).later hb1)
 have D1 := hide (hb1.mono hB)
 have P1 := hide (KpT.of hb1)
 have G1 := hide hgp
 have c0 := Lib.cell_of_heap hgp 0
 clear hb1 hgp O0 PT
 go_wp2
 refine wp_loop_rounds 3 ?_
 rw [rounds_succ]
 go_wp2_with fail
 refine (markI_any ⟨#[60]⟩ w1).mono ?_
 rintro r w2 ⟨rfl, hb2⟩
 have O2 := hide ((uh O1).later hb2)
 have D2 := hide ((uh D1).trans (hb2.mono (Nat.le_trans hB (uh D1).size)))
 have P2 := hide ((uh P1).trans (KpT.of hb2))
 have G2 := hide (KpT.of hb2 _ _ _ _ (uh G1) (by decide))
 clear hb2 O1 D1 P1 G1 c0
 unfold Tk.v Tk.cs
 go_wp2_with (first | (at_builtin; go_must (refine wpList_append_own _ rfl (.tmp 62) (.tmp 65) 39 rfl B 71 i0 (.agg #[.int .i64 0, .int .i64 0, .string ⟨#[]⟩]) 3 32 Tryz.underlying39 hi hz0 hz1 hz2 rfl (by decide) v (ts).length (cellsT (ts)) rfl (World.ownsRow.alloc (uh O2) _) ⟨w2.heap.size, 0, none⟩ 1 1 [.int .i64 4, .int .i64 0, .string ⟨#[60]⟩] rfl rfl (cell_new w2 #[.int .i64 4, .int .i64 0, .string ⟨#[60]⟩] 71) (newT_one _ _ _) (by unfold maxLen; (try simp only [List.length_append, List.length_cons, List.length_nil]); omega) (by (try simp only [List.length_append, List.length_cons, List.length_nil]); omega) (by have := (uh D2).size; simp; omega) ?_; intro v3 w3 hown3 hgrow3 _; have O3 := hide (ownT_app (t := ⟨4, 0, ⟨#[60]⟩⟩) hown3); have D3 := hide (((uh D2).alloc (Nat.le_trans hB (uh D2).size) (.cells #[.int .i64 4, .int .i64 0, .string ⟨#[60]⟩] 71)).grown hgrow3 (by have := (uh D2).size; simp; omega) (fun g hg => ((uh O2).lt hg).1)); have P3 := hide ((KpT.of (below_new w2 (.cells #[.int .i64 4, .int .i64 0, .string ⟨#[60]⟩] 71))).trans (KpT.own (B := B) (ts := ts) (World.ownsRow.alloc (uh O2) _) hgrow3)); clear hown3 hgrow3; have Q3 := hide ((uh P2).trans (uh P3)); have G3 := hide (uh P3 _ _ _ _ (uh G2) (by decide)); have A3 := hide (uh H1 (ts ++ [⟨4, 0, ⟨#[60]⟩⟩]) v3 w3 (uh O3) (Nat.le_trans hB (uh D3).size) (by simp only [List.length_append, List.length_cons, List.length_nil]; omega) ((uh HT).later (uh D3) hs)))) | (go_at_call 104; refine (uh A3).mono ?_; rintro r w4 ⟨v4, rfl, o4, hb4, hp4⟩))
 have O4 := hide o4
 have D4 := hide ((uh D3).trans hb4)
 have P4 := hide ((uh Q3).trans hp4)
 have G4 := hide (hp4 _ _ _ _ (uh G3) (by decide))
 have T4 := uh SG w4 ((uh HT).later (uh D4) hs)
 have c1 := Lib.cell_of_heap (uh G4) 1
 clear o4 hb4 hp4 O3 D3 P3 Q3 G3 A3 O2 D2 P2 G2
 have l4 : ((ts ++ [Tk.mk 4 0 ⟨#[60]⟩]) ++ us).length = ts.length + 1 + us.length := by simp only [List.length_append, List.length_cons, List.length_nil]
 generalize hts1 : (ts ++ [Tk.mk 4 0 ⟨#[60]⟩]) ++ us = ts1 at *
 have E2 := hide (uh E1 ts1 (by first | rfl | exact hts1))
 clear E1 hts1
 rw [rounds_succ]
 go_wp2_with (first | (go_at_call 151; refine (uh KD _).mono ?_; rintro r w' ⟨rfl, hw'⟩; rw [hw']; clear hw' w') | (go_at_call 44; refine (markI_any ⟨#[124]⟩ w4).mono ?_; rintro r w5 ⟨rfl, hb5⟩; have O5 := hide ((uh O4).later hb5); have D5 := hide ((uh D4).trans (hb5.mono (Nat.le_trans hB (uh D4).size))); have P5 := hide ((uh P4).trans (KpT.of hb5)); have G5 := hide (KpT.of hb5 _ _ _ _ (uh G4) (by decide)); clear hb5; unfold Tk.v Tk.cs) | (at_builtin; go_must (refine wpList_append_own _ rfl (.tmp 62) (.tmp 65) 39 rfl B 71 i0 (.agg #[.int .i64 0, .int .i64 0, .string ⟨#[]⟩]) 3 32 Tryz.underlying39 hi hz0 hz1 hz2 rfl (by decide) v4 (ts1).length (cellsT (ts1)) rfl (World.ownsRow.alloc (uh O5) _) ⟨w5.heap.size, 0, none⟩ 1 1 [.int .i64 4, .int .i64 0, .string ⟨#[124]⟩] rfl rfl (cell_new w5 #[.int .i64 4, .int .i64 0, .string ⟨#[124]⟩] 71) (newT_one _ _ _) (by unfold maxLen; (try simp only [List.length_append, List.length_cons, List.length_nil]); omega) (by (try simp only [List.length_append, List.length_cons, List.length_nil]); omega) (by have := (uh D5).size; simp; omega) ?_; intro v6 w6 hown6 hgrow6 _; have O6 := hide (ownT_app (t := ⟨4, 0, ⟨#[124]⟩⟩) hown6); have D6 := hide (((uh D5).alloc (Nat.le_trans hB (uh D5).size) (.cells #[.int .i64 4, .int .i64 0, .string ⟨#[124]⟩] 71)).grown hgrow6 (by have := (uh D5).size; simp; omega) (fun g hg => ((uh O5).lt hg).1)); have P6 := hide ((KpT.of (below_new w5 (.cells #[.int .i64 4, .int .i64 0, .string ⟨#[124]⟩] 71))).trans (KpT.own (B := B) (ts := ts1) (World.ownsRow.alloc (uh O5) _) hgrow6)); clear hown6 hgrow6; have Q6 := hide ((uh P5).trans (uh P6)); have G6 := hide (uh P6 _ _ _ _ (uh G5) (by decide)); have A6 := hide (uh H2 (ts1 ++ [⟨4, 0, ⟨#[124]⟩⟩]) v6 w6 (uh O6) (Nat.le_trans hB (uh D6).size) (by simp only [List.length_append, List.length_cons, List.length_nil]; omega) ((uh HT).later (uh D6) hs)))) | (go_at_call 104; refine (uh A6).mono ?_; rintro r w7 ⟨v7, rfl, o7, hb7, hp7⟩))
 have O7 := hide o7
 have D7 := hide ((uh D6).trans hb7)
 have P7 := hide ((uh Q6).trans hp7)
 clear o7 hb7 hp7 O6 D6 P6 Q6 G6 A6 T4 c1 G4 O5 D5 P5 G5 O4 D4 P4
 have l7 : ((ts1 ++ [Tk.mk 4 0 ⟨#[124]⟩]) ++ us2).length = ts1.length + 1 + us2.length := by simp only [List.length_append, List.length_cons, List.length_nil]
 generalize hts2 : (ts1 ++ [Tk.mk 4 0 ⟨#[124]⟩]) ++ us2 = ts2 at *
 have E3 := hide (uh E2 ts2 (by first | rfl | exact hts2))
 clear E2 hts2
 rw [rounds_succ]
 go_wp2_with fail
 refine (markI_any ⟨#[62]⟩ w7).mono ?_
 rintro r w8 ⟨rfl, hb8⟩
 have O8 := hide ((uh O7).later hb8)
 have D8 := hide ((uh D7).trans (hb8.mono (Nat.le_trans hB (uh D7).size)))
 have P8 := hide ((uh P7).trans (KpT.of hb8))
 clear hb8 O7 D7 P7
 unfold Tk.v Tk.cs
 go_wp2_with (at_builtin; go_must (refine wpList_append_own _ rfl (.tmp 70) (.tmp 72) 39 rfl B 71 i0 (.agg #[.int .i64 0, .int .i64 0, .string ⟨#[]⟩]) 3 32 Tryz.underlying39 hi hz0 hz1 hz2 rfl (by decide) v7 (ts2).length (cellsT (ts2)) rfl (World.ownsRow.alloc (uh O8) _) ⟨w8.heap.size, 0, none⟩ 1 1 [.int .i64 4, .int .i64 0, .string ⟨#[62]⟩] rfl rfl (cell_new w8 #[.int .i64 4, .int .i64 0, .string ⟨#[62]⟩] 71) (newT_one _ _ _) (by unfold maxLen; (try simp only [List.length_append, List.length_cons, List.length_nil]); omega) (by (try simp only [List.length_append, List.length_cons, List.length_nil]); omega) (by have := (uh D8).size; simp; omega) ?_; intro v9 w9 hown9 hgrow9 _; have O9 := hide (ownT_app (t := ⟨4, 0, ⟨#[62]⟩⟩) hown9); have D9 := hide (((uh D8).alloc (Nat.le_trans hB (uh D8).size) (.cells #[.int .i64 4, .int .i64 0, .string ⟨#[62]⟩] 71)).grown hgrow9 (by have := (uh D8).size; simp; omega) (fun g hg => ((uh O8).lt hg).1)); have P9 := hide ((KpT.of (below_new w8 (.cells #[.int .i64 4, .int .i64 0, .string ⟨#[62]⟩] 71))).trans (KpT.own (B := B) (ts := ts2) (World.ownsRow.alloc (uh O8) _) hgrow9)); clear hown9 hgrow9))
 go_ret
 rw [uh E3] at O9
 exact ⟨_, rfl, uh O9, uh D9, (uh P8).trans (uh P9)⟩
theorem put_all : ∀ d : Nat, d ≤ 6 → PutP d := by
 intro d
 induction d with
 | zero => intro _ e ts v B w h; cases h
 | succ d ih =>
  intro hd e ts v B w h ho hB hl hT hs
  have ihd := ih (by omega)
  rw [mxT] at hl
  rcases plain_cases h with ⟨n, hn, rfl⟩ | ⟨s, hs, rfl⟩ | rfl | ⟨a, ha, rfl⟩ | ⟨k, a, b, hk, ha, hb, rfl⟩
  · rw [tv_num, toks_num]; exact put_num n ts v B w ho hB (by omega)
  · rw [tv_sym, toks_sym]; exact put_sym s ts v B w ho hB (by omega)
  · rw [tv_here, toks_here]; exact put_here ts v B w ho hB (by omega)
  ·
   obtain ⟨t, x, e1⟩ := tv_if a
   have h1 := fun ts v w ho hB hl hT => ihd a ts v B w ha ho hB hl hT hs
   rw [e1] at h1
   rw [tv_neg, e1, toks_neg]
   have hm := (toks_ok d a ha).2
   have R := put_neg t x B ts.length (by omega) (toksF d a) (fun ts' v w ho hB hl hT => h1 ts' v w ho hB (by omega) hT) ts v w ho hB (Nat.le_refl _) hT hs
   rw [List.append_assoc] at R
   exact R
  ·
   obtain ⟨t, x, e1⟩ := tv_if a
   obtain ⟨u, y, e2⟩ := tv_if b
   have h1 := fun ts v w ho hB hl hT => ihd a ts v B w ha ho hB hl hT hs
   have h2 := fun ts v w ho hB hl hT => ihd b ts v B w hb ho hB hl hT hs
   rw [e1] at h1
   rw [e2] at h2
   rw [tv_two hk, e1, e2, toks_two d hk]
   have hm1 := (toks_ok d a ha).2
   have hm2 := (toks_ok d b hb).2
   have hx := mxT_le d (by omega)
   have F1 := fun (ts' : List Tk) v w ho hB (hl : ts'.length ≤ ts.length + 1) hT => h1 ts' v w ho hB (by omega) hT
   have F2 := fun (ts' : List Tk) v w ho hB (hl : ts'.length ≤ ts.length + mxT d + 2) hT => h2 ts' v w ho hB (by omega) hT
   have : k = 5 ∨ k = 6 ∨ k = 7 ∨ k = 8 ∨ k = 9 ∨ k = 10 := by omega
   rcases this with rfl | rfl | rfl | rfl | rfl | rfl
   ·
    have R := put_add t u x y B ts.length (mxT d) (toksF d a) F1 hm1 (toksF d b) F2 hm2 (by omega) ts v w ho hB (Nat.le_refl _) hT hs
    simp only [List.append_assoc, List.cons_append, List.nil_append] at R
    exact R
   ·
    have R := put_sub t u x y B ts.length (mxT d) (toksF d a) F1 hm1 (toksF d b) F2 hm2 (by omega) ts v w ho hB (Nat.le_refl _) hT hs
    simp only [List.append_assoc, List.cons_append, List.nil_append] at R
    exact R
   ·
    have R := put_mul t u x y B ts.length (mxT d) (toksF d a) F1 hm1 (toksF d b) F2 hm2 (by omega) ts v w ho hB (Nat.le_refl _) hT hs
    simp only [List.append_assoc, List.cons_append, List.nil_append] at R
    exact R
   ·
    have R := put_div t u x y B ts.length (mxT d) (toksF d a) F1 hm1 (toksF d b) F2 hm2 (by omega) ts v w ho hB (Nat.le_refl _) hT hs
    simp only [List.append_assoc, List.cons_append, List.nil_append] at R
    exact R
   ·
    have R := put_and t u x y B ts.length (mxT d) (toksF d a) F1 hm1 (toksF d b) F2 hm2 (by omega) ts v w ho hB (Nat.le_refl _) hT hs
    simp only [List.append_assoc, List.cons_append, List.nil_append] at R
    exact R
   ·
    have R := put_or t u x y B ts.length (mxT d) (toksF d a) F1 hm1 (toksF d b) F2 hm2 (by omega) ts v w ho hB (Nat.le_refl _) hT hs
    simp only [List.append_assoc, List.cons_append, List.nil_append] at R
    exact R
section
def noL : ByteArray := ⟨#[116, 104, 105, 115, 32, 105, 115, 32, 110, 111, 32, 108, 105, 110, 101]⟩
def pn : List PanicEntry := [{ v := .iface 9 (.string noL), recovered := false }]
section
variable {w w' : World} {rb : Nat} {a a' : Option Addr} {n n' cap cap' : Nat} {ts ts' : List Tk}
end
end
theorem zroI (k n : Int) (s : ByteArray) (ll : Nat) (hs : s.size ≤ 1099511627776) (hl : ll ≤ 1099511627776) (b : Option Addr) (cap : Nat) (w : World) : Calls Tryz.prog 120 #[.agg #[.int .i64 k, .int .i64 n, .string s, .slice b ll cap]] w fun r w' => r = .returned (.bool (zroV k n s ll)) ∧ Below w.heap.size w w' := by
 by_cases h1 : k = 0
 ·
  subst h1
  by_cases h2 : n = 0
  ·
   subst h2
   by_cases h3 : s = ⟨#[]⟩
   ·
    subst h3
    by_cases h4 : ll = 0
    ·
     subst h4
     have B0 := hide (below_new w (.cells #[.int .i64 0, .int .i64 0, .string ⟨#[]⟩, .slice b 0 cap] 26))
     have V : zroV 0 0 ⟨#[]⟩ 0 = true := by simp [zroV, eqE, eqE1, *]
     rw [V]
     clear V
     go_enter Tryz.func120, Tryz.ntmps120
     go_wp2
     go_ret
     exact ⟨rfl, uh B0⟩
    have h4f : (ll == 0) = false := beq_eq_false_iff_ne.2 h4
    have h4g : ((ll : Int) == 0) = false := beq_eq_false_iff_ne.2 (by omega)
    have B0 := hide (below_new w (.cells #[.int .i64 0, .int .i64 0, .string ⟨#[]⟩, .slice b ll cap] 26))
    have V : zroV 0 0 ⟨#[]⟩ ll = false := by simp [zroV, eqE, eqE1, *]
    rw [V]
    clear V
    go_enter Tryz.func120, Tryz.ntmps120
    go_wp2
    go_ret
    exact ⟨rfl, uh B0⟩
   obtain ⟨h3a, h3b⟩ := emp_E s h3
   have B0 := hide (below_new w (.cells #[.int .i64 0, .int .i64 0, .string s, .slice b ll cap] 26))
   have V : zroV 0 0 s ll = false := by simp [zroV, eqE, eqE1, *]
   rw [V]
   clear V
   go_enter Tryz.func120, Tryz.ntmps120
   go_wp2
   go_ret
   exact ⟨rfl, uh B0⟩
  have h2f : (n == 0) = false := beq_eq_false_iff_ne.2 h2
  have B0 := hide (below_new w (.cells #[.int .i64 0, .int .i64 n, .string s, .slice b ll cap] 26))
  have V : zroV 0 n s ll = false := by simp [zroV, eqE, eqE1, *]
  rw [V]
  clear V
  go_enter Tryz.func120, Tryz.ntmps120
  go_wp2
  go_ret
  exact ⟨rfl, uh B0⟩
 have h1f : (k == 0) = false := beq_eq_false_iff_ne.2 h1
 have B0 := hide (below_new w (.cells #[.int .i64 k, .int .i64 n, .string s, .slice b ll cap] 26))
 have V : zroV k n s ll = false := by simp [zroV, eqE, eqE1, *]
 rw [V]
 clear V
 go_enter Tryz.func120, Tryz.ntmps120
 go_wp2
 go_ret
 exact ⟨rfl, uh B0⟩
theorem nonI_any (a : Ag) (hs : a.e.s.size ≤ 1099511627776) (hl : a.e.l.length ≤ 1099511627776) (b : Option Addr) (cap : Nat) (w : World) : Calls Tryz.prog 195 #[.agg (a.cs b cap)] w fun r w' => r = .returned (.bool (nonX a)) ∧ Below w.heap.size w w' := by
 have Q := hide (fun w => zroI a.e.k a.e.n a.e.s a.e.l.length hs hl b cap w)
 unfold Ag.cs
 rw [show nonX a = nonV a.f a.r (zroX a.e) from rfl]
 rw [show zroX a.e = zroV a.e.k a.e.n a.e.s a.e.l.length from rfl]
 generalize zroV a.e.k a.e.n a.e.s a.e.l.length = q at *
 generalize a.f = f at *
 generalize a.r = r at *
 generalize a.e.k = k at *
 generalize a.e.n = n at *
 generalize a.e.s = s at *
 generalize a.e.l.length = ll at *
 by_cases h15 : f = 0
 ·
  subst h15
  by_cases h16 : r = 0
  ·
   subst h16
   have B0 := hide (below_new w (.cells #[.int .i64 0, .int .i64 0, .int .i64 k, .int .i64 n, .string s, .slice b ll cap] 28))
   have V : nonV 0 0 q = q := by simp [nonV, *]
   rw [V]
   clear V
   go_enter Tryz.func195, Tryz.ntmps195
   go_wp2_with (go_at_call 120; refine (uh Q _).mono ?_; rintro e w1 ⟨rfl, hb1⟩)
   go_ret
   exact ⟨rfl, (uh B0).trans (hb1.mono (uh B0).size)⟩
  have h16f : (r == 0) = false := beq_eq_false_iff_ne.2 h16
  have B0 := hide (below_new w (.cells #[.int .i64 0, .int .i64 r, .int .i64 k, .int .i64 n, .string s, .slice b ll cap] 28))
  have V : nonV 0 r q = false := by simp [nonV, *]
  rw [V]
  clear V
  go_enter Tryz.func195, Tryz.ntmps195
  go_wp2_with (go_at_call 120; refine (uh Q _).mono ?_; rintro e w1 ⟨rfl, hb1⟩)
  go_ret
  exact ⟨rfl, uh B0⟩
 have h15f : (f == 0) = false := beq_eq_false_iff_ne.2 h15
 have B0 := hide (below_new w (.cells #[.int .i64 f, .int .i64 r, .int .i64 k, .int .i64 n, .string s, .slice b ll cap] 28))
 have V : nonV f r q = false := by simp [nonV, *]
 rw [V]
 clear V
 go_enter Tryz.func195, Tryz.ntmps195
 go_wp2_with (go_at_call 120; refine (uh Q _).mono ?_; rintro e w1 ⟨rfl, hb1⟩)
 go_ret
 exact ⟨rfl, uh B0⟩
def PlnR (e : Ex) (w : World) (r : Ending) (w' : World) : Prop := ∃ v, r = .returned (.tuple #[v, .bool (okF 6 true e)]) ∧ (IfV v ∧ (okF 6 true e = true → v = tv e)) ∧ Below w.heap.size w w'
theorem plnR_of {e : Ex} {w : World} {r : Ending} {w' : World} {v tve : Value} {q : Bool} (ht : tv e = tve) (h : okF 6 true e = q) (hr : r = .returned (.tuple #[v, .bool q])) (hv : IfV v ∧ (q = true → v = tve)) (hb : Below w.heap.size w w') : PlnR e w r w' := ⟨v, by rw [h]; exact hr, ⟨hv.1, fun x => (hv.2 (h.symm.trans x)).trans ht.symm⟩, hb⟩
theorem plnO_any (e : Ex) (b : Option Addr) (cap : Nat) (w : World) (hr : RdX w 0 e b) (hz : e.sz ≤ 1048576) (ht : TabK w) : Calls Tryz.prog 121 #[.agg (e.cs b cap)] w (PlnR e w) := by
 have B0 := below_new w (.cells (e.cs b cap) 26)
 have HH := hide (term_all 6 (by omega) e b cap _ (hr.later B0) hz (ht.next B0))
 have HB := hide B0
 have IP := hide (fun w1 h => isp_all 6 e w1 h)
 have NP := hide (plain_not (d := 6) (e := e))
 clear hr B0 ht
 unfold TermR at HH
 obtain ⟨t, x, e1⟩ := tv_if e
 have FN := hide (fun r w' v q (h : okF 6 true e = q) => plnR_of (w := w) (r := r) (w' := w') (v := v) e1 h)
 rw [e1] at HH IP
 clear e1
 generalize PlnR e w = R at *
 generalize okF 6 false e = q at *
 generalize okF 6 true e = q2 at *
 unfold Ex.cs at HH HB ⊢
 generalize e.l.length = ll at *
 go_enter Tryz.func121, Tryz.ntmps121
 go_wp2_with fail
 refine (uh HH).mono ?_
 rintro r w1 ⟨v, rfl, hv, hb1⟩
 have BB := hide ((uh HB).trans (hb1.mono (uh HB).size))
 have HI := hide hv.1
 cases q with
 | false =>
  have F2 := hide (fun r w' v => uh FN r w' v false (uh NP rfl))
  clear hb1 HH HB hv IP NP FN
  go_wp2
  (try go_ret2)
  exact uh F2 _ _ _ rfl ⟨uh HI, fun h => by cases h⟩ (uh BB)
 | true =>
  have hve := hv.2 rfl
  subst hve
  have I2 := hide (uh IP w1 rfl)
  have F2 := hide (fun r w' v => uh FN r w' v q2 rfl)
  clear hb1 HH HB hv IP NP FN
  go_wp2_with (go_at_call 181; refine (uh I2).mono ?_; rintro r w2 ⟨rfl, hb2⟩)
  (try go_ret2)
  exact uh F2 _ _ _ rfl ⟨uh HI, fun _ => rfl⟩ ((uh BB).trans (hb2.mono (uh BB).size))
def cntB (s : ByteArray) (c : UInt8) : Bool := decide (0 ≤ Lib.indexByte s.data.toList c)
set_option maxRecDepth 100000 in
theorem ixbI (s : ByteArray) (c : Int) (w : World) : Calls Tryz.prog 214 #[.string s, .int .u8 c] w fun e w' => e = .returned (.int .i64 (Lib.indexByte s.data.toList c.toNat.toUInt8)) ∧ w' = w := by
 have RN : ∀ w : World, (Extern.BytealgIndexByte.indexByte #[.string s, .int .u8 c]).run Tryz.prog w = .ok (.int .i64 (Lib.indexByte s.data.toList c.toNat.toUInt8)) w := fun w => Lib.run_indexByteString s c w
 generalize Lib.indexByte s.data.toList c.toNat.toUInt8 = z at *
 go_enter Tryz.func214, Tryz.ntmps214
 go_wp2
 rw [run_callFunc_extern Tryz.func232 (by kernel_rfl) (by kernel_rfl) (by kernel_rfl) (e := Extern.BytealgIndexByte.indexByte) (by kernel_rfl), RN]
 simp only [Result.andThen]
 rw [Oper.upon_value]
 go_wp2
 go_ret
 exact ⟨rfl, rfl⟩
theorem ixsI (s : ByteArray) (c : UInt8) (w : World) : Calls Tryz.prog 188 #[.string s, .string ⟨#[c]⟩] w fun e w' => e = .returned (.int .i64 (Lib.indexByte s.data.toList c)) ∧ w' = w := by
 have IX := hide (fun w => ixbI s c.toNat w)
 have hc : ((c.toNat : Int)).toNat.toUInt8 = c := by simp
 rw [hc] at IX
 have Z := hide (show ([c] == s.toList) = true → Lib.indexByte s.data.toList c = 0 from fun h => by
  have e : s.data.toList = [c] := by rw [← Lib.toList_data]; exact (beq_iff_eq.1 h).symm
  rw [e]
  simp [Lib.indexByte])
 clear hc
 generalize Lib.indexByte s.data.toList c = z at *
 cases hq : ([c] == s.toList) with
 | true =>
  have Z0 := uh Z hq
  subst Z0
  clear Z
  go_enter Tryz.func188, Tryz.ntmps188
  go_wp2
  go_ret
  exact ⟨rfl, rfl⟩
 | false =>
  clear Z
  go_enter Tryz.func188, Tryz.ntmps188
  go_wp2_with (go_at_call 214; refine (uh IX _).mono ?_; rintro e w' ⟨rfl, hw'⟩; rw [hw']; clear hw' w')
  go_ret
  exact ⟨rfl, rfl⟩
theorem ixtI (s : ByteArray) (c : UInt8) (w : World) : Calls Tryz.prog 179 #[.string s, .string ⟨#[c]⟩] w fun e w' => e = .returned (.int .i64 (Lib.indexByte s.data.toList c)) ∧ w' = w := by
 have IX := hide (fun w => ixsI s c w)
 generalize Lib.indexByte s.data.toList c = z at *
 go_enter Tryz.func179, Tryz.ntmps179
 go_wp2_with (go_at_call 188; refine (uh IX _).mono ?_; rintro e w' ⟨rfl, hw'⟩; rw [hw']; clear hw' w')
 go_ret
 exact ⟨rfl, rfl⟩
theorem cntI (s : ByteArray) (c : UInt8) (w : World) : Calls Tryz.prog 119 #[.string s, .string ⟨#[c]⟩] w fun e w' => e = .returned (.bool (cntB s c)) ∧ w' = w := by
 have IX := hide (fun w => ixtI s c w)
 unfold cntB
 generalize Lib.indexByte s.data.toList c = z at *
 go_enter Tryz.func119, Tryz.ntmps119
 go_wp2_with (go_at_call 179; refine (uh IX _).mono ?_; rintro e w' ⟨rfl, hw'⟩; rw [hw']; clear hw' w')
 go_ret
 exact ⟨rfl, rfl⟩
def fmL : List ByteArray := [⟨#[82]⟩, ⟨#[40, 82, 41]⟩, ⟨#[40, 82, 41, 43]⟩, ⟨#[64, 40, 82, 41, 43]⟩, ⟨#[45, 40, 82, 41]⟩, ⟨#[64, 45, 40, 82, 41]⟩, ⟨#[69, 40, 82, 41]⟩, ⟨#[64, 69, 40, 82, 41]⟩, ⟨#[35, 69]⟩, ⟨#[64, 35, 69]⟩, ⟨#[69]⟩, ⟨#[64, 69]⟩]
def fmC : Array Value := (fmL.map Value.string).toArray
def TabF (w : World) : Prop := ∃ t fr, w.heap[2]? = some (.cells fmC t fr)
theorem TabF.lt {w : World} (h : TabF w) : 2 < w.heap.size := by obtain ⟨t, fr, h⟩ := h; exact (Array.getElem?_eq_some_iff.1 h).1
theorem TabF.later {w w' : World} {B : Nat} (h : TabF w) (hb : Below B w w') (hB : 2 < B) : TabF w' := by
 obtain ⟨t, fr, h⟩ := h
 exact ⟨t, fr, (hb.block _ hB).trans h⟩
theorem TabF.next {w w' : World} (h : TabF w) (hb : Below w.heap.size w w') : TabF w' := h.later hb h.lt
theorem TabF.at0 {w : World} (h : TabF w) : w.cell? ⟨2, 0, none⟩ = some (.string ⟨#[82]⟩) := by obtain ⟨t, fr, h⟩ := h; exact Lib.cell_of_heap h 0
theorem TabF.at1 {w : World} (h : TabF w) : w.cell? ⟨2, 1, none⟩ = some (.string ⟨#[40, 82, 41]⟩) := by obtain ⟨t, fr, h⟩ := h; exact Lib.cell_of_heap h 1
theorem TabF.at2 {w : World} (h : TabF w) : w.cell? ⟨2, 2, none⟩ = some (.string ⟨#[40, 82, 41, 43]⟩) := by obtain ⟨t, fr, h⟩ := h; exact Lib.cell_of_heap h 2
theorem TabF.at3 {w : World} (h : TabF w) : w.cell? ⟨2, 3, none⟩ = some (.string ⟨#[64, 40, 82, 41, 43]⟩) := by obtain ⟨t, fr, h⟩ := h; exact Lib.cell_of_heap h 3
theorem TabF.at4 {w : World} (h : TabF w) : w.cell? ⟨2, 4, none⟩ = some (.string ⟨#[45, 40, 82, 41]⟩) := by obtain ⟨t, fr, h⟩ := h; exact Lib.cell_of_heap h 4
theorem TabF.at5 {w : World} (h : TabF w) : w.cell? ⟨2, 5, none⟩ = some (.string ⟨#[64, 45, 40, 82, 41]⟩) := by obtain ⟨t, fr, h⟩ := h; exact Lib.cell_of_heap h 5
theorem TabF.at6 {w : World} (h : TabF w) : w.cell? ⟨2, 6, none⟩ = some (.string ⟨#[69, 40, 82, 41]⟩) := by obtain ⟨t, fr, h⟩ := h; exact Lib.cell_of_heap h 6
theorem TabF.at7 {w : World} (h : TabF w) : w.cell? ⟨2, 7, none⟩ = some (.string ⟨#[64, 69, 40, 82, 41]⟩) := by obtain ⟨t, fr, h⟩ := h; exact Lib.cell_of_heap h 7
theorem TabF.at8 {w : World} (h : TabF w) : w.cell? ⟨2, 8, none⟩ = some (.string ⟨#[35, 69]⟩) := by obtain ⟨t, fr, h⟩ := h; exact Lib.cell_of_heap h 8
theorem TabF.at9 {w : World} (h : TabF w) : w.cell? ⟨2, 9, none⟩ = some (.string ⟨#[64, 35, 69]⟩) := by obtain ⟨t, fr, h⟩ := h; exact Lib.cell_of_heap h 9
theorem TabF.at10 {w : World} (h : TabF w) : w.cell? ⟨2, 10, none⟩ = some (.string ⟨#[69]⟩) := by obtain ⟨t, fr, h⟩ := h; exact Lib.cell_of_heap h 10
theorem TabF.at11 {w : World} (h : TabF w) : w.cell? ⟨2, 11, none⟩ = some (.string ⟨#[64, 69]⟩) := by obtain ⟨t, fr, h⟩ := h; exact Lib.cell_of_heap h 11
end Go.Proofs.YtjnblcgekpgkoaaGreatDoor
