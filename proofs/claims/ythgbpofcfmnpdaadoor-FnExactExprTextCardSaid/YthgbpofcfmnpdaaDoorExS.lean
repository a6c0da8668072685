/- Types told of the program's terms; over this seat's translation; conditions stand as hypotheses of each. -/
import Derived.Test.YthgbpofcfmnpdaaDoorExR
namespace Go.Proofs.YthgbpofcfmnpdaaDoor
open Go.ChangeShapes Go.WideShapes Go.ChangeAt Go.RowKit
set_option linter.unusedVariables false
set_option maxRecDepth 8000
set_option linter.unusedSimpArgs false

theorem ta_no {P : Program} {T u it : TypeId} {x z : Value} {fs : Array Field} (w : World) (hu : P.underlying u = some (.struct fs)) (hz : (zeroValue u).run P w = .ok z w) (h : T ≠ u) : (Instr.typeAssert (.iface T x) it u true).run P w = .ok (.tuple #[z, .bool false]) w := by
  simp [Instr.typeAssert, run_underlying hu, h, hz]
theorem taN_num (T : TypeId) (x : Value) (h : T ≠ 130) (w : World) : (Instr.typeAssert (.iface T x) 93 130 true).run Tryd.prog w = .ok (.tuple #[.agg #[.int .i64 0], .bool false]) w := ta_no w Tryd.underlying130 (by kernel_rfl) h
theorem taY_num (x : Value) (w : World) : (Instr.typeAssert (.iface 130 x) 93 130 true).run Tryd.prog w = .ok (.tuple #[x, .bool true]) w := by kernel_rfl
theorem taN_sym (T : TypeId) (x : Value) (h : T ≠ 131) (w : World) : (Instr.typeAssert (.iface T x) 93 131 true).run Tryd.prog w = .ok (.tuple #[.agg #[.string ⟨#[]⟩], .bool false]) w := ta_no w Tryd.underlying131 (by kernel_rfl) h
theorem taY_sym (x : Value) (w : World) : (Instr.typeAssert (.iface 131 x) 93 131 true).run Tryd.prog w = .ok (.tuple #[x, .bool true]) w := by kernel_rfl
theorem taN_here (T : TypeId) (x : Value) (h : T ≠ 133) (w : World) : (Instr.typeAssert (.iface T x) 93 133 true).run Tryd.prog w = .ok (.tuple #[.agg #[], .bool false]) w := ta_no w Tryd.underlying133 (by kernel_rfl) h
theorem taY_here (x : Value) (w : World) : (Instr.typeAssert (.iface 133 x) 93 133 true).run Tryd.prog w = .ok (.tuple #[x, .bool true]) w := by kernel_rfl
theorem taN_neg (T : TypeId) (x : Value) (h : T ≠ 119) (w : World) : (Instr.typeAssert (.iface T x) 93 119 true).run Tryd.prog w = .ok (.tuple #[.agg #[.nilIface], .bool false]) w := ta_no w Tryd.underlying119 (by kernel_rfl) h
theorem taY_neg (x : Value) (w : World) : (Instr.typeAssert (.iface 119 x) 93 119 true).run Tryd.prog w = .ok (.tuple #[x, .bool true]) w := by kernel_rfl
theorem taN_add (T : TypeId) (x : Value) (h : T ≠ 145) (w : World) : (Instr.typeAssert (.iface T x) 93 145 true).run Tryd.prog w = .ok (.tuple #[.agg #[.nilIface, .nilIface], .bool false]) w := ta_no w Tryd.underlying145 (by kernel_rfl) h
theorem taY_add (x : Value) (w : World) : (Instr.typeAssert (.iface 145 x) 93 145 true).run Tryd.prog w = .ok (.tuple #[x, .bool true]) w := by kernel_rfl
theorem taN_sub (T : TypeId) (x : Value) (h : T ≠ 146) (w : World) : (Instr.typeAssert (.iface T x) 93 146 true).run Tryd.prog w = .ok (.tuple #[.agg #[.nilIface, .nilIface], .bool false]) w := ta_no w Tryd.underlying146 (by kernel_rfl) h
theorem taY_sub (x : Value) (w : World) : (Instr.typeAssert (.iface 146 x) 93 146 true).run Tryd.prog w = .ok (.tuple #[x, .bool true]) w := by kernel_rfl
theorem taN_mul (T : TypeId) (x : Value) (h : T ≠ 147) (w : World) : (Instr.typeAssert (.iface T x) 93 147 true).run Tryd.prog w = .ok (.tuple #[.agg #[.nilIface, .nilIface], .bool false]) w := ta_no w Tryd.underlying147 (by kernel_rfl) h
theorem taY_mul (x : Value) (w : World) : (Instr.typeAssert (.iface 147 x) 93 147 true).run Tryd.prog w = .ok (.tuple #[x, .bool true]) w := by kernel_rfl
theorem taN_div (T : TypeId) (x : Value) (h : T ≠ 148) (w : World) : (Instr.typeAssert (.iface T x) 93 148 true).run Tryd.prog w = .ok (.tuple #[.agg #[.nilIface, .nilIface], .bool false]) w := ta_no w Tryd.underlying148 (by kernel_rfl) h
theorem taY_div (x : Value) (w : World) : (Instr.typeAssert (.iface 148 x) 93 148 true).run Tryd.prog w = .ok (.tuple #[x, .bool true]) w := by kernel_rfl
theorem taN_and (T : TypeId) (x : Value) (h : T ≠ 149) (w : World) : (Instr.typeAssert (.iface T x) 93 149 true).run Tryd.prog w = .ok (.tuple #[.agg #[.nilIface, .nilIface], .bool false]) w := ta_no w Tryd.underlying149 (by kernel_rfl) h
theorem taY_and (x : Value) (w : World) : (Instr.typeAssert (.iface 149 x) 93 149 true).run Tryd.prog w = .ok (.tuple #[x, .bool true]) w := by kernel_rfl
theorem taN_or (T : TypeId) (x : Value) (h : T ≠ 150) (w : World) : (Instr.typeAssert (.iface T x) 93 150 true).run Tryd.prog w = .ok (.tuple #[.agg #[.nilIface, .nilIface], .bool false]) w := ta_no w Tryd.underlying150 (by kernel_rfl) h
theorem taY_or (x : Value) (w : World) : (Instr.typeAssert (.iface 150 x) 93 150 true).run Tryd.prog w = .ok (.tuple #[x, .bool true]) w := by kernel_rfl
theorem taN_sect (T : TypeId) (x : Value) (h : T ≠ 125) (w : World) : (Instr.typeAssert (.iface T x) 93 125 true).run Tryd.prog w = .ok (.tuple #[.agg #[.int .i64 0], .bool false]) w := ta_no w Tryd.underlying125 (by kernel_rfl) h
theorem taY_sect (x : Value) (w : World) : (Instr.typeAssert (.iface 125 x) 93 125 true).run Tryd.prog w = .ok (.tuple #[x, .bool true]) w := by kernel_rfl
theorem taN_glob (T : TypeId) (x : Value) (h : T ≠ 127) (w : World) : (Instr.typeAssert (.iface T x) 93 127 true).run Tryd.prog w = .ok (.tuple #[.agg #[.string ⟨#[]⟩], .bool false]) w := ta_no w Tryd.underlying127 (by kernel_rfl) h
theorem taY_glob (x : Value) (w : World) : (Instr.typeAssert (.iface 127 x) 93 127 true).run Tryd.prog w = .ok (.tuple #[x, .bool true]) w := by kernel_rfl
theorem me_num (c : Value) (w : World) : (method 293 130 (.agg #[c]) "loop.example/g00329/impl.parts").run Tryd.prog w = .ok (156, .agg #[]) w := by kernel_rfl
theorem me_sym (c : Value) (w : World) : (method 293 131 (.agg #[c]) "loop.example/g00329/impl.parts").run Tryd.prog w = .ok (156, .agg #[]) w := by kernel_rfl
theorem me_sect (c : Value) (w : World) : (method 293 125 (.agg #[c]) "loop.example/g00329/impl.parts").run Tryd.prog w = .ok (156, .agg #[]) w := by kernel_rfl
theorem me_glob (c : Value) (w : World) : (method 293 127 (.agg #[c]) "loop.example/g00329/impl.parts").run Tryd.prog w = .ok (156, .agg #[]) w := by kernel_rfl
theorem me_here (w : World) : (method 293 133 (.agg #[]) "loop.example/g00329/impl.parts").run Tryd.prog w = .ok (156, .agg #[]) w := by kernel_rfl
theorem me_neg (c : Value) (w : World) : (method 293 119 (.agg #[c]) "loop.example/g00329/impl.parts").run Tryd.prog w = .ok (154, .agg #[c]) w := by kernel_rfl
theorem me_add (c d : Value) (w : World) : (method 293 145 (.agg #[c, d]) "loop.example/g00329/impl.parts").run Tryd.prog w = .ok (155, .agg #[c, d]) w := by kernel_rfl
theorem me_sub (c d : Value) (w : World) : (method 293 146 (.agg #[c, d]) "loop.example/g00329/impl.parts").run Tryd.prog w = .ok (155, .agg #[c, d]) w := by kernel_rfl
theorem me_mul (c d : Value) (w : World) : (method 293 147 (.agg #[c, d]) "loop.example/g00329/impl.parts").run Tryd.prog w = .ok (155, .agg #[c, d]) w := by kernel_rfl
theorem me_div (c d : Value) (w : World) : (method 293 148 (.agg #[c, d]) "loop.example/g00329/impl.parts").run Tryd.prog w = .ok (155, .agg #[c, d]) w := by kernel_rfl
theorem me_and (c d : Value) (w : World) : (method 293 149 (.agg #[c, d]) "loop.example/g00329/impl.parts").run Tryd.prog w = .ok (155, .agg #[c, d]) w := by kernel_rfl
theorem me_or (c d : Value) (w : World) : (method 293 150 (.agg #[c, d]) "loop.example/g00329/impl.parts").run Tryd.prog w = .ok (155, .agg #[c, d]) w := by kernel_rfl
set_option maxHeartbeats 1000000 in
theorem parts0 (w : World) : Calls Tryd.prog 156 #[.agg #[]] w fun r w' => r = .returned (.slice none 0 0) ∧ Below w.heap.size w w' := by
  go_enter Tryd.func156, Tryd.ntmps156
  go_wp2
  go_ret
  exact ⟨rfl, by first | exact Below.refl _ _ | exact below_new w _⟩
theorem two_new (w : World) (o1 o2 : Obj) : ((w.alloc o1).alloc o2).heap[w.heap.size + 1]? = some o2 ∧ Below w.heap.size w ((w.alloc o1).alloc o2) := by
  have h1 : (w.alloc o1).heap.size = w.heap.size + 1 := by simp
  refine ⟨?_, ((Below.refl _ _).alloc (Nat.le_refl _) _).alloc (by simp) _⟩
  rw [← h1]
  exact Array.getElem?_push_size
set_option maxHeartbeats 1000000 in
theorem parts1 (t : TypeId) (x : Value) (w : World) : Calls Tryd.prog 154 #[.agg #[.iface t x]] w fun r w' => ∃ g, r = .returned (.slice (some ⟨g, 0, none⟩) 1 1) ∧ w'.heap[g]? = some (.cells #[.iface t x] 93 (0, 0)) ∧ Below w.heap.size w w' := by
  have T := hide (two_new w (.cells #[.iface t x] 119) (.cells #[.iface t x] 93))
  go_enter Tryd.func154, Tryd.ntmps154
  go_wp2
  go_ret
  exact ⟨_, rfl, (unhide T).1, (unhide T).2⟩
set_option maxHeartbeats 1000000 in
theorem parts2 (t u : TypeId) (x y : Value) (w : World) : Calls Tryd.prog 155 #[.agg #[.iface t x, .iface u y]] w fun r w' => ∃ g, r = .returned (.slice (some ⟨g, 0, none⟩) 2 2) ∧ w'.heap[g]? = some (.cells #[.iface t x, .iface u y] 93 (0, 0)) ∧ Below w.heap.size w w' := by
  have T := hide (two_new w (.cells #[.iface t x, .iface u y] 122) (.cells #[.iface t x, .iface u y] 93))
  go_enter Tryd.func155, Tryd.ntmps155
  go_wp2
  go_ret
  exact ⟨_, rfl, (unhide T).1, (unhide T).2⟩
end Go.Proofs.YthgbpofcfmnpdaaDoor
