/- A map whose keys are two addresses and a number: found or not, laid in; conditions stand as hypotheses of each. -/
import Derived.Test.YthgbpofcfmnpdaaDoorOxF
import Derived.LaidEqlPtr
import Derived.Laws.StructEq
import Derived.MapKept
import Derived.Carry
namespace Go.Proofs.YthgbpofcfmnpdaaDoor
open Go.ChangeShapes Go.WideShapes Go.ChangeAt Go.RowKit
set_option linter.unusedVariables false
set_option maxRecDepth 8000
set_option linter.unusedSimpArgs false

/-- Two lists, by where they begin, and how long they are. -/
structure Ky where
  a : Nat
  b : Nat
  n : Nat
def Ky.v (k : Ky) : Value := .agg #[.pointer (some ⟨k.a, 0, none⟩), .pointer (some ⟨k.b, 0, none⟩), .int .i64 k.n]
def Ky.same (k l : Ky) : Bool := k.a == l.a && (k.b == l.b && k.n == l.n)
theorem Ky.same_iff (k l : Ky) : k.same l = true ↔ k = l := by
  obtain ⟨a, b, n⟩ := k
  obtain ⟨c, d, m⟩ := l
  simp [Ky.same]
/-- A block that is a row of cells, not frozen. -/
def Clean (w : World) (b : Nat) : Prop := ∃ cs t, w.heap[b]? = some (.cells cs t (0, 0))
theorem run_ptr_eq (d : Nat) (w : World) (a b : Nat) (ha : Clean w a) (hb : Clean w b) : (Op.equalIn (d + 1) 87 (.pointer (some ⟨a, 0, none⟩)) (.pointer (some ⟨b, 0, none⟩))).run Tryd.prog w = .ok (a == b) w := by
  obtain ⟨i0, hi, hz0, hz1, hz2⟩ := info_parts infoX
  have hsz : i0.size ≠ 0 := by rw [hz1]; decide
  by_cases e : a = b
  · subst e
    simp [Op.equalIn, run_underlying Tryd.underlying87, sizeOf, typeInfo, hi, hsz, run_sameAddr_same]
  · obtain ⟨ca, ta, ha⟩ := ha
    obtain ⟨cb, tb, hb⟩ := hb
    have hne : (⟨a, 0, none⟩ : Addr) ≠ ⟨b, 0, none⟩ := fun h => e (by cases h; rfl)
    simp [Op.equalIn, run_underlying Tryd.underlying87, sizeOf, typeInfo, hi, hsz, run_sameAddr_other w hne ha hb, e]
theorem run_key_eq (w : World) (k l : Ky) (ka : Clean w k.a) (kb : Clean w k.b) (la : Clean w l.a) (lb : Clean w l.b) : (Op.equal 89 k.v l.v).run Tryd.prog w = .ok (k.same l) w := by
  unfold Op.equal Op.maxDepth Ky.v
  rw [run_equalIn_struct w 9999 89 _ _ (by kernel_rfl) (by kernel_rfl)]
  have hf : (Tryd.prog.fieldsOf 89).toList.map (fun f => (f.name, f.type, f.offset)) = [("one", 87, 0), ("other", 87, 1), ("size", 3, 2)] := by kernel_rfl
  have hlen := congrArg List.length hf
  rw [List.length_map] at hlen
  generalize (Tryd.prog.fieldsOf 89).toList = fs at *
  match fs, hlen, hf with
  | [f0, f1, f2], _, hf =>
    simp only [List.map_cons, List.map_nil, List.cons.injEq, Prod.mk.injEq] at hf
    obtain ⟨⟨n0, t0, o0⟩, ⟨n1, t1, o1⟩, ⟨n2, t2, o2⟩, _⟩ := hf
    have p0 : ∀ a b c : Value, (part 87 #[.pointer (some ⟨k.a, 0, none⟩), b, c] 0).run Tryd.prog w = .ok (.pointer (some ⟨k.a, 0, none⟩)) w := fun a b c => by kernel_rfl
    have q0 : (part 87 #[.pointer (some ⟨k.a, 0, none⟩), .pointer (some ⟨k.b, 0, none⟩), .int .i64 k.n] 0).run Tryd.prog w = .ok (.pointer (some ⟨k.a, 0, none⟩)) w := by kernel_rfl
    have q1 : (part 87 #[.pointer (some ⟨k.a, 0, none⟩), .pointer (some ⟨k.b, 0, none⟩), .int .i64 k.n] 1).run Tryd.prog w = .ok (.pointer (some ⟨k.b, 0, none⟩)) w := by kernel_rfl
    have q2 : (part 3 #[.pointer (some ⟨k.a, 0, none⟩), .pointer (some ⟨k.b, 0, none⟩), .int .i64 k.n] 2).run Tryd.prog w = .ok (.int .i64 k.n) w := by kernel_rfl
    have r0 : (part 87 #[.pointer (some ⟨l.a, 0, none⟩), .pointer (some ⟨l.b, 0, none⟩), .int .i64 l.n] 0).run Tryd.prog w = .ok (.pointer (some ⟨l.a, 0, none⟩)) w := by kernel_rfl
    have r1 : (part 87 #[.pointer (some ⟨l.a, 0, none⟩), .pointer (some ⟨l.b, 0, none⟩), .int .i64 l.n] 1).run Tryd.prog w = .ok (.pointer (some ⟨l.b, 0, none⟩)) w := by kernel_rfl
    have r2 : (part 3 #[.pointer (some ⟨l.a, 0, none⟩), .pointer (some ⟨l.b, 0, none⟩), .int .i64 l.n] 2).run Tryd.prog w = .ok (.int .i64 l.n) w := by kernel_rfl
    have s0 := run_ptr_eq 9998 w k.a l.a ka la
    have s1 := run_ptr_eq 9998 w k.b l.b kb lb
    have s2 := run_equalIn_int w 9998 3 .i64 .i64 (k.n : Int) (l.n : Int) Tryd.underlying3
    clear p0
    unfold Ky.same
    simp only [Op.eqFields, n0, n1, n2, t0, t1, t2, o0, o1, o2, Sem.run_bind, Sem.run_ite, q0, q1, q2, r0, r1, r2, Result.andThen_ok, s0, s1, s2]
    have en : ((k.n : Int) == (l.n : Int)) = (k.n == l.n) := by rw [Bool.eq_iff_iff, beq_iff_eq, beq_iff_eq]; omega
    rw [en]
    cases k.a == l.a <;> cases k.b == l.b <;> cases k.n == l.n <;> simp
/-- The entries of a map of keys. -/
def esOf (ks : List Ky) (born : Nat) : List MapEntry := match ks with
  | [] => []
  | k :: r => { key := k.v, val := .agg #[], born := born } :: esOf r (born + 1)
def hasK (ks : List Ky) (k : Ky) : Bool := ks.any (fun l => k.same l)
theorem hasK_iff (ks : List Ky) (k : Ky) : hasK ks k = true ↔ k ∈ ks := by
  unfold hasK
  rw [List.any_eq_true]
  constructor
  · rintro ⟨l, hl, h⟩; rw [(Ky.same_iff _ _).1 h]; exact hl
  · intro h; exact ⟨k, h, (Ky.same_iff _ _).2 rfl⟩
theorem run_asking (w : World) (k : Ky) (ka : Clean w k.a) (kb : Clean w k.b) : ∀ (ks : List Ky) (born i : Nat), (∀ l ∈ ks, Clean w l.a ∧ Clean w l.b) → ∃ r, (Instr.findAsking 89 k.v (esOf ks born) i).run Tryd.prog w = .ok r w ∧ ((hasK ks k = false ∧ r = none) ∨ (hasK ks k = true ∧ ∃ j, r = some (j, .agg #[]))) := by
  intro ks
  induction ks with
  | nil => intro born i _; exact ⟨none, rfl, .inl ⟨rfl, rfl⟩⟩
  | cons l r ih =>
    intro born i hc
    obtain ⟨la, lb⟩ := hc l List.mem_cons_self
    have he := run_key_eq w k l ka kb la lb
    obtain ⟨q, hq, hr⟩ := ih (born + 1) (i + 1) (fun x hx => hc x (List.mem_cons_of_mem _ hx))
    have hh : hasK (l :: r) k = (k.same l || hasK r k) := by simp [hasK]
    cases hs : k.same l with
    | true =>
      rw [hs] at he
      exact ⟨some (i, .agg #[]), by simp [esOf, Instr.findAsking, he], .inr ⟨by rw [hh, hs]; rfl, i, rfl⟩⟩
    | false =>
      rw [hs] at he
      exact ⟨q, by simp [esOf, Instr.findAsking, he, hq], by rw [hh, hs, Bool.false_or]; exact hr⟩
theorem find_struct (w : World) (k : Ky) (ks : List Ky) (born : Nat) : (Instr.findKey 89 k.v (esOf ks born)).run Tryd.prog w = (Instr.findAsking 89 k.v (esOf ks born) 0).run Tryd.prog w := by
  cases ks with
  | nil => simp [esOf, Instr.findKey, Instr.findAsking, run_underlying Tryd.underlying89, Instr.findNow]
  | cons l r => simp [esOf, Instr.findKey, run_underlying Tryd.underlying89, Instr.findNow, Instr.sameNow, Ky.v]
/-- Block b is a map of these keys. -/
def IsMp (w : World) (b : Nat) (ks : List Ky) : Prop := w.heap[b]? = some (.map (esOf ks 0).toArray ks.length)
theorem run_key_ok (em : Bool) (k : Ky) (w : World) : (Instr.checkKey em 10000 89 k.v).run Tryd.prog w = .ok () w := by
  cases em <;> kernel_rfl
theorem run_look {w : World} {b : Nat} {ks : List Ky} (h : IsMp w b ks) (k : Ky) (ka : Clean w k.a) (kb : Clean w k.b) (hc : ∀ l ∈ ks, Clean w l.a ∧ Clean w l.b) : (Instr.lookup 84 (.map (some b)) k.v true).run Tryd.prog w = .ok (.tuple #[.agg #[], .bool (hasK ks k)]) w := by
  obtain ⟨r, hr, hh⟩ := run_asking w k ka kb ks 0 0 hc
  have hf := (find_struct w k ks 0).trans hr
  have hz : (zeroValue 90).run Tryd.prog w = .ok (.agg #[]) w := by kernel_rfl
  rcases hh with ⟨h1, rfl⟩ | ⟨h1, j, rfl⟩
  · simp [Instr.lookup, run_underlying Tryd.underlying84, MapKept.run_getObj_map h, run_key_ok, hf, hz, h1, Result.andThen]
  · simp [Instr.lookup, run_underlying Tryd.underlying84, MapKept.run_getObj_map h, run_key_ok, hf, h1, Result.andThen]
theorem esOf_snoc (ks : List Ky) (k : Ky) : ∀ born, esOf (ks ++ [k]) born = esOf ks born ++ [{ key := k.v, val := .agg #[], born := born + ks.length }] := by
  induction ks with
  | nil => intro born; rfl
  | cons l r ih => intro born; simp only [List.cons_append, esOf, ih, List.length_cons]; congr 4; omega
theorem run_put {w : World} {b : Nat} {ks : List Ky} (h : IsMp w b ks) (k : Ky) (ka : Clean w k.a) (kb : Clean w k.b) (hc : ∀ l ∈ ks, Clean w l.a ∧ Clean w l.b) (hn : hasK ks k = false) : ∃ w', (Instr.mapUpdate 84 (.map (some b)) k.v (.agg #[])).run Tryd.prog w = .ok () w' ∧ IsMp w' b (ks ++ [k]) ∧ w'.heap.size = w.heap.size ∧ (∀ g, g ≠ b → w'.heap[g]? = w.heap[g]?) ∧ w'.os = w.os ∧ w'.tape = w.tape ∧ w'.output = w.output := by
  obtain ⟨r, hr, hh⟩ := run_asking w k ka kb ks 0 0 hc
  have hf := (find_struct w k ks 0).trans hr
  rcases hh with ⟨h1, rfl⟩ | ⟨h1, j, rfl⟩
  · have hrun : (Instr.mapUpdate 84 (.map (some b)) k.v (.agg #[])).run Tryd.prog w = .ok () { w with heap := w.heap.setIfInBounds b (.map ((esOf ks 0).toArray.push { key := k.v, val := .agg #[], born := ks.length }) (ks.length + 1)) } := by
      simp [Instr.mapUpdate, run_underlying Tryd.underlying84, MapKept.run_getObj_map h, run_key_ok, hf, MapKept.run_setObj_map _ h, Result.andThen]
    refine ⟨_, hrun, ?_, by simp, fun g hg => ?_, rfl, rfl, rfl⟩
    · have hl : b < w.heap.size := (Array.getElem?_eq_some_iff.1 h).1
      unfold IsMp
      simp [hl, esOf_snoc]
    · simp [Array.getElem?_setIfInBounds, Ne.symm hg]
  · rw [hn] at h1; cases h1
end Go.Proofs.YthgbpofcfmnpdaaDoor
