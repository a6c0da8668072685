/- Laws on one operation of a region that draws its order, and the region walked by what holds of every part of it; over this seat's translation; conditions stand as hypotheses of each. -/
import Derived.Test.YtfkmibgamkignaaInv
import Derived.Test.YtfkmibgamkignaaMacS
namespace Go.Proofs.Ytfkmibgamkignaa
open Go.ChangeShapes Go.WideShapes Go.ChangeAt Go.RowKit
set_option linter.unusedVariables false
set_option maxRecDepth 8000
set_option linter.unusedSimpArgs false

section
variable {o : Oper} {a : Act} {w : World} {K : Act → World → Prop} {Q : Exit → Act → World → Prop}
theorem wp_callF (f : FuncId) (xs : List Operand) (tys : Array TypeId) (ho : o.op = .call { callee := .value (.func f), args := xs.toArray, argTypes := tys }) (vs : List Value) (hv : xs.map a.eval = vs) (hcf : ∀ vs w, (callFunc f vs).run Try.prog w = .ok (.enter f vs) w) (R : Value → World → Prop)
    (hc : Calls Try.prog f vs.toArray w fun e w' => ∃ u, e = .returned u ∧ R u w') (h : ∀ u w', R u w' → K (a.put o.dst u) w') : o.wp Try.prog a w K Q := by
  have hrun : (execOp a.eval o).run Try.prog w = .ok (.enter f vs.toArray) w := by
    have he : a.eval (.func f) = .func (.func f) #[] #[] := rfl
    unfold execOp
    simp only [ho, resolve, he, List.map_toArray, hv]
    simp [go_sem]
    exact hcf vs.toArray w
  unfold Oper.wp
  rw [hrun, Oper.upon_enter]
  refine hc.mono ?_
  rintro e w' ⟨u, rfl, hu⟩
  exact h u w' hu
theorem wp_assign (x : Operand) (ho : o.op = .assign x) (h : K (a.put o.dst (a.eval x)) w) : o.wp Try.prog a w K Q := by
  unfold Oper.wp execOp
  simp only [ho, Sem.run_bind, Sem.run_pure, Result.andThen_ok]
  exact h
theorem wp_extract (x : Operand) (i : Nat) (ho : o.op = .extract x i) (vs : Array Value) (hx : a.eval x = .tuple vs) (v : Value) (hi : vs[i]? = some v) (h : K (a.put o.dst v) w) : o.wp Try.prog a w K Q := by
  unfold Oper.wp execOp
  simp only [ho, hx, Instr.extract, hi, Sem.run_bind, Sem.run_pure, Result.andThen_ok]
  exact h
theorem wp_allocT (ty : TypeId) (z : Array Value) (n : Nat) (hz : (Try.prog.info? ty).map (fun i => (i.zero, i.size)) = some (some (.agg z), n)) (ho : o.op = .alloc ty) (h : K (a.put o.dst (.pointer (some ⟨w.heap.size, 0, none⟩))) (w.alloc (.cells z ty))) : o.wp Try.prog a w K Q := by
  have hz := (zero_of_info hz).1
  unfold Oper.wp execOp
  simp only [ho, Instr.alloc, hz, Sem.run_bind, Sem.run_pure, Result.andThen_ok]
  simp [go_sem]
  exact h
end
theorem cf24 : ∀ vs w, (callFunc 24 vs).run Try.prog w = .ok (.enter 24 vs) w := fun _ _ => by simp [go_sem]
theorem zero44 : (Try.prog.info? 44).map (fun i => (i.zero, i.size)) = some (some (.agg #[.int .i64 0, .int .i64 0]), 2) := by kernel_rfl
theorem zero40 : (Try.prog.info? 40).map (fun i => (i.zero, i.size)) = some (some (.agg #[.int .i64 0, .int .i64 0, .int .i64 0]), 3) := by kernel_rfl

/-- What has come up holds whatever it waits for. -/
def Shut (ops : Array Oper) (f : Nat → Bool) : Prop := ∀ (j : Nat) (o : Oper), ops[j]? = some o → f j = true → ∀ e ∈ o.after, Region.binds .any e = true → f e.on = true
theorem shut_step {ops : Array Oper} {f : Nat → Bool} (h : Shut ops f) (i : Nat) (o : Oper) (ho : ops[i]? = some o) (hd : ∀ e ∈ o.after, Region.binds .any e = true → f e.on = true) : Shut ops (fun j => if j = i then true else f j) := by
  intro j p hp hj e he hb
  by_cases hji : j = i
  · subst hji
    rw [ho] at hp
    cases hp
    have := hd e he hb
    by_cases h2 : e.on = j
    · simp [h2]
    · simp [h2, this]
  · have hj' : f j = true := by simpa [hji] using hj
    have := h j p hp hj' e he hb
    by_cases h2 : e.on = i
    · simp [h2]
    · simp [h2, this]
section
variable {P : Program} {ops : Array Oper} {Q : Exit → Act → World → Prop}
theorem wpAny_invB (I : (Nat → Bool) → Act → World → Prop)
    (hstep : ∀ (i : Nat) (o : Oper), ops[i]? = some o → ∀ (f : Nat → Bool) (a : Act) (w : World), I f a w → f i = false → (∀ e ∈ o.after, Region.binds .any e = true → f e.on = true) →
      ∀ K : Act → World → Prop, (∀ a' w', I (fun j => if j = i then true else f j) a' w' → K a' w') → if Region.wanted o (yielded ops a.tmps) = true then Oper.wp P o a w K Q else K (a.put o.dst undef) w)
    (hdone : ∀ (f : Nat → Bool) (a : Act) (w : World), I f a w → (∀ i, i < ops.size → f i = true) → Q .normal a w)
    (hac : ∀ (i : Nat) (o : Oper), ops[i]? = some o → ∀ e ∈ o.after, Region.binds .any e = true → e.on < i) :
    ∀ (fuel : Nat) (listed : Array Bool) (a : Act) (w : World), listed.size = ops.size → (List.range ops.size).countP (fun j => !listed.getD j false) ≤ fuel → I (fun j => listed.getD j false) a w → wpAny P .any ops Q fuel listed a w := by
  have hnil : ∀ (listed : Array Bool), listed.size = ops.size → Region.ready .any ops listed = [] → ∀ i, i < ops.size → listed.getD i false = true := by
    intro listed hsz hr i
    induction i using Nat.strongRecOn with
    | ind i ih =>
      intro hi
      cases hb : listed.getD i false with
      | true => rfl
      | false =>
        have hm : i ∈ Region.ready .any ops listed := mem_ready.2 ⟨by
          have hi' : i < listed.size := by omega
          simpa [hi'] using hb, ops[i], by simp [hi], fun e he hb2 => ih e.on (hac i _ (by simp [hi]) e he hb2) (Nat.lt_trans (hac i _ (by simp [hi]) e he hb2) hi)⟩
        rw [hr] at hm
        cases hm
  intro fuel
  induction fuel with
  | zero =>
    intro listed a w hsz hc hI
    have hall : ∀ i, i < ops.size → listed.getD i false = true := fun i hi => by
      have h0 : (List.range ops.size).countP (fun j => !listed.getD j false) = 0 := by omega
      rw [List.countP_eq_zero] at h0
      have := h0 i (List.mem_range.2 hi)
      simpa using this
    refine ⟨?_, hdone _ a w hI hall⟩
    apply List.eq_nil_iff_forall_not_mem.2
    intro i hi
    obtain ⟨h1, o, ho, _⟩ := mem_ready.1 hi
    have hi' := (Array.getElem?_eq_some_iff.1 ho).1
    have := hall i hi'
    have hi'' : i < listed.size := by omega
    simp [hi''] at this h1
    rw [this] at h1
    cases h1
  | succ fuel ih =>
    intro listed a w hsz hc hI
    refine ⟨fun hr => hdone _ a w hI (hnil listed hsz hr), fun i hi => ?_⟩
    obtain ⟨h1, o, ho, hd⟩ := mem_ready.1 hi
    have hi' := (Array.getElem?_eq_some_iff.1 ho).1
    have hi'' : i < listed.size := by omega
    have hf : listed.getD i false = false := by simpa [hi''] using h1
    refine wpOp_step ho fun K hK => ?_
    refine hstep i o ho _ a w hI hf (fun e he hb => hd e he hb) K fun a' w' hI' => hK a' w' ?_
    refine ih _ a' w' (by simpa using hsz) ?_ (by rw [getD_set listed i hi'']; exact hI')
    have := countP_one (fun j => !listed.getD j false) (fun j => !(listed.setIfInBounds i true).getD j false) i (by simp [hf]) (by
      have := congrFun (getD_set listed i hi'') i
      simp only [if_true] at this
      rw [this]; rfl) (fun j hj => by
      have := congrFun (getD_set listed i hi'') j
      simp only [if_neg hj] at this
      rw [this]) (List.range ops.size) List.nodup_range (List.mem_range.2 hi')
    omega
/-- Each operation waits for earlier ones alone. -/
def waitsBB (ops : Array Oper) : Bool := (List.range ops.size).all fun i => ((ops[i]?).map fun o => o.after.all fun e => !Region.binds .any e || decide (e.on < i)).getD true
theorem waitsB_of (h : waitsBB ops = true) : ∀ (i : Nat) (o : Oper), ops[i]? = some o → ∀ e ∈ o.after, Region.binds .any e = true → e.on < i := by
  intro i o ho e he hb
  unfold waitsBB at h
  rw [List.all_eq_true] at h
  have := h i (List.mem_range.2 (Array.getElem?_eq_some_iff.1 ho).1)
  rw [ho] at this
  simp only [Option.map_some, Option.getD_some] at this
  have := Array.all_eq_true_iff_forall_mem.1 this e he
  simpa [hb] using this
/-- The whole region: what holds of it at its beginning, behind each operation, and what that gives at its end. -/
theorem wp_region_invB {id : Nat} {a : Act} {w : World} (I : (Nat → Bool) → Act → World → Prop) (hm : P.follows .mixedOrders = true) (h0 : I (fun _ => false) a w.drew)
    (hac : waitsBB ops = true)
    (hstep : ∀ (i : Nat) (o : Oper), ops[i]? = some o → ∀ (f : Nat → Bool) (a : Act) (w : World), I f a w → f i = false → (∀ e ∈ o.after, Region.binds .any e = true → f e.on = true) →
      ∀ K : Act → World → Prop, (∀ a' w', I (fun j => if j = i then true else f j) a' w' → K a' w') → if Region.wanted o (yielded ops a.tmps) = true then Oper.wp P o a w K Q else K (a.put o.dst undef) w)
    (hdone : ∀ (f : Nat → Bool) (a : Act) (w : World), I f a w → (∀ i, i < ops.size → f i = true) → Q .normal a w) : (Code.region id ops true).wp P Q a w := by
  refine wp_region_any hm ?_
  refine wpAny_invB I hstep hdone (waitsB_of hac) ops.size _ a _ (by simp) ?_ ?_
  · exact Nat.le_trans (List.countP_le_length) (by simp)
  · have e : (fun j => (Array.replicate ops.size false).getD j false) = fun _ => false := by
      funext j
      simp only [Array.getD_eq_getD_getElem?]
      by_cases hj : j < ops.size
      · rw [Array.getElem?_eq_getElem (by simpa using hj)]; simp
      · rw [Array.getElem?_eq_none (by simpa using hj)]; rfl
    rw [e]
    exact h0
theorem wp_region_shut {id : Nat} {a : Act} {w : World} (I : (Nat → Bool) → Act → World → Prop) (hm : P.follows .mixedOrders = true) (h0 : I (fun _ => false) a w.drew)
    (hac : waitsBB ops = true)
    (hstep : ∀ (i : Nat) (o : Oper), ops[i]? = some o → ∀ (f : Nat → Bool) (a : Act) (w : World), I f a w → Shut ops f → f i = false → (∀ e ∈ o.after, Region.binds .any e = true → f e.on = true) →
      ∀ K : Act → World → Prop, (∀ a' w', I (fun j => if j = i then true else f j) a' w' → K a' w') → if Region.wanted o (yielded ops a.tmps) = true then Oper.wp P o a w K Q else K (a.put o.dst undef) w)
    (hdone : ∀ (f : Nat → Bool) (a : Act) (w : World), I f a w → (∀ i, i < ops.size → f i = true) → Q .normal a w) : (Code.region id ops true).wp P Q a w :=
  wp_region_invB (fun f a w => I f a w ∧ Shut ops f) hm ⟨h0, fun _ _ _ h => no h⟩ hac
    (fun i o ho f a w hI hf hd K hK => hstep i o ho f a w hI.1 hI.2 hf hd K (fun a' w' hI' => hK a' w' ⟨hI', shut_step hI.2 i o ho hd⟩))
    (fun f a w hI hall => hdone f a w hI.1 hall)
end
/-- A row of another type lies in none of a machine's lists. -/
theorem OwnN.off {w : World} {B g t : Nat} {v : Value} {ns : List Int} {cs : Array Value} {fr : Nat × Nat} (h : OwnN w B v ns) (hg : w.heap[g]? = some (.cells cs t fr)) (ht : t ≠ 3) : v.ownBlock ≠ some g := fun e => by
  obtain ⟨h1, ⟨h2, h3⟩ | ⟨gm, cap, cur, e2, hB, hh, hn, hm, hs, ht2⟩⟩ := id h
  · rw [h2] at e; cases e
  · rw [e2] at e
    have : gm = g := by simpa [Value.ownBlock] using e
    subst this
    rw [hg] at hh
    injection hh with hh
    injection hh with _ hh
    exact ht hh
theorem OwnM.off {w : World} {B g t : Nat} {x : Mv} {d : Md} {cs : Array Value} {fr : Nat × Nat} (h : OwnM w B x d) (hg : w.heap[g]? = some (.cells cs t fr)) (ht : t ≠ 3) : ∀ b, x.at b → b ≠ g := fun b hb e => by
  subst e
  rcases hb with h1 | h1 | h1 | h1
  · exact h.m.off hg ht h1
  · exact h.r.off hg ht h1
  · exact h.i.off hg ht h1
  · exact h.o.off hg ht h1
theorem OwnM.lay {w : World} {B g t : Nat} {x : Mv} {d : Md} {cs : Array Value} {fr : Nat × Nat} (h : OwnM w B x d) (hg : w.heap[g]? = some (.cells cs t fr)) (ht : t ≠ 3) (c2 : Array Value) : OwnM (w.setRow g c2) B x d :=
  h.keepH fun k hk _ => setRow_other w g k c2 (fun e => h.off hg ht k hk e)
theorem row_lay {w : World} {g g' t t' : Nat} {cs cs' c2 : Array Value} {fr fr' : Nat × Nat} (h : w.heap[g']? = some (.cells cs' t' fr')) (hg : w.heap[g]? = some (.cells cs t fr)) (ht : t' ≠ t) : (w.setRow g c2).heap[g']? = some (.cells cs' t' fr') :=
  (setRow_other w g g' c2 (ne_of_rows h hg (fun e => by injection e with _ e; exact ht e))).trans h
end Go.Proofs.Ytfkmibgamkignaa
