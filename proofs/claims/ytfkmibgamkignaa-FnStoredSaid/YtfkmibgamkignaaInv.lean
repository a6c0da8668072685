/- A region that draws its order, walked once by what holds of every part of it that has come up: an operation at a time, whatever came before. No condition but what stands as hypotheses. -/
import Derived.Orders
import Derived.RegionTactic
namespace Go.Proofs.Ytfkmibgamkignaa

theorem countP_one (p p' : Nat → Bool) (i : Nat) (hp : p i = true) (hi : p' i = false) (hj : ∀ j, j ≠ i → p' j = p j) : ∀ l : List Nat, l.Nodup → i ∈ l → l.countP p' + 1 = l.countP p
  | [], _, h => by cases h
  | b :: l, hn, h => by
    rw [List.nodup_cons] at hn
    by_cases hb : b = i
    · subst hb
      have e : l.countP p' = l.countP p := List.countP_congr fun j hjl => by
        have : j ≠ b := fun e => hn.1 (e ▸ hjl)
        rw [hj j this]
      rw [List.countP_cons, List.countP_cons, hp, hi, e]
      simp
    · have ih := countP_one p p' i hp hi hj l hn.2 (by rcases List.mem_cons.1 h with h | h; exact absurd h.symm hb; exact h)
      rw [List.countP_cons, List.countP_cons, hj b hb]
      omega

theorem getD_set (listed : Array Bool) (i : Nat) (hi : i < listed.size) : (fun j => (listed.setIfInBounds i true).getD j false) = fun j => if j = i then true else listed.getD j false := by
  funext j
  by_cases h : j = i
  · subst h; simp [hi]
  · simp only [Array.getD_eq_getD_getElem?, if_neg h]
    rw [Array.getElem?_setIfInBounds_ne (fun e => h e.symm)]

section
variable {P : Program} {ops : Array Oper} {Q : Exit → Act → World → Prop}
theorem wpAny_inv (I : (Nat → Bool) → Act → World → Prop)
    (hstep : ∀ (i : Nat) (o : Oper), ops[i]? = some o → ∀ (f : Nat → Bool) (a : Act) (w : World), I f a w → f i = false → (∀ e ∈ o.after, Region.binds .any e = true → f e.on = true) →
      ∀ K : Act → World → Prop, (∀ a' w', I (fun j => if j = i then true else f j) a' w' → K a' w') → if Region.wanted o (yielded ops a.tmps) = true then Oper.wp P o a w K Q else K (a.put o.dst undef) w)
    (hdone : ∀ (f : Nat → Bool) (a : Act) (w : World), I f a w → (∀ i, i < ops.size → f i = true) → Q .normal a w)
    (hac : ∀ (i : Nat) (o : Oper), ops[i]? = some o → ∀ e ∈ o.after, e.on < i) :
    ∀ (fuel : Nat) (listed : Array Bool) (a : Act) (w : World), listed.size = ops.size → (List.range ops.size).countP (fun j => !listed.getD j false) ≤ fuel → I (fun j => listed.getD j false) a w → wpAny P .any ops Q fuel listed a w := by
  have hnil : ∀ (listed : Array Bool), listed.size = ops.size → Region.ready .any ops listed = [] → ∀ i, i < ops.size → listed.getD i false = true := by
    intro listed hsz hr i
    induction i using Nat.strongRecOn with
    | ind i ih =>
      intro hi
      cases hb : listed.getD i false with
      | true => rfl
      | false =>
        have hm : i ∈ Region.ready .any ops listed := mem_ready.2 ⟨by
          have hi' : i < listed.size := by omega
          simpa [hi'] using hb, ops[i], by simp [hi], fun e he _ => ih e.on (hac i _ (by simp [hi]) e he) (Nat.lt_trans (hac i _ (by simp [hi]) e he) hi)⟩
        rw [hr] at hm
        cases hm
  intro fuel
  induction fuel with
  | zero =>
    intro listed a w hsz hc hI
    have hall : ∀ i, i < ops.size → listed.getD i false = true := fun i hi => by
      have h0 : (List.range ops.size).countP (fun j => !listed.getD j false) = 0 := by omega
      rw [List.countP_eq_zero] at h0
      have := h0 i (List.mem_range.2 hi)
      simpa using this
    refine ⟨?_, hdone _ a w hI hall⟩
    apply List.eq_nil_iff_forall_not_mem.2
    intro i hi
    obtain ⟨h1, o, ho, _⟩ := mem_ready.1 hi
    have hi' := (Array.getElem?_eq_some_iff.1 ho).1
    have := hall i hi'
    have hi'' : i < listed.size := by omega
    simp [hi''] at this h1
    rw [this] at h1
    cases h1
  | succ fuel ih =>
    intro listed a w hsz hc hI
    refine ⟨fun hr => hdone _ a w hI (hnil listed hsz hr), fun i hi => ?_⟩
    obtain ⟨h1, o, ho, hd⟩ := mem_ready.1 hi
    have hi' := (Array.getElem?_eq_some_iff.1 ho).1
    have hi'' : i < listed.size := by omega
    have hf : listed.getD i false = false := by simpa [hi''] using h1
    refine wpOp_step ho fun K hK => ?_
    refine hstep i o ho _ a w hI hf (fun e he hb => hd e he hb) K fun a' w' hI' => hK a' w' ?_
    refine ih _ a' w' (by simpa using hsz) ?_ (by rw [getD_set listed i hi'']; exact hI')
    have := countP_one (fun j => !listed.getD j false) (fun j => !(listed.setIfInBounds i true).getD j false) i (by simp [hf]) (by
      have := congrFun (getD_set listed i hi'') i
      simp only [if_true] at this
      rw [this]; rfl) (fun j hj => by
      have := congrFun (getD_set listed i hi'') j
      simp only [if_neg hj] at this
      rw [this]) (List.range ops.size) List.nodup_range (List.mem_range.2 hi')
    omega
/-- Each operation waits for earlier ones alone. -/
def waitsB (ops : Array Oper) : Bool := (List.range ops.size).all fun i => ((ops[i]?).map fun o => o.after.all fun e => decide (e.on < i)).getD true
theorem waits_of (h : waitsB ops = true) : ∀ (i : Nat) (o : Oper), ops[i]? = some o → ∀ e ∈ o.after, e.on < i := by
  intro i o ho e he
  unfold waitsB at h
  rw [List.all_eq_true] at h
  have := h i (List.mem_range.2 (Array.getElem?_eq_some_iff.1 ho).1)
  rw [ho] at this
  simp only [Option.map_some, Option.getD_some] at this
  have := Array.all_eq_true_iff_forall_mem.1 this e he
  simpa using this
/-- The whole region: what holds of it at its beginning, behind each operation, and what that gives at its end. -/
theorem wp_region_inv {id : Nat} {a : Act} {w : World} (I : (Nat → Bool) → Act → World → Prop) (hm : P.follows .mixedOrders = true) (h0 : I (fun _ => false) a w.drew)
    (hac : waitsB ops = true)
    (hstep : ∀ (i : Nat) (o : Oper), ops[i]? = some o → ∀ (f : Nat → Bool) (a : Act) (w : World), I f a w → f i = false → (∀ e ∈ o.after, Region.binds .any e = true → f e.on = true) →
      ∀ K : Act → World → Prop, (∀ a' w', I (fun j => if j = i then true else f j) a' w' → K a' w') → if Region.wanted o (yielded ops a.tmps) = true then Oper.wp P o a w K Q else K (a.put o.dst undef) w)
    (hdone : ∀ (f : Nat → Bool) (a : Act) (w : World), I f a w → (∀ i, i < ops.size → f i = true) → Q .normal a w) : (Code.region id ops true).wp P Q a w := by
  refine wp_region_any hm ?_
  refine wpAny_inv I hstep hdone (waits_of hac) ops.size _ a _ (by simp) ?_ ?_
  · exact Nat.le_trans (List.countP_le_length) (by simp)
  · have e : (fun j => (Array.replicate ops.size false).getD j false) = fun _ => false := by
      funext j
      simp only [Array.getD_eq_getD_getElem?]
      by_cases hj : j < ops.size
      · rw [Array.getElem?_eq_getElem (by simpa using hj)]; simp
      · rw [Array.getElem?_eq_none (by simpa using hj)]; rfl
    rw [e]
    exact h0
end
end Go.Proofs.Ytfkmibgamkignaa
