/- Contracts over this seat's translation, laid together; conditions stand as hypotheses of each. -/
import Derived.Test.YtjpbjbnialehbaaGreatDoorSsO
import Derived.OrdersHeld
namespace Go.Proofs.YtjpbjbnialehbaaGreatDoor
open Go.ChangeShapes Go.WideShapes Go.ChangeAt Go.RowKit
set_option maxHeartbeats 16000000
section
section
variable {P : Program} {ops : Array Oper} {Q : Exit → Act → World → Prop} {md : Region.Mode} {S : World → Prop} {last : Nat}
def wpAnyL (P : Program) (md : Region.Mode) (ops : Array Oper) (Q : Exit → Act → World → Prop) (S : World → Prop) (last : Nat) : Nat → Array Bool → Act → World → Prop
 | 0, listed, a, w => Region.ready md ops listed = [] ∧ Q .normal a w
 | fuel + 1, listed, a, w =>
  (Region.ready md ops listed = [] → Q .normal a w) ∧
  ∀ i ∈ Region.ready md ops listed, wpOp P ops Q i (fun a' w' => ((listed.setIfInBounds i true).getD last true = false → S w') ∧ wpAnyL P md ops Q S last fuel (listed.setIfInBounds i true) a' w') a w
theorem wpAny_of_last : ∀ (fuel : Nat) (listed : Array Bool) (a : Act) (w : World), wpAnyL P md ops Q S last fuel listed a w → wpAny P md ops Q fuel listed a w
 | 0, _, _, _, h => h
 | fuel + 1, _, _, _, h => ⟨h.1, fun i hi => wpOp_mono (fun a' w' h' => wpAny_of_last fuel _ a' w' h'.2) (h.2 i hi)⟩
def lastB (md : Region.Mode) (ops : Array Oper) (last i : Nat) : Bool := ((ops[last]?).map fun o => o.after.any fun e => Region.binds md e && e.on == i).getD false
theorem lastB_spec {i : Nat} (h : lastB md ops last i = true) : ∀ ol, ops[last]? = some ol → ∃ e ∈ ol.after, Region.binds md e = true ∧ e.on = i := by
 intro ol ho
 unfold lastB at h
 rw [ho] at h
 simp only [Option.map_some, Option.getD_some] at h
 obtain ⟨e, he, hb⟩ := Array.any_eq_true'.1 h
 simp only [Bool.and_eq_true, beq_iff_eq] at hb
 exact ⟨e, he, hb.1, hb.2⟩
theorem wpAnyL_firstS {i : Nat} {oi : Oper} {v : Value} (hi : ops[i]? = some oi) (hsel : ∀ (j : Nat) (o : Oper) cs b, ops[j]? = some o → o.op ≠ .select cs b)
  (hQ : ∀ c a w, Q (.panic c) (a.put oi.dst v) w → Q (.panic c) a w) (hil : i ≠ last) (hl : ∀ ol, ops[last]? = some ol → ∃ e ∈ ol.after, Region.binds md e = true ∧ e.on = i) :
  ∀ (fuel : Nat) (listed : Array Bool) (a : Act) (w : World),
   (∀ j oj, ops[j]? = some oj → j ≠ i → listed.getD j true = false → (∀ e ∈ oj.after, Region.binds md e = true → e.on ≠ i) → oi.apart ops oj = true) →
   i ∈ Region.ready md ops listed → YieldsIf P ops S oi v a → S w → listed.getD last true = false →
   wpAnyL P md ops Q S last fuel (listed.setIfInBounds i true) (a.put oi.dst v) w → wpAnyL P md ops Q S last (fuel + 1) listed a w := by
 intro fuel
 induction fuel with
 | zero =>
  intro listed a w _ hr hy hS hp H
  refine ⟨fun h => (by rw [h] at hr; cases hr), fun j hj => ?_⟩
  by_cases hji : j = i
  · subst hji; exact hy.wpOp hi hS ⟨fun _ => hS, H⟩
  ·
   have := ready_mono hj hji
   rw [H.1] at this
   cases this
 | succ fuel ih =>
  intro listed a w hfree hr hy hS hp H
  refine ⟨fun h => (by rw [h] at hr; cases hr), fun j hj => ?_⟩
  by_cases hji : j = i
  · subst hji; exact hy.wpOp hi hS ⟨fun _ => hS, H⟩
  ·
   have h1 := H.2 j (ready_mono hj hji)
   obtain ⟨hjun, oj, hoj, hall⟩ := mem_ready.1 hj
   have hnot : ∀ e ∈ oj.after, Region.binds md e = true → e.on ≠ i := fun e he hb heq => by
    have h1 := hall e he hb
    have h0 := (mem_ready.1 hr).1
    rw [heq] at h1
    rcases Nat.lt_or_ge i listed.size with h' | h'
    · simp [h'] at h0 h1; rw [h0] at h1; cases h1
    · simp [Array.getElem?_eq_none h'] at h1
   have hjl : j ≠ last := fun e => by
    subst e
    obtain ⟨e, he, hb, ho⟩ := hl oj hoj
    exact hnot e he hb ho
   have h2 := wpOp_putIf hoj (hfree j oj hoj hji hjun hnot) (fun cs b => hsel i oi cs b hi) (fun cs b => hsel j oj cs b hoj) hQ hy h1
   have hfree' : ∀ k ok, ops[k]? = some ok → k ≠ i → (listed.setIfInBounds j true).getD k true = false →
     (∀ e ∈ ok.after, Region.binds md e = true → e.on ≠ i) → oi.apart ops ok = true := fun k ok hk hki hun hno => by
    refine hfree k ok hk hki ?_ hno
    by_cases hjk : j = k
    · subst hjk; exact hjun
    · rw [getD_set_ne true hjk] at hun; exact hun
   have hp' : (listed.setIfInBounds j true).getD last true = false := by rw [getD_set_ne true hjl]; exact hp
   have hp2 : ((listed.setIfInBounds i true).setIfInBounds j true).getD last true = false := by rw [getD_set_ne true hjl, getD_set_ne true hil]; exact hp
   refine wpOp_mono (fun a' w' h3 => ⟨fun _ => h3.2.1 hp2, ih (listed.setIfInBounds j true) a' w' hfree' (ready_mono hr (Ne.symm hji)) h3.1 (h3.2.1 hp2) hp' ?_⟩) h2
   rw [Array.setIfInBounds_comm _ _ hji]
   exact h3.2.2
theorem wpAnyL_firstW {i : Nat} {oi : Oper} {v : Value} (hi : ops[i]? = some oi) (hsel : ∀ (j : Nat) (o : Oper) cs b, ops[j]? = some o → o.op ≠ .select cs b)
  (hQ : ∀ c a w, Q (.panic c) (a.put oi.dst v) w → Q (.panic c) a w) (hil : i ≠ last) :
  ∀ (fuel : Nat) (listed : Array Bool) (a : Act) (w : World),
   (∀ j oj, ops[j]? = some oj → j ≠ i → listed.getD j true = false → (∀ e ∈ oj.after, Region.binds md e = true → e.on ≠ i) → oi.apart ops oj = true) →
   i ∈ Region.ready md ops listed → YieldsIf P ops (fun _ => True) oi v a → (listed.getD last true = false → S w) →
   wpAnyL P md ops Q S last fuel (listed.setIfInBounds i true) (a.put oi.dst v) w → wpAnyL P md ops Q S last (fuel + 1) listed a w := by
 intro fuel
 induction fuel with
 | zero =>
  intro listed a w _ hr hy hS H
  refine ⟨fun h => (by rw [h] at hr; cases hr), fun j hj => ?_⟩
  by_cases hji : j = i
  · subst hji; exact hy.wpOp hi trivial ⟨fun h => hS (by rw [getD_set_ne true hil] at h; exact h), H⟩
  ·
   have := ready_mono hj hji
   rw [H.1] at this
   cases this
 | succ fuel ih =>
  intro listed a w hfree hr hy hS H
  refine ⟨fun h => (by rw [h] at hr; cases hr), fun j hj => ?_⟩
  by_cases hji : j = i
  · subst hji; exact hy.wpOp hi trivial ⟨fun h => hS (by rw [getD_set_ne true hil] at h; exact h), H⟩
  ·
   have h1 := H.2 j (ready_mono hj hji)
   obtain ⟨hjun, oj, hoj, hall⟩ := mem_ready.1 hj
   have hnot : ∀ e ∈ oj.after, Region.binds md e = true → e.on ≠ i := fun e he hb heq => by
    have h1 := hall e he hb
    have h0 := (mem_ready.1 hr).1
    rw [heq] at h1
    rcases Nat.lt_or_ge i listed.size with h' | h'
    · simp [h'] at h0 h1; rw [h0] at h1; cases h1
    · simp [Array.getElem?_eq_none h'] at h1
   have h2 := wpOp_putIf hoj (hfree j oj hoj hji hjun hnot) (fun cs b => hsel i oi cs b hi) (fun cs b => hsel j oj cs b hoj) hQ hy h1
   have hfree' : ∀ k ok, ops[k]? = some ok → k ≠ i → (listed.setIfInBounds j true).getD k true = false →
     (∀ e ∈ ok.after, Region.binds md e = true → e.on ≠ i) → oi.apart ops ok = true := fun k ok hk hki hun hno => by
    refine hfree k ok hk hki ?_ hno
    by_cases hjk : j = k
    · subst hjk; exact hjun
    · rw [getD_set_ne true hjk] at hun; exact hun
   have hs2 : ∀ w', ((((listed.setIfInBounds i true).setIfInBounds j true).getD last true = false) → S w') → ((listed.setIfInBounds j true).getD last true = false → S w') := fun w' h hp => h (by
    rw [Array.setIfInBounds_comm _ _ (Ne.symm hji), getD_set_ne true hil]; exact hp)
   refine wpOp_mono (fun a' w' h3 => ⟨hs2 w' h3.2.1, ih (listed.setIfInBounds j true) a' w' hfree' (ready_mono hr (Ne.symm hji)) h3.1 (hs2 w' h3.2.1) ?_⟩) h2
   rw [Array.setIfInBounds_comm _ _ hji]
   exact h3.2.2
theorem wpAnyL_takeS {i : Nat} {oi : Oper} {v : Value} {fuel : Nat} {listed : Array Bool} {a : Act} {w : World} (hi : ops[i]? = some oi)
  (hs : Region.noSelect ops = true) (hf : Region.free md ops listed i = true) (hr : (Region.ready md ops listed).contains i = true) (hb : lastB md ops last i = true) (hl : (decide (i ≠ last) && !listed.getD last true) = true)
  (hQ : ∀ c a w, Q (.panic c) (a.put oi.dst v) w → Q (.panic c) a w) (hy : YieldsIf P ops S oi v a) (hS : S w)
  (h : wpAnyL P md ops Q S last fuel (listed.setIfInBounds i true) (a.put oi.dst v) w) : wpAnyL P md ops Q S last (fuel + 1) listed a w := by
 simp only [Bool.and_eq_true, decide_eq_true_eq, Bool.not_eq_true'] at hl
 exact wpAnyL_firstS hi (Region.noSelect_spec hs) hQ hl.1 (lastB_spec hb) fuel listed a w (Region.free_spec hi hf) (by simpa using hr) hy hS hl.2 h
theorem wpAnyL_takeW {i : Nat} {oi : Oper} {v : Value} {fuel : Nat} {listed : Array Bool} {a : Act} {w : World} (hi : ops[i]? = some oi)
  (hs : Region.noSelect ops = true) (hf : Region.free md ops listed i = true) (hr : (Region.ready md ops listed).contains i = true) (hl : decide (i ≠ last) = true)
  (hQ : ∀ c a w, Q (.panic c) (a.put oi.dst v) w → Q (.panic c) a w) (hy : YieldsIf P ops (fun _ => True) oi v a) (hS : S w ∨ listed.getD last true = true)
  (h : wpAnyL P md ops Q S last fuel (listed.setIfInBounds i true) (a.put oi.dst v) w) : wpAnyL P md ops Q S last (fuel + 1) listed a w :=
 wpAnyL_firstW hi (Region.noSelect_spec hs) hQ (by simpa using hl) fuel listed a w (Region.free_spec hi hf) (by simpa using hr) hy (fun hp => hS.elim id (fun e => by rw [e] at hp; cases hp)) h
def waitB (md : Region.Mode) (ops : Array Oper) (i : Nat) : Nat → Nat → Bool
 | 0, _ => false
 | n + 1, a => ((ops[a]?).map fun o => o.after.any fun e => Region.binds md e && (e.on == i || waitB md ops i n e.on)).getD false
def closedB (md : Region.Mode) (ops : Array Oper) (listed : Array Bool) : Bool := (List.range ops.size).all fun j => !listed.getD j false || ((ops[j]?).map fun o => o.after.all fun e => !Region.binds md e || listed.getD e.on false).getD true
def Closed (md : Region.Mode) (ops : Array Oper) (listed : Array Bool) : Prop := ∀ j o, ops[j]? = some o → listed.getD j false = true → ∀ e ∈ o.after, Region.binds md e = true → listed.getD e.on false = true
theorem closed_of {listed : Array Bool} (h : closedB md ops listed = true) : Closed md ops listed := by
 intro j o ho hj e he hb
 unfold closedB at h
 rw [List.all_eq_true] at h
 have q := h j (List.mem_range.2 (Array.getElem?_eq_some_iff.1 ho).1)
 rw [hj, ho] at q
 simp only [Bool.not_true, Bool.false_or, Option.map_some, Option.getD_some] at q
 have r := Array.all_eq_true_iff_forall_mem.1 q e he
 rw [hb] at r
 simpa using r
theorem wait_listed {listed : Array Bool} (hc : Closed md ops listed) {i : Nat} : ∀ (n a : Nat) (o : Oper), waitB md ops i n a = true → ops[a]? = some o → (∀ e ∈ o.after, Region.binds md e = true → listed.getD e.on false = true) → listed.getD i false = true
 | 0, _, _, h, _, _ => by simp [waitB] at h
 | n + 1, a, o, h, ho, hd => by
  unfold waitB at h
  rw [ho] at h
  simp only [Option.map_some, Option.getD_some] at h
  obtain ⟨e, he, hb⟩ := Array.any_eq_true'.1 h
  simp only [Bool.and_eq_true, Bool.or_eq_true, beq_iff_eq] at hb
  have l := hd e he hb.1
  rcases hb.2 with h1 | h1
  · rw [← h1]; exact l
  ·
   cases ho2 : ops[e.on]? with
   | none => cases n <;> simp [waitB, ho2] at h1
   | some o2 => exact wait_listed hc n e.on o2 h1 ho2 (hc e.on o2 ho2 l)
theorem Closed.step {listed : Array Bool} (h : Closed md ops listed) {j : Nat} (hj : j ∈ Region.ready md ops listed) : Closed md ops (listed.setIfInBounds j true) := by
 intro k o ho hk e he hb
 obtain ⟨hjun, oj, hoj, hall⟩ := mem_ready.1 hj
 have key : listed.getD e.on false = true := by
  by_cases hkj : k = j
  ·
   subst hkj
   rw [hoj] at ho
   cases ho
   exact hall e he hb
  ·
   refine h k o ho ?_ e he hb
   simp only [Array.getD_eq_getD_getElem?] at hk ⊢
   rw [Array.getElem?_setIfInBounds_ne (fun c => hkj c.symm)] at hk
   exact hk
 by_cases hej : e.on = j
 ·
  rw [hej]
  have hlt : j < listed.size := by
   rcases Nat.lt_or_ge j listed.size with h' | h'
   · exact h'
   ·
    rw [← hej] at h'
    simp [Array.getElem?_eq_none h'] at key
  simp [hlt]
 ·
  simp only [Array.getD_eq_getD_getElem?] at key ⊢
  rw [Array.getElem?_setIfInBounds_ne (fun c => hej c.symm)]
  exact key
theorem wpAnyL_firstT {i : Nat} {oi : Oper} {v : Value} (hi : ops[i]? = some oi) (hsel : ∀ (j : Nat) (o : Oper) cs b, ops[j]? = some o → o.op ≠ .select cs b)
  (hQ : ∀ c a w, Q (.panic c) (a.put oi.dst v) w → Q (.panic c) a w) (hil : i ≠ last) (n : Nat) (hl : waitB md ops i n last = true) :
  ∀ (fuel : Nat) (listed : Array Bool) (a : Act) (w : World),
   (∀ j oj, ops[j]? = some oj → j ≠ i → listed.getD j true = false → (∀ e ∈ oj.after, Region.binds md e = true → e.on ≠ i) → oi.apart ops oj = true) →
   i ∈ Region.ready md ops listed → YieldsIf P ops S oi v a → S w → listed.getD last true = false → Closed md ops listed →
   wpAnyL P md ops Q S last fuel (listed.setIfInBounds i true) (a.put oi.dst v) w → wpAnyL P md ops Q S last (fuel + 1) listed a w := by
 intro fuel
 induction fuel with
 | zero =>
  intro listed a w _ hr hy hS hp hcl H
  refine ⟨fun h => (by rw [h] at hr; cases hr), fun j hj => ?_⟩
  by_cases hji : j = i
  · subst hji; exact hy.wpOp hi hS ⟨fun _ => hS, H⟩
  ·
   have := ready_mono hj hji
   rw [H.1] at this
   cases this
 | succ fuel ih =>
  intro listed a w hfree hr hy hS hp hcl H
  refine ⟨fun h => (by rw [h] at hr; cases hr), fun j hj => ?_⟩
  by_cases hji : j = i
  · subst hji; exact hy.wpOp hi hS ⟨fun _ => hS, H⟩
  ·
   have h1 := H.2 j (ready_mono hj hji)
   obtain ⟨hjun, oj, hoj, hall⟩ := mem_ready.1 hj
   have hiu : listed.getD i false ≠ true := fun c => by
    have h0 := (mem_ready.1 hr).1
    rcases Nat.lt_or_ge i listed.size with h' | h'
    · simp [h'] at h0 c; rw [h0] at c; cases c
    · simp [Array.getElem?_eq_none h'] at c
   have hnot : ∀ e ∈ oj.after, Region.binds md e = true → e.on ≠ i := fun e he hb heq => hiu (by rw [← heq]; exact hall e he hb)
   have hjl : j ≠ last := fun e => by
    subst e
    exact hiu (wait_listed hcl n j oj hl hoj hall)
   have h2 := wpOp_putIf hoj (hfree j oj hoj hji hjun hnot) (fun cs b => hsel i oi cs b hi) (fun cs b => hsel j oj cs b hoj) hQ hy h1
   have hfree' : ∀ k ok, ops[k]? = some ok → k ≠ i → (listed.setIfInBounds j true).getD k true = false →
     (∀ e ∈ ok.after, Region.binds md e = true → e.on ≠ i) → oi.apart ops ok = true := fun k ok hk hki hun hno => by
    refine hfree k ok hk hki ?_ hno
    by_cases hjk : j = k
    · subst hjk; exact hjun
    · rw [getD_set_ne true hjk] at hun; exact hun
   have hp' : (listed.setIfInBounds j true).getD last true = false := by rw [getD_set_ne true hjl]; exact hp
   have hp2 : ((listed.setIfInBounds i true).setIfInBounds j true).getD last true = false := by rw [getD_set_ne true hjl, getD_set_ne true hil]; exact hp
   refine wpOp_mono (fun a' w' h3 => ⟨fun _ => h3.2.1 hp2, ih (listed.setIfInBounds j true) a' w' hfree' (ready_mono hr (Ne.symm hji)) h3.1 (h3.2.1 hp2) hp' (hcl.step hj) ?_⟩) h2
   rw [Array.setIfInBounds_comm _ _ hji]
   exact h3.2.2
def chkT (md : Region.Mode) (ops : Array Oper) (last i : Nat) (listed : Array Bool) : Bool := Region.noSelect ops && (Region.free md ops listed i && ((Region.ready md ops listed).contains i && (waitB md ops i ops.size last && (decide (i ≠ last) && (!listed.getD last true && closedB md ops listed)))))
theorem tkT {i : Nat} {oi : Oper} {v : Value} {fuel : Nat} {listed : Array Bool} {a : Act} {w : World} (hi : ops[i]? = some oi) (hc : chkT md ops last i listed = true)
  (hQ : ∀ c a w, Q (.panic c) (a.put oi.dst v) w → Q (.panic c) a w) (hy : YieldsIf P ops S oi v a) (hS : S w)
  (h : wpAnyL P md ops Q S last fuel (listed.setIfInBounds i true) (a.put oi.dst v) w) : wpAnyL P md ops Q S last (fuel + 1) listed a w := by
 unfold chkT at hc
 simp only [Bool.and_eq_true, decide_eq_true_eq, Bool.not_eq_true'] at hc
 obtain ⟨hs, hf, hr, hb, hl, hp, hcl⟩ := hc
 exact wpAnyL_firstT hi (Region.noSelect_spec hs) hQ hl ops.size hb fuel listed a w (Region.free_spec hi hf) (by simpa using hr) hy hS hp (closed_of hcl) h
def chkW (md : Region.Mode) (ops : Array Oper) (last i : Nat) (listed : Array Bool) : Bool := Region.noSelect ops && (Region.free md ops listed i && ((Region.ready md ops listed).contains i && decide (i ≠ last)))
theorem tkW {i : Nat} {oi : Oper} {v : Value} {fuel : Nat} {listed : Array Bool} {a : Act} {w : World} (hi : ops[i]? = some oi) (hc : chkW md ops last i listed = true)
  (hQ : ∀ c a w, Q (.panic c) (a.put oi.dst v) w → Q (.panic c) a w) (hy : YieldsIf P ops (fun _ => True) oi v a) (hS : S w ∨ listed.getD last true = true)
  (h : wpAnyL P md ops Q S last fuel (listed.setIfInBounds i true) (a.put oi.dst v) w) : wpAnyL P md ops Q S last (fuel + 1) listed a w := by
 unfold chkW at hc
 simp only [Bool.and_eq_true, decide_eq_true_eq] at hc
 exact wpAnyL_takeW hi hc.1 hc.2.1 hc.2.2.1 (by simpa using hc.2.2.2) hQ hy hS h
theorem wpAnyL_one {i : Nat} {o : Oper} {fuel : Nat} {listed : Array Bool} {a : Act} {w : World} (hr : Region.ready md ops listed = [i]) (ho : ops[i]? = some o)
  (h : ∀ K' : Act → World → Prop, Shut (∀ a w, ((listed.setIfInBounds i true).getD last true = false → S w) → wpAnyL P md ops Q S last fuel (listed.setIfInBounds i true) a w → K' a w) → if Region.wanted o (yielded ops a.tmps) = true then Oper.wp P o a w K' Q else K' (a.put o.dst undef) w) :
  wpAnyL P md ops Q S last (fuel + 1) listed a w := by
 refine ⟨fun h0 => (by rw [hr] at h0; cases h0), fun j hj => ?_⟩
 rw [hr] at hj
 obtain rfl : j = i := by simpa using hj
 exact wpOp_step ho (fun K' hK => h K' (fun a w hS hW => hK a w ⟨hS, hW⟩))
theorem wpAnyL_done {listed : Array Bool} {a : Act} {w : World} (hr : Region.ready md ops listed = []) (h : Q .normal a w) : ∀ fuel, wpAnyL P md ops Q S last fuel listed a w
 | 0 => ⟨hr, h⟩
 | _ + 1 => ⟨fun _ => h, by rw [hr]; simp⟩
theorem wp_region_last {id : Nat} {a : Act} {w : World} (S : World → Prop) (last : Nat) (hm : P.follows .mixedOrders = true) (h : wpAnyL P .any ops Q S last ops.size (Array.replicate ops.size false) a w.drew) : (Code.region id ops true).wp P Q a w :=
 wp_region_any hm (wpAny_of_last _ _ _ _ h)
end
section
variable {P : Program} {ops : Array Oper} {Q : Exit → Act → World → Prop} {md : Region.Mode} {S : World → Prop} {last : Nat} {oi : Oper} {fuel : Nat} {listed : Array Bool} {a : Act} {w : World}
theorem twA (i : Nat) (v : Value) (hi : ops[i]? = some oi) (hy : YieldsIf P ops (fun _ => True) oi v a) (hS : S w ∨ listed.getD last true = true) (h : wpAnyL P md ops Q S last fuel (listed.setIfInBounds i true) (a.put oi.dst v) w) (hs : Region.noSelect ops = true := by kernel_rfl) (hf : Region.free md ops listed i = true := by kernel_rfl) (hr : (Region.ready md ops listed).contains i = true := by kernel_rfl) (hl : decide (i ≠ last) = true := by kernel_rfl) (hQ : ∀ c a w, Q (.panic c) (a.put oi.dst v) w → Q (.panic c) a w := by exact fun _ _ _ h => h) : wpAnyL P md ops Q S last (fuel + 1) listed a w := wpAnyL_takeW hi hs hf hr hl hQ hy hS h
theorem twB (i : Nat) (v : Value) (hi : ops[i]? = some oi) (hS : S w ∨ listed.getD last true = true) (h : wpAnyL P md ops Q S last fuel (listed.setIfInBounds i true) (a.put oi.dst v) w) (hs : Region.noSelect ops = true := by kernel_rfl) (hf : Region.free md ops listed i = true := by kernel_rfl) (hr : (Region.ready md ops listed).contains i = true := by kernel_rfl) (hl : decide (i ≠ last) = true := by kernel_rfl) (hQ : ∀ c a w, Q (.panic c) (a.put oi.dst v) w → Q (.panic c) a w := by exact fun _ _ _ h => h) (hy : YieldsIf P ops (fun _ => True) oi v a := by exact .inl ⟨by rfl, fun w hc => by clear hc; go_simp⟩) : wpAnyL P md ops Q S last (fuel + 1) listed a w := wpAnyL_takeW hi hs hf hr hl hQ hy hS h
theorem tsA (i : Nat) (v : Value) (hi : ops[i]? = some oi) (hy : YieldsIf P ops S oi v a) (hS : S w) (h : wpAnyL P md ops Q S last fuel (listed.setIfInBounds i true) (a.put oi.dst v) w) (hs : Region.noSelect ops = true := by kernel_rfl) (hf : Region.free md ops listed i = true := by kernel_rfl) (hr : (Region.ready md ops listed).contains i = true := by kernel_rfl) (hb : lastB md ops last i = true := by kernel_rfl) (hl : (decide (i ≠ last) && !listed.getD last true) = true := by kernel_rfl) (hQ : ∀ c a w, Q (.panic c) (a.put oi.dst v) w → Q (.panic c) a w := by exact fun _ _ _ h => h) : wpAnyL P md ops Q S last (fuel + 1) listed a w := wpAnyL_takeS hi hs hf hr hb hl hQ hy hS h
theorem tsB (i : Nat) (v : Value) (hi : ops[i]? = some oi) (hS : S w) (h : wpAnyL P md ops Q S last fuel (listed.setIfInBounds i true) (a.put oi.dst v) w) (hs : Region.noSelect ops = true := by kernel_rfl) (hf : Region.free md ops listed i = true := by kernel_rfl) (hr : (Region.ready md ops listed).contains i = true := by kernel_rfl) (hb : lastB md ops last i = true := by kernel_rfl) (hl : (decide (i ≠ last) && !listed.getD last true) = true := by kernel_rfl) (hQ : ∀ c a w, Q (.panic c) (a.put oi.dst v) w → Q (.panic c) a w := by exact fun _ _ _ h => h) (hy : YieldsIf P ops S oi v a := by exact .inl ⟨by rfl, fun w hc => by clear hc; go_simp⟩) : wpAnyL P md ops Q S last (fuel + 1) listed a w := wpAnyL_takeS hi hs hf hr hb hl hQ hy hS h
theorem tvA (i : Nat) (v : Value) (hi : ops[i]? = some oi) (hy : YieldsIf P ops (fun _ => True) oi v a) (hS : S w ∨ listed.getD last true = true) (h : wpAnyL P md ops Q S last fuel (listed.setIfInBounds i true) (a.put oi.dst v) w) (hc : chkW md ops last i listed = true := by kernel_rfl) (hQ : ∀ c a w, Q (.panic c) (a.put oi.dst v) w → Q (.panic c) a w := by exact fun _ _ _ h => h) : wpAnyL P md ops Q S last (fuel + 1) listed a w := tkW hi hc hQ hy hS h
theorem tvB (i : Nat) (v : Value) (hi : ops[i]? = some oi) (hS : S w ∨ listed.getD last true = true) (h : wpAnyL P md ops Q S last fuel (listed.setIfInBounds i true) (a.put oi.dst v) w) (hc : chkW md ops last i listed = true := by kernel_rfl) (hQ : ∀ c a w, Q (.panic c) (a.put oi.dst v) w → Q (.panic c) a w := by exact fun _ _ _ h => h) (hy : YieldsIf P ops (fun _ => True) oi v a := by exact .inl ⟨by rfl, fun w hc => by clear hc; go_simp⟩) : wpAnyL P md ops Q S last (fuel + 1) listed a w := tkW hi hc hQ hy hS h
theorem ttA (i : Nat) (v : Value) (hi : ops[i]? = some oi) (hy : YieldsIf P ops S oi v a) (hS : S w) (h : wpAnyL P md ops Q S last fuel (listed.setIfInBounds i true) (a.put oi.dst v) w) (hc : chkT md ops last i listed = true := by kernel_rfl) (hQ : ∀ c a w, Q (.panic c) (a.put oi.dst v) w → Q (.panic c) a w := by exact fun _ _ _ h => h) : wpAnyL P md ops Q S last (fuel + 1) listed a w := tkT hi hc hQ hy hS h
theorem ttB (i : Nat) (v : Value) (hi : ops[i]? = some oi) (hS : S w) (h : wpAnyL P md ops Q S last fuel (listed.setIfInBounds i true) (a.put oi.dst v) w) (hc : chkT md ops last i listed = true := by kernel_rfl) (hQ : ∀ c a w, Q (.panic c) (a.put oi.dst v) w → Q (.panic c) a w := by exact fun _ _ _ h => h) (hy : YieldsIf P ops S oi v a := by exact .inl ⟨by rfl, fun w hc => by clear hc; go_simp⟩) : wpAnyL P md ops Q S last (fuel + 1) listed a w := tkT hi hc hQ hy hS h
end
end
set_option linter.unusedVariables false
set_option maxRecDepth 8000
set_option linter.unusedSimpArgs false
section
def Ms.rg (t : Ms) (k : Nat) (v : Int) : Ms := { t with d := t.d.reg k v }
theorem Ms.rg_len (t : Ms) (k : Nat) (v : Int) : (t.rg k v).d.r.length = t.d.r.length := by unfold Ms.rg Md.reg; simp
section
variable {w : World} {B g gr rc : Nat} {y : Mv} {t : Ms} {st : Int}
theorem Sm.regs (h : Sm w B g y t st) (h8 : t.d.r.length = 8) : ∃ gr rc, y.r = ⟨some ⟨gr, 0, none⟩, 8, rc⟩ := by
 obtain ⟨a, b, e⟩ := sl_formP h.own.r (by omega)
 exact ⟨a, b, by rw [e, h8]⟩
theorem at_r (er : y.r = ⟨some ⟨gr, 0, none⟩, 8, rc⟩) : y.at gr := .inr (.inl (by rw [er]; rfl))
theorem Sm.setR (h : Sm w B g y t st) (er : y.r = ⟨some ⟨gr, 0, none⟩, 8, rc⟩) (k : Nat) (v : Int) (hk : k < t.d.r.length) :
  Sm (w.setCell ⟨gr, k, none⟩ (.int .i64 v)) B g y (t.rg k v) st ∧ Fm w (w.setCell ⟨gr, k, none⟩ (.int .i64 v)) g y y ∧ w.cell? ⟨gr, k, none⟩ = some (.int .i64 (nAt t.d.r k)) ∧ w.frozen? ⟨gr, k, none⟩ = false := by
 obtain ⟨o3, g3, _, _, c1, c2⟩ := own_setR h.own er k v hk
 exact ⟨⟨row_past h.row g3 (h.ne gr (at_r er)), o3, h.fl, h.lo, h.ne⟩, Fm.grown g3 (.inr (at_r er)) (fun _ e => e), c1, c2⟩
theorem Sm.rcell (h : Sm w B g y t st) (er : y.r = ⟨some ⟨gr, 0, none⟩, 8, rc⟩) : w.cell? ⟨g, 1, none⟩ = some (.slice (some ⟨gr, 0, none⟩) 8 rc) := by rw [row_r h.row, er]
theorem Sm.flz (h : Sm w B g y t st) : t.n = y.n ∧ t.z = y.z ∧ t.v = y.v ∧ t.c = y.c := by
 have := h.fl
 unfold Mv.fl Ms.fl at this
 simp at this
 exact ⟨this.1.symm, this.2.1.symm, this.2.2.1.symm, this.2.2.2.1.symm⟩
end
theorem ins_n {w : World} {g : Nat} {op a1 a2 a3 b1 b2 b3 n : Int} (h : w.heap[g]? = some (.cells #[.int .i64 op, .int .i64 a1, .int .i64 a2, .int .i64 a3, .int .i64 b1, .int .i64 b2, .int .i64 b3, .int .i64 n] 69 (0, 0))) : w.cell? ⟨g, 7, none⟩ = some (.int .i64 n) := (cell_of_row w g 7 _ 69 _ h).trans rfl
theorem ins_op {w : World} {g : Nat} {op a1 a2 a3 b1 b2 b3 n : Int} (h : w.heap[g]? = some (.cells #[.int .i64 op, .int .i64 a1, .int .i64 a2, .int .i64 a3, .int .i64 b1, .int .i64 b2, .int .i64 b3, .int .i64 n] 69 (0, 0))) : w.cell? ⟨g, 0, none⟩ = some (.int .i64 op) := (cell_of_row w g 0 _ 69 _ h).trans rfl
def Ms.goes (t : Ms) (op : Nat) : Bool := match op with | 18 => !t.z | 19 => t.z | 20 => t.n == t.v | 21 => t.n != t.v | _ => true
def Ms.branch (t : Ms) (op : Nat) (n : Int) : Ms := if t.goes op = true then t.rg 7 ((nAt t.d.r 7 + 2 * n) % 65536) else t
def BrIs (B g : Nat) (y : Mv) (t t2 : Ms) (st op a1 a2 a3 b1 b2 b3 n : Int) (w : World) : Prop :=
 Calls Tryz.prog 95 #[.pointer (some ⟨g, 0, none⟩), .agg #[.int .i64 op, .int .i64 a1, .int .i64 a2, .int .i64 a3, .int .i64 b1, .int .i64 b2, .int .i64 b3, .int .i64 n]] w fun e w' => e = .returned (.tuple #[]) ∧ Sm w' B g y t2 st ∧ Fm w w' g y y
theorem br_17 (B g : Nat) (y : Mv) (t : Ms) (st a1 a2 a3 b1 b2 b3 n : Int) (w : World) (h : Sm w B g y t st) (hk : Dk t.d) (hn : -1000 ≤ n ∧ n ≤ 1000) : BrIs B g y t (t.branch 17 n) st 17 a1 a2 a3 b1 b2 b3 n w := by
 obtain ⟨n0, n1⟩ := hn
 obtain ⟨gr, rc, er⟩ := h.regs hk.rl
 obtain ⟨v0, v1⟩ := hk.rw _ (nAt_mem (show 7 < t.d.r.length by have := hk.rl; omega))
 have GR := hide (show gr < w.heap.size from (h.own.lo (at_r er)).2)
 have H0 := hide (h.later (below_new w (Obj.cells #[.int .i64 17, .int .i64 a1, .int .i64 a2, .int .i64 a3, .int .i64 b1, .int .i64 b2, .int .i64 b3, .int .i64 n] 69)))
 have F0 := hide (Fm.of (g := g) (y := y) (below_new w (Obj.cells #[.int .i64 17, .int .i64 a1, .int .i64 a2, .int .i64 a3, .int .i64 b1, .int .i64 b2, .int .i64 b3, .int .i64 n] 69)))
 have R0 := hide (heap_alloc_last w (Obj.cells #[.int .i64 17, .int .i64 a1, .int .i64 a2, .int .i64 a3, .int .i64 b1, .int .i64 b2, .int .i64 b3, .int .i64 n] 69))
 obtain ⟨tn, tz, tv, -⟩ := h.flz
 have WR := hide (fun v => wrapS_any (nAt t.d.r 7 + 2 * n) v)
 have HW := hide (show IntKind.i64.wrap (nAt t.d.r 7 + 2 * n) = nAt t.d.r 7 + 2 * n by rw [IntKind.wrap_i64]; omega)
 have HW2 := hide (show IntKind.i64.wrap (2 * n) = 2 * n by rw [IntKind.wrap_i64]; omega)
 have SR := hide (fun v (p : Sm v B g y t st) => And.intro (p.rcell er) (p.setR er 7 ((nAt t.d.r 7 + 2 * n) % 65536) (by have := hk.rl; omega)))
 have o0 := ins_op (uh R0)
 unfold BrIs Ms.branch Ms.goes
 simp only [tn, tz, tv]
 generalize t.rg 7 ((nAt t.d.r 7 + 2 * n) % 65536) = t7 at SR ⊢
 generalize (nAt t.d.r 7 + 2 * n) % 65536 = x at WR SR
 generalize nAt t.d.r 7 = v7 at WR SR HW
 clear h hk er tn tz tv v0 v1
 simp only [if_true]
 go_enter Tryz.func95, Tryz.ntmps95
 go_wp2_with fail
 have HD := hide ((uh H0).later (below_drew (w := (w.alloc (Obj.cells #[.int .i64 17, .int .i64 a1, .int .i64 a2, .int .i64 a3, .int .i64 b1, .int .i64 b2, .int .i64 b3, .int .i64 n] 69)))))
 have FD := hide ((uh F0).trans (Fm.of (below_drew (w := (w.alloc (Obj.cells #[.int .i64 17, .int .i64 a1, .int .i64 a2, .int .i64 a3, .int .i64 b1, .int .i64 b2, .int .i64 b3, .int .i64 n] 69))))))
 have RD := hide (row_lat (uh R0) (below_drew (w := (w.alloc (Obj.cells #[.int .i64 17, .int .i64 a1, .int .i64 a2, .int .i64 a3, .int .i64 b1, .int .i64 b2, .int .i64 b3, .int .i64 n] 69)))))
 have c2 := ins_n (uh RD)
 obtain ⟨c1, h1, f1, c3, c4⟩ := uh SR _ (uh HD)
 have H1 := hide h1
 have F1 := hide ((uh FD).trans f1)
 clear h1 f1 SR
 refine wp_region_last (fun v => v = (w.alloc (Obj.cells #[.int .i64 17, .int .i64 a1, .int .i64 a2, .int .i64 a3, .int .i64 b1, .int .i64 b2, .int .i64 b3, .int .i64 n] 69)).drew) 16 (by kernel_rfl) ?_
 generalize (w.alloc (Obj.cells #[.int .i64 17, .int .i64 a1, .int .i64 a2, .int .i64 a3, .int .i64 b1, .int .i64 b2, .int .i64 b3, .int .i64 n] 69)).drew = wd at HD FD RD H1 F1 c1 c2 c3 c4 ⊢
 refine tvB 0 (.pointer (some ⟨g, 0, none⟩)) rfl (.inl rfl) ?_
 go_simp
 refine tvB 1 (.pointer (some ⟨g, 0, none⟩)) rfl (.inl rfl) ?_
 go_simp
 refine tvB 2 (.pointer (some ⟨g, 1, none⟩)) rfl (.inl rfl) ?_
 go_simp
 refine ttA 3 (.slice (some ⟨gr, 0, none⟩) 8 rc) rfl (.inl ⟨by rfl, fun w hc => ?_⟩) (rfl) ?_
 · rw [hc]; clear hc; go_simp
 go_simp
 refine tvB 4 (.pointer (some ⟨g, 0, none⟩)) rfl (.inl rfl) ?_
 go_simp
 refine tvB 5 (.pointer (some ⟨g, 0, none⟩)) rfl (.inl rfl) ?_
 go_simp
 refine tvB 6 (.pointer (some ⟨g, 1, none⟩)) rfl (.inl rfl) ?_
 go_simp
 refine ttA 7 (.slice (some ⟨gr, 0, none⟩) 8 rc) rfl (.inl ⟨by rfl, fun w hc => ?_⟩) (rfl) ?_
 · rw [hc]; clear hc; go_simp
 go_simp
 refine tvB 8 (.pointer (some ⟨gr, 7, none⟩)) rfl (.inl rfl) ?_
 go_simp
 refine ttA 9 (.int .i64 v7) rfl (.inl ⟨by rfl, fun w hc => ?_⟩) (rfl) ?_
 · rw [hc]; clear hc; go_simp
 go_simp
 refine tvB 10 (.pointer (some ⟨w.heap.size, 7, none⟩)) rfl (.inl rfl) ?_
 go_simp
 refine ttA 11 (.int .i64 n) rfl (.inl ⟨by rfl, fun w hc => ?_⟩) (rfl) ?_
 · rw [hc]; clear hc; go_simp
 go_simp
 refine tvA 12 (.int .i64 (2 * n)) rfl (.inl ⟨by rfl, fun w hc => ?_⟩) (.inl rfl) ?_
 · clear hc; have hw := uh HW2; go_simp
 go_simp
 refine tvA 13 (.int .i64 (v7 + 2 * n)) rfl (.inl ⟨by rfl, fun w hc => ?_⟩) (.inl rfl) ?_
 · clear hc; have hw := uh HW; go_simp
 go_simp
 refine wpAnyL_one (i := 14) (by kernel_rfl) rfl (fun K2 hK => ?_)
 go_simp
 refine (uh WR _).mono ?_
 rintro e w9 ⟨rfl, hw9⟩
 rw [hw9]
 clear hw9 w9
 refine hK.out _ _ (fun _ => rfl) ?_
 clear hK K2
 refine tvB 15 (.pointer (some ⟨gr, 7, none⟩)) rfl (.inl rfl) ?_
 go_simp
 refine wpAnyL_one (i := 16) (by kernel_rfl) rfl (fun K2 hK => ?_)
 go_simp
 refine hK.out _ _ (fun h => absurd h (by decide)) ?_
 clear hK K2
 refine wpAnyL_done (by kernel_rfl) ?_ _
 generalize wd.setCell ⟨gr, 7, none⟩ (.int .i64 x) = w5 at H1 F1 ⊢
 go_wp2
 go_end0
 exact ⟨rfl, uh H1, uh F1⟩
theorem br_18 (B g : Nat) (y : Mv) (t : Ms) (st a1 a2 a3 b1 b2 b3 n : Int) (w : World) (h : Sm w B g y t st) (hk : Dk t.d) (hn : -1000 ≤ n ∧ n ≤ 1000) : BrIs B g y t (t.branch 18 n) st 18 a1 a2 a3 b1 b2 b3 n w := by
 obtain ⟨n0, n1⟩ := hn
 obtain ⟨gr, rc, er⟩ := h.regs hk.rl
 obtain ⟨v0, v1⟩ := hk.rw _ (nAt_mem (show 7 < t.d.r.length by have := hk.rl; omega))
 have GR := hide (show gr < w.heap.size from (h.own.lo (at_r er)).2)
 have H0 := hide (h.later (below_new w (Obj.cells #[.int .i64 18, .int .i64 a1, .int .i64 a2, .int .i64 a3, .int .i64 b1, .int .i64 b2, .int .i64 b3, .int .i64 n] 69)))
 have F0 := hide (Fm.of (g := g) (y := y) (below_new w (Obj.cells #[.int .i64 18, .int .i64 a1, .int .i64 a2, .int .i64 a3, .int .i64 b1, .int .i64 b2, .int .i64 b3, .int .i64 n] 69)))
 have R0 := hide (heap_alloc_last w (Obj.cells #[.int .i64 18, .int .i64 a1, .int .i64 a2, .int .i64 a3, .int .i64 b1, .int .i64 b2, .int .i64 b3, .int .i64 n] 69))
 obtain ⟨tn, tz, tv, -⟩ := h.flz
 have WR := hide (fun v => wrapS_any (nAt t.d.r 7 + 2 * n) v)
 have HW := hide (show IntKind.i64.wrap (nAt t.d.r 7 + 2 * n) = nAt t.d.r 7 + 2 * n by rw [IntKind.wrap_i64]; omega)
 have HW2 := hide (show IntKind.i64.wrap (2 * n) = 2 * n by rw [IntKind.wrap_i64]; omega)
 have SR := hide (fun v (p : Sm v B g y t st) => And.intro (p.rcell er) (p.setR er 7 ((nAt t.d.r 7 + 2 * n) % 65536) (by have := hk.rl; omega)))
 have o0 := ins_op (uh R0)
 unfold BrIs Ms.branch Ms.goes
 simp only [tn, tz, tv]
 generalize t.rg 7 ((nAt t.d.r 7 + 2 * n) % 65536) = t7 at SR ⊢
 generalize (nAt t.d.r 7 + 2 * n) % 65536 = x at WR SR
 generalize nAt t.d.r 7 = v7 at WR SR HW
 have cf := row_z (uh H0).row
 generalize y.z = bz at cf ⊢
 clear h hk er tn tz tv v0 v1
 cases bz
 ·
  skip
  go_enter Tryz.func95, Tryz.ntmps95
  go_wp2_with fail
  have HD := hide ((uh H0).later (below_drew (w := (w.alloc (Obj.cells #[.int .i64 18, .int .i64 a1, .int .i64 a2, .int .i64 a3, .int .i64 b1, .int .i64 b2, .int .i64 b3, .int .i64 n] 69)))))
  have FD := hide ((uh F0).trans (Fm.of (below_drew (w := (w.alloc (Obj.cells #[.int .i64 18, .int .i64 a1, .int .i64 a2, .int .i64 a3, .int .i64 b1, .int .i64 b2, .int .i64 b3, .int .i64 n] 69))))))
  have RD := hide (row_lat (uh R0) (below_drew (w := (w.alloc (Obj.cells #[.int .i64 18, .int .i64 a1, .int .i64 a2, .int .i64 a3, .int .i64 b1, .int .i64 b2, .int .i64 b3, .int .i64 n] 69)))))
  have c2 := ins_n (uh RD)
  obtain ⟨c1, h1, f1, c3, c4⟩ := uh SR _ (uh HD)
  have H1 := hide h1
  have F1 := hide ((uh FD).trans f1)
  clear h1 f1 SR
  refine wp_region_last (fun v => v = (w.alloc (Obj.cells #[.int .i64 18, .int .i64 a1, .int .i64 a2, .int .i64 a3, .int .i64 b1, .int .i64 b2, .int .i64 b3, .int .i64 n] 69)).drew) 16 (by kernel_rfl) ?_
  generalize (w.alloc (Obj.cells #[.int .i64 18, .int .i64 a1, .int .i64 a2, .int .i64 a3, .int .i64 b1, .int .i64 b2, .int .i64 b3, .int .i64 n] 69)).drew = wd at HD FD RD H1 F1 c1 c2 c3 c4 ⊢
  refine tvB 0 (.pointer (some ⟨g, 0, none⟩)) rfl (.inl rfl) ?_
  go_simp
  refine tvB 1 (.pointer (some ⟨g, 0, none⟩)) rfl (.inl rfl) ?_
  go_simp
  refine tvB 2 (.pointer (some ⟨g, 1, none⟩)) rfl (.inl rfl) ?_
  go_simp
  refine ttA 3 (.slice (some ⟨gr, 0, none⟩) 8 rc) rfl (.inl ⟨by rfl, fun w hc => ?_⟩) (rfl) ?_
  · rw [hc]; clear hc; go_simp
  go_simp
  refine tvB 4 (.pointer (some ⟨g, 0, none⟩)) rfl (.inl rfl) ?_
  go_simp
  refine tvB 5 (.pointer (some ⟨g, 0, none⟩)) rfl (.inl rfl) ?_
  go_simp
  refine tvB 6 (.pointer (some ⟨g, 1, none⟩)) rfl (.inl rfl) ?_
  go_simp
  refine ttA 7 (.slice (some ⟨gr, 0, none⟩) 8 rc) rfl (.inl ⟨by rfl, fun w hc => ?_⟩) (rfl) ?_
  · rw [hc]; clear hc; go_simp
  go_simp
  refine tvB 8 (.pointer (some ⟨gr, 7, none⟩)) rfl (.inl rfl) ?_
  go_simp
  refine ttA 9 (.int .i64 v7) rfl (.inl ⟨by rfl, fun w hc => ?_⟩) (rfl) ?_
  · rw [hc]; clear hc; go_simp
  go_simp
  refine tvB 10 (.pointer (some ⟨w.heap.size, 7, none⟩)) rfl (.inl rfl) ?_
  go_simp
  refine ttA 11 (.int .i64 n) rfl (.inl ⟨by rfl, fun w hc => ?_⟩) (rfl) ?_
  · rw [hc]; clear hc; go_simp
  go_simp
  refine tvA 12 (.int .i64 (2 * n)) rfl (.inl ⟨by rfl, fun w hc => ?_⟩) (.inl rfl) ?_
  · clear hc; have hw := uh HW2; go_simp
  go_simp
  refine tvA 13 (.int .i64 (v7 + 2 * n)) rfl (.inl ⟨by rfl, fun w hc => ?_⟩) (.inl rfl) ?_
  · clear hc; have hw := uh HW; go_simp
  go_simp
  refine wpAnyL_one (i := 14) (by kernel_rfl) rfl (fun K2 hK => ?_)
  go_simp
  refine (uh WR _).mono ?_
  rintro e w9 ⟨rfl, hw9⟩
  rw [hw9]
  clear hw9 w9
  refine hK.out _ _ (fun _ => rfl) ?_
  clear hK K2
  refine tvB 15 (.pointer (some ⟨gr, 7, none⟩)) rfl (.inl rfl) ?_
  go_simp
  refine wpAnyL_one (i := 16) (by kernel_rfl) rfl (fun K2 hK => ?_)
  go_simp
  refine hK.out _ _ (fun h => absurd h (by decide)) ?_
  clear hK K2
  refine wpAnyL_done (by kernel_rfl) ?_ _
  generalize wd.setCell ⟨gr, 7, none⟩ (.int .i64 x) = w5 at H1 F1 ⊢
  go_wp2
  go_end0
  exact ⟨rfl, uh H1, uh F1⟩
 ·
  skip
  go_enter Tryz.func95, Tryz.ntmps95
  go_wp2
  go_end0
  exact ⟨rfl, uh H0, uh F0⟩
theorem br_19 (B g : Nat) (y : Mv) (t : Ms) (st a1 a2 a3 b1 b2 b3 n : Int) (w : World) (h : Sm w B g y t st) (hk : Dk t.d) (hn : -1000 ≤ n ∧ n ≤ 1000) : BrIs B g y t (t.branch 19 n) st 19 a1 a2 a3 b1 b2 b3 n w := by
 obtain ⟨n0, n1⟩ := hn
 obtain ⟨gr, rc, er⟩ := h.regs hk.rl
 obtain ⟨v0, v1⟩ := hk.rw _ (nAt_mem (show 7 < t.d.r.length by have := hk.rl; omega))
 have GR := hide (show gr < w.heap.size from (h.own.lo (at_r er)).2)
 have H0 := hide (h.later (below_new w (Obj.cells #[.int .i64 19, .int .i64 a1, .int .i64 a2, .int .i64 a3, .int .i64 b1, .int .i64 b2, .int .i64 b3, .int .i64 n] 69)))
 have F0 := hide (Fm.of (g := g) (y := y) (below_new w (Obj.cells #[.int .i64 19, .int .i64 a1, .int .i64 a2, .int .i64 a3, .int .i64 b1, .int .i64 b2, .int .i64 b3, .int .i64 n] 69)))
 have R0 := hide (heap_alloc_last w (Obj.cells #[.int .i64 19, .int .i64 a1, .int .i64 a2, .int .i64 a3, .int .i64 b1, .int .i64 b2, .int .i64 b3, .int .i64 n] 69))
 obtain ⟨tn, tz, tv, -⟩ := h.flz
 have WR := hide (fun v => wrapS_any (nAt t.d.r 7 + 2 * n) v)
 have HW := hide (show IntKind.i64.wrap (nAt t.d.r 7 + 2 * n) = nAt t.d.r 7 + 2 * n by rw [IntKind.wrap_i64]; omega)
 have HW2 := hide (show IntKind.i64.wrap (2 * n) = 2 * n by rw [IntKind.wrap_i64]; omega)
 have SR := hide (fun v (p : Sm v B g y t st) => And.intro (p.rcell er) (p.setR er 7 ((nAt t.d.r 7 + 2 * n) % 65536) (by have := hk.rl; omega)))
 have o0 := ins_op (uh R0)
 unfold BrIs Ms.branch Ms.goes
 simp only [tn, tz, tv]
 generalize t.rg 7 ((nAt t.d.r 7 + 2 * n) % 65536) = t7 at SR ⊢
 generalize (nAt t.d.r 7 + 2 * n) % 65536 = x at WR SR
 generalize nAt t.d.r 7 = v7 at WR SR HW
 have cf := row_z (uh H0).row
 generalize y.z = bz at cf ⊢
 clear h hk er tn tz tv v0 v1
 cases bz
 ·
  skip
  go_enter Tryz.func95, Tryz.ntmps95
  go_wp2
  go_end0
  exact ⟨rfl, uh H0, uh F0⟩
 ·
  skip
  go_enter Tryz.func95, Tryz.ntmps95
  go_wp2_with fail
  have HD := hide ((uh H0).later (below_drew (w := (w.alloc (Obj.cells #[.int .i64 19, .int .i64 a1, .int .i64 a2, .int .i64 a3, .int .i64 b1, .int .i64 b2, .int .i64 b3, .int .i64 n] 69)))))
  have FD := hide ((uh F0).trans (Fm.of (below_drew (w := (w.alloc (Obj.cells #[.int .i64 19, .int .i64 a1, .int .i64 a2, .int .i64 a3, .int .i64 b1, .int .i64 b2, .int .i64 b3, .int .i64 n] 69))))))
  have RD := hide (row_lat (uh R0) (below_drew (w := (w.alloc (Obj.cells #[.int .i64 19, .int .i64 a1, .int .i64 a2, .int .i64 a3, .int .i64 b1, .int .i64 b2, .int .i64 b3, .int .i64 n] 69)))))
  have c2 := ins_n (uh RD)
  obtain ⟨c1, h1, f1, c3, c4⟩ := uh SR _ (uh HD)
  have H1 := hide h1
  have F1 := hide ((uh FD).trans f1)
  clear h1 f1 SR
  refine wp_region_last (fun v => v = (w.alloc (Obj.cells #[.int .i64 19, .int .i64 a1, .int .i64 a2, .int .i64 a3, .int .i64 b1, .int .i64 b2, .int .i64 b3, .int .i64 n] 69)).drew) 16 (by kernel_rfl) ?_
  generalize (w.alloc (Obj.cells #[.int .i64 19, .int .i64 a1, .int .i64 a2, .int .i64 a3, .int .i64 b1, .int .i64 b2, .int .i64 b3, .int .i64 n] 69)).drew = wd at HD FD RD H1 F1 c1 c2 c3 c4 ⊢
  refine tvB 0 (.pointer (some ⟨g, 0, none⟩)) rfl (.inl rfl) ?_
  go_simp
  refine tvB 1 (.pointer (some ⟨g, 0, none⟩)) rfl (.inl rfl) ?_
  go_simp
  refine tvB 2 (.pointer (some ⟨g, 1, none⟩)) rfl (.inl rfl) ?_
  go_simp
  refine ttA 3 (.slice (some ⟨gr, 0, none⟩) 8 rc) rfl (.inl ⟨by rfl, fun w hc => ?_⟩) (rfl) ?_
  · rw [hc]; clear hc; go_simp
  go_simp
  refine tvB 4 (.pointer (some ⟨g, 0, none⟩)) rfl (.inl rfl) ?_
  go_simp
  refine tvB 5 (.pointer (some ⟨g, 0, none⟩)) rfl (.inl rfl) ?_
  go_simp
  refine tvB 6 (.pointer (some ⟨g, 1, none⟩)) rfl (.inl rfl) ?_
  go_simp
  refine ttA 7 (.slice (some ⟨gr, 0, none⟩) 8 rc) rfl (.inl ⟨by rfl, fun w hc => ?_⟩) (rfl) ?_
  · rw [hc]; clear hc; go_simp
  go_simp
  refine tvB 8 (.pointer (some ⟨gr, 7, none⟩)) rfl (.inl rfl) ?_
  go_simp
  refine ttA 9 (.int .i64 v7) rfl (.inl ⟨by rfl, fun w hc => ?_⟩) (rfl) ?_
  · rw [hc]; clear hc; go_simp
  go_simp
  refine tvB 10 (.pointer (some ⟨w.heap.size, 7, none⟩)) rfl (.inl rfl) ?_
  go_simp
  refine ttA 11 (.int .i64 n) rfl (.inl ⟨by rfl, fun w hc => ?_⟩) (rfl) ?_
  · rw [hc]; clear hc; go_simp
  go_simp
  refine tvA 12 (.int .i64 (2 * n)) rfl (.inl ⟨by rfl, fun w hc => ?_⟩) (.inl rfl) ?_
  · clear hc; have hw := uh HW2; go_simp
  go_simp
  refine tvA 13 (.int .i64 (v7 + 2 * n)) rfl (.inl ⟨by rfl, fun w hc => ?_⟩) (.inl rfl) ?_
  · clear hc; have hw := uh HW; go_simp
  go_simp
  refine wpAnyL_one (i := 14) (by kernel_rfl) rfl (fun K2 hK => ?_)
  go_simp
  refine (uh WR _).mono ?_
  rintro e w9 ⟨rfl, hw9⟩
  rw [hw9]
  clear hw9 w9
  refine hK.out _ _ (fun _ => rfl) ?_
  clear hK K2
  refine tvB 15 (.pointer (some ⟨gr, 7, none⟩)) rfl (.inl rfl) ?_
  go_simp
  refine wpAnyL_one (i := 16) (by kernel_rfl) rfl (fun K2 hK => ?_)
  go_simp
  refine hK.out _ _ (fun h => absurd h (by decide)) ?_
  clear hK K2
  refine wpAnyL_done (by kernel_rfl) ?_ _
  generalize wd.setCell ⟨gr, 7, none⟩ (.int .i64 x) = w5 at H1 F1 ⊢
  go_wp2
  go_end0
  exact ⟨rfl, uh H1, uh F1⟩
theorem br_20 (B g : Nat) (y : Mv) (t : Ms) (st a1 a2 a3 b1 b2 b3 n : Int) (w : World) (h : Sm w B g y t st) (hk : Dk t.d) (hn : -1000 ≤ n ∧ n ≤ 1000) : BrIs B g y t (t.branch 20 n) st 20 a1 a2 a3 b1 b2 b3 n w := by
 obtain ⟨n0, n1⟩ := hn
 obtain ⟨gr, rc, er⟩ := h.regs hk.rl
 obtain ⟨v0, v1⟩ := hk.rw _ (nAt_mem (show 7 < t.d.r.length by have := hk.rl; omega))
 have GR := hide (show gr < w.heap.size from (h.own.lo (at_r er)).2)
 have H0 := hide (h.later (below_new w (Obj.cells #[.int .i64 20, .int .i64 a1, .int .i64 a2, .int .i64 a3, .int .i64 b1, .int .i64 b2, .int .i64 b3, .int .i64 n] 69)))
 have F0 := hide (Fm.of (g := g) (y := y) (below_new w (Obj.cells #[.int .i64 20, .int .i64 a1, .int .i64 a2, .int .i64 a3, .int .i64 b1, .int .i64 b2, .int .i64 b3, .int .i64 n] 69)))
 have R0 := hide (heap_alloc_last w (Obj.cells #[.int .i64 20, .int .i64 a1, .int .i64 a2, .int .i64 a3, .int .i64 b1, .int .i64 b2, .int .i64 b3, .int .i64 n] 69))
 obtain ⟨tn, tz, tv, -⟩ := h.flz
 have WR := hide (fun v => wrapS_any (nAt t.d.r 7 + 2 * n) v)
 have HW := hide (show IntKind.i64.wrap (nAt t.d.r 7 + 2 * n) = nAt t.d.r 7 + 2 * n by rw [IntKind.wrap_i64]; omega)
 have HW2 := hide (show IntKind.i64.wrap (2 * n) = 2 * n by rw [IntKind.wrap_i64]; omega)
 have SR := hide (fun v (p : Sm v B g y t st) => And.intro (p.rcell er) (p.setR er 7 ((nAt t.d.r 7 + 2 * n) % 65536) (by have := hk.rl; omega)))
 have o0 := ins_op (uh R0)
 unfold BrIs Ms.branch Ms.goes
 simp only [tn, tz, tv]
 generalize t.rg 7 ((nAt t.d.r 7 + 2 * n) % 65536) = t7 at SR ⊢
 generalize (nAt t.d.r 7 + 2 * n) % 65536 = x at WR SR
 generalize nAt t.d.r 7 = v7 at WR SR HW
 have cn := hide (And.intro (row_n ((uh H0).later (below_drew (w := w.alloc (Obj.cells #[.int .i64 20, .int .i64 a1, .int .i64 a2, .int .i64 a3, .int .i64 b1, .int .i64 b2, .int .i64 b3, .int .i64 n] 69)))).row) (row_v ((uh H0).later (below_drew (w := w.alloc (Obj.cells #[.int .i64 20, .int .i64 a1, .int .i64 a2, .int .i64 a3, .int .i64 b1, .int .i64 b2, .int .i64 b3, .int .i64 n] 69)))).row))
 generalize y.n = bn at cn ⊢
 generalize y.v = bv at cn ⊢
 clear h hk er tn tz tv v0 v1
 have HQ := hide ((uh H0).later (below_drew (w := (w.alloc (Obj.cells #[.int .i64 20, .int .i64 a1, .int .i64 a2, .int .i64 a3, .int .i64 b1, .int .i64 b2, .int .i64 b3, .int .i64 n] 69)))))
 have FQ := hide ((uh F0).trans (Fm.of (below_drew (w := (w.alloc (Obj.cells #[.int .i64 20, .int .i64 a1, .int .i64 a2, .int .i64 a3, .int .i64 b1, .int .i64 b2, .int .i64 b3, .int .i64 n] 69))))))
 have RQ := hide (row_lat (uh R0) (below_drew (w := (w.alloc (Obj.cells #[.int .i64 20, .int .i64 a1, .int .i64 a2, .int .i64 a3, .int .i64 b1, .int .i64 b2, .int .i64 b3, .int .i64 n] 69)))))
 generalize hb : (bn == bv) = bb
 go_enter Tryz.func95, Tryz.ntmps95
 go_wp2_with fail
 refine wp_region_last (fun v => v.cell? ⟨g, 2, none⟩ = some (.bool bn) ∧ v.cell? ⟨g, 4, none⟩ = some (.bool bv)) 9 (by kernel_rfl) ?_
 generalize (w.alloc (Obj.cells #[.int .i64 20, .int .i64 a1, .int .i64 a2, .int .i64 a3, .int .i64 b1, .int .i64 b2, .int .i64 b3, .int .i64 n] 69)).drew = wq at HQ FQ RQ cn ⊢
 refine tvB 0 (.pointer (some ⟨g, 0, none⟩)) rfl (.inl (uh cn)) ?_
 go_simp
 refine tvB 1 (.pointer (some ⟨g, 0, none⟩)) rfl (.inl (uh cn)) ?_
 go_simp
 refine tvB 2 (.pointer (some ⟨g, 2, none⟩)) rfl (.inl (uh cn)) ?_
 go_simp
 refine ttA 3 (.bool bn) rfl (.inl ⟨by rfl, fun w hc => ?_⟩) (uh cn) ?_
 · obtain ⟨h1, h2⟩ := hc; go_simp
 go_simp
 refine tvB 4 (.pointer (some ⟨g, 0, none⟩)) rfl (.inl (uh cn)) ?_
 go_simp
 refine tvB 5 (.pointer (some ⟨g, 0, none⟩)) rfl (.inl (uh cn)) ?_
 go_simp
 refine tvB 6 (.pointer (some ⟨g, 4, none⟩)) rfl (.inl (uh cn)) ?_
 go_simp
 refine ttA 7 (.bool bv) rfl (.inl ⟨by rfl, fun w hc => ?_⟩) (uh cn) ?_
 · obtain ⟨h1, h2⟩ := hc; go_simp
 go_simp
 refine tvB 8 (.bool (bn == bv)) rfl (.inl (uh cn)) ?_
 go_simp
 refine wpAnyL_one (i := 9) (by kernel_rfl) rfl (fun K2 hK => ?_)
 go_simp
 refine hK.out _ _ (fun h => absurd h (by decide)) ?_
 clear hK K2
 refine wpAnyL_done (by kernel_rfl) ?_ _
 try rw [hb]
 cases bb
 ·
  go_wp2
  go_end0
  exact ⟨rfl, uh HQ, uh FQ⟩
 ·
  go_wp2_with fail
  have HD := hide ((uh HQ).later (below_drew (w := wq)))
  have FD := hide ((uh FQ).trans (Fm.of (below_drew (w := wq))))
  have RD := hide (row_lat (uh RQ) (below_drew (w := wq)))
  have c2 := ins_n (uh RD)
  obtain ⟨c1, h1, f1, c3, c4⟩ := uh SR _ (uh HD)
  have H1 := hide h1
  have F1 := hide ((uh FD).trans f1)
  clear h1 f1 SR
  refine wp_region_last (fun v => v = wq.drew) 16 (by kernel_rfl) ?_
  generalize wq.drew = wd at HD FD RD H1 F1 c1 c2 c3 c4 ⊢
  refine tvB 0 (.pointer (some ⟨g, 0, none⟩)) rfl (.inl rfl) ?_
  go_simp
  refine tvB 1 (.pointer (some ⟨g, 0, none⟩)) rfl (.inl rfl) ?_
  go_simp
  refine tvB 2 (.pointer (some ⟨g, 1, none⟩)) rfl (.inl rfl) ?_
  go_simp
  refine ttA 3 (.slice (some ⟨gr, 0, none⟩) 8 rc) rfl (.inl ⟨by rfl, fun w hc => ?_⟩) (rfl) ?_
  · rw [hc]; clear hc; go_simp
  go_simp
  refine tvB 4 (.pointer (some ⟨g, 0, none⟩)) rfl (.inl rfl) ?_
  go_simp
  refine tvB 5 (.pointer (some ⟨g, 0, none⟩)) rfl (.inl rfl) ?_
  go_simp
  refine tvB 6 (.pointer (some ⟨g, 1, none⟩)) rfl (.inl rfl) ?_
  go_simp
  refine ttA 7 (.slice (some ⟨gr, 0, none⟩) 8 rc) rfl (.inl ⟨by rfl, fun w hc => ?_⟩) (rfl) ?_
  · rw [hc]; clear hc; go_simp
  go_simp
  refine tvB 8 (.pointer (some ⟨gr, 7, none⟩)) rfl (.inl rfl) ?_
  go_simp
  refine ttA 9 (.int .i64 v7) rfl (.inl ⟨by rfl, fun w hc => ?_⟩) (rfl) ?_
  · rw [hc]; clear hc; go_simp
  go_simp
  refine tvB 10 (.pointer (some ⟨w.heap.size, 7, none⟩)) rfl (.inl rfl) ?_
  go_simp
  refine ttA 11 (.int .i64 n) rfl (.inl ⟨by rfl, fun w hc => ?_⟩) (rfl) ?_
  · rw [hc]; clear hc; go_simp
  go_simp
  refine tvA 12 (.int .i64 (2 * n)) rfl (.inl ⟨by rfl, fun w hc => ?_⟩) (.inl rfl) ?_
  · clear hc; have hw := uh HW2; go_simp
  go_simp
  refine tvA 13 (.int .i64 (v7 + 2 * n)) rfl (.inl ⟨by rfl, fun w hc => ?_⟩) (.inl rfl) ?_
  · clear hc; have hw := uh HW; go_simp
  go_simp
  refine wpAnyL_one (i := 14) (by kernel_rfl) rfl (fun K2 hK => ?_)
  go_simp
  refine (uh WR _).mono ?_
  rintro e w9 ⟨rfl, hw9⟩
  rw [hw9]
  clear hw9 w9
  refine hK.out _ _ (fun _ => rfl) ?_
  clear hK K2
  refine tvB 15 (.pointer (some ⟨gr, 7, none⟩)) rfl (.inl rfl) ?_
  go_simp
  refine wpAnyL_one (i := 16) (by kernel_rfl) rfl (fun K2 hK => ?_)
  go_simp
  refine hK.out _ _ (fun h => absurd h (by decide)) ?_
  clear hK K2
  refine wpAnyL_done (by kernel_rfl) ?_ _
  generalize wd.setCell ⟨gr, 7, none⟩ (.int .i64 x) = w5 at H1 F1 ⊢
  go_wp2
  go_end0
  exact ⟨rfl, uh H1, uh F1⟩
theorem br_21 (B g : Nat) (y : Mv) (t : Ms) (st a1 a2 a3 b1 b2 b3 n : Int) (w : World) (h : Sm w B g y t st) (hk : Dk t.d) (hn : -1000 ≤ n ∧ n ≤ 1000) : BrIs B g y t (t.branch 21 n) st 21 a1 a2 a3 b1 b2 b3 n w := by
 obtain ⟨n0, n1⟩ := hn
 obtain ⟨gr, rc, er⟩ := h.regs hk.rl
 obtain ⟨v0, v1⟩ := hk.rw _ (nAt_mem (show 7 < t.d.r.length by have := hk.rl; omega))
 have GR := hide (show gr < w.heap.size from (h.own.lo (at_r er)).2)
 have H0 := hide (h.later (below_new w (Obj.cells #[.int .i64 21, .int .i64 a1, .int .i64 a2, .int .i64 a3, .int .i64 b1, .int .i64 b2, .int .i64 b3, .int .i64 n] 69)))
 have F0 := hide (Fm.of (g := g) (y := y) (below_new w (Obj.cells #[.int .i64 21, .int .i64 a1, .int .i64 a2, .int .i64 a3, .int .i64 b1, .int .i64 b2, .int .i64 b3, .int .i64 n] 69)))
 have R0 := hide (heap_alloc_last w (Obj.cells #[.int .i64 21, .int .i64 a1, .int .i64 a2, .int .i64 a3, .int .i64 b1, .int .i64 b2, .int .i64 b3, .int .i64 n] 69))
 obtain ⟨tn, tz, tv, -⟩ := h.flz
 have WR := hide (fun v => wrapS_any (nAt t.d.r 7 + 2 * n) v)
 have HW := hide (show IntKind.i64.wrap (nAt t.d.r 7 + 2 * n) = nAt t.d.r 7 + 2 * n by rw [IntKind.wrap_i64]; omega)
 have HW2 := hide (show IntKind.i64.wrap (2 * n) = 2 * n by rw [IntKind.wrap_i64]; omega)
 have SR := hide (fun v (p : Sm v B g y t st) => And.intro (p.rcell er) (p.setR er 7 ((nAt t.d.r 7 + 2 * n) % 65536) (by have := hk.rl; omega)))
 have o0 := ins_op (uh R0)
 unfold BrIs Ms.branch Ms.goes
 simp only [tn, tz, tv]
 generalize t.rg 7 ((nAt t.d.r 7 + 2 * n) % 65536) = t7 at SR ⊢
 generalize (nAt t.d.r 7 + 2 * n) % 65536 = x at WR SR
 generalize nAt t.d.r 7 = v7 at WR SR HW
 have cn := hide (And.intro (row_n ((uh H0).later (below_drew (w := w.alloc (Obj.cells #[.int .i64 21, .int .i64 a1, .int .i64 a2, .int .i64 a3, .int .i64 b1, .int .i64 b2, .int .i64 b3, .int .i64 n] 69)))).row) (row_v ((uh H0).later (below_drew (w := w.alloc (Obj.cells #[.int .i64 21, .int .i64 a1, .int .i64 a2, .int .i64 a3, .int .i64 b1, .int .i64 b2, .int .i64 b3, .int .i64 n] 69)))).row))
 generalize y.n = bn at cn ⊢
 generalize y.v = bv at cn ⊢
 clear h hk er tn tz tv v0 v1
 have HQ := hide ((uh H0).later (below_drew (w := (w.alloc (Obj.cells #[.int .i64 21, .int .i64 a1, .int .i64 a2, .int .i64 a3, .int .i64 b1, .int .i64 b2, .int .i64 b3, .int .i64 n] 69)))))
 have FQ := hide ((uh F0).trans (Fm.of (below_drew (w := (w.alloc (Obj.cells #[.int .i64 21, .int .i64 a1, .int .i64 a2, .int .i64 a3, .int .i64 b1, .int .i64 b2, .int .i64 b3, .int .i64 n] 69))))))
 have RQ := hide (row_lat (uh R0) (below_drew (w := (w.alloc (Obj.cells #[.int .i64 21, .int .i64 a1, .int .i64 a2, .int .i64 a3, .int .i64 b1, .int .i64 b2, .int .i64 b3, .int .i64 n] 69)))))
 generalize hb : (bn != bv) = bb
 go_enter Tryz.func95, Tryz.ntmps95
 go_wp2_with fail
 refine wp_region_last (fun v => v.cell? ⟨g, 2, none⟩ = some (.bool bn) ∧ v.cell? ⟨g, 4, none⟩ = some (.bool bv)) 9 (by kernel_rfl) ?_
 generalize (w.alloc (Obj.cells #[.int .i64 21, .int .i64 a1, .int .i64 a2, .int .i64 a3, .int .i64 b1, .int .i64 b2, .int .i64 b3, .int .i64 n] 69)).drew = wq at HQ FQ RQ cn ⊢
 refine tvB 0 (.pointer (some ⟨g, 0, none⟩)) rfl (.inl (uh cn)) ?_
 go_simp
 refine tvB 1 (.pointer (some ⟨g, 0, none⟩)) rfl (.inl (uh cn)) ?_
 go_simp
 refine tvB 2 (.pointer (some ⟨g, 2, none⟩)) rfl (.inl (uh cn)) ?_
 go_simp
 refine ttA 3 (.bool bn) rfl (.inl ⟨by rfl, fun w hc => ?_⟩) (uh cn) ?_
 · obtain ⟨h1, h2⟩ := hc; go_simp
 go_simp
 refine tvB 4 (.pointer (some ⟨g, 0, none⟩)) rfl (.inl (uh cn)) ?_
 go_simp
 refine tvB 5 (.pointer (some ⟨g, 0, none⟩)) rfl (.inl (uh cn)) ?_
 go_simp
 refine tvB 6 (.pointer (some ⟨g, 4, none⟩)) rfl (.inl (uh cn)) ?_
 go_simp
 refine ttA 7 (.bool bv) rfl (.inl ⟨by rfl, fun w hc => ?_⟩) (uh cn) ?_
 · obtain ⟨h1, h2⟩ := hc; go_simp
 go_simp
 refine tvA 8 (.bool (bn != bv)) rfl (.inl ⟨by rfl, fun w hc => ?_⟩) (.inl (uh cn)) ?_
 ·
  clear hc; go_simp
  rw [← hb]
  cases bn <;> cases bv <;> rfl
 go_simp
 refine wpAnyL_one (i := 9) (by kernel_rfl) rfl (fun K2 hK => ?_)
 go_simp
 refine hK.out _ _ (fun h => absurd h (by decide)) ?_
 clear hK K2
 refine wpAnyL_done (by kernel_rfl) ?_ _
 try rw [hb]
 cases bb
 ·
  go_wp2
  go_end0
  exact ⟨rfl, uh HQ, uh FQ⟩
 ·
  go_wp2_with fail
  have HD := hide ((uh HQ).later (below_drew (w := wq)))
  have FD := hide ((uh FQ).trans (Fm.of (below_drew (w := wq))))
  have RD := hide (row_lat (uh RQ) (below_drew (w := wq)))
  have c2 := ins_n (uh RD)
  obtain ⟨c1, h1, f1, c3, c4⟩ := uh SR _ (uh HD)
  have H1 := hide h1
  have F1 := hide ((uh FD).trans f1)
  clear h1 f1 SR
  refine wp_region_last (fun v => v = wq.drew) 16 (by kernel_rfl) ?_
  generalize wq.drew = wd at HD FD RD H1 F1 c1 c2 c3 c4 ⊢
  refine tvB 0 (.pointer (some ⟨g, 0, none⟩)) rfl (.inl rfl) ?_
  go_simp
  refine tvB 1 (.pointer (some ⟨g, 0, none⟩)) rfl (.inl rfl) ?_
  go_simp
  refine tvB 2 (.pointer (some ⟨g, 1, none⟩)) rfl (.inl rfl) ?_
  go_simp
  refine ttA 3 (.slice (some ⟨gr, 0, none⟩) 8 rc) rfl (.inl ⟨by rfl, fun w hc => ?_⟩) (rfl) ?_
  · rw [hc]; clear hc; go_simp
  go_simp
  refine tvB 4 (.pointer (some ⟨g, 0, none⟩)) rfl (.inl rfl) ?_
  go_simp
  refine tvB 5 (.pointer (some ⟨g, 0, none⟩)) rfl (.inl rfl) ?_
  go_simp
  refine tvB 6 (.pointer (some ⟨g, 1, none⟩)) rfl (.inl rfl) ?_
  go_simp
  refine ttA 7 (.slice (some ⟨gr, 0, none⟩) 8 rc) rfl (.inl ⟨by rfl, fun w hc => ?_⟩) (rfl) ?_
  · rw [hc]; clear hc; go_simp
  go_simp
  refine tvB 8 (.pointer (some ⟨gr, 7, none⟩)) rfl (.inl rfl) ?_
  go_simp
  refine ttA 9 (.int .i64 v7) rfl (.inl ⟨by rfl, fun w hc => ?_⟩) (rfl) ?_
  · rw [hc]; clear hc; go_simp
  go_simp
  refine tvB 10 (.pointer (some ⟨w.heap.size, 7, none⟩)) rfl (.inl rfl) ?_
  go_simp
  refine ttA 11 (.int .i64 n) rfl (.inl ⟨by rfl, fun w hc => ?_⟩) (rfl) ?_
  · rw [hc]; clear hc; go_simp
  go_simp
  refine tvA 12 (.int .i64 (2 * n)) rfl (.inl ⟨by rfl, fun w hc => ?_⟩) (.inl rfl) ?_
  · clear hc; have hw := uh HW2; go_simp
  go_simp
  refine tvA 13 (.int .i64 (v7 + 2 * n)) rfl (.inl ⟨by rfl, fun w hc => ?_⟩) (.inl rfl) ?_
  · clear hc; have hw := uh HW; go_simp
  go_simp
  refine wpAnyL_one (i := 14) (by kernel_rfl) rfl (fun K2 hK => ?_)
  go_simp
  refine (uh WR _).mono ?_
  rintro e w9 ⟨rfl, hw9⟩
  rw [hw9]
  clear hw9 w9
  refine hK.out _ _ (fun _ => rfl) ?_
  clear hK K2
  refine tvB 15 (.pointer (some ⟨gr, 7, none⟩)) rfl (.inl rfl) ?_
  go_simp
  refine wpAnyL_one (i := 16) (by kernel_rfl) rfl (fun K2 hK => ?_)
  go_simp
  refine hK.out _ _ (fun h => absurd h (by decide)) ?_
  clear hK K2
  refine wpAnyL_done (by kernel_rfl) ?_ _
  generalize wd.setCell ⟨gr, 7, none⟩ (.int .i64 x) = w5 at H1 F1 ⊢
  go_wp2
  go_end0
  exact ⟨rfl, uh H1, uh F1⟩
theorem branch_any (B g : Nat) (y : Mv) (t : Ms) (st a1 a2 a3 b1 b2 b3 n : Int) (op : Nat) (ho : 17 ≤ op ∧ op ≤ 21) (w : World) (h : Sm w B g y t st) (hk : Dk t.d) (hn : -1000 ≤ n ∧ n ≤ 1000) : BrIs B g y t (t.branch op n) st op a1 a2 a3 b1 b2 b3 n w := by
 have e : op = 17 ∨ op = 18 ∨ op = 19 ∨ op = 20 ∨ op = 21 := by omega
 rcases e with rfl | rfl | rfl | rfl | rfl
 · exact br_17 B g y t st a1 a2 a3 b1 b2 b3 n w h hk hn
 · exact br_18 B g y t st a1 a2 a3 b1 b2 b3 n w h hk hn
 · exact br_19 B g y t st a1 a2 a3 b1 b2 b3 n w h hk hn
 · exact br_20 B g y t st a1 a2 a3 b1 b2 b3 n w h hk hn
 · exact br_21 B g y t st a1 a2 a3 b1 b2 b3 n w h hk hn
end
end Go.Proofs.YtjpbjbnialehbaaGreatDoor
