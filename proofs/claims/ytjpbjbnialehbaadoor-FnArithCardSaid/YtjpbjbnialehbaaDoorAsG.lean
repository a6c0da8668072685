/- Contracts over this seat's translation, laid together; conditions stand as hypotheses of each. -/
import Derived.Test.YtjpbjbnialehbaaDoorAsE
import Derived.Test.YtjpbjbnialehbaaDoorAsF
import Derived.OrdersHeld
import Derived.Deep.RegionHeld

namespace Go.Proofs.YtjpbjbnialehbaaDoor
open Go.ChangeShapes Go.WideShapes Go.ChangeAt Go.RowKit
set_option linter.unusedVariables false
set_option maxRecDepth 8000
set_option linter.unusedSimpArgs false
theorem row2S_0 {w : World} {g : Nat} {a b : Int} {t : TypeId} (h : w.heap[g]? = some (.cells #[.int .i64 a, .int .i64 b] t (0, 0))) : w.cell? ⟨g, 0, none⟩ = some (.int .i64 a) := (cell_of_row w g 0 _ t _ h).trans rfl
theorem row2S_1 {w : World} {g : Nat} {a b : Int} {t : TypeId} (h : w.heap[g]? = some (.cells #[.int .i64 a, .int .i64 b] t (0, 0))) : w.cell? ⟨g, 1, none⟩ = some (.int .i64 b) := (cell_of_row w g 1 _ t _ h).trans rfl
def Ms.st (t : Ms) (qr qa n : Int) : Ms := { t with d := t.d.stD qr qa n }
def Ms.cs (t : Ms) (b : Bool) : Ms := { t with c := b }
/-- What an instruction of two operands makes of a machine. -/
def Ms.two (t : Ms) (op : Nat) (s qr qa : Int) : Ms :=
  match op with
  | 1 => (t.nz s false).st qr qa s
  | 2 => (t.nz ((s - t.d.ldV qr qa) % 65536) ((sgB s != sgB (t.d.ldV qr qa)) && (sgB ((s - t.d.ldV qr qa) % 65536) == sgB (t.d.ldV qr qa)))).cs (decide (s < t.d.ldV qr qa))
  | 3 => (t.nz (bits .andNot .i64 (t.d.ldV qr qa) s) false).st qr qa (bits .andNot .i64 (t.d.ldV qr qa) s)
  | 4 => (t.nz (bits .or .i64 (t.d.ldV qr qa) s) false).st qr qa (bits .or .i64 (t.d.ldV qr qa) s)
  | 5 => ((t.nz ((t.d.ldV qr qa + s) % 65536) ((sgB s == sgB (t.d.ldV qr qa)) && (sgB ((t.d.ldV qr qa + s) % 65536) != sgB (t.d.ldV qr qa)))).cs (decide (65535 < t.d.ldV qr qa + s))).st qr qa ((t.d.ldV qr qa + s) % 65536)
  | _ => ((t.nz ((t.d.ldV qr qa - s) % 65536) ((sgB s != sgB (t.d.ldV qr qa)) && (sgB ((t.d.ldV qr qa - s) % 65536) == sgB s))).cs (decide (t.d.ldV qr qa < s))).st qr qa ((t.d.ldV qr qa - s) % 65536)
end Go.Proofs.YtjpbjbnialehbaaDoor

namespace Go.Proofs.YtjpbjbnialehbaaDoor
open Go.ChangeShapes Go.WideShapes Go.ChangeAt Go.RowKit
set_option linter.unusedVariables false
set_option maxRecDepth 8000
set_option linter.unusedSimpArgs false
/-- A word with its sign. -/
def sgV (n : Int) : Int := if 32768 ≤ n % 65536 then n % 65536 - 65536 else n % 65536
theorem sgV_b (n : Int) : -32768 ≤ sgV n ∧ sgV n ≤ 32767 := by
  unfold sgV
  split <;> omega
def shR (op : Nat) (d : Int) : Int := if op = 12 then (sgV d / 2) % 65536 else (d * 2) % 65536
def shC (op : Nat) (d : Int) : Bool := if op = 12 then (bits .and .i64 d 1 == 1) else sgB d
/-- A shift. -/
def Ms.shift (t : Ms) (op : Nat) (d qr qa : Int) : Ms := ((t.nz (shR op d) (sgB (shR op d) != shC op d)).cs (shC op d)).st qr qa (shR op d)
end Go.Proofs.YtjpbjbnialehbaaDoor

namespace Go.Proofs.YtjpbjbnialehbaaDoor
open Go.ChangeShapes Go.WideShapes Go.ChangeAt Go.RowKit
set_option linter.unusedVariables false
set_option maxRecDepth 8000
set_option linter.unusedSimpArgs false
/-- What an instruction of one operand makes of a machine. -/
def Ms.one (t : Ms) (op : Nat) (qr qa : Int) : Ms :=
  match op with
  | 7 => ((t.nz 0 false).cs false).st qr qa 0
  | 8 => (t.nz (t.d.ldV qr qa + 1) (t.d.ldV qr qa == 32767)).st qr qa (t.d.ldV qr qa + 1)
  | 9 => (t.nz (t.d.ldV qr qa - 1) (t.d.ldV qr qa == 32768)).st qr qa (t.d.ldV qr qa - 1)
  | 10 => ((t.nz (-t.d.ldV qr qa) (t.d.ldV qr qa == 32768)).cs (t.d.ldV qr qa != 0)).st qr qa (-t.d.ldV qr qa)
  | 11 => (t.nz (t.d.ldV qr qa) false).cs false
  | 12 => t.shift 12 (t.d.ldV qr qa) qr qa
  | _ => t.shift 13 (t.d.ldV qr qa) qr qa
end Go.Proofs.YtjpbjbnialehbaaDoor

namespace Go.Proofs.YtjpbjbnialehbaaDoor
section
variable {P : Program} {ops : Array Oper} {Q : Exit → Act → World → Prop} {md : Region.Mode} {S : World → Prop} {last : Nat}
/-- Whatever order is picked from here on; S holds behind each operation, as long as 'last' has not come up. -/
def wpAnyL (P : Program) (md : Region.Mode) (ops : Array Oper) (Q : Exit → Act → World → Prop) (S : World → Prop) (last : Nat) : Nat → Array Bool → Act → World → Prop
  | 0, listed, a, w => Region.ready md ops listed = [] ∧ Q .normal a w
  | fuel + 1, listed, a, w =>
    (Region.ready md ops listed = [] → Q .normal a w) ∧
    ∀ i ∈ Region.ready md ops listed, wpOp P ops Q i (fun a' w' => ((listed.setIfInBounds i true).getD last true = false → S w') ∧ wpAnyL P md ops Q S last fuel (listed.setIfInBounds i true) a' w') a w
theorem wpAny_of_last : ∀ (fuel : Nat) (listed : Array Bool) (a : Act) (w : World), wpAnyL P md ops Q S last fuel listed a w → wpAny P md ops Q fuel listed a w
  | 0, _, _, _, h => h
  | fuel + 1, _, _, _, h => ⟨h.1, fun i hi => wpOp_mono (fun a' w' h' => wpAny_of_last fuel _ a' w' h'.2) (h.2 i hi)⟩
/-- Whether 'last' waits for i. -/
def lastB (md : Region.Mode) (ops : Array Oper) (last i : Nat) : Bool := ((ops[last]?).map fun o => o.after.any fun e => Region.binds md e && e.on == i).getD false
theorem lastB_spec {i : Nat} (h : lastB md ops last i = true) : ∀ ol, ops[last]? = some ol → ∃ e ∈ ol.after, Region.binds md e = true ∧ e.on = i := by
  intro ol ho
  unfold lastB at h
  rw [ho] at h
  simp only [Option.map_some, Option.getD_some] at h
  obtain ⟨e, he, hb⟩ := Array.any_eq_true'.1 h
  simp only [Bool.and_eq_true, beq_iff_eq] at hb
  exact ⟨e, he, hb.1, hb.2⟩
theorem wpAnyL_firstS {i : Nat} {oi : Oper} {v : Value} (hi : ops[i]? = some oi) (hsel : ∀ (j : Nat) (o : Oper) cs b, ops[j]? = some o → o.op ≠ .select cs b)
    (hQ : ∀ c a w, Q (.panic c) (a.put oi.dst v) w → Q (.panic c) a w) (hil : i ≠ last) (hl : ∀ ol, ops[last]? = some ol → ∃ e ∈ ol.after, Region.binds md e = true ∧ e.on = i) :
    ∀ (fuel : Nat) (listed : Array Bool) (a : Act) (w : World),
      (∀ j oj, ops[j]? = some oj → j ≠ i → listed.getD j true = false → (∀ e ∈ oj.after, Region.binds md e = true → e.on ≠ i) → oi.apart ops oj = true) →
      i ∈ Region.ready md ops listed → YieldsIf P ops S oi v a → S w → listed.getD last true = false →
      wpAnyL P md ops Q S last fuel (listed.setIfInBounds i true) (a.put oi.dst v) w → wpAnyL P md ops Q S last (fuel + 1) listed a w := by
  intro fuel
  induction fuel with
  | zero =>
    intro listed a w _ hr hy hS hp H
    refine ⟨fun h => (by rw [h] at hr; cases hr), fun j hj => ?_⟩
    by_cases hji : j = i
    · subst hji; exact hy.wpOp hi hS ⟨fun _ => hS, H⟩
    · have := ready_mono hj hji
      rw [H.1] at this
      cases this
  | succ fuel ih =>
    intro listed a w hfree hr hy hS hp H
    refine ⟨fun h => (by rw [h] at hr; cases hr), fun j hj => ?_⟩
    by_cases hji : j = i
    · subst hji; exact hy.wpOp hi hS ⟨fun _ => hS, H⟩
    · have h1 := H.2 j (ready_mono hj hji)
      obtain ⟨hjun, oj, hoj, hall⟩ := mem_ready.1 hj
      have hnot : ∀ e ∈ oj.after, Region.binds md e = true → e.on ≠ i := fun e he hb heq => by
        have h1 := hall e he hb
        have h0 := (mem_ready.1 hr).1
        rw [heq] at h1
        rcases Nat.lt_or_ge i listed.size with h' | h'
        · simp [h'] at h0 h1; rw [h0] at h1; cases h1
        · simp [Array.getElem?_eq_none h'] at h1
      have hjl : j ≠ last := fun e => by
        subst e
        obtain ⟨e, he, hb, ho⟩ := hl oj hoj
        exact hnot e he hb ho
      have h2 := wpOp_putIf hoj (hfree j oj hoj hji hjun hnot) (fun cs b => hsel i oi cs b hi) (fun cs b => hsel j oj cs b hoj) hQ hy h1
      have hfree' : ∀ k ok, ops[k]? = some ok → k ≠ i → (listed.setIfInBounds j true).getD k true = false →
          (∀ e ∈ ok.after, Region.binds md e = true → e.on ≠ i) → oi.apart ops ok = true := fun k ok hk hki hun hno => by
        refine hfree k ok hk hki ?_ hno
        by_cases hjk : j = k
        · subst hjk; exact hjun
        · rw [getD_set_ne true hjk] at hun; exact hun
      have hp' : (listed.setIfInBounds j true).getD last true = false := by rw [getD_set_ne true hjl]; exact hp
      have hp2 : ((listed.setIfInBounds i true).setIfInBounds j true).getD last true = false := by rw [getD_set_ne true hjl, getD_set_ne true hil]; exact hp
      refine wpOp_mono (fun a' w' h3 => ⟨fun _ => h3.2.1 hp2, ih (listed.setIfInBounds j true) a' w' hfree' (ready_mono hr (Ne.symm hji)) h3.1 (h3.2.1 hp2) hp' ?_⟩) h2
      rw [Array.setIfInBounds_comm _ _ hji]
      exact h3.2.2
theorem wpAnyL_firstW {i : Nat} {oi : Oper} {v : Value} (hi : ops[i]? = some oi) (hsel : ∀ (j : Nat) (o : Oper) cs b, ops[j]? = some o → o.op ≠ .select cs b)
    (hQ : ∀ c a w, Q (.panic c) (a.put oi.dst v) w → Q (.panic c) a w) (hil : i ≠ last) :
    ∀ (fuel : Nat) (listed : Array Bool) (a : Act) (w : World),
      (∀ j oj, ops[j]? = some oj → j ≠ i → listed.getD j true = false → (∀ e ∈ oj.after, Region.binds md e = true → e.on ≠ i) → oi.apart ops oj = true) →
      i ∈ Region.ready md ops listed → YieldsIf P ops (fun _ => True) oi v a → (listed.getD last true = false → S w) →
      wpAnyL P md ops Q S last fuel (listed.setIfInBounds i true) (a.put oi.dst v) w → wpAnyL P md ops Q S last (fuel + 1) listed a w := by
  intro fuel
  induction fuel with
  | zero =>
    intro listed a w _ hr hy hS H
    refine ⟨fun h => (by rw [h] at hr; cases hr), fun j hj => ?_⟩
    by_cases hji : j = i
    · subst hji; exact hy.wpOp hi trivial ⟨fun h => hS (by rw [getD_set_ne true hil] at h; exact h), H⟩
    · have := ready_mono hj hji
      rw [H.1] at this
      cases this
  | succ fuel ih =>
    intro listed a w hfree hr hy hS H
    refine ⟨fun h => (by rw [h] at hr; cases hr), fun j hj => ?_⟩
    by_cases hji : j = i
    · subst hji; exact hy.wpOp hi trivial ⟨fun h => hS (by rw [getD_set_ne true hil] at h; exact h), H⟩
    · have h1 := H.2 j (ready_mono hj hji)
      obtain ⟨hjun, oj, hoj, hall⟩ := mem_ready.1 hj
      have hnot : ∀ e ∈ oj.after, Region.binds md e = true → e.on ≠ i := fun e he hb heq => by
        have h1 := hall e he hb
        have h0 := (mem_ready.1 hr).1
        rw [heq] at h1
        rcases Nat.lt_or_ge i listed.size with h' | h'
        · simp [h'] at h0 h1; rw [h0] at h1; cases h1
        · simp [Array.getElem?_eq_none h'] at h1
      have h2 := wpOp_putIf hoj (hfree j oj hoj hji hjun hnot) (fun cs b => hsel i oi cs b hi) (fun cs b => hsel j oj cs b hoj) hQ hy h1
      have hfree' : ∀ k ok, ops[k]? = some ok → k ≠ i → (listed.setIfInBounds j true).getD k true = false →
          (∀ e ∈ ok.after, Region.binds md e = true → e.on ≠ i) → oi.apart ops ok = true := fun k ok hk hki hun hno => by
        refine hfree k ok hk hki ?_ hno
        by_cases hjk : j = k
        · subst hjk; exact hjun
        · rw [getD_set_ne true hjk] at hun; exact hun
      have hs2 : ∀ w', ((((listed.setIfInBounds i true).setIfInBounds j true).getD last true = false) → S w') → ((listed.setIfInBounds j true).getD last true = false → S w') := fun w' h hp => h (by
        rw [Array.setIfInBounds_comm _ _ (Ne.symm hji), getD_set_ne true hil]; exact hp)
      refine wpOp_mono (fun a' w' h3 => ⟨hs2 w' h3.2.1, ih (listed.setIfInBounds j true) a' w' hfree' (ready_mono hr (Ne.symm hji)) h3.1 (hs2 w' h3.2.1) ?_⟩) h2
      rw [Array.setIfInBounds_comm _ _ hji]
      exact h3.2.2
/-- Take number i first: it reads what S says, and 'last' waits for it. -/
theorem wpAnyL_takeS {i : Nat} {oi : Oper} {v : Value} {fuel : Nat} {listed : Array Bool} {a : Act} {w : World} (hi : ops[i]? = some oi)
    (hs : Region.noSelect ops = true) (hf : Region.free md ops listed i = true) (hr : (Region.ready md ops listed).contains i = true) (hb : lastB md ops last i = true) (hl : (decide (i ≠ last) && !listed.getD last true) = true)
    (hQ : ∀ c a w, Q (.panic c) (a.put oi.dst v) w → Q (.panic c) a w) (hy : YieldsIf P ops S oi v a) (hS : S w)
    (h : wpAnyL P md ops Q S last fuel (listed.setIfInBounds i true) (a.put oi.dst v) w) : wpAnyL P md ops Q S last (fuel + 1) listed a w := by
  simp only [Bool.and_eq_true, decide_eq_true_eq, Bool.not_eq_true'] at hl
  exact wpAnyL_firstS hi (Region.noSelect_spec hs) hQ hl.1 (lastB_spec hb) fuel listed a w (Region.free_spec hi hf) (by simpa using hr) hy hS hl.2 h
/-- Take number i first: it yields its value in whatever world. -/
theorem wpAnyL_takeW {i : Nat} {oi : Oper} {v : Value} {fuel : Nat} {listed : Array Bool} {a : Act} {w : World} (hi : ops[i]? = some oi)
    (hs : Region.noSelect ops = true) (hf : Region.free md ops listed i = true) (hr : (Region.ready md ops listed).contains i = true) (hl : decide (i ≠ last) = true)
    (hQ : ∀ c a w, Q (.panic c) (a.put oi.dst v) w → Q (.panic c) a w) (hy : YieldsIf P ops (fun _ => True) oi v a) (hS : S w ∨ listed.getD last true = true)
    (h : wpAnyL P md ops Q S last fuel (listed.setIfInBounds i true) (a.put oi.dst v) w) : wpAnyL P md ops Q S last (fuel + 1) listed a w :=
  wpAnyL_firstW hi (Region.noSelect_spec hs) hQ (by simpa using hl) fuel listed a w (Region.free_spec hi hf) (by simpa using hr) hy (fun hp => hS.elim id (fun e => by rw [e] at hp; cases hp)) h
/-- One operation alone may come up. -/
theorem wpAnyL_one {i : Nat} {o : Oper} {fuel : Nat} {listed : Array Bool} {a : Act} {w : World} (hr : Region.ready md ops listed = [i]) (ho : ops[i]? = some o)
    (h : ∀ K' : Act → World → Prop, Shut (∀ a w, ((listed.setIfInBounds i true).getD last true = false → S w) → wpAnyL P md ops Q S last fuel (listed.setIfInBounds i true) a w → K' a w) → if Region.wanted o (yielded ops a.tmps) = true then Oper.wp P o a w K' Q else K' (a.put o.dst undef) w) :
    wpAnyL P md ops Q S last (fuel + 1) listed a w := by
  refine ⟨fun h0 => (by rw [hr] at h0; cases h0), fun j hj => ?_⟩
  rw [hr] at hj
  obtain rfl : j = i := by simpa using hj
  exact wpOp_step ho (fun K' hK => h K' (fun a w hS hW => hK a w ⟨hS, hW⟩))
theorem wpAnyL_done {listed : Array Bool} {a : Act} {w : World} (hr : Region.ready md ops listed = []) (h : Q .normal a w) : ∀ fuel, wpAnyL P md ops Q S last fuel listed a w
  | 0 => ⟨hr, h⟩
  | _ + 1 => ⟨fun _ => h, by rw [hr]; simp⟩
theorem wp_region_last {id : Nat} {a : Act} {w : World} (S : World → Prop) (last : Nat) (hm : P.follows .mixedOrders = true) (h : wpAnyL P .any ops Q S last ops.size (Array.replicate ops.size false) a w.drew) : (Code.region id ops true).wp P Q a w :=
  wp_region_any hm (wpAny_of_last _ _ _ _ h)
end
end Go.Proofs.YtjpbjbnialehbaaDoor

namespace Go.Proofs.YtjpbjbnialehbaaDoor
open Go.ChangeShapes Go.WideShapes Go.ChangeAt Go.RowKit
set_option linter.unusedVariables false
set_option maxRecDepth 8000
set_option linter.unusedSimpArgs false
def Ms.rg (t : Ms) (k : Nat) (v : Int) : Ms := { t with d := t.d.reg k v }
theorem Ms.rg_len (t : Ms) (k : Nat) (v : Int) : (t.rg k v).d.r.length = t.d.r.length := by unfold Ms.rg Md.reg; simp
section
variable {w : World} {B g gr rc : Nat} {y : Mv} {t : Ms} {st : Int}
end
def Ms.goes (t : Ms) (op : Nat) : Bool := match op with | 18 => !t.z | 19 => t.z | 20 => t.n == t.v | 21 => t.n != t.v | _ => true
def Ms.branch (t : Ms) (op : Nat) (n : Int) : Ms := if t.goes op = true then t.rg 7 ((nAt t.d.r 7 + 2 * n) % 65536) else t
end Go.Proofs.YtjpbjbnialehbaaDoor

namespace Go.Proofs.YtjpbjbnialehbaaDoor
open Go.ChangeShapes Go.WideShapes Go.ChangeAt Go.RowKit
set_option linter.unusedVariables false
set_option maxRecDepth 8000
set_option linter.unusedSimpArgs false
theorem bigA_setW {mem : List Int} (y : Mv) (k : Nat) (v : Int) (hm : mem.length = 256) (hk : k < 256) : (bigA mem y).setIfInBounds k (.int .i64 v) = bigA (mem.set k v) y := by
  unfold bigA
  rw [List.setIfInBounds_toArray, List.set_append_left _ _ (by rw [cellsN_length]; omega)]
  congr 2
  unfold cellsN
  rw [List.map_set]
theorem bigA_setF {mem : List Int} (y y' : Mv) (j : Nat) (v : Value) (hm : mem.length = 256) (he : y.cs.setIfInBounds j v = y'.cs) : (bigA mem y).setIfInBounds (256 + j) v = bigA mem y' := by
  unfold bigA
  rw [List.setIfInBounds_toArray, List.set_append_right _ _ (by rw [cellsN_length]; omega), cellsN_length, hm, show 256 + j - 256 = j by omega, ← he]
  congr 2
  simp
/-- The program's machine at a pointer; m0: what its list of words holds meanwhile. -/
structure Pz (w : World) (g B gr rc : Nat) (y : Mv) (t : Ms) (st : Int) (m0 : List Int) : Prop where
  row : w.heap[g]? = some (.cells (bigA t.d.m y) 45 (0, 0))
  len : t.d.m.length = 256
  own : OwnM w B y ⟨m0, t.d.r, t.d.i, t.d.o⟩
  er : y.r = ⟨some ⟨gr, 0, none⟩, 8, rc⟩
  r8 : t.d.r.length = 8
  fl : y.fl = t.fl st
  lo : B ≤ g
  ne : ∀ b, y.at b → b ≠ g
section
variable {w w' : World} {g B gr rc : Nat} {y : Mv} {t : Ms} {st : Int} {m0 : List Int}
theorem Pz.later (h : Pz w g B gr rc y t st m0) (hb : Below w.heap.size w w') : Pz w' g B gr rc y t st m0 := ⟨row_lat h.row hb, h.len, h.own.later hb, h.er, h.r8, h.fl, h.lo, h.ne⟩
theorem Pz.atr (h : Pz w g B gr rc y t st m0) : y.at gr := .inr (.inl (by rw [h.er]; rfl))
theorem Pz.gl (h : Pz w g B gr rc y t st m0) : g < w.heap.size := row_lt h.row
theorem Pz.yl (h : Pz w g B gr rc y t st m0) {b : Nat} (hb : y.at b) : b < w.heap.size := (h.own.lo hb).2
theorem Pz.pg (h : Pz w g B gr rc y t st t.d.m) : Pg w g B gr rc y t.d := ⟨h.row, h.len, h.own, by rw [h.r8]; exact h.er, h.ne _ h.atr⟩
theorem Pz.ofPg {d2 : Md} (h : Pz w g B gr rc y t st t.d.m) (p : Pg w' g B gr rc y d2) : Pz w' g B gr rc y { t with d := d2 } st d2.m :=
  ⟨p.row, p.len, p.own, h.er, by have := p.er; rw [h.er] at this; injection this with _ e _; exact e.symm, h.fl, h.lo, h.ne⟩
/-- A flag, or how it stands, is written. -/
theorem Pz.setF (h : Pz w g B gr rc y t st m0) (j : Nat) (v : Value) (y' : Mv) (t' : Ms) (st' : Int) (he : y.cs.setIfInBounds j v = y'.cs) (em : y'.m = y.m) (er : y'.r = y.r) (ei : y'.i = y.i) (eo : y'.o = y.o) (hd : t'.d = t.d) (hf : y'.fl = t'.fl st') :
    Pz (w.setCell ⟨g, 256 + j, none⟩ v) g B gr rc y' t' st' m0 ∧ Fm w (w.setCell ⟨g, 256 + j, none⟩ v) g y y' := by
  have hat : ∀ b, y'.at b → y.at b := fun b hb => by unfold Mv.at at hb ⊢; rw [em, er, ei, eo] at hb; exact hb
  refine ⟨⟨?_, by rw [hd]; exact h.len, ?_, by rw [er]; exact h.er, by rw [hd]; exact h.r8, hf, h.lo, fun b hb => h.ne b (hat b hb)⟩, Fm.grown (grownBy_set (b := g) (o := 256 + j) v) (.inl rfl) hat⟩
  · rw [setCell_eq_setRow w g _ _ 45 (0, 0) _ h.row, bigA_setF y y' j v h.len he, hd]
    exact setRow_heap w g _ _ 45 _ h.row
  · have o2 := h.own.keepH (w' := w.setCell ⟨g, 256 + j, none⟩ v) fun b hb _ => Below.heap_setCell w ⟨g, 256 + j, none⟩ v b (h.ne b hb)
    rw [hd]
    obtain ⟨o1, o3, o4, o5, a1, a2, a3, a4, a5, a6⟩ := o2
    exact ⟨by rw [em]; exact o1, by rw [er]; exact o3, by rw [ei]; exact o4, by rw [eo]; exact o5, by rw [em, er]; exact a1, by rw [em, ei]; exact a2, by rw [em, eo]; exact a3, by rw [er, ei]; exact a4, by rw [er, eo]; exact a5, by rw [ei, eo]; exact a6⟩
theorem Pz.setV (h : Pz w g B gr rc y t st m0) (b : Bool) : Pz (w.setCell ⟨g, 260, none⟩ (.bool b)) g B gr rc { y with v := b } { t with v := b } st m0 ∧ Fm w (w.setCell ⟨g, 260, none⟩ (.bool b)) g y { y with v := b } :=
  h.setF 4 (.bool b) { y with v := b } { t with v := b } st rfl rfl rfl rfl rfl rfl (by have := h.fl; unfold Mv.fl Ms.fl at *; simp at *; exact ⟨this.1, this.2.1, this.2.2.2⟩)
theorem Pz.setC (h : Pz w g B gr rc y t st m0) (b : Bool) : Pz (w.setCell ⟨g, 261, none⟩ (.bool b)) g B gr rc { y with c := b } { t with c := b } st m0 ∧ Fm w (w.setCell ⟨g, 261, none⟩ (.bool b)) g y { y with c := b } :=
  h.setF 5 (.bool b) { y with c := b } { t with c := b } st rfl rfl rfl rfl rfl rfl (by have := h.fl; unfold Mv.fl Ms.fl at *; simp at *; exact ⟨this.1, this.2.1, this.2.2.1, this.2.2.2.2⟩)
theorem Pz.setN (h : Pz w g B gr rc y t st m0) (b : Bool) : Pz (w.setCell ⟨g, 258, none⟩ (.bool b)) g B gr rc { y with n := b } { t with n := b } st m0 ∧ Fm w (w.setCell ⟨g, 258, none⟩ (.bool b)) g y { y with n := b } :=
  h.setF 2 (.bool b) { y with n := b } { t with n := b } st rfl rfl rfl rfl rfl rfl (by have := h.fl; unfold Mv.fl Ms.fl at *; simp at *; exact ⟨this.2.1, this.2.2⟩)
theorem Pz.setZ (h : Pz w g B gr rc y t st m0) (b : Bool) : Pz (w.setCell ⟨g, 259, none⟩ (.bool b)) g B gr rc { y with z := b } { t with z := b } st m0 ∧ Fm w (w.setCell ⟨g, 259, none⟩ (.bool b)) g y { y with z := b } :=
  h.setF 3 (.bool b) { y with z := b } { t with z := b } st rfl rfl rfl rfl rfl rfl (by have := h.fl; unfold Mv.fl Ms.fl at *; simp at *; exact ⟨this.1, this.2.2⟩)
theorem Pz.setS (h : Pz w g B gr rc y t st m0) (s : Int) : Pz (w.setCell ⟨g, 264, none⟩ (.int .i64 s)) g B gr rc { y with st := s } t s m0 ∧ Fm w (w.setCell ⟨g, 264, none⟩ (.int .i64 s)) g y { y with st := s } :=
  h.setF 8 (.int .i64 s) { y with st := s } t s rfl rfl rfl rfl rfl rfl (by have := h.fl; unfold Mv.fl Ms.fl at *; simp at *; exact ⟨this.1, this.2.1, this.2.2.1, this.2.2.2.1⟩)
theorem Pz.cell (h : Pz w g B gr rc y t st m0) (k : Nat) (v : Value) (hv : y.cs[k]? = some v) : w.cell? ⟨g, 256 + k, none⟩ = some v := big_cell h.row h.len k v hv
theorem Pz.fz (h : Pz w g B gr rc y t st m0) (j : Nat) : w.frozen? ⟨g, j, none⟩ = false := by simp [World.frozen?, h.row]
theorem Pz.cr (h : Pz w g B gr rc y t st m0) : w.cell? ⟨g, 257, none⟩ = some (.slice (some ⟨gr, 0, none⟩) 8 rc) := by
  have c := h.cell 1 (.slice y.r.a y.r.n y.r.c) rfl
  rw [h.er] at c
  exact c
/-- A register is written. -/
theorem Pz.setR (h : Pz w g B gr rc y t st m0) (k : Nat) (v : Int) (hk : k < 8) : Pz (w.setCell ⟨gr, k, none⟩ (.int .i64 v)) g B gr rc y (t.rg k v) st m0 ∧ Fm w (w.setCell ⟨gr, k, none⟩ (.int .i64 v)) g y y ∧ w.cell? ⟨gr, k, none⟩ = some (.int .i64 (nAt t.d.r k)) ∧ w.frozen? ⟨gr, k, none⟩ = false := by
  obtain ⟨o3, g3, _, _, c1, c2⟩ := own_setR h.own (show y.r = ⟨some ⟨gr, 0, none⟩, (Md.mk m0 t.d.r t.d.i t.d.o).r.length, rc⟩ by rw [h.r8]; exact h.er) k v (by rw [h.r8]; exact hk)
  exact ⟨⟨row_past h.row g3 (h.ne _ h.atr), h.len, o3, h.er, by rw [Ms.rg_len]; exact h.r8, h.fl, h.lo, h.ne⟩, Fm.grown g3 (.inr h.atr) (fun k hk => hk), c1, c2⟩
/-- A word of the memory is written. -/
theorem Pz.setM (h : Pz w g B gr rc y t st m0) (k : Nat) (v : Int) (hk : k < 256) : Pz (w.setCell ⟨g, k, none⟩ (.int .i64 v)) g B gr rc y { t with d := ⟨t.d.m.set k v, t.d.r, t.d.i, t.d.o⟩ } st m0 ∧ Fm w (w.setCell ⟨g, k, none⟩ (.int .i64 v)) g y y ∧ w.cell? ⟨g, k, none⟩ = some (.int .i64 (nAt t.d.m k)) ∧ w.frozen? ⟨g, k, none⟩ = false := by
  refine ⟨⟨?_, by simp [h.len], h.own.keepH (w' := w.setCell ⟨g, k, none⟩ (.int .i64 v)) fun b hb _ => Below.heap_setCell w ⟨g, k, none⟩ _ b (h.ne b hb), h.er, h.r8, h.fl, h.lo, h.ne⟩, Fm.grown (grownBy_set (b := g) (o := k) _) (.inl rfl) (fun k hk => hk), ?_, h.fz k⟩
  · rw [setCell_eq_setRow w g _ _ 45 (0, 0) _ h.row, bigA_setW y k v h.len hk]
    exact setRow_heap w g _ _ 45 _ h.row
  · exact (cell_of_row w g k _ 45 _ h.row).trans (bigA_mem y h.len hk)
end
theorem Fm.grownR {w w' : World} {g gr : Nat} {y : Mv} (hg : w.grownBy w' (some gr)) (ha : y.at gr) : Fm w w' g y y := Fm.grown hg (.inr ha) (fun k hk => hk)
end Go.Proofs.YtjpbjbnialehbaaDoor

namespace Go.Proofs.YtjpbjbnialehbaaDoor
open Go.ChangeShapes Go.WideShapes Go.ChangeAt Go.RowKit
set_option linter.unusedVariables false
set_option maxRecDepth 8000
set_option linter.unusedSimpArgs false
def sgI (n : Int) : Bool := decide (32768 ≤ n)
theorem hasSign_any (n : Int) (w : World) : Calls Tryd.prog 24 #[.int .i64 n] w fun e w' => e = .returned (.bool (sgI n)) ∧ w' = w := by
  unfold sgI
  go_enter Tryd.func24, Tryd.ntmps24
  go_wp2
  go_ret
  exact ⟨by simp, rfl⟩
def wkR (op : Nat) (s d : Int) : Int := match op with
  | 1 => s
  | 2 => (s - d) % 65536
  | 3 => bits .andNot .i64 d s
  | 4 => bits .or .i64 d s
  | 5 => (s + d) % 65536
  | 6 => (d - s) % 65536
  | 7 => 0
  | 8 => (d + 1) % 65536
  | 9 => (d - 1) % 65536
  | 10 => (-d) % 65536
  | 11 => d
  | 12 => (sgV d / 2) % 65536
  | _ => (2 * d) % 65536
def wkV (op : Nat) (s d : Int) : Bool := match op with
  | 2 => (sgI s != sgI d) && (sgI ((s - d) % 65536) == sgI d)
  | 5 => (sgI s == sgI d) && (sgI ((s + d) % 65536) != sgI s)
  | 6 => (sgI d != sgI s) && (sgI ((d - s) % 65536) == sgI s)
  | 8 => d == 32767
  | 9 => d == 32768
  | 10 => (-d) % 65536 == 32768
  | 12 => sgI ((sgV d / 2) % 65536) != (bits .and .i64 d 1 == 1)
  | 13 => sgI ((2 * d) % 65536) != sgI d
  | _ => false
def wkC (op : Nat) (s d : Int) (c : Bool) : Bool := match op with
  | 2 => decide (s < d)
  | 5 => !inB (s + d) 0 65535
  | 6 => decide (d < s)
  | 7 => false
  | 10 => (-d) % 65536 != 0
  | 11 => false
  | 12 => bits .and .i64 d 1 == 1
  | 13 => sgI d
  | _ => c
def Mv.wk (y : Mv) (op : Nat) (s d : Int) : Mv := { y with v := wkV op s d, c := wkC op s d y.c }
def Ms.wk (t : Ms) (op : Nat) (s d : Int) : Ms := { t with v := wkV op s d, c := wkC op s d t.c }
/-- What a work makes of s and d. -/
def WkIs (k op : Nat) : Prop := ∀ (g B gr rc : Nat) (y : Mv) (t : Ms) (st : Int) (m0 : List Int) (s d : Int) (w : World), Pz w g B gr rc y t st m0 → 0 ≤ s → s ≤ 65535 → 0 ≤ d → d ≤ 65535 →
  Calls Tryd.prog k #[.pointer (some ⟨g, 0, none⟩), .int .i64 s, .int .i64 d] w fun e w' => e = .returned (.int .i64 (wkR op s d)) ∧ Pz w' g B gr rc (y.wk op s d) (t.wk op s d) st m0 ∧ Fm w w' g y (y.wk op s d)
theorem Pz.flz {w : World} {g B gr rc : Nat} {y : Mv} {t : Ms} {st : Int} {m0 : List Int} (h : Pz w g B gr rc y t st m0) : t.n = y.n ∧ t.z = y.z ∧ t.v = y.v ∧ t.c = y.c ∧ st = y.st := by
  have := h.fl
  unfold Mv.fl Ms.fl at this
  simp at this
  exact ⟨this.1.symm, this.2.1.symm, this.2.2.1.symm, this.2.2.2.1.symm, this.2.2.2.2.symm⟩
/-- V and C written. -/
theorem Pz.setVC {w : World} {g B gr rc : Nat} {y : Mv} {t : Ms} {st : Int} {m0 : List Int} (h : Pz w g B gr rc y t st m0) (a b : Bool) : Pz ((w.setCell ⟨g, 260, none⟩ (.bool a)).setCell ⟨g, 261, none⟩ (.bool b)) g B gr rc { y with v := a, c := b } { t with v := a, c := b } st m0 ∧ Fm w ((w.setCell ⟨g, 260, none⟩ (.bool a)).setCell ⟨g, 261, none⟩ (.bool b)) g y { y with v := a, c := b } :=
  ⟨((h.setV a).1.setC b).1, (h.setV a).2.trans ((h.setV a).1.setC b).2⟩
set_option maxHeartbeats 2000000 in
theorem wk_1 : WkIs 50 1 := by
  intro g B gr rc y t st m0 s d w h s0 s1 d0 d1
  have c4 := h.cell 4 _ rfl
  have f4 := h.fz 260
  have c5 := h.cell 5 _ rfl
  have f5 := h.fz 261
  have HT := hide h.flz.2.2.2.1
  have H := hide h
  unfold Mv.wk Ms.wk
  simp only [wkV, wkC, wkR]
  have H2 := hide (((unhide H).setV false))
  clear h
  go_enter Tryd.func50, Tryd.ntmps50
  go_wp2
  go_ret
  rw [unhide HT]
  have := unhide HT
  exact ⟨rfl, by have q := (unhide H2).1; rw [show ({ t with v := false } : Ms) = { t with v := false, c := y.c } by rw [← this]] at q; exact q, (unhide H2).2⟩
set_option maxHeartbeats 2000000 in
theorem wk_3 : WkIs 53 3 := by
  intro g B gr rc y t st m0 s d w h s0 s1 d0 d1
  have c4 := h.cell 4 _ rfl
  have f4 := h.fz 260
  have c5 := h.cell 5 _ rfl
  have f5 := h.fz 261
  have HT := hide h.flz.2.2.2.1
  have H := hide h
  unfold Mv.wk Ms.wk
  simp only [wkV, wkC, wkR]
  have hq : bits .andNot .i64 d s = bits .andNot .i64 d s := rfl
  clear hq
  have H2 := hide (((unhide H).setV false))
  clear h
  go_enter Tryd.func53, Tryd.ntmps53
  go_wp2
  go_ret
  rw [unhide HT]
  have := unhide HT
  exact ⟨rfl, by have q := (unhide H2).1; rw [show ({ t with v := false } : Ms) = { t with v := false, c := y.c } by rw [← this]] at q; exact q, (unhide H2).2⟩
set_option maxHeartbeats 2000000 in
theorem wk_4 : WkIs 54 4 := by
  intro g B gr rc y t st m0 s d w h s0 s1 d0 d1
  have c4 := h.cell 4 _ rfl
  have f4 := h.fz 260
  have c5 := h.cell 5 _ rfl
  have f5 := h.fz 261
  have HT := hide h.flz.2.2.2.1
  have H := hide h
  unfold Mv.wk Ms.wk
  simp only [wkV, wkC, wkR]
  have hq : bits .or .i64 d s = bits .or .i64 d s := rfl
  clear hq
  have H2 := hide (((unhide H).setV false))
  clear h
  go_enter Tryd.func54, Tryd.ntmps54
  go_wp2
  go_ret
  rw [unhide HT]
  have := unhide HT
  exact ⟨rfl, by have q := (unhide H2).1; rw [show ({ t with v := false } : Ms) = { t with v := false, c := y.c } by rw [← this]] at q; exact q, (unhide H2).2⟩
set_option maxHeartbeats 2000000 in
theorem wk_8 : WkIs 58 8 := by
  intro g B gr rc y t st m0 s d w h s0 s1 d0 d1
  have c4 := h.cell 4 _ rfl
  have f4 := h.fz 260
  have c5 := h.cell 5 _ rfl
  have f5 := h.fz 261
  have HT := hide h.flz.2.2.2.1
  have H := hide h
  unfold Mv.wk Ms.wk
  simp only [wkV, wkC, wkR]
  have hw : IntKind.i64.wrap (d + 1) = d + 1 := by rw [IntKind.wrap_i64]; omega
  have WR := hide (fun v => wrapI_any (d + 1) v)
  generalize (d + 1) % 65536 = r at WR ⊢
  have H2 := hide (((unhide H).setV (d == 32767)))
  clear h
  go_enter Tryd.func58, Tryd.ntmps58
  go_wp2_with fail
  refine (unhide WR _).mono ?_
  rintro e w9 ⟨rfl, hw9⟩
  rw [hw9]
  clear hw9 w9
  go_wp2
  go_ret
  have := unhide HT
  exact ⟨rfl, by have q := (unhide H2).1; rw [show ({ t with v := (d == 32767) } : Ms) = { t with v := (d == 32767), c := t.c } from rfl] at q; exact q, (unhide H2).2⟩
set_option maxHeartbeats 2000000 in
theorem wk_9 : WkIs 59 9 := by
  intro g B gr rc y t st m0 s d w h s0 s1 d0 d1
  have c4 := h.cell 4 _ rfl
  have f4 := h.fz 260
  have c5 := h.cell 5 _ rfl
  have f5 := h.fz 261
  have HT := hide h.flz.2.2.2.1
  have H := hide h
  unfold Mv.wk Ms.wk
  simp only [wkV, wkC, wkR]
  have hw : IntKind.i64.wrap (d - 1) = d - 1 := by rw [IntKind.wrap_i64]; omega
  have WR := hide (fun v => wrapI_any (d - 1) v)
  generalize (d - 1) % 65536 = r at WR ⊢
  have H2 := hide (((unhide H).setV (d == 32768)))
  clear h
  go_enter Tryd.func59, Tryd.ntmps59
  go_wp2_with fail
  refine (unhide WR _).mono ?_
  rintro e w9 ⟨rfl, hw9⟩
  rw [hw9]
  clear hw9 w9
  go_wp2
  go_ret
  have := unhide HT
  exact ⟨rfl, by have q := (unhide H2).1; rw [show ({ t with v := (d == 32768) } : Ms) = { t with v := (d == 32768), c := t.c } from rfl] at q; exact q, (unhide H2).2⟩
set_option maxHeartbeats 2000000 in
theorem wk_7 : WkIs 57 7 := by
  intro g B gr rc y t st m0 s d w h s0 s1 d0 d1
  have c4 := h.cell 4 _ rfl
  have f4 := h.fz 260
  have c5 := h.cell 5 _ rfl
  have f5 := h.fz 261
  have HT := hide h.flz.2.2.2.1
  have H := hide h
  unfold Mv.wk Ms.wk
  simp only [wkV, wkC, wkR]
  have H2 := hide ((unhide H).setVC false false)
  clear h
  go_enter Tryd.func57, Tryd.ntmps57
  go_wp2
  go_ret
  exact ⟨rfl, (unhide H2).1, (unhide H2).2⟩
set_option maxHeartbeats 2000000 in
theorem wk_11 : WkIs 61 11 := by
  intro g B gr rc y t st m0 s d w h s0 s1 d0 d1
  have c4 := h.cell 4 _ rfl
  have f4 := h.fz 260
  have c5 := h.cell 5 _ rfl
  have f5 := h.fz 261
  have HT := hide h.flz.2.2.2.1
  have H := hide h
  unfold Mv.wk Ms.wk
  simp only [wkV, wkC, wkR]
  have H2 := hide ((unhide H).setVC false false)
  clear h
  go_enter Tryd.func61, Tryd.ntmps61
  go_wp2
  go_ret
  exact ⟨rfl, (unhide H2).1, (unhide H2).2⟩
end Go.Proofs.YtjpbjbnialehbaaDoor
