/- Contracts over this seat's translation, laid together; conditions stand as hypotheses of each. -/
import Derived.Test.YtjpbjbnialehbaaDoorAsI
import Derived.Test.YtjpbjbnialehbaaDoorAsN
import Derived.Laws.BitsAllLaws

namespace Go.Proofs.YtjpbjbnialehbaaDoor
open Go.ChangeShapes Go.WideShapes Go.ChangeAt Go.RowKit
set_option linter.unusedVariables false
set_option maxRecDepth 8000
set_option linter.unusedSimpArgs false
/-- What an action answers, whatever its machine has become. -/
def DoE (g B : Nat) (y : Mv) (t2 : Ms) (st2 : Int) (ok : Bool) (w : World) (e : Ending) (w' : World) : Prop := ∃ y', e = .returned (.bool ok) ∧ AcE ok (Pe w' g B y' t2 st2) (Fm w w' g y y')
set_option maxHeartbeats 2000000 in
theorem exchange_any (g B gr rc op sm sr dm dr : Nat) (sx dx n : Int) (y : Mv) (t : Ms) (st : Int) (w : World) (h : Pz w g B gr rc y t st t.d.m) (hk : Dk t.d) :
    Calls Tryd.prog 74 #[.pointer (some ⟨g, 0, none⟩), .agg #[.int .i64 (op : Int), .int .i64 (sm : Int), .int .i64 (sr : Int), .int .i64 sx, .int .i64 (dm : Int), .int .i64 (dr : Int), .int .i64 dx, .int .i64 n]] w (DoE g B y (t.emt n) st (t.emtB n) w) := by
  have H1 := hide (h.later (below_new w (Obj.cells #[.int .i64 (op : Int), .int .i64 (sm : Int), .int .i64 (sr : Int), .int .i64 sx, .int .i64 (dm : Int), .int .i64 (dr : Int), .int .i64 dx, .int .i64 n] 30)))
  have F1 := hide (Fm.of (g := g) (y := y) (below_new w (Obj.cells #[.int .i64 (op : Int), .int .i64 (sm : Int), .int .i64 (sr : Int), .int .i64 sx, .int .i64 (dm : Int), .int .i64 (dr : Int), .int .i64 dx, .int .i64 n] 30)))
  have k7 := insR 7 _ (heap_alloc_last w (Obj.cells #[.int .i64 (op : Int), .int .i64 (sm : Int), .int .i64 (sr : Int), .int .i64 sx, .int .i64 (dm : Int), .int .i64 (dr : Int), .int .i64 dx, .int .i64 n] 30)) rfl
  by_cases n1 : n = 1
  · subst n1
    have SO := hide (show SoIs g B y t (t.out (t.d.o ++ [nAt t.d.r 0])) st (decide (t.d.o.length < 50)) (w.alloc (Obj.cells #[.int .i64 (op : Int), .int .i64 (sm : Int), .int .i64 (sr : Int), .int .i64 sx, .int .i64 (dm : Int), .int .i64 (dr : Int), .int .i64 dx, .int .i64 1] 30)) from by
      by_cases hl : t.d.o.length < 50
      · rw [decide_eq_true hl]
        exact send_yes g B gr rc y t st _ (unhide H1) hk hl
      · rw [decide_eq_false hl]
        have q := send_no g B gr rc y t st _ (unhide H1) hk (by have := hk.ol; omega)
        unfold SoIs at q ⊢
        exact q.mono fun e w' ⟨y', a, b⟩ => ⟨y', a, ⟨fun h => Bool.noConfusion h, b.fm⟩⟩)
    unfold SoIs at SO
    unfold DoE Ms.emt Ms.emtB
    simp only [if_true]
    generalize decide (t.d.o.length < 50) = ok at SO ⊢
    clear h hk
    go_enter Tryd.func74, Tryd.ntmps74
    go_wp2_with fail
    refine (unhide SO).mono ?_
    rintro e w2 ⟨y2, rfl, a2⟩
    have A2 := hide a2
    clear a2 SO
    go_wp2
    go_ret
    first | exact ⟨y2, rfl, ⟨fun h => (unhide A2).yes h, (unhide F1).trans (unhide A2).fm⟩⟩ | exact ⟨rfl, y2, ⟨fun h => (unhide A2).yes h, (unhide F1).trans (unhide A2).fm⟩⟩
  · by_cases n2 : n = 2
    · subst n2
      have TI := hide (show TiIs g B y (t.emt 2) st (w.alloc (Obj.cells #[.int .i64 (op : Int), .int .i64 (sm : Int), .int .i64 (sr : Int), .int .i64 sx, .int .i64 (dm : Int), .int .i64 (dr : Int), .int .i64 dx, .int .i64 2] 30)) from by
        unfold Ms.emt
        rw [if_neg (by omega)]
        cases hi : t.d.i with
        | nil => exact take_e g B gr rc y t st _ (unhide H1) hk hi
        | cons x xs => exact take_x g B gr rc y t st _ (unhide H1) hk x xs hi)
      unfold TiIs at TI
      unfold DoE Ms.emtB
      simp only [if_neg n1]
      generalize t.emt 2 = t2 at TI ⊢
      clear h hk
      go_enter Tryd.func74, Tryd.ntmps74
      go_wp2_with fail
      refine (unhide TI).mono ?_
      rintro e w2 ⟨y2, rfl, a2, f2⟩
      have A2 := hide a2
      have F2 := hide ((unhide F1).trans f2)
      clear a2 f2 TI
      go_wp2
      go_ret
      first | exact ⟨y2, rfl, ⟨fun _ => unhide A2, unhide F2⟩⟩ | exact ⟨rfl, y2, ⟨fun _ => unhide A2, unhide F2⟩⟩
    · unfold DoE Ms.emtB
      rw [if_neg n1, decide_eq_false n2]
      clear h hk
      go_enter Tryd.func74, Tryd.ntmps74
      go_wp2
      go_ret
      first | exact ⟨y, rfl, ⟨fun h => by simp at h, unhide F1⟩⟩ | exact ⟨rfl, y, ⟨fun h => by simp at h, unhide F1⟩⟩
theorem or_w {d s : Int} (d0 : 0 ≤ d) (d1 : d ≤ 65535) (s0 : 0 ≤ s) (s1 : s ≤ 65535) : 0 ≤ bits .or .i64 d s ∧ bits .or .i64 d s ≤ 65535 := by
  obtain ⟨a, rfl⟩ := Int.eq_ofNat_of_zero_le d0
  obtain ⟨b, rfl⟩ := Int.eq_ofNat_of_zero_le s0
  rw [(bits_nat .i64 16 (by decide) (fun n h0 h1 => by rw [IntKind.wrap_i64]; omega) a b (by omega) (by omega)).2]
  have : a ||| b < 2 ^ 16 := Nat.or_lt_two_pow (by omega) (by omega)
  omega
theorem andNot_w {d s : Int} (d0 : 0 ≤ d) (d1 : d ≤ 65535) (s0 : 0 ≤ s) (s1 : s ≤ 65535) : 0 ≤ bits .andNot .i64 d s ∧ bits .andNot .i64 d s ≤ 65535 := by
  obtain ⟨a, rfl⟩ := Int.eq_ofNat_of_zero_le d0
  obtain ⟨b, rfl⟩ := Int.eq_ofNat_of_zero_le s0
  have hx : (BitVec.ofInt 64 (a : Int) &&& ~~~BitVec.ofInt 64 (b : Int)).toNat ≤ a := by
    rw [BitVec.toNat_and]
    refine Nat.le_trans Nat.and_le_left ?_
    rw [BitVec.toNat_ofInt]
    omega
  have e : bits .andNot .i64 (a : Int) (b : Int) = IntKind.i64.wrap ((BitVec.ofInt 64 (a : Int) &&& ~~~BitVec.ofInt 64 (b : Int)).toNat : Int) := rfl
  rw [e, IntKind.wrap_i64]
  omega
theorem wkR_w (op : Nat) {s d : Int} (s0 : 0 ≤ s) (s1 : s ≤ 65535) (d0 : 0 ≤ d) (d1 : d ≤ 65535) : 0 ≤ wkR op s d ∧ wkR op s d ≤ 65535 := by
  unfold wkR
  split
  · omega
  · omega
  · exact andNot_w d0 d1 s0 s1
  · exact or_w d0 d1 s0 s1
  all_goals omega
theorem stD_mod (d : Md) (r a n : Int) : d.stD r a (n % 65536) = d.stD r a n := by
  unfold Md.stD Md.put
  rw [Int.emod_emod]
theorem sgB_w {n : Int} (h0 : 0 ≤ n) (h1 : n ≤ 65535) : sgB n = sgI n := by
  unfold sgB sgI
  rw [Int.emod_eq_of_lt h0 (by omega)]
theorem sgB_m (n : Int) : sgB n = sgI (n % 65536) := rfl
/-- What an instruction of two operands leaves: the program's is the model's. -/
theorem two_eqI (t : Ms) (op : Nat) (s qr qa : Int) (ho : 1 ≤ op ∧ op ≤ 6 ∧ op ≠ 2) (s0 : 0 ≤ s) (s1 : s ≤ 65535) (d0 : 0 ≤ t.d.ldV qr qa) (d1 : t.d.ldV qr qa ≤ 65535) :
    ((t.wk op s (t.d.ldV qr qa)).nzI (wkR op s (t.d.ldV qr qa))).st qr qa (wkR op s (t.d.ldV qr qa)) = t.two op s qr qa := by
  have e : op = 1 ∨ op = 3 ∨ op = 4 ∨ op = 5 ∨ op = 6 := by omega
  rcases e with rfl | rfl | rfl | rfl | rfl
  · simp only [Ms.two, Ms.st, Ms.nzI, Ms.wk, Ms.nz, wkR, wkV, wkC, sgB_w s0 s1, Int.emod_eq_of_lt s0 (show s < 65536 by omega)]
  · have b := andNot_w d0 d1 s0 s1
    simp only [Ms.two, Ms.st, Ms.nzI, Ms.wk, Ms.nz, wkR, wkV, wkC, sgB_w b.1 b.2, Int.emod_eq_of_lt b.1 (show bits .andNot .i64 (t.d.ldV qr qa) s < 65536 by omega)]
  · have b := or_w d0 d1 s0 s1
    simp only [Ms.two, Ms.st, Ms.nzI, Ms.wk, Ms.nz, wkR, wkV, wkC, sgB_w b.1 b.2, Int.emod_eq_of_lt b.1 (show bits .or .i64 (t.d.ldV qr qa) s < 65536 by omega)]
  · simp only [Ms.two, Ms.st, Ms.cs, Ms.nzI, Ms.wk, Ms.nz, wkR, wkV, wkC, sgB_w s0 s1, sgB_w d0 d1, sgB_m ((t.d.ldV qr qa + s) % 65536), Int.emod_emod, Int.add_comm s (t.d.ldV qr qa)]
    congr 1
    · generalize sgI s = a
      generalize sgI (t.d.ldV qr qa) = b
      cases a <;> cases b <;> rfl
    · unfold inB
      by_cases h : 65535 < t.d.ldV qr qa + s
      · rw [decide_eq_true h]; simp; omega
      · rw [decide_eq_false h]; simp; omega
  · simp only [Ms.two, Ms.st, Ms.cs, Ms.nzI, Ms.wk, Ms.nz, wkR, wkV, wkC, sgB_w s0 s1, sgB_w d0 d1, sgB_m ((t.d.ldV qr qa - s) % 65536), Int.emod_emod]
    congr 1
    generalize sgI s = a
    generalize sgI (t.d.ldV qr qa) = b
    cases a <;> cases b <;> rfl
theorem cmp_eqI (t : Ms) (s qr qa : Int) (s0 : 0 ≤ s) (s1 : s ≤ 65535) (d0 : 0 ≤ t.d.ldV qr qa) (d1 : t.d.ldV qr qa ≤ 65535) :
    (t.wk 2 s (t.d.ldV qr qa)).nzI (wkR 2 s (t.d.ldV qr qa)) = t.two 2 s qr qa := by
  simp only [Ms.two, Ms.st, Ms.cs, Ms.nzI, Ms.wk, Ms.nz, wkR, wkV, wkC, sgB_w s0 s1, sgB_w d0 d1, sgB_m ((s - t.d.ldV qr qa) % 65536), Int.emod_emod]
theorem one_eqI (t : Ms) (op : Nat) (qr qa : Int) (ho : 7 ≤ op ∧ op ≤ 13 ∧ op ≠ 11) (d0 : 0 ≤ t.d.ldV qr qa) (d1 : t.d.ldV qr qa ≤ 65535) :
    ((t.wk op 0 (t.d.ldV qr qa)).nzI (wkR op 0 (t.d.ldV qr qa))).st qr qa (wkR op 0 (t.d.ldV qr qa)) = t.one op qr qa := by
  have e : op = 7 ∨ op = 8 ∨ op = 9 ∨ op = 10 ∨ op = 12 ∨ op = 13 := by omega
  rcases e with rfl | rfl | rfl | rfl | rfl | rfl
  · simp only [Ms.one, Ms.st, Ms.cs, Ms.nzI, Ms.wk, Ms.nz, wkR, wkV, wkC]
    rfl
  · simp only [Ms.one, Ms.st, Ms.cs, Ms.nzI, Ms.wk, Ms.nz, wkR, wkV, wkC, sgB_m, stD_mod]
  · simp only [Ms.one, Ms.st, Ms.cs, Ms.nzI, Ms.wk, Ms.nz, wkR, wkV, wkC, sgB_m, stD_mod]
  · simp only [Ms.one, Ms.st, Ms.cs, Ms.nzI, Ms.wk, Ms.nz, wkR, wkV, wkC, sgB_m, stD_mod]
    congr 1
    · by_cases h : t.d.ldV qr qa = 32768
      · rw [h]; rfl
      · rw [beq_false_of_ne h, beq_false_of_ne (by omega)]
    · by_cases h : t.d.ldV qr qa = 0
      · rw [h]; rfl
      · simp only [bne]
        rw [beq_false_of_ne h, beq_false_of_ne (by omega)]
  · simp only [Ms.one, Ms.shift, Ms.st, Ms.cs, Ms.nzI, Ms.wk, Ms.nz, wkR, wkV, wkC, shR, shC, sgB_m, stD_mod, Int.emod_emod, if_true]
  · simp only [Ms.one, Ms.shift, Ms.st, Ms.cs, Ms.nzI, Ms.wk, Ms.nz, wkR, wkV, wkC, shR, shC, stD_mod, sgB_m ((t.d.ldV qr qa * 2) % 65536), Int.emod_emod, sgB_w d0 d1, Int.mul_comm 2, show ¬ (13 : Nat) = 12 by omega, if_false]
theorem tst_eqI (t : Ms) (qr qa : Int) (d0 : 0 ≤ t.d.ldV qr qa) (d1 : t.d.ldV qr qa ≤ 65535) :
    (t.wk 11 0 (t.d.ldV qr qa)).nzI (wkR 11 0 (t.d.ldV qr qa)) = t.one 11 qr qa := by
  simp only [Ms.one, Ms.cs, Ms.nzI, Ms.wk, Ms.nz, wkR, wkV, wkC, sgB_w d0 d1, Int.emod_eq_of_lt d0 (show t.d.ldV qr qa < 65536 by omega)]
/-- Whether an instruction is none that faults. -/
def Ms.doB (t : Ms) (op sm sr dm dr : Nat) (n : Int) : Bool :=
  if op ≤ 13 then t.woB op sm sr dm dr else if op = 14 then tgO t dm dr else if op = 15 then clO t dm dr else if op = 16 then (t.back1 n.toNat).d.has (nAt t.d.r 6) else if op ≤ 22 then true else t.emtB n
/-- What it leaves. -/
def Ms.dos (t : Ms) (op sm sr dm dr : Nat) (n : Int) : Ms :=
  if op ≤ 6 then ((t.op sm sr).op dm dr).two op (t.opV sm sr) ((t.op sm sr).d.plR dm dr) ((t.op sm sr).d.plA dm dr)
  else if op ≤ 13 then (t.op dm dr).one op (t.d.plR dm dr) (t.d.plA dm dr)
  else if op = 14 then (t.op dm dr).rg 7 (t.d.plA dm dr)
  else if op = 15 then (t.op dm dr).call n.toNat (t.d.plA dm dr)
  else if op = 16 then t.back n.toNat
  else if op ≤ 21 then t.branch op n
  else if op = 22 then t
  else t.emt n
def doS (op : Nat) (st : Int) : Int := if op = 22 then 1 else st
/-- The numbers of an instruction that is right. -/
structure InsN (op sm sr dm dr : Nat) (n : Int) : Prop where
  lo : 1 ≤ op
  hi : op ≤ 23
  src : op ≤ 6 → sm ≤ 7 ∧ sr < 8
  dst : op ≤ 15 → dm ≤ 7 ∧ dr < 8
  reg : op = 15 ∨ op = 16 → 0 ≤ n ∧ n ≤ 7
  bra : 17 ≤ op ∧ op ≤ 21 → -1000 ≤ n ∧ n ≤ 1000
/-- The action's value, and what its call answers. -/
def DoV (g B op sm sr dm dr b : Nat) (sx dx n : Int) (y : Mv) (t : Ms) (st : Int) (w : World) : Prop :=
  (∃ fn, actV op b = .func (.func fn) #[] #[.pointer (some ⟨b, 0, none⟩)] ∧ (∀ vs w, (callFunc fn vs).run Tryd.prog w = .ok (.enter fn vs) w) ∧ Calls Tryd.prog fn #[.pointer (some ⟨g, 0, none⟩), .agg #[.int .i64 (op : Int), .int .i64 (sm : Int), .int .i64 (sr : Int), .int .i64 sx, .int .i64 (dm : Int), .int .i64 (dr : Int), .int .i64 dx, .int .i64 n], .pointer (some ⟨b, 0, none⟩)] w (DoE g B y (t.dos op sm sr dm dr n) (doS op st) (t.doB op sm sr dm dr n) w)) ∨
  (∃ fn, actV op b = .func (.func fn) #[] #[] ∧ (∀ vs w, (callFunc fn vs).run Tryd.prog w = .ok (.enter fn vs) w) ∧ Calls Tryd.prog fn #[.pointer (some ⟨g, 0, none⟩), .agg #[.int .i64 (op : Int), .int .i64 (sm : Int), .int .i64 (sr : Int), .int .i64 sx, .int .i64 (dm : Int), .int .i64 (dr : Int), .int .i64 dx, .int .i64 n]] w (DoE g B y (t.dos op sm sr dm dr n) (doS op st) (t.doB op sm sr dm dr n) w))
section
variable {g B gr rc op sm sr dm dr b : Nat} {sx dx n : Int} {y : Mv} {t : Ms} {st : Int} {w : World}
theorem do_st (f : Nat) (h : Pz w g B gr rc y t st t.d.m) (hk : Dk t.d) (hi : InsN op sm sr dm dr n) (h13 : op ≤ 13) (hn : op ≠ 2 ∧ op ≠ 11) (wk : WkIs f op) (hcf : ∀ vs w, (callFunc f vs).run Tryd.prog w = .ok (.enter f vs) w) (hb : Bx w b f 90) :
    Calls Tryd.prog 77 #[.pointer (some ⟨g, 0, none⟩), .agg #[.int .i64 (op : Int), .int .i64 (sm : Int), .int .i64 (sr : Int), .int .i64 sx, .int .i64 (dm : Int), .int .i64 (dr : Int), .int .i64 dx, .int .i64 n], .pointer (some ⟨b, 0, none⟩)] w (DoE g B y (t.dos op sm sr dm dr n) (doS op st) (t.doB op sm sr dm dr n) w) := by
  have d := hi.dst (by omega)
  have VB := sV_b hk op sm sr
  have DB := op_v (dk_sT hk op sm sr) dm dr
  have RB := wkR_w op VB.1 VB.2 DB.1 DB.2
  have q := stored_any f b g B gr rc op sm sr dm dr sx dx n y t st w h hk hi.lo h13 hi.src d.1 d.2 wk hcf hb RB.1 RB.2
  unfold ActIs at q
  have e1 : t.doB op sm sr dm dr n = t.woB op sm sr dm dr := by unfold Ms.doB; rw [if_pos h13]
  have e2 : doS op st = st := by unfold doS; rw [if_neg (by omega)]
  have e3 : (t.wo op sm sr dm dr).st ((t.sT op sm sr).d.plR dm dr) ((t.sT op sm sr).d.plA dm dr) (wkS t op sm sr dm dr) = t.dos op sm sr dm dr n := by
    unfold Ms.dos Ms.wo wkS Ms.woT
    by_cases h6 : op ≤ 6
    · have s0 := op_v hk sm sr
      have d0 := op_v (dk_op hk sm sr) dm dr
      simp only [Ms.sT, Ms.sV, if_pos h6]
      exact two_eqI _ op (t.opV sm sr) _ _ ⟨hi.lo, h6, hn.1⟩ s0.1 s0.2 d0.1 d0.2
    · have d0 := op_v hk dm dr
      simp only [Ms.sT, Ms.sV, if_neg h6, if_pos h13]
      exact one_eqI _ op _ _ ⟨by omega, h13, hn.2⟩ d0.1 d0.2
  rw [e1, e2, ← e3]
  exact q.mono fun e w' ⟨a, c⟩ => ⟨_, a, ⟨fun ho => (c.yes ho).pe (dk_op (dk_sT hk op sm sr) dm dr).ml, c.fm.dst (fun b hb => hb)⟩⟩
theorem do_td (f : Nat) (h : Pz w g B gr rc y t st t.d.m) (hk : Dk t.d) (hi : InsN op sm sr dm dr n) (hn : op = 2 ∨ op = 11) (wk : WkIs f op) (hcf : ∀ vs w, (callFunc f vs).run Tryd.prog w = .ok (.enter f vs) w) (hb : Bx w b f 90) :
    Calls Tryd.prog 79 #[.pointer (some ⟨g, 0, none⟩), .agg #[.int .i64 (op : Int), .int .i64 (sm : Int), .int .i64 (sr : Int), .int .i64 sx, .int .i64 (dm : Int), .int .i64 (dr : Int), .int .i64 dx, .int .i64 n], .pointer (some ⟨b, 0, none⟩)] w (DoE g B y (t.dos op sm sr dm dr n) (doS op st) (t.doB op sm sr dm dr n) w) := by
  have h13 : op ≤ 13 := by omega
  have d := hi.dst (by omega)
  have q := told_any f b g B gr rc op sm sr dm dr sx dx n y t st w h hk hi.lo h13 hi.src d.1 d.2 wk hcf hb
  unfold ActIs at q
  have e1 : t.doB op sm sr dm dr n = t.woB op sm sr dm dr := by unfold Ms.doB; rw [if_pos h13]
  have e2 : doS op st = st := by unfold doS; rw [if_neg (by omega)]
  have e3 : t.wo op sm sr dm dr = t.dos op sm sr dm dr n := by
    unfold Ms.dos Ms.wo wkS Ms.woT
    rcases hn with rfl | rfl
    · have s0 := op_v hk sm sr
      have d0 := op_v (dk_op hk sm sr) dm dr
      exact cmp_eqI _ (t.opV sm sr) _ _ s0.1 s0.2 d0.1 d0.2
    · have d0 := op_v hk dm dr
      exact tst_eqI _ _ _ d0.1 d0.2
  rw [e1, e2, ← e3]
  exact q.mono fun e w' ⟨a, c⟩ => ⟨_, a, ⟨fun ho => (c.yes ho).pe (dk_op (dk_sT hk op sm sr) dm dr).ml, c.fm.dst (fun b hb => hb)⟩⟩
theorem do_br (f : Nat) (q : Ms → Bool) (h : Pz w g B gr rc y t st t.d.m) (hk : Dk t.d) (hi : InsN op sm sr dm dr n) (ho : 17 ≤ op ∧ op ≤ 21) (G : GoesIs f q) (eq : t.goes op = q t) (hcf : ∀ vs w, (callFunc f vs).run Tryd.prog w = .ok (.enter f vs) w) (hb : Bx w b f 85) :
    Calls Tryd.prog 86 #[.pointer (some ⟨g, 0, none⟩), .agg #[.int .i64 (op : Int), .int .i64 (sm : Int), .int .i64 (sr : Int), .int .i64 sx, .int .i64 (dm : Int), .int .i64 (dr : Int), .int .i64 dx, .int .i64 n], .pointer (some ⟨b, 0, none⟩)] w (DoE g B y (t.dos op sm sr dm dr n) (doS op st) (t.doB op sm sr dm dr n) w) := by
  have r := br_goes f b g B gr rc op sm sr dm dr sx dx n y t st _ w q G hcf h hk (hi.bra ho) hb
  have e1 : t.doB op sm sr dm dr n = true := by unfold Ms.doB; rw [if_neg (by omega), if_neg (by omega), if_neg (by omega), if_neg (by omega), if_pos (by omega)]
  have e2 : doS op st = st := by unfold doS; rw [if_neg (by omega)]
  have e3 : t.dos op sm sr dm dr n = if q t = true then t.rg 7 ((nAt t.d.r 7 + 2 * n) % 65536) else t := by
    unfold Ms.dos; rw [if_neg (by omega), if_neg (by omega), if_neg (by omega), if_neg (by omega), if_neg (by omega), if_pos ho.2]; unfold Ms.branch; rw [eq]
  rw [e1, e2, e3]
  exact r.mono fun e w' ⟨a, c, f⟩ => ⟨y, a, ⟨fun _ => c.pe hk.ml, f⟩⟩
end
set_option maxHeartbeats 1000000 in
theorem do_any (g B gr rc op sm sr dm dr b C : Nat) (sx dx n : Int) (y : Mv) (t : Ms) (st : Int) (w : World) (h : Pz w g B gr rc y t st t.d.m) (hk : Dk t.d) (hi : InsN op sm sr dm dr n) (hb : actB C w op b) : DoV g B op sm sr dm dr b sx dx n y t st w := by
  have e : op = 1 ∨ op = 2 ∨ op = 3 ∨ op = 4 ∨ op = 5 ∨ op = 6 ∨ op = 7 ∨ op = 8 ∨ op = 9 ∨ op = 10 ∨ op = 11 ∨ op = 12 ∨ op = 13 ∨ op = 14 ∨ op = 15 ∨ op = 16 ∨ op = 17 ∨ op = 18 ∨ op = 19 ∨ op = 20 ∨ op = 21 ∨ op = 22 ∨ op = 23 := by have := hi.lo; have := hi.hi; omega
  rcases e with rfl | rfl | rfl | rfl | rfl | rfl | rfl | rfl | rfl | rfl | rfl | rfl | rfl | rfl | rfl | rfl | rfl | rfl | rfl | rfl | rfl | rfl | rfl
  · exact .inl ⟨_, rfl, (fun _ _ => by simp [go_sem]), do_st _ h hk hi (by omega) (by omega) wk_1 (fun _ _ => by simp [go_sem]) hb.2⟩
  · exact .inl ⟨_, rfl, (fun _ _ => by simp [go_sem]), do_td _ h hk hi (by omega) wk_2 (fun _ _ => by simp [go_sem]) hb.2⟩
  · exact .inl ⟨_, rfl, (fun _ _ => by simp [go_sem]), do_st _ h hk hi (by omega) (by omega) wk_3 (fun _ _ => by simp [go_sem]) hb.2⟩
  · exact .inl ⟨_, rfl, (fun _ _ => by simp [go_sem]), do_st _ h hk hi (by omega) (by omega) wk_4 (fun _ _ => by simp [go_sem]) hb.2⟩
  · exact .inl ⟨_, rfl, (fun _ _ => by simp [go_sem]), do_st _ h hk hi (by omega) (by omega) wk_5 (fun _ _ => by simp [go_sem]) hb.2⟩
  · exact .inl ⟨_, rfl, (fun _ _ => by simp [go_sem]), do_st _ h hk hi (by omega) (by omega) wk_6 (fun _ _ => by simp [go_sem]) hb.2⟩
  · exact .inl ⟨_, rfl, (fun _ _ => by simp [go_sem]), do_st _ h hk hi (by omega) (by omega) wk_7 (fun _ _ => by simp [go_sem]) hb.2⟩
  · exact .inl ⟨_, rfl, (fun _ _ => by simp [go_sem]), do_st _ h hk hi (by omega) (by omega) wk_8 (fun _ _ => by simp [go_sem]) hb.2⟩
  · exact .inl ⟨_, rfl, (fun _ _ => by simp [go_sem]), do_st _ h hk hi (by omega) (by omega) wk_9 (fun _ _ => by simp [go_sem]) hb.2⟩
  · exact .inl ⟨_, rfl, (fun _ _ => by simp [go_sem]), do_st _ h hk hi (by omega) (by omega) wk_10 (fun _ _ => by simp [go_sem]) hb.2⟩
  · exact .inl ⟨_, rfl, (fun _ _ => by simp [go_sem]), do_td _ h hk hi (by omega) wk_11 (fun _ _ => by simp [go_sem]) hb.2⟩
  · exact .inl ⟨_, rfl, (fun _ _ => by simp [go_sem]), do_st _ h hk hi (by omega) (by omega) wk_12 (fun _ _ => by simp [go_sem]) hb.2⟩
  · exact .inl ⟨_, rfl, (fun _ _ => by simp [go_sem]), do_st _ h hk hi (by omega) (by omega) wk_13 (fun _ _ => by simp [go_sem]) hb.2⟩
  · refine .inr ⟨_, rfl, (fun _ _ => by simp [go_sem]), ?_⟩
    have d := hi.dst (by omega)
    have q := jump_any g B gr rc 14 sm sr dm dr sx dx n y t st w h hk d.1 d.2
    unfold JpIs at q
    exact q.mono fun e w' ⟨a, c⟩ => ⟨y, a, ⟨fun ho => (c.yes ho).pe (dk_op hk dm dr).ml, c.fm⟩⟩
  · refine .inr ⟨_, rfl, (fun _ _ => by simp [go_sem]), ?_⟩
    have d := hi.dst (by omega)
    have r := hi.reg (.inl rfl)
    obtain ⟨k, rfl⟩ := Int.eq_ofNat_of_zero_le r.1
    have q : ClIs g B gr rc 15 sm sr dm dr k sx dx y t st (clO t dm dr) w := by
      cases hc : clO t dm dr
      · exact call_no g B gr rc 15 sm sr dm dr k sx dx y t st w h hk d.1 d.2 hc
      · exact call_yes g B gr rc 15 sm sr dm dr k sx dx y t st w h hk d.1 d.2 (by omega) hc
    unfold ClIs at q
    exact q.mono fun e w' ⟨a, c⟩ => ⟨y, a, ⟨fun ho => (c.yes ho).pe (dk_op hk dm dr).ml, c.fm⟩⟩
  · refine .inr ⟨_, rfl, (fun _ _ => by simp [go_sem]), ?_⟩
    have r := hi.reg (.inr rfl)
    obtain ⟨k, rfl⟩ := Int.eq_ofNat_of_zero_le r.1
    have q := back_anyI g B gr rc 16 sm sr dm dr k sx dx y t st w h hk (by omega)
    unfold CbIs at q
    exact q.mono fun e w' ⟨a, c⟩ => ⟨y, a, ⟨fun ho => (c.yes ho).pe hk.ml, c.fm⟩⟩
  · exact .inl ⟨_, rfl, (fun _ _ => by simp [go_sem]), do_br _ _ h hk hi (by omega) goes_always rfl (fun _ _ => by simp [go_sem]) hb.2⟩
  · exact .inl ⟨_, rfl, (fun _ _ => by simp [go_sem]), do_br _ _ h hk hi (by omega) goes_notZero rfl (fun _ _ => by simp [go_sem]) hb.2⟩
  · exact .inl ⟨_, rfl, (fun _ _ => by simp [go_sem]), do_br _ _ h hk hi (by omega) goes_zero rfl (fun _ _ => by simp [go_sem]) hb.2⟩
  · exact .inl ⟨_, rfl, (fun _ _ => by simp [go_sem]), do_br _ _ h hk hi (by omega) goes_notLess rfl (fun _ _ => by simp [go_sem]) hb.2⟩
  · exact .inl ⟨_, rfl, (fun _ _ => by simp [go_sem]), do_br _ _ h hk hi (by omega) goes_less rfl (fun _ _ => by simp [go_sem]) hb.2⟩
  · refine .inr ⟨_, rfl, (fun _ _ => by simp [go_sem]), ?_⟩
    exact (halt_any g B gr rc 22 sm sr dm dr sx dx n y t st w h hk).mono fun e w' ⟨a, c, f⟩ => ⟨_, a, ⟨fun _ => c.pe hk.ml, f⟩⟩
  · refine .inr ⟨_, rfl, (fun _ _ => by simp [go_sem]), ?_⟩
    exact exchange_any g B gr rc 23 sm sr dm dr sx dx n y t st w h hk
end Go.Proofs.YtjpbjbnialehbaaDoor

namespace Go.Proofs.YtjpbjbnialehbaaDoor
open Go.ChangeShapes Go.WideShapes Go.ChangeAt Go.RowKit
set_option linter.unusedVariables false
set_option maxRecDepth 8000
/-- The answer's block while it is looked for. -/
structure Rz (w wr : World) (l : List Int) : Prop where
  bel : Below w.heap.size w wr
  row : wr.rowIs w.heap.size 30 8 (c8 l)
theorem Rz.later {w wr w' : World} {l : List Int} (h : Rz w wr l) (hb : Below wr.heap.size wr w') : Rz w w' l := ⟨h.bel.trans (hb.mono h.bel.size), h.row.of_block (hb.block _ h.row.lt)⟩
theorem Rz.set {w wr : World} {l : List Int} (h : Rz w wr l) (k : Nat) (x : Int) (l' : List Int) (he : ∀ j, j < 8 → (if j = k then Value.int .i64 x else c8 l j) = c8 l' j) : Rz w (wr.setCell ⟨w.heap.size, k, none⟩ (.int .i64 x)) l' :=
  ⟨h.bel.setCell (Nat.le_refl _) _, row8_set h.row k x he⟩
theorem Rz.put {w wr : World} {y0 y1 y2 y3 y4 y5 y6 y7 : Int} (h : Rz w wr [y0, y1, y2, y3, y4, y5, y6, y7]) (x0 x1 x2 x3 x4 x5 x6 x7 : Int) : Rz w ((((((((wr.setCell ⟨w.heap.size, 0, none⟩ (.int .i64 x0)).setCell ⟨w.heap.size, 1, none⟩ (.int .i64 x1)).setCell ⟨w.heap.size, 2, none⟩ (.int .i64 x2)).setCell ⟨w.heap.size, 3, none⟩ (.int .i64 x3)).setCell ⟨w.heap.size, 4, none⟩ (.int .i64 x4)).setCell ⟨w.heap.size, 5, none⟩ (.int .i64 x5)).setCell ⟨w.heap.size, 6, none⟩ (.int .i64 x6)).setCell ⟨w.heap.size, 7, none⟩ (.int .i64 x7)) [x0, x1, x2, x3, x4, x5, x6, x7] :=
  ((((((((h.set 0 x0 [x0, y1, y2, y3, y4, y5, y6, y7] (fun j hj => by rcases j with _ | _ | _ | _ | _ | _ | _ | _ | j <;> first | rfl | omega)).set 1 x1 [x0, x1, y2, y3, y4, y5, y6, y7] (fun j hj => by rcases j with _ | _ | _ | _ | _ | _ | _ | _ | j <;> first | rfl | omega)).set 2 x2 [x0, x1, x2, y3, y4, y5, y6, y7] (fun j hj => by rcases j with _ | _ | _ | _ | _ | _ | _ | _ | j <;> first | rfl | omega)).set 3 x3 [x0, x1, x2, x3, y4, y5, y6, y7] (fun j hj => by rcases j with _ | _ | _ | _ | _ | _ | _ | _ | j <;> first | rfl | omega)).set 4 x4 [x0, x1, x2, x3, x4, y5, y6, y7] (fun j hj => by rcases j with _ | _ | _ | _ | _ | _ | _ | _ | j <;> first | rfl | omega)).set 5 x5 [x0, x1, x2, x3, x4, x5, y6, y7] (fun j hj => by rcases j with _ | _ | _ | _ | _ | _ | _ | _ | j <;> first | rfl | omega)).set 6 x6 [x0, x1, x2, x3, x4, x5, x6, y7] (fun j hj => by rcases j with _ | _ | _ | _ | _ | _ | _ | _ | j <;> first | rfl | omega)).set 7 x7 [x0, x1, x2, x3, x4, x5, x6, x7] (fun j hj => by rcases j with _ | _ | _ | _ | _ | _ | _ | _ | j <;> first | rfl | omega))
theorem rz_new (w : World) : Rz w (w.alloc (Obj.cells (cs8 [0, 0, 0, 0, 0, 0, 0, 0]) 30)) [0, 0, 0, 0, 0, 0, 0, 0] := ⟨(Below.refl _ _).alloc (Nat.le_refl _) _, row8 w _ 30⟩
def zO : Od := ⟨0, 0, 0⟩
/-- The first of so many Ops from lo on whose word is m; 0: none. -/
def findOp (m : Int) (lo : Nat) : Nat → Nat
  | 0 => 0
  | c + 1 => if baseAt lo = m then lo else findOp m (lo + 1) c
theorem find_none (m : Int) : ∀ (c lo : Nat), (∀ j, lo ≤ j → j < lo + c → baseAt j ≠ m) → findOp m lo c = 0
  | 0, _, _ => rfl
  | c + 1, lo, h => by
    unfold findOp
    rw [if_neg (h lo (Nat.le_refl _) (by omega))]
    exact find_none m c (lo + 1) (fun j a b => h j (by omega) (by omega))
/-- The instruction of a word, without what it has behind. -/
def dOp (n : Int) : Is :=
  if n = 0 then ⟨22, zO, zO, 0⟩
  else if findOp (n / 4096 * 4096) 1 6 ≠ 0 then ⟨(findOp (n / 4096 * 4096) 1 6 : Nat), opdOf (n / 64), opdOf n, 0⟩
  else if findOp (n / 64 * 64) 7 8 ≠ 0 then ⟨(findOp (n / 64 * 64) 7 8 : Nat), zO, opdOf n, 0⟩
  else if n / 512 * 512 = 2048 then ⟨15, zO, opdOf n, n / 64 % 8⟩
  else if n / 8 * 8 = 128 then ⟨16, zO, zO, n % 8⟩
  else if n / 256 * 256 = 34816 then ⟨23, zO, zO, n % 256⟩
  else if findOp (n / 256 * 256) 17 5 ≠ 0 then ⟨(findOp (n / 256 * 256) 17 5 : Nat), zO, zO, if 127 < n % 256 then n % 256 - 256 else n % 256⟩
  else ⟨0, zO, zO, 0⟩
end Go.Proofs.YtjpbjbnialehbaaDoor
