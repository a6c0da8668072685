/- Contracts over this seat's translation, laid together; conditions stand as hypotheses of each. -/
import Derived.Test.YtboedaofbchdkaaGreatDoorRsP
import Derived.Laws.BitsAllLaws
namespace Go.Proofs.YtboedaofbchdkaaGreatDoor
open Go.ChangeShapes Go.WideShapes Go.ChangeAt Go.RowKit
set_option maxHeartbeats 16000000
set_option linter.unusedVariables false
set_option maxRecDepth 8000
set_option linter.unusedSimpArgs false
section
def DoE (g B : Nat) (y : Mv) (t2 : Ms) (st2 : Int) (ok : Bool) (w : World) (e : Ending) (w' : World) : Prop := ∃ y', e = .returned (.bool ok) ∧ AcE ok (Pe w' g B y' t2 st2) (Fm w w' g y y')
theorem exchange_any (g B gr rc op sm sr dm dr : Nat) (sx dx n : Int) (y : Mv) (t : Ms) (st : Int) (w : World) (h : Pz w g B gr rc y t st t.d.m) (hk : Dk t.d) :
  Calls Tryz.prog 93 #[.pointer (some ⟨g, 0, none⟩), .agg #[.int .i64 (op : Int), .int .i64 (sm : Int), .int .i64 (sr : Int), .int .i64 sx, .int .i64 (dm : Int), .int .i64 (dr : Int), .int .i64 dx, .int .i64 n]] w (DoE g B y (t.emt n) st (t.emtB n) w) := by
 have H1 := hide (h.later (below_new w (Obj.cells #[.int .i64 (op : Int), .int .i64 (sm : Int), .int .i64 (sr : Int), .int .i64 sx, .int .i64 (dm : Int), .int .i64 (dr : Int), .int .i64 dx, .int .i64 n] 48)))
 have F1 := hide (Fm.of (g := g) (y := y) (below_new w (Obj.cells #[.int .i64 (op : Int), .int .i64 (sm : Int), .int .i64 (sr : Int), .int .i64 sx, .int .i64 (dm : Int), .int .i64 (dr : Int), .int .i64 dx, .int .i64 n] 48)))
 have k7 := insR 7 _ (heap_alloc_last w (Obj.cells #[.int .i64 (op : Int), .int .i64 (sm : Int), .int .i64 (sr : Int), .int .i64 sx, .int .i64 (dm : Int), .int .i64 (dr : Int), .int .i64 dx, .int .i64 n] 48)) rfl
 by_cases n1 : n = 1
 ·
  subst n1
  have SO := hide (show SoIs g B y t (t.out (t.d.o ++ [nAt t.d.r 0])) st (decide (t.d.o.length < 50)) (w.alloc (Obj.cells #[.int .i64 (op : Int), .int .i64 (sm : Int), .int .i64 (sr : Int), .int .i64 sx, .int .i64 (dm : Int), .int .i64 (dr : Int), .int .i64 dx, .int .i64 1] 48)) from by
   by_cases hl : t.d.o.length < 50
   ·
    rw [decide_eq_true hl]
    exact send_yes g B gr rc y t st _ (uh H1) hk hl
   ·
    rw [decide_eq_false hl]
    have q := send_no g B gr rc y t st _ (uh H1) hk (by have := hk.ol; omega)
    unfold SoIs at q ⊢
    exact q.mono fun e w' ⟨y', a, b⟩ => ⟨y', a, ⟨fun h => Bool.noConfusion h, b.fm⟩⟩)
  unfold SoIs at SO
  unfold DoE Ms.emt Ms.emtB
  simp only [if_true]
  generalize decide (t.d.o.length < 50) = ok at SO ⊢
  clear h hk
  go_enter Tryz.func93, Tryz.ntmps93
  go_wp2_with fail
  refine (uh SO).mono ?_
  rintro e w2 ⟨y2, rfl, a2⟩
  have A2 := hide a2
  clear a2 SO
  go_wp2
  go_ret
  first | exact ⟨y2, rfl, ⟨fun h => (uh A2).yes h, (uh F1).trans (uh A2).fm⟩⟩ | exact ⟨rfl, y2, ⟨fun h => (uh A2).yes h, (uh F1).trans (uh A2).fm⟩⟩
 ·
  by_cases n2 : n = 2
  ·
   subst n2
   have TI := hide (show TiIs g B y (t.emt 2) st (w.alloc (Obj.cells #[.int .i64 (op : Int), .int .i64 (sm : Int), .int .i64 (sr : Int), .int .i64 sx, .int .i64 (dm : Int), .int .i64 (dr : Int), .int .i64 dx, .int .i64 2] 48)) from by
    unfold Ms.emt
    rw [if_neg (by omega)]
    cases hi : t.d.i with
    | nil => exact take_e g B gr rc y t st _ (uh H1) hk hi
    | cons x xs => exact take_x g B gr rc y t st _ (uh H1) hk x xs hi)
   unfold TiIs at TI
   unfold DoE Ms.emtB
   simp only [if_neg n1]
   generalize t.emt 2 = t2 at TI ⊢
   clear h hk
   go_enter Tryz.func93, Tryz.ntmps93
   go_wp2_with fail
   refine (uh TI).mono ?_
   rintro e w2 ⟨y2, rfl, a2, f2⟩
   have A2 := hide a2
   have F2 := hide ((uh F1).trans f2)
   clear a2 f2 TI
   go_wp2
   go_ret
   first | exact ⟨y2, rfl, ⟨fun _ => uh A2, uh F2⟩⟩ | exact ⟨rfl, y2, ⟨fun _ => uh A2, uh F2⟩⟩
  ·
   unfold DoE Ms.emtB
   rw [if_neg n1, decide_eq_false n2]
   clear h hk
   go_enter Tryz.func93, Tryz.ntmps93
   go_wp2
   go_ret
   first | exact ⟨y, rfl, ⟨fun h => by simp at h, uh F1⟩⟩ | exact ⟨rfl, y, ⟨fun h => by simp at h, uh F1⟩⟩
theorem or_w {d s : Int} (d0 : 0 ≤ d) (d1 : d ≤ 65535) (s0 : 0 ≤ s) (s1 : s ≤ 65535) : 0 ≤ bits .or .i64 d s ∧ bits .or .i64 d s ≤ 65535 := by
 obtain ⟨a, rfl⟩ := Int.eq_ofNat_of_zero_le d0
 obtain ⟨b, rfl⟩ := Int.eq_ofNat_of_zero_le s0
 rw [(bits_nat .i64 16 (by decide) (fun n h0 h1 => by rw [IntKind.wrap_i64]; omega) a b (by omega) (by omega)).2]
 have : a ||| b < 2 ^ 16 := Nat.or_lt_two_pow (by omega) (by omega)
 omega
theorem andNot_w {d s : Int} (d0 : 0 ≤ d) (d1 : d ≤ 65535) (s0 : 0 ≤ s) (s1 : s ≤ 65535) : 0 ≤ bits .andNot .i64 d s ∧ bits .andNot .i64 d s ≤ 65535 := by
 obtain ⟨a, rfl⟩ := Int.eq_ofNat_of_zero_le d0
 obtain ⟨b, rfl⟩ := Int.eq_ofNat_of_zero_le s0
 have hx : (BitVec.ofInt 64 (a : Int) &&& ~~~BitVec.ofInt 64 (b : Int)).toNat ≤ a := by
  rw [BitVec.toNat_and]
  refine Nat.le_trans Nat.and_le_left ?_
  rw [BitVec.toNat_ofInt]
  omega
 have e : bits .andNot .i64 (a : Int) (b : Int) = IntKind.i64.wrap ((BitVec.ofInt 64 (a : Int) &&& ~~~BitVec.ofInt 64 (b : Int)).toNat : Int) := rfl
 rw [e, IntKind.wrap_i64]
 omega
theorem wkR_w (op : Nat) {s d : Int} (s0 : 0 ≤ s) (s1 : s ≤ 65535) (d0 : 0 ≤ d) (d1 : d ≤ 65535) : 0 ≤ wkR op s d ∧ wkR op s d ≤ 65535 := by
 unfold wkR
 split
 · omega
 · omega
 · exact andNot_w d0 d1 s0 s1
 · exact or_w d0 d1 s0 s1
 all_goals omega
theorem stD_mod (d : Md) (r a n : Int) : d.stD r a (n % 65536) = d.stD r a n := by
 unfold Md.stD Md.put
 rw [Int.emod_emod]
theorem sgB_w {n : Int} (h0 : 0 ≤ n) (h1 : n ≤ 65535) : sgB n = sgI n := by
 unfold sgB sgI
 rw [Int.emod_eq_of_lt h0 (by omega)]
theorem sgB_m (n : Int) : sgB n = sgI (n % 65536) := rfl
theorem two_eqI (t : Ms) (op : Nat) (s qr qa : Int) (ho : 1 ≤ op ∧ op ≤ 6 ∧ op ≠ 2) (s0 : 0 ≤ s) (s1 : s ≤ 65535) (d0 : 0 ≤ t.d.ldV qr qa) (d1 : t.d.ldV qr qa ≤ 65535) :
  ((t.wk op s (t.d.ldV qr qa)).nzI (wkR op s (t.d.ldV qr qa))).st qr qa (wkR op s (t.d.ldV qr qa)) = t.two op s qr qa := by
 have e : op = 1 ∨ op = 3 ∨ op = 4 ∨ op = 5 ∨ op = 6 := by omega
 rcases e with rfl | rfl | rfl | rfl | rfl
 · simp only [Ms.two, Ms.st, Ms.nzI, Ms.wk, Ms.nz, wkR, wkV, wkC, sgB_w s0 s1, Int.emod_eq_of_lt s0 (show s < 65536 by omega)]
 ·
  have b := andNot_w d0 d1 s0 s1
  simp only [Ms.two, Ms.st, Ms.nzI, Ms.wk, Ms.nz, wkR, wkV, wkC, sgB_w b.1 b.2, Int.emod_eq_of_lt b.1 (show bits .andNot .i64 (t.d.ldV qr qa) s < 65536 by omega)]
 ·
  have b := or_w d0 d1 s0 s1
  simp only [Ms.two, Ms.st, Ms.nzI, Ms.wk, Ms.nz, wkR, wkV, wkC, sgB_w b.1 b.2, Int.emod_eq_of_lt b.1 (show bits .or .i64 (t.d.ldV qr qa) s < 65536 by omega)]
 ·
  simp only [Ms.two, Ms.st, Ms.cs, Ms.nzI, Ms.wk, Ms.nz, wkR, wkV, wkC, sgB_w s0 s1, sgB_w d0 d1, sgB_m ((t.d.ldV qr qa + s) % 65536), Int.emod_emod, Int.add_comm s (t.d.ldV qr qa)]
  congr 1
  ·
   generalize sgI s = a
   generalize sgI (t.d.ldV qr qa) = b
   cases a <;> cases b <;> rfl
  ·
   unfold inB
   by_cases h : 65535 < t.d.ldV qr qa + s
   · rw [decide_eq_true h]; simp; omega
   · rw [decide_eq_false h]; simp; omega
 ·
  simp only [Ms.two, Ms.st, Ms.cs, Ms.nzI, Ms.wk, Ms.nz, wkR, wkV, wkC, sgB_w s0 s1, sgB_w d0 d1, sgB_m ((t.d.ldV qr qa - s) % 65536), Int.emod_emod]
  congr 1
  generalize sgI s = a
  generalize sgI (t.d.ldV qr qa) = b
  cases a <;> cases b <;> rfl
theorem cmp_eqI (t : Ms) (s qr qa : Int) (s0 : 0 ≤ s) (s1 : s ≤ 65535) (d0 : 0 ≤ t.d.ldV qr qa) (d1 : t.d.ldV qr qa ≤ 65535) :
  (t.wk 2 s (t.d.ldV qr qa)).nzI (wkR 2 s (t.d.ldV qr qa)) = t.two 2 s qr qa := by
 simp only [Ms.two, Ms.st, Ms.cs, Ms.nzI, Ms.wk, Ms.nz, wkR, wkV, wkC, sgB_w s0 s1, sgB_w d0 d1, sgB_m ((s - t.d.ldV qr qa) % 65536), Int.emod_emod]
theorem one_eqI (t : Ms) (op : Nat) (qr qa : Int) (ho : 7 ≤ op ∧ op ≤ 13 ∧ op ≠ 11) (d0 : 0 ≤ t.d.ldV qr qa) (d1 : t.d.ldV qr qa ≤ 65535) :
  ((t.wk op 0 (t.d.ldV qr qa)).nzI (wkR op 0 (t.d.ldV qr qa))).st qr qa (wkR op 0 (t.d.ldV qr qa)) = t.one op qr qa := by
 have e : op = 7 ∨ op = 8 ∨ op = 9 ∨ op = 10 ∨ op = 12 ∨ op = 13 := by omega
 rcases e with rfl | rfl | rfl | rfl | rfl | rfl
 ·
  simp only [Ms.one, Ms.st, Ms.cs, Ms.nzI, Ms.wk, Ms.nz, wkR, wkV, wkC]
  rfl
 · simp only [Ms.one, Ms.st, Ms.cs, Ms.nzI, Ms.wk, Ms.nz, wkR, wkV, wkC, sgB_m, stD_mod]
 · simp only [Ms.one, Ms.st, Ms.cs, Ms.nzI, Ms.wk, Ms.nz, wkR, wkV, wkC, sgB_m, stD_mod]
 ·
  simp only [Ms.one, Ms.st, Ms.cs, Ms.nzI, Ms.wk, Ms.nz, wkR, wkV, wkC, sgB_m, stD_mod]
  congr 1
  ·
   by_cases h : t.d.ldV qr qa = 32768
   · rw [h]; rfl
   · rw [beq_false_of_ne h, beq_false_of_ne (by omega)]
  ·
   by_cases h : t.d.ldV qr qa = 0
   · rw [h]; rfl
   ·
    simp only [bne]
    rw [beq_false_of_ne h, beq_false_of_ne (by omega)]
 · simp only [Ms.one, Ms.shift, Ms.st, Ms.cs, Ms.nzI, Ms.wk, Ms.nz, wkR, wkV, wkC, shR, shC, sgB_m, stD_mod, Int.emod_emod, if_true]
 · simp only [Ms.one, Ms.shift, Ms.st, Ms.cs, Ms.nzI, Ms.wk, Ms.nz, wkR, wkV, wkC, shR, shC, stD_mod, sgB_m ((t.d.ldV qr qa * 2) % 65536), Int.emod_emod, sgB_w d0 d1, Int.mul_comm 2, show ¬ (13 : Nat) = 12 by omega, if_false]
theorem tst_eqI (t : Ms) (qr qa : Int) (d0 : 0 ≤ t.d.ldV qr qa) (d1 : t.d.ldV qr qa ≤ 65535) :
  (t.wk 11 0 (t.d.ldV qr qa)).nzI (wkR 11 0 (t.d.ldV qr qa)) = t.one 11 qr qa := by
 simp only [Ms.one, Ms.cs, Ms.nzI, Ms.wk, Ms.nz, wkR, wkV, wkC, sgB_w d0 d1, Int.emod_eq_of_lt d0 (show t.d.ldV qr qa < 65536 by omega)]
def Ms.doB (t : Ms) (op sm sr dm dr : Nat) (n : Int) : Bool :=
 if op ≤ 13 then t.woB op sm sr dm dr else if op = 14 then tgO t dm dr else if op = 15 then clO t dm dr else if op = 16 then (t.back1 n.toNat).d.has (nAt t.d.r 6) else if op ≤ 22 then true else t.emtB n
def Ms.dos (t : Ms) (op sm sr dm dr : Nat) (n : Int) : Ms :=
 if op ≤ 6 then ((t.op sm sr).op dm dr).two op (t.opV sm sr) ((t.op sm sr).d.plR dm dr) ((t.op sm sr).d.plA dm dr)
 else if op ≤ 13 then (t.op dm dr).one op (t.d.plR dm dr) (t.d.plA dm dr)
 else if op = 14 then (t.op dm dr).rg 7 (t.d.plA dm dr)
 else if op = 15 then (t.op dm dr).call n.toNat (t.d.plA dm dr)
 else if op = 16 then t.back n.toNat
 else if op ≤ 21 then t.branch op n
 else if op = 22 then t
 else t.emt n
def doS (op : Nat) (st : Int) : Int := if op = 22 then 1 else st
structure InsN (op sm sr dm dr : Nat) (n : Int) : Prop where
 lo : 1 ≤ op
 hi : op ≤ 23
 src : op ≤ 6 → sm ≤ 7 ∧ sr < 8
 dst : op ≤ 15 → dm ≤ 7 ∧ dr < 8
 reg : op = 15 ∨ op = 16 → 0 ≤ n ∧ n ≤ 7
 bra : 17 ≤ op ∧ op ≤ 21 → -1000 ≤ n ∧ n ≤ 1000
def DoV (g B op sm sr dm dr b : Nat) (sx dx n : Int) (y : Mv) (t : Ms) (st : Int) (w : World) : Prop :=
 (∃ fn, actV op b = .func (.func fn) #[] #[.pointer (some ⟨b, 0, none⟩)] ∧ (∀ vs w, (callFunc fn vs).run Tryz.prog w = .ok (.enter fn vs) w) ∧ Calls Tryz.prog fn #[.pointer (some ⟨g, 0, none⟩), .agg #[.int .i64 (op : Int), .int .i64 (sm : Int), .int .i64 (sr : Int), .int .i64 sx, .int .i64 (dm : Int), .int .i64 (dr : Int), .int .i64 dx, .int .i64 n], .pointer (some ⟨b, 0, none⟩)] w (DoE g B y (t.dos op sm sr dm dr n) (doS op st) (t.doB op sm sr dm dr n) w)) ∨
 (∃ fn, actV op b = .func (.func fn) #[] #[] ∧ (∀ vs w, (callFunc fn vs).run Tryz.prog w = .ok (.enter fn vs) w) ∧ Calls Tryz.prog fn #[.pointer (some ⟨g, 0, none⟩), .agg #[.int .i64 (op : Int), .int .i64 (sm : Int), .int .i64 (sr : Int), .int .i64 sx, .int .i64 (dm : Int), .int .i64 (dr : Int), .int .i64 dx, .int .i64 n]] w (DoE g B y (t.dos op sm sr dm dr n) (doS op st) (t.doB op sm sr dm dr n) w))
section
variable {g B gr rc op sm sr dm dr b : Nat} {sx dx n : Int} {y : Mv} {t : Ms} {st : Int} {w : World}
theorem do_st (f : Nat) (h : Pz w g B gr rc y t st t.d.m) (hk : Dk t.d) (hi : InsN op sm sr dm dr n) (h13 : op ≤ 13) (hn : op ≠ 2 ∧ op ≠ 11) (wk : WkIs f op) (hcf : ∀ vs w, (callFunc f vs).run Tryz.prog w = .ok (.enter f vs) w) (hb : Bx w b f 111) :
  Calls Tryz.prog 100 #[.pointer (some ⟨g, 0, none⟩), .agg #[.int .i64 (op : Int), .int .i64 (sm : Int), .int .i64 (sr : Int), .int .i64 sx, .int .i64 (dm : Int), .int .i64 (dr : Int), .int .i64 dx, .int .i64 n], .pointer (some ⟨b, 0, none⟩)] w (DoE g B y (t.dos op sm sr dm dr n) (doS op st) (t.doB op sm sr dm dr n) w) := by
 have d := hi.dst (by omega)
 have VB := sV_b hk op sm sr
 have DB := op_v (dk_sT hk op sm sr) dm dr
 have RB := wkR_w op VB.1 VB.2 DB.1 DB.2
 have q := stored_any f b g B gr rc op sm sr dm dr sx dx n y t st w h hk hi.lo h13 hi.src d.1 d.2 wk hcf hb RB.1 RB.2
 unfold ActIs at q
 have e1 : t.doB op sm sr dm dr n = t.woB op sm sr dm dr := by unfold Ms.doB; rw [if_pos h13]
 have e2 : doS op st = st := by unfold doS; rw [if_neg (by omega)]
 have e3 : (t.wo op sm sr dm dr).st ((t.sT op sm sr).d.plR dm dr) ((t.sT op sm sr).d.plA dm dr) (wkS t op sm sr dm dr) = t.dos op sm sr dm dr n := by
  unfold Ms.dos Ms.wo wkS Ms.woT
  by_cases h6 : op ≤ 6
  ·
   have s0 := op_v hk sm sr
   have d0 := op_v (dk_op hk sm sr) dm dr
   simp only [Ms.sT, Ms.sV, if_pos h6]
   exact two_eqI _ op (t.opV sm sr) _ _ ⟨hi.lo, h6, hn.1⟩ s0.1 s0.2 d0.1 d0.2
  ·
   have d0 := op_v hk dm dr
   simp only [Ms.sT, Ms.sV, if_neg h6, if_pos h13]
   exact one_eqI _ op _ _ ⟨by omega, h13, hn.2⟩ d0.1 d0.2
 rw [e1, e2, ← e3]
 exact q.mono fun e w' ⟨a, c⟩ => ⟨_, a, ⟨fun ho => (c.yes ho).pe (dk_op (dk_sT hk op sm sr) dm dr).ml, c.fm.dst (fun b hb => hb)⟩⟩
theorem do_td (f : Nat) (h : Pz w g B gr rc y t st t.d.m) (hk : Dk t.d) (hi : InsN op sm sr dm dr n) (hn : op = 2 ∨ op = 11) (wk : WkIs f op) (hcf : ∀ vs w, (callFunc f vs).run Tryz.prog w = .ok (.enter f vs) w) (hb : Bx w b f 111) :
  Calls Tryz.prog 102 #[.pointer (some ⟨g, 0, none⟩), .agg #[.int .i64 (op : Int), .int .i64 (sm : Int), .int .i64 (sr : Int), .int .i64 sx, .int .i64 (dm : Int), .int .i64 (dr : Int), .int .i64 dx, .int .i64 n], .pointer (some ⟨b, 0, none⟩)] w (DoE g B y (t.dos op sm sr dm dr n) (doS op st) (t.doB op sm sr dm dr n) w) := by
 have h13 : op ≤ 13 := by omega
 have d := hi.dst (by omega)
 have q := told_any f b g B gr rc op sm sr dm dr sx dx n y t st w h hk hi.lo h13 hi.src d.1 d.2 wk hcf hb
 unfold ActIs at q
 have e1 : t.doB op sm sr dm dr n = t.woB op sm sr dm dr := by unfold Ms.doB; rw [if_pos h13]
 have e2 : doS op st = st := by unfold doS; rw [if_neg (by omega)]
 have e3 : t.wo op sm sr dm dr = t.dos op sm sr dm dr n := by
  unfold Ms.dos Ms.wo wkS Ms.woT
  rcases hn with rfl | rfl
  ·
   have s0 := op_v hk sm sr
   have d0 := op_v (dk_op hk sm sr) dm dr
   exact cmp_eqI _ (t.opV sm sr) _ _ s0.1 s0.2 d0.1 d0.2
  ·
   have d0 := op_v hk dm dr
   exact tst_eqI _ _ _ d0.1 d0.2
 rw [e1, e2, ← e3]
 exact q.mono fun e w' ⟨a, c⟩ => ⟨_, a, ⟨fun ho => (c.yes ho).pe (dk_op (dk_sT hk op sm sr) dm dr).ml, c.fm.dst (fun b hb => hb)⟩⟩
theorem do_br (f : Nat) (q : Ms → Bool) (h : Pz w g B gr rc y t st t.d.m) (hk : Dk t.d) (hi : InsN op sm sr dm dr n) (ho : 17 ≤ op ∧ op ≤ 21) (G : GoesIs f q) (eq : t.goes op = q t) (hcf : ∀ vs w, (callFunc f vs).run Tryz.prog w = .ok (.enter f vs) w) (hb : Bx w b f 97) :
  Calls Tryz.prog 111 #[.pointer (some ⟨g, 0, none⟩), .agg #[.int .i64 (op : Int), .int .i64 (sm : Int), .int .i64 (sr : Int), .int .i64 sx, .int .i64 (dm : Int), .int .i64 (dr : Int), .int .i64 dx, .int .i64 n], .pointer (some ⟨b, 0, none⟩)] w (DoE g B y (t.dos op sm sr dm dr n) (doS op st) (t.doB op sm sr dm dr n) w) := by
 have r := br_goes f b g B gr rc op sm sr dm dr sx dx n y t st _ w q G hcf h hk (hi.bra ho) hb
 have e1 : t.doB op sm sr dm dr n = true := by unfold Ms.doB; rw [if_neg (by omega), if_neg (by omega), if_neg (by omega), if_neg (by omega), if_pos (by omega)]
 have e2 : doS op st = st := by unfold doS; rw [if_neg (by omega)]
 have e3 : t.dos op sm sr dm dr n = if q t = true then t.rg 7 ((nAt t.d.r 7 + 2 * n) % 65536) else t := by
  unfold Ms.dos; rw [if_neg (by omega), if_neg (by omega), if_neg (by omega), if_neg (by omega), if_neg (by omega), if_pos ho.2]; unfold Ms.branch; rw [eq]
 rw [e1, e2, e3]
 exact r.mono fun e w' ⟨a, c, f⟩ => ⟨y, a, ⟨fun _ => c.pe hk.ml, f⟩⟩
end
theorem do_any (g B gr rc op sm sr dm dr b C : Nat) (sx dx n : Int) (y : Mv) (t : Ms) (st : Int) (w : World) (h : Pz w g B gr rc y t st t.d.m) (hk : Dk t.d) (hi : InsN op sm sr dm dr n) (hb : actB C w op b) : DoV g B op sm sr dm dr b sx dx n y t st w := by
 have e : op = 1 ∨ op = 2 ∨ op = 3 ∨ op = 4 ∨ op = 5 ∨ op = 6 ∨ op = 7 ∨ op = 8 ∨ op = 9 ∨ op = 10 ∨ op = 11 ∨ op = 12 ∨ op = 13 ∨ op = 14 ∨ op = 15 ∨ op = 16 ∨ op = 17 ∨ op = 18 ∨ op = 19 ∨ op = 20 ∨ op = 21 ∨ op = 22 ∨ op = 23 := by have := hi.lo; have := hi.hi; omega
 rcases e with rfl | rfl | rfl | rfl | rfl | rfl | rfl | rfl | rfl | rfl | rfl | rfl | rfl | rfl | rfl | rfl | rfl | rfl | rfl | rfl | rfl | rfl | rfl
 · exact .inl ⟨_, rfl, (fun _ _ => by simp [go_sem]), do_st _ h hk hi (by omega) (by omega) wk_1 (fun _ _ => by simp [go_sem]) hb.2⟩
 · exact .inl ⟨_, rfl, (fun _ _ => by simp [go_sem]), do_td _ h hk hi (by omega) wk_2 (fun _ _ => by simp [go_sem]) hb.2⟩
 · exact .inl ⟨_, rfl, (fun _ _ => by simp [go_sem]), do_st _ h hk hi (by omega) (by omega) wk_3 (fun _ _ => by simp [go_sem]) hb.2⟩
 · exact .inl ⟨_, rfl, (fun _ _ => by simp [go_sem]), do_st _ h hk hi (by omega) (by omega) wk_4 (fun _ _ => by simp [go_sem]) hb.2⟩
 · exact .inl ⟨_, rfl, (fun _ _ => by simp [go_sem]), do_st _ h hk hi (by omega) (by omega) wk_5 (fun _ _ => by simp [go_sem]) hb.2⟩
 · exact .inl ⟨_, rfl, (fun _ _ => by simp [go_sem]), do_st _ h hk hi (by omega) (by omega) wk_6 (fun _ _ => by simp [go_sem]) hb.2⟩
 · exact .inl ⟨_, rfl, (fun _ _ => by simp [go_sem]), do_st _ h hk hi (by omega) (by omega) wk_7 (fun _ _ => by simp [go_sem]) hb.2⟩
 · exact .inl ⟨_, rfl, (fun _ _ => by simp [go_sem]), do_st _ h hk hi (by omega) (by omega) wk_8 (fun _ _ => by simp [go_sem]) hb.2⟩
 · exact .inl ⟨_, rfl, (fun _ _ => by simp [go_sem]), do_st _ h hk hi (by omega) (by omega) wk_9 (fun _ _ => by simp [go_sem]) hb.2⟩
 · exact .inl ⟨_, rfl, (fun _ _ => by simp [go_sem]), do_st _ h hk hi (by omega) (by omega) wk_10 (fun _ _ => by simp [go_sem]) hb.2⟩
 · exact .inl ⟨_, rfl, (fun _ _ => by simp [go_sem]), do_td _ h hk hi (by omega) wk_11 (fun _ _ => by simp [go_sem]) hb.2⟩
 · exact .inl ⟨_, rfl, (fun _ _ => by simp [go_sem]), do_st _ h hk hi (by omega) (by omega) wk_12 (fun _ _ => by simp [go_sem]) hb.2⟩
 · exact .inl ⟨_, rfl, (fun _ _ => by simp [go_sem]), do_st _ h hk hi (by omega) (by omega) wk_13 (fun _ _ => by simp [go_sem]) hb.2⟩
 ·
  refine .inr ⟨_, rfl, (fun _ _ => by simp [go_sem]), ?_⟩
  have d := hi.dst (by omega)
  have q := jump_any g B gr rc 14 sm sr dm dr sx dx n y t st w h hk d.1 d.2
  unfold JpIs at q
  exact q.mono fun e w' ⟨a, c⟩ => ⟨y, a, ⟨fun ho => (c.yes ho).pe (dk_op hk dm dr).ml, c.fm⟩⟩
 ·
  refine .inr ⟨_, rfl, (fun _ _ => by simp [go_sem]), ?_⟩
  have d := hi.dst (by omega)
  have r := hi.reg (.inl rfl)
  obtain ⟨k, rfl⟩ := Int.eq_ofNat_of_zero_le r.1
  have q : ClIs g B gr rc 15 sm sr dm dr k sx dx y t st (clO t dm dr) w := by
   cases hc : clO t dm dr
   · exact call_no g B gr rc 15 sm sr dm dr k sx dx y t st w h hk d.1 d.2 hc
   · exact call_yes g B gr rc 15 sm sr dm dr k sx dx y t st w h hk d.1 d.2 (by omega) hc
  unfold ClIs at q
  exact q.mono fun e w' ⟨a, c⟩ => ⟨y, a, ⟨fun ho => (c.yes ho).pe (dk_op hk dm dr).ml, c.fm⟩⟩
 ·
  refine .inr ⟨_, rfl, (fun _ _ => by simp [go_sem]), ?_⟩
  have r := hi.reg (.inr rfl)
  obtain ⟨k, rfl⟩ := Int.eq_ofNat_of_zero_le r.1
  have q := back_anyI g B gr rc 16 sm sr dm dr k sx dx y t st w h hk (by omega)
  unfold CbIs at q
  exact q.mono fun e w' ⟨a, c⟩ => ⟨y, a, ⟨fun ho => (c.yes ho).pe hk.ml, c.fm⟩⟩
 · exact .inl ⟨_, rfl, (fun _ _ => by simp [go_sem]), do_br _ _ h hk hi (by omega) goes_always rfl (fun _ _ => by simp [go_sem]) hb.2⟩
 · exact .inl ⟨_, rfl, (fun _ _ => by simp [go_sem]), do_br _ _ h hk hi (by omega) goes_notZero rfl (fun _ _ => by simp [go_sem]) hb.2⟩
 · exact .inl ⟨_, rfl, (fun _ _ => by simp [go_sem]), do_br _ _ h hk hi (by omega) goes_zero rfl (fun _ _ => by simp [go_sem]) hb.2⟩
 · exact .inl ⟨_, rfl, (fun _ _ => by simp [go_sem]), do_br _ _ h hk hi (by omega) goes_notLess rfl (fun _ _ => by simp [go_sem]) hb.2⟩
 · exact .inl ⟨_, rfl, (fun _ _ => by simp [go_sem]), do_br _ _ h hk hi (by omega) goes_less rfl (fun _ _ => by simp [go_sem]) hb.2⟩
 ·
  refine .inr ⟨_, rfl, (fun _ _ => by simp [go_sem]), ?_⟩
  exact (halt_any g B gr rc 22 sm sr dm dr sx dx n y t st w h hk).mono fun e w' ⟨a, c, f⟩ => ⟨_, a, ⟨fun _ => c.pe hk.ml, f⟩⟩
 ·
  refine .inr ⟨_, rfl, (fun _ _ => by simp [go_sem]), ?_⟩
  exact exchange_any g B gr rc 23 sm sr dm dr sx dx n y t st w h hk
end
structure Rz (w wr : World) (l : List Int) : Prop where
 bel : Below w.heap.size w wr
 row : wr.rowIs w.heap.size 48 8 (c8 l)
theorem Rz.later {w wr w' : World} {l : List Int} (h : Rz w wr l) (hb : Below wr.heap.size wr w') : Rz w w' l := ⟨h.bel.trans (hb.mono h.bel.size), h.row.of_block (hb.block _ h.row.lt)⟩
theorem Rz.set {w wr : World} {l : List Int} (h : Rz w wr l) (k : Nat) (x : Int) (l' : List Int) (he : ∀ j, j < 8 → (if j = k then Value.int .i64 x else c8 l j) = c8 l' j) : Rz w (wr.setCell ⟨w.heap.size, k, none⟩ (.int .i64 x)) l' :=
 ⟨h.bel.setCell (Nat.le_refl _) _, row8_set h.row k x he⟩
theorem Rz.put {w wr : World} {y0 y1 y2 y3 y4 y5 y6 y7 : Int} (h : Rz w wr [y0, y1, y2, y3, y4, y5, y6, y7]) (x0 x1 x2 x3 x4 x5 x6 x7 : Int) : Rz w ((((((((wr.setCell ⟨w.heap.size, 0, none⟩ (.int .i64 x0)).setCell ⟨w.heap.size, 1, none⟩ (.int .i64 x1)).setCell ⟨w.heap.size, 2, none⟩ (.int .i64 x2)).setCell ⟨w.heap.size, 3, none⟩ (.int .i64 x3)).setCell ⟨w.heap.size, 4, none⟩ (.int .i64 x4)).setCell ⟨w.heap.size, 5, none⟩ (.int .i64 x5)).setCell ⟨w.heap.size, 6, none⟩ (.int .i64 x6)).setCell ⟨w.heap.size, 7, none⟩ (.int .i64 x7)) [x0, x1, x2, x3, x4, x5, x6, x7] :=
 ((((((((h.set 0 x0 [x0, y1, y2, y3, y4, y5, y6, y7] (fun j hj => by rcases j with _ | _ | _ | _ | _ | _ | _ | _ | j <;> first | rfl | omega)).set 1 x1 [x0, x1, y2, y3, y4, y5, y6, y7] (fun j hj => by rcases j with _ | _ | _ | _ | _ | _ | _ | _ | j <;> first | rfl | omega)).set 2 x2 [x0, x1, x2, y3, y4, y5, y6, y7] (fun j hj => by rcases j with _ | _ | _ | _ | _ | _ | _ | _ | j <;> first | rfl | omega)).set 3 x3 [x0, x1, x2, x3, y4, y5, y6, y7] (fun j hj => by rcases j with _ | _ | _ | _ | _ | _ | _ | _ | j <;> first | rfl | omega)).set 4 x4 [x0, x1, x2, x3, x4, y5, y6, y7] (fun j hj => by rcases j with _ | _ | _ | _ | _ | _ | _ | _ | j <;> first | rfl | omega)).set 5 x5 [x0, x1, x2, x3, x4, x5, y6, y7] (fun j hj => by rcases j with _ | _ | _ | _ | _ | _ | _ | _ | j <;> first | rfl | omega)).set 6 x6 [x0, x1, x2, x3, x4, x5, x6, y7] (fun j hj => by rcases j with _ | _ | _ | _ | _ | _ | _ | _ | j <;> first | rfl | omega)).set 7 x7 [x0, x1, x2, x3, x4, x5, x6, x7] (fun j hj => by rcases j with _ | _ | _ | _ | _ | _ | _ | _ | j <;> first | rfl | omega))
theorem rz_new (w : World) : Rz w (w.alloc (Obj.cells (cs8 [0, 0, 0, 0, 0, 0, 0, 0]) 48)) [0, 0, 0, 0, 0, 0, 0, 0] := ⟨(Below.refl _ _).alloc (Nat.le_refl _) _, row8 w _ 48⟩
def zO : Od := ⟨0, 0, 0⟩
def findOp (m : Int) (lo : Nat) : Nat → Nat
 | 0 => 0
 | c + 1 => if baseAt lo = m then lo else findOp m (lo + 1) c
theorem find_hit (m : Int) : ∀ (c lo k : Nat), lo ≤ k → k < lo + c → (∀ j, lo ≤ j → j < k → baseAt j ≠ m) → baseAt k = m → findOp m lo c = k
 | 0, lo, k, h1, h2, _, _ => by omega
 | c + 1, lo, k, h1, h2, h3, h4 => by
  unfold findOp
  by_cases e : lo = k
  · subst e; rw [if_pos h4]
  ·
   rw [if_neg (h3 lo (Nat.le_refl _) (by omega))]
   exact find_hit m c (lo + 1) k (by omega) (by omega) (fun j a b => h3 j (by omega) b) h4
theorem find_none (m : Int) : ∀ (c lo : Nat), (∀ j, lo ≤ j → j < lo + c → baseAt j ≠ m) → findOp m lo c = 0
 | 0, _, _ => rfl
 | c + 1, lo, h => by
  unfold findOp
  rw [if_neg (h lo (Nat.le_refl _) (by omega))]
  exact find_none m c (lo + 1) (fun j a b => h j (by omega) (by omega))
def dOp (n : Int) : Is :=
 if n = 0 then ⟨22, zO, zO, 0⟩
 else if findOp (n / 4096 * 4096) 1 6 ≠ 0 then ⟨(findOp (n / 4096 * 4096) 1 6 : Nat), opdOf (n / 64), opdOf n, 0⟩
 else if findOp (n / 64 * 64) 7 8 ≠ 0 then ⟨(findOp (n / 64 * 64) 7 8 : Nat), zO, opdOf n, 0⟩
 else if n / 512 * 512 = 2048 then ⟨15, zO, opdOf n, n / 64 % 8⟩
 else if n / 8 * 8 = 128 then ⟨16, zO, zO, n % 8⟩
 else if n / 256 * 256 = 34816 then ⟨23, zO, zO, n % 256⟩
 else if findOp (n / 256 * 256) 17 5 ≠ 0 then ⟨(findOp (n / 256 * 256) 17 5 : Nat), zO, zO, if 127 < n % 256 then n % 256 - 256 else n % 256⟩
 else ⟨0, zO, zO, 0⟩
theorem l4Opd_int (x : Int) (h0 : 0 ≤ x) (h1 : x < 65536) (w : World) : Calls Tryz.prog 46 #[.int .i64 x] w fun e w' => e = .returned (opdOf x).v ∧ Below w.heap.size w w' := by
 obtain ⟨n, rfl⟩ := Int.eq_ofNat_of_zero_le h0
 exact l4Opd_any n (by omega) w
set_option maxRecDepth 100000 in
theorem l4Op_any (n : Nat) (hn : n < 65536) (w : World) : Calls Tryz.prog 28 #[.int .i64 (n : Int)] w fun e w' => e = .returned (dOp (n : Int)).v ∧ Below w.heap.size w w' := by
 have R0 := hide (rz_new w)
 by_cases h0 : n = 0
 ·
  subst h0
  go_enter Tryz.func28, Tryz.ntmps28
  go_wp2
  refine bodyPost_ret (results_cell_row (P := Tryz.prog) rfl _ _ w.heap.size 48 (cs8 [22, 0, 0, 0, 0, 0, 0, 0]) (0, 0) _ rfl (row8_heap (row8 w [22, 0, 0, 0, 0, 0, 0, 0] 48)) Tryz.underlying48 rfl (by kernel_rfl)) rfl ?_
  exact ⟨rfl, (Below.refl _ _).alloc (Nat.le_refl _) _⟩
 have hne : ((n : Int) == 0) = false := beq_eq_false_iff_ne.2 (by omega)
 have hn0 : ¬ (n : Int) = 0 := by omega
 have HN0 := hide hn0
 clear h0 hn0
 have g1 : bits .and .i64 (n : Int) 61440 = (n : Int) / 4096 * 4096 := by rw [and_F000 n hn]; omega
 have g2 : bits .and .i64 (n : Int) 65472 = (n : Int) / 64 * 64 := by rw [and_FFC0 n hn]; omega
 have g3 : bits .and .i64 (n : Int) 65024 = (n : Int) / 512 * 512 := by rw [and_FE00 n hn]; omega
 have g4 : bits .and .i64 (n : Int) 65528 = (n : Int) / 8 * 8 := by rw [and_FFF8 n hn]; omega
 have g5 : bits .and .i64 (n : Int) 65280 = (n : Int) / 256 * 256 := by rw [and_FF00 n hn]; omega
 have g6 := and_7i n hn
 have g7 := and_FFi n hn
 have g8 := sh6_7 n hn
 obtain ⟨m1, hm1⟩ : ∃ m, (n : Int) / 4096 * 4096 = m := ⟨_, rfl⟩
 obtain ⟨m2, hm2⟩ : ∃ m, (n : Int) / 64 * 64 = m := ⟨_, rfl⟩
 obtain ⟨m3, hm3⟩ : ∃ m, (n : Int) / 512 * 512 = m := ⟨_, rfl⟩
 obtain ⟨m4, hm4⟩ : ∃ m, (n : Int) / 8 * 8 = m := ⟨_, rfl⟩
 obtain ⟨m5, hm5⟩ : ∃ m, (n : Int) / 256 * 256 = m := ⟨_, rfl⟩
 rw [hm1] at g1
 rw [hm2] at g2
 rw [hm3] at g3
 rw [hm4] at g4
 rw [hm5] at g5
 have M1 := hide hm1
 have M2 := hide hm2
 have M3 := hide hm3
 have M4 := hide hm4
 have M5 := hide hm5
 clear hm1 hm2 hm3 hm4 hm5
 go_enter Tryz.func28, Tryz.ntmps28
 go_wp2
 have RS := R0
 clear R0
 go_loopw [3] (fun i wr => ∃ k : Nat, 1 ≤ k ∧ k ≤ 7 ∧ i = .int .i64 (k : Int) ∧ Rz w wr [0, 0, 0, 0, 0, 0, 0, 0] ∧ Hid (∀ j, 1 ≤ j → j < k → baseAt j ≠ m1)) (fun i _ => 7 - (intOf i).toNat)
 case atStart => exact ⟨1, by omega, by omega, rfl, uh RS, fun j _ _ => by omega⟩
 case round =>
  clear RS
  obtain ⟨k, hk1, hk7, rfl, hrz, hall⟩ := hrel
  by_cases hk : k ≤ 6
  ·
   have Z := hide hrz
   clear hrz
   obtain ⟨bk, hbk⟩ : ∃ b, baseAt k = b := ⟨_, rfl⟩
   have HBK := hide hbk
   clear hbk
   go_wp2_with fail
   refine (base_any k (by omega) _).mono ?_
   rintro e w1 ⟨rfl, hb⟩
   rw [uh HBK]
   have Z1 := hide ((uh Z).later hb)
   clear Z hb
   by_cases hit : m1 = bk
   ·
    have hq : (m1 == bk) = true := by simp [hit]
    have HF := hide (find_hit m1 6 1 k hk1 (by omega) hall.out ((uh HBK).trans hit.symm))
    have HD := hide (show (⟨(k : Nat), opdOf ((n : Int) / 64), opdOf (n : Int), 0⟩ : Is) = dOp (n : Int) by unfold dOp; rw [if_neg (uh HN0), uh M1, uh HF, if_pos (by omega)])
    clear hit hall
    go_wp2_with fail
    refine (l4Opd_int ((n : Int) / 64) (by omega) (by omega) _).mono ?_
    rintro e w2 ⟨rfl, hb⟩
    have Z2 := hide ((uh Z1).later hb)
    clear hb
    go_wp2_with fail
    refine (l4Opd_int ((n : Int)) (by omega) (by omega) _).mono ?_
    rintro e w3 ⟨rfl, hb⟩
    have Z3 := hide ((uh Z2).later hb)
    clear hb
    have zz := uh Z3
    have c0 : w3.cell? ⟨w.heap.size, 0, none⟩ = some (.int .i64 0) := zz.row.cell (i := 0) (by omega)
    have f0 := zz.row.frozen 0
    have c1 : w3.cell? ⟨w.heap.size, 1, none⟩ = some (.int .i64 0) := zz.row.cell (i := 1) (by omega)
    have f1 := zz.row.frozen 1
    have c2 : w3.cell? ⟨w.heap.size, 2, none⟩ = some (.int .i64 0) := zz.row.cell (i := 2) (by omega)
    have f2 := zz.row.frozen 2
    have c3 : w3.cell? ⟨w.heap.size, 3, none⟩ = some (.int .i64 0) := zz.row.cell (i := 3) (by omega)
    have f3 := zz.row.frozen 3
    have c4 : w3.cell? ⟨w.heap.size, 4, none⟩ = some (.int .i64 0) := zz.row.cell (i := 4) (by omega)
    have f4 := zz.row.frozen 4
    have c5 : w3.cell? ⟨w.heap.size, 5, none⟩ = some (.int .i64 0) := zz.row.cell (i := 5) (by omega)
    have f5 := zz.row.frozen 5
    have c6 : w3.cell? ⟨w.heap.size, 6, none⟩ = some (.int .i64 0) := zz.row.cell (i := 6) (by omega)
    have f6 := zz.row.frozen 6
    have c7 : w3.cell? ⟨w.heap.size, 7, none⟩ = some (.int .i64 0) := zz.row.cell (i := 7) (by omega)
    have f7 := zz.row.frozen 7
    clear zz
    unfold opdOf Od.v
    simp only
    go_wp2
    refine bodyPost_ret (results_cell_row (P := Tryz.prog) rfl _ _ w.heap.size 48 (cs8 [(k : Int), (n : Int) / 64 / 8 % 8, (n : Int) / 64 % 8, 0, (n : Int) / 8 % 8, (n : Int) % 8, 0, 0]) (0, 0) _ rfl (row8_heap ((uh Z3).put ((k : Int)) ((n : Int) / 64 / 8 % 8) ((n : Int) / 64 % 8) (0) ((n : Int) / 8 % 8) ((n : Int) % 8) (0) (0)).row) Tryz.underlying48 rfl (by kernel_rfl)) rfl ?_
    exact ⟨by rw [← uh HD]; rfl, ((uh Z3).put ((k : Int)) ((n : Int) / 64 / 8 % 8) ((n : Int) / 64 % 8) (0) ((n : Int) / 8 % 8) ((n : Int) % 8) (0) (0)).bel⟩
   ·
    have hq : (m1 == bk) = false := beq_eq_false_iff_ne.2 hit
    have HA := hide (show ∀ j, 1 ≤ j → j < k + 1 → baseAt j ≠ m1 from fun j a b => by
     by_cases e : j = k
     · subst e; rw [uh HBK]; exact fun e => hit e.symm
     · exact hall.out j a (by omega))
    clear hit hall
    go_wp2
    go_roundw
    case rel => exact ⟨k + 1, by omega, by omega, by go_num, uh Z1, uh HA⟩
    case measure => simp [intOf]; omega
  ·
   have F1 := hide (find_none m1 6 1 (fun j a b => hall.out j a (by omega)))
   have RS := hide hrz
   clear hrz hall
   go_wp2
   go_loopw [4] (fun i wr => ∃ k : Nat, 7 ≤ k ∧ k ≤ 15 ∧ i = .int .i64 (k : Int) ∧ Rz w wr [0, 0, 0, 0, 0, 0, 0, 0] ∧ Hid (∀ j, 7 ≤ j → j < k → baseAt j ≠ m2)) (fun i _ => 15 - (intOf i).toNat)
   case atStart => exact ⟨7, by omega, by omega, rfl, uh RS, fun j _ _ => by omega⟩
   case round =>
    clear RS
    obtain ⟨k, hk1, hk7, rfl, hrz, hall⟩ := hrel
    by_cases hk : k ≤ 14
    ·
     have Z := hide hrz
     clear hrz
     obtain ⟨bk, hbk⟩ : ∃ b, baseAt k = b := ⟨_, rfl⟩
     have HBK := hide hbk
     clear hbk
     go_wp2_with fail
     refine (base_any k (by omega) _).mono ?_
     rintro e w1 ⟨rfl, hb⟩
     rw [uh HBK]
     have Z1 := hide ((uh Z).later hb)
     clear Z hb
     by_cases hit : m2 = bk
     ·
      have hq : (m2 == bk) = true := by simp [hit]
      have HF := hide (find_hit m2 8 7 k hk1 (by omega) hall.out ((uh HBK).trans hit.symm))
      have HD := hide (show (⟨(k : Nat), zO, opdOf (n : Int), 0⟩ : Is) = dOp (n : Int) by unfold dOp; rw [if_neg (uh HN0), uh M1, uh F1, if_neg (by simp), uh M2, uh HF, if_pos (by omega)])
      clear hit hall
      go_wp2_with fail
      refine (l4Opd_int ((n : Int)) (by omega) (by omega) _).mono ?_
      rintro e w3 ⟨rfl, hb⟩
      have Z3 := hide ((uh Z1).later hb)
      clear hb
      have zz := uh Z3
      have c0 : w3.cell? ⟨w.heap.size, 0, none⟩ = some (.int .i64 0) := zz.row.cell (i := 0) (by omega)
      have f0 := zz.row.frozen 0
      have c1 : w3.cell? ⟨w.heap.size, 1, none⟩ = some (.int .i64 0) := zz.row.cell (i := 1) (by omega)
      have f1 := zz.row.frozen 1
      have c2 : w3.cell? ⟨w.heap.size, 2, none⟩ = some (.int .i64 0) := zz.row.cell (i := 2) (by omega)
      have f2 := zz.row.frozen 2
      have c3 : w3.cell? ⟨w.heap.size, 3, none⟩ = some (.int .i64 0) := zz.row.cell (i := 3) (by omega)
      have f3 := zz.row.frozen 3
      have c4 : w3.cell? ⟨w.heap.size, 4, none⟩ = some (.int .i64 0) := zz.row.cell (i := 4) (by omega)
      have f4 := zz.row.frozen 4
      have c5 : w3.cell? ⟨w.heap.size, 5, none⟩ = some (.int .i64 0) := zz.row.cell (i := 5) (by omega)
      have f5 := zz.row.frozen 5
      have c6 : w3.cell? ⟨w.heap.size, 6, none⟩ = some (.int .i64 0) := zz.row.cell (i := 6) (by omega)
      have f6 := zz.row.frozen 6
      have c7 : w3.cell? ⟨w.heap.size, 7, none⟩ = some (.int .i64 0) := zz.row.cell (i := 7) (by omega)
      have f7 := zz.row.frozen 7
      clear zz
      unfold opdOf Od.v
      simp only
      go_wp2
      refine bodyPost_ret (results_cell_row (P := Tryz.prog) rfl _ _ w.heap.size 48 (cs8 [(k : Int), 0, 0, 0, (n : Int) / 8 % 8, (n : Int) % 8, 0, 0]) (0, 0) _ rfl (row8_heap ((uh Z3).put ((k : Int)) (0) (0) (0) ((n : Int) / 8 % 8) ((n : Int) % 8) (0) (0)).row) Tryz.underlying48 rfl (by kernel_rfl)) rfl ?_
      exact ⟨by rw [← uh HD]; rfl, ((uh Z3).put ((k : Int)) (0) (0) (0) ((n : Int) / 8 % 8) ((n : Int) % 8) (0) (0)).bel⟩
     ·
      have hq : (m2 == bk) = false := beq_eq_false_iff_ne.2 hit
      have HA := hide (show ∀ j, 7 ≤ j → j < k + 1 → baseAt j ≠ m2 from fun j a b => by
       by_cases e : j = k
       · subst e; rw [uh HBK]; exact fun e => hit e.symm
       · exact hall.out j a (by omega))
      clear hit hall
      go_wp2
      go_roundw
      case rel => exact ⟨k + 1, by omega, by omega, by go_num, uh Z1, uh HA⟩
      case measure => simp [intOf]; omega
    ·
     have F7 := hide (find_none m2 8 7 (fun j a b => hall.out j a (by omega)))
     have RS := hide hrz
     clear hrz hall
     by_cases h3 : m3 = 2048
     ·
      have hq : (m3 == 2048) = true := by simp [h3]
      have HD := hide (show (⟨15, zO, opdOf (n : Int), (n : Int) / 64 % 8⟩ : Is) = dOp (n : Int) by unfold dOp; rw [if_neg (uh HN0), uh M1, uh F1, if_neg (by simp), uh M2, uh F7, if_neg (by simp), uh M3, if_pos h3])
      clear h3
      go_wp2_with fail
      refine (l4Opd_int ((n : Int)) (by omega) (by omega) _).mono ?_
      rintro e w3 ⟨rfl, hb⟩
      have Z3 := hide ((uh RS).later hb)
      clear hb
      have zz := uh Z3
      have c0 : w3.cell? ⟨w.heap.size, 0, none⟩ = some (.int .i64 0) := zz.row.cell (i := 0) (by omega)
      have f0 := zz.row.frozen 0
      have c1 : w3.cell? ⟨w.heap.size, 1, none⟩ = some (.int .i64 0) := zz.row.cell (i := 1) (by omega)
      have f1 := zz.row.frozen 1
      have c2 : w3.cell? ⟨w.heap.size, 2, none⟩ = some (.int .i64 0) := zz.row.cell (i := 2) (by omega)
      have f2 := zz.row.frozen 2
      have c3 : w3.cell? ⟨w.heap.size, 3, none⟩ = some (.int .i64 0) := zz.row.cell (i := 3) (by omega)
      have f3 := zz.row.frozen 3
      have c4 : w3.cell? ⟨w.heap.size, 4, none⟩ = some (.int .i64 0) := zz.row.cell (i := 4) (by omega)
      have f4 := zz.row.frozen 4
      have c5 : w3.cell? ⟨w.heap.size, 5, none⟩ = some (.int .i64 0) := zz.row.cell (i := 5) (by omega)
      have f5 := zz.row.frozen 5
      have c6 : w3.cell? ⟨w.heap.size, 6, none⟩ = some (.int .i64 0) := zz.row.cell (i := 6) (by omega)
      have f6 := zz.row.frozen 6
      have c7 : w3.cell? ⟨w.heap.size, 7, none⟩ = some (.int .i64 0) := zz.row.cell (i := 7) (by omega)
      have f7 := zz.row.frozen 7
      clear zz
      unfold opdOf Od.v
      simp only
      go_wp2
      refine bodyPost_ret (results_cell_row (P := Tryz.prog) rfl _ _ w.heap.size 48 (cs8 [15, 0, 0, 0, (n : Int) / 8 % 8, (n : Int) % 8, 0, (n : Int) / 64 % 8]) (0, 0) _ rfl (row8_heap ((uh Z3).put (15) (0) (0) (0) ((n : Int) / 8 % 8) ((n : Int) % 8) (0) ((n : Int) / 64 % 8)).row) Tryz.underlying48 rfl (by kernel_rfl)) rfl ?_
      exact ⟨by rw [← uh HD]; rfl, ((uh Z3).put (15) (0) (0) (0) ((n : Int) / 8 % 8) ((n : Int) % 8) (0) ((n : Int) / 64 % 8)).bel⟩
     ·
      have hq3 : (m3 == 2048) = false := beq_eq_false_iff_ne.2 h3
      have H3 := hide h3
      clear h3
      by_cases h4 : m4 = 128
      ·
       have hq : (m4 == 128) = true := by simp [h4]
       have HD := hide (show (⟨16, zO, zO, (n : Int) % 8⟩ : Is) = dOp (n : Int) by unfold dOp; rw [if_neg (uh HN0), uh M1, uh F1, if_neg (by simp), uh M2, uh F7, if_neg (by simp), uh M3, if_neg (uh H3), uh M4, if_pos h4])
       clear h4
       have zz := uh RS
       have c0 : wr.cell? ⟨w.heap.size, 0, none⟩ = some (.int .i64 0) := zz.row.cell (i := 0) (by omega)
       have f0 := zz.row.frozen 0
       have c1 : wr.cell? ⟨w.heap.size, 1, none⟩ = some (.int .i64 0) := zz.row.cell (i := 1) (by omega)
       have f1 := zz.row.frozen 1
       have c2 : wr.cell? ⟨w.heap.size, 2, none⟩ = some (.int .i64 0) := zz.row.cell (i := 2) (by omega)
       have f2 := zz.row.frozen 2
       have c3 : wr.cell? ⟨w.heap.size, 3, none⟩ = some (.int .i64 0) := zz.row.cell (i := 3) (by omega)
       have f3 := zz.row.frozen 3
       have c4 : wr.cell? ⟨w.heap.size, 4, none⟩ = some (.int .i64 0) := zz.row.cell (i := 4) (by omega)
       have f4 := zz.row.frozen 4
       have c5 : wr.cell? ⟨w.heap.size, 5, none⟩ = some (.int .i64 0) := zz.row.cell (i := 5) (by omega)
       have f5 := zz.row.frozen 5
       have c6 : wr.cell? ⟨w.heap.size, 6, none⟩ = some (.int .i64 0) := zz.row.cell (i := 6) (by omega)
       have f6 := zz.row.frozen 6
       have c7 : wr.cell? ⟨w.heap.size, 7, none⟩ = some (.int .i64 0) := zz.row.cell (i := 7) (by omega)
       have f7 := zz.row.frozen 7
       clear zz
       go_wp2
       refine bodyPost_ret (results_cell_row (P := Tryz.prog) rfl _ _ w.heap.size 48 (cs8 [16, 0, 0, 0, 0, 0, 0, (n : Int) % 8]) (0, 0) _ rfl (row8_heap ((uh RS).put (16) (0) (0) (0) (0) (0) (0) ((n : Int) % 8)).row) Tryz.underlying48 rfl (by kernel_rfl)) rfl ?_
       exact ⟨by rw [← uh HD]; rfl, ((uh RS).put (16) (0) (0) (0) (0) (0) (0) ((n : Int) % 8)).bel⟩
      ·
       have hq4 : (m4 == 128) = false := beq_eq_false_iff_ne.2 h4
       have H4 := hide h4
       clear h4
       by_cases h5 : m5 = 34816
       ·
        have hq : (m5 == 34816) = true := by simp [h5]
        have HD := hide (show (⟨23, zO, zO, (n : Int) % 256⟩ : Is) = dOp (n : Int) by unfold dOp; rw [if_neg (uh HN0), uh M1, uh F1, if_neg (by simp), uh M2, uh F7, if_neg (by simp), uh M3, if_neg (uh H3), uh M4, if_neg (uh H4), uh M5, if_pos h5])
        clear h5
        have zz := uh RS
        have c0 : wr.cell? ⟨w.heap.size, 0, none⟩ = some (.int .i64 0) := zz.row.cell (i := 0) (by omega)
        have f0 := zz.row.frozen 0
        have c1 : wr.cell? ⟨w.heap.size, 1, none⟩ = some (.int .i64 0) := zz.row.cell (i := 1) (by omega)
        have f1 := zz.row.frozen 1
        have c2 : wr.cell? ⟨w.heap.size, 2, none⟩ = some (.int .i64 0) := zz.row.cell (i := 2) (by omega)
        have f2 := zz.row.frozen 2
        have c3 : wr.cell? ⟨w.heap.size, 3, none⟩ = some (.int .i64 0) := zz.row.cell (i := 3) (by omega)
        have f3 := zz.row.frozen 3
        have c4 : wr.cell? ⟨w.heap.size, 4, none⟩ = some (.int .i64 0) := zz.row.cell (i := 4) (by omega)
        have f4 := zz.row.frozen 4
        have c5 : wr.cell? ⟨w.heap.size, 5, none⟩ = some (.int .i64 0) := zz.row.cell (i := 5) (by omega)
        have f5 := zz.row.frozen 5
        have c6 : wr.cell? ⟨w.heap.size, 6, none⟩ = some (.int .i64 0) := zz.row.cell (i := 6) (by omega)
        have f6 := zz.row.frozen 6
        have c7 : wr.cell? ⟨w.heap.size, 7, none⟩ = some (.int .i64 0) := zz.row.cell (i := 7) (by omega)
        have f7 := zz.row.frozen 7
        clear zz
        go_wp2
        refine bodyPost_ret (results_cell_row (P := Tryz.prog) rfl _ _ w.heap.size 48 (cs8 [23, 0, 0, 0, 0, 0, 0, (n : Int) % 256]) (0, 0) _ rfl (row8_heap ((uh RS).put (23) (0) (0) (0) (0) (0) (0) ((n : Int) % 256)).row) Tryz.underlying48 rfl (by kernel_rfl)) rfl ?_
        exact ⟨by rw [← uh HD]; rfl, ((uh RS).put (23) (0) (0) (0) (0) (0) (0) ((n : Int) % 256)).bel⟩
       ·
        have hq5 : (m5 == 34816) = false := beq_eq_false_iff_ne.2 h5
        have H5 := hide h5
        clear h5
        go_wp2
        go_loopw [5] (fun i wr => ∃ k : Nat, 17 ≤ k ∧ k ≤ 22 ∧ i = .int .i64 (k : Int) ∧ Rz w wr [0, 0, 0, 0, 0, 0, 0, 0] ∧ Hid (∀ j, 17 ≤ j → j < k → baseAt j ≠ m5)) (fun i _ => 22 - (intOf i).toNat)
        case atStart => exact ⟨17, by omega, by omega, rfl, uh RS, fun j _ _ => by omega⟩
        case round =>
         clear RS
         obtain ⟨k, hk1, hk7, rfl, hrz, hall⟩ := hrel
         by_cases hk : k ≤ 21
         ·
          have Z := hide hrz
          clear hrz
          obtain ⟨bk, hbk⟩ : ∃ b, baseAt k = b := ⟨_, rfl⟩
          have HBK := hide hbk
          clear hbk
          go_wp2_with fail
          refine (base_any k (by omega) _).mono ?_
          rintro e w1 ⟨rfl, hb⟩
          rw [uh HBK]
          have Z1 := hide ((uh Z).later hb)
          clear Z hb
          by_cases hit : m5 = bk
          ·
           have hq : (m5 == bk) = true := by simp [hit]
           have HF := hide (find_hit m5 5 17 k hk1 (by omega) hall.out ((uh HBK).trans hit.symm))
           have hk0 : k ≠ 0 := by omega
           have HD2 := hide (fun (x : Int) (hx : (if 127 < (n : Int) % 256 then (n : Int) % 256 - 256 else (n : Int) % 256) = x) => show (⟨(k : Nat), zO, zO, x⟩ : Is) = dOp (n : Int) by unfold dOp; rw [if_neg (uh HN0), uh M1, uh F1, if_neg (by simp), uh M2, uh F7, if_neg (by simp), uh M3, if_neg (uh H3), uh M4, if_neg (uh H4), uh M5, if_neg (uh H5), uh HF, if_pos hk0, hx])
           clear hk0
           clear hit hall
           have ZL : ∀ o, Rz w (w1.alloc o) [0, 0, 0, 0, 0, 0, 0, 0] := fun o => (uh Z1).later ((Below.refl _ _).alloc (Nat.le_refl _) o)
           have c0 : ∀ o, (w1.alloc o).cell? ⟨w.heap.size, 0, none⟩ = some (.int .i64 0) := fun o => (ZL o).row.cell (i := 0) (by omega)
           have f0 : ∀ o, (w1.alloc o).frozen? ⟨w.heap.size, 0, none⟩ = false := fun o => (ZL o).row.frozen 0
           have c1 : ∀ o, (w1.alloc o).cell? ⟨w.heap.size, 1, none⟩ = some (.int .i64 0) := fun o => (ZL o).row.cell (i := 1) (by omega)
           have f1 : ∀ o, (w1.alloc o).frozen? ⟨w.heap.size, 1, none⟩ = false := fun o => (ZL o).row.frozen 1
           have c2 : ∀ o, (w1.alloc o).cell? ⟨w.heap.size, 2, none⟩ = some (.int .i64 0) := fun o => (ZL o).row.cell (i := 2) (by omega)
           have f2 : ∀ o, (w1.alloc o).frozen? ⟨w.heap.size, 2, none⟩ = false := fun o => (ZL o).row.frozen 2
           have c3 : ∀ o, (w1.alloc o).cell? ⟨w.heap.size, 3, none⟩ = some (.int .i64 0) := fun o => (ZL o).row.cell (i := 3) (by omega)
           have f3 : ∀ o, (w1.alloc o).frozen? ⟨w.heap.size, 3, none⟩ = false := fun o => (ZL o).row.frozen 3
           have c4 : ∀ o, (w1.alloc o).cell? ⟨w.heap.size, 4, none⟩ = some (.int .i64 0) := fun o => (ZL o).row.cell (i := 4) (by omega)
           have f4 : ∀ o, (w1.alloc o).frozen? ⟨w.heap.size, 4, none⟩ = false := fun o => (ZL o).row.frozen 4
           have c5 : ∀ o, (w1.alloc o).cell? ⟨w.heap.size, 5, none⟩ = some (.int .i64 0) := fun o => (ZL o).row.cell (i := 5) (by omega)
           have f5 : ∀ o, (w1.alloc o).frozen? ⟨w.heap.size, 5, none⟩ = false := fun o => (ZL o).row.frozen 5
           have c6 : ∀ o, (w1.alloc o).cell? ⟨w.heap.size, 6, none⟩ = some (.int .i64 0) := fun o => (ZL o).row.cell (i := 6) (by omega)
           have f6 : ∀ o, (w1.alloc o).frozen? ⟨w.heap.size, 6, none⟩ = false := fun o => (ZL o).row.frozen 6
           have c7 : ∀ o, (w1.alloc o).cell? ⟨w.heap.size, 7, none⟩ = some (.int .i64 0) := fun o => (ZL o).row.cell (i := 7) (by omega)
           have f7 : ∀ o, (w1.alloc o).frozen? ⟨w.heap.size, 7, none⟩ = false := fun o => (ZL o).row.frozen 7
           have ZZ := hide ZL
           clear ZL
           by_cases hs : 127 < (n : Int) % 256
           ·
            have HD := hide (show (⟨(k : Nat), zO, zO, (n : Int) % 256 - 256⟩ : Is) = dOp (n : Int) from uh HD2 _ (if_pos hs))
            go_wp2
            refine bodyPost_ret (results_cell_row (P := Tryz.prog) rfl _ _ w.heap.size 48 (cs8 [(k : Int), 0, 0, 0, 0, 0, 0, (n : Int) % 256 - 256]) (0, 0) _ rfl (row8_heap ((uh ZZ _).put ((k : Int)) (0) (0) (0) (0) (0) (0) ((n : Int) % 256 - 256)).row) Tryz.underlying48 rfl (by kernel_rfl)) rfl ?_
            exact ⟨by rw [← uh HD]; rfl, ((uh ZZ _).put ((k : Int)) (0) (0) (0) (0) (0) (0) ((n : Int) % 256 - 256)).bel⟩
           ·
            have HD := hide (show (⟨(k : Nat), zO, zO, (n : Int) % 256⟩ : Is) = dOp (n : Int) from uh HD2 _ (if_neg hs))
            go_wp2
            refine bodyPost_ret (results_cell_row (P := Tryz.prog) rfl _ _ w.heap.size 48 (cs8 [(k : Int), 0, 0, 0, 0, 0, 0, (n : Int) % 256]) (0, 0) _ rfl (row8_heap ((uh ZZ _).put ((k : Int)) (0) (0) (0) (0) (0) (0) ((n : Int) % 256)).row) Tryz.underlying48 rfl (by kernel_rfl)) rfl ?_
            exact ⟨by rw [← uh HD]; rfl, ((uh ZZ _).put ((k : Int)) (0) (0) (0) (0) (0) (0) ((n : Int) % 256)).bel⟩
          ·
           have hq : (m5 == bk) = false := beq_eq_false_iff_ne.2 hit
           have HA := hide (show ∀ j, 17 ≤ j → j < k + 1 → baseAt j ≠ m5 from fun j a b => by
            by_cases e : j = k
            · subst e; rw [uh HBK]; exact fun e => hit e.symm
            · exact hall.out j a (by omega))
           clear hit hall
           go_wp2
           go_roundw
           case rel => exact ⟨k + 1, by omega, by omega, by go_num, uh Z1, uh HA⟩
           case measure => simp [intOf]; omega
         ·
          have F17 := hide (find_none m5 5 17 (fun j a b => hall.out j a (by omega)))
          have RS := hide hrz
          clear hrz hall
          have HD := hide (show (⟨0, zO, zO, 0⟩ : Is) = dOp (n : Int) by unfold dOp; rw [if_neg (uh HN0), uh M1, uh F1, if_neg (by simp), uh M2, uh F7, if_neg (by simp), uh M3, if_neg (uh H3), uh M4, if_neg (uh H4), uh M5, if_neg (uh H5), uh F17, if_neg (by simp)])
          have zz := uh RS
          have c0 : wr.cell? ⟨w.heap.size, 0, none⟩ = some (.int .i64 0) := zz.row.cell (i := 0) (by omega)
          have f0 := zz.row.frozen 0
          have c1 : wr.cell? ⟨w.heap.size, 1, none⟩ = some (.int .i64 0) := zz.row.cell (i := 1) (by omega)
          have f1 := zz.row.frozen 1
          have c2 : wr.cell? ⟨w.heap.size, 2, none⟩ = some (.int .i64 0) := zz.row.cell (i := 2) (by omega)
          have f2 := zz.row.frozen 2
          have c3 : wr.cell? ⟨w.heap.size, 3, none⟩ = some (.int .i64 0) := zz.row.cell (i := 3) (by omega)
          have f3 := zz.row.frozen 3
          have c4 : wr.cell? ⟨w.heap.size, 4, none⟩ = some (.int .i64 0) := zz.row.cell (i := 4) (by omega)
          have f4 := zz.row.frozen 4
          have c5 : wr.cell? ⟨w.heap.size, 5, none⟩ = some (.int .i64 0) := zz.row.cell (i := 5) (by omega)
          have f5 := zz.row.frozen 5
          have c6 : wr.cell? ⟨w.heap.size, 6, none⟩ = some (.int .i64 0) := zz.row.cell (i := 6) (by omega)
          have f6 := zz.row.frozen 6
          have c7 : wr.cell? ⟨w.heap.size, 7, none⟩ = some (.int .i64 0) := zz.row.cell (i := 7) (by omega)
          have f7 := zz.row.frozen 7
          clear zz
          go_wp2
          refine bodyPost_ret (results_cell_row (P := Tryz.prog) rfl _ _ w.heap.size 48 (cs8 [0, 0, 0, 0, 0, 0, 0, 0]) (0, 0) _ rfl (row8_heap ((uh RS).put (0) (0) (0) (0) (0) (0) (0) (0)).row) Tryz.underlying48 rfl (by kernel_rfl)) rfl ?_
          exact ⟨by rw [← uh HD]; rfl, ((uh RS).put (0) (0) (0) (0) (0) (0) (0) (0)).bel⟩
end Go.Proofs.YtboedaofbchdkaaGreatDoor
