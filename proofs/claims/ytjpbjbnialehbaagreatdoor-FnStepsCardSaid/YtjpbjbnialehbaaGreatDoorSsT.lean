/- Contracts over this seat's translation, laid together; conditions stand as hypotheses of each. -/
import Derived.Test.YtjpbjbnialehbaaGreatDoorSsS
namespace Go.Proofs.YtjpbjbnialehbaaGreatDoor
open Go.ChangeShapes Go.WideShapes Go.ChangeAt Go.RowKit
set_option maxHeartbeats 16000000
set_option linter.unusedVariables false
set_option maxRecDepth 8000
set_option linter.unusedSimpArgs false
def Ms.wd (t : Ms) (d2 : Md) : Ms := { t with d := d2 }
def tgO (t : Ms) (mo re : Nat) : Bool := t.d.plO mo re && (t.d.plR mo re == -1)
def TgIs (g B gr rc mo re : Nat) (X : Int) (y : Mv) (t : Ms) (d2 : Md) (st : Int) (w : World) : Prop :=
 Calls Tryz.prog 112 #[.pointer (some ⟨g, 0, none⟩), .agg #[.int .i64 (mo : Int), .int .i64 (re : Int), .int .i64 X]] w fun e w' => e = .returned (.tuple #[.int .i64 (t.d.plA mo re), .bool (tgO t mo re)]) ∧ Pz w' g B gr rc y (t.wd d2) st d2.m ∧ Fm w w' g y y
theorem target_any (g B gr rc mo re : Nat) (X : Int) (y : Mv) (t : Ms) (st : Int) (hk : Dk t.d) (h7 : mo ≤ 7) (hr : re < 8) :
  ∀ w, Pz w g B gr rc y t st t.d.m → ∃ d2, (t.d.plO mo re = true → d2 = t.d.plD mo re) ∧ Dk d2 ∧ TgIs g B gr rc mo re X y t d2 st w := by
 intro w h
 have H1 := hide (h.later (below_new w (Obj.cells #[.int .i64 (mo : Int), .int .i64 (re : Int), .int .i64 X] 67)))
 obtain ⟨d2, pq, e2, ec⟩ := po_all g B gr rc mo re X y t.d _ (uh H1).pg hk.r8 hr (h.small h.len hk) (hk.getb _) h7 ((uh H1).yl (uh H1).atr) (uh H1).gl
 refine ⟨d2, e2, ?_, ?_⟩
 ·
  rcases ec with rfl | rfl
  · exact dk_plS hk mo re
  · exact hk.regS _ _
 have F1 := hide (Fm.of (g := g) (y := y) (below_new w (Obj.cells #[.int .i64 (mo : Int), .int .i64 (re : Int), .int .i64 X] 67)))
 have AR := hide h.atr
 have PO := hide pq
 unfold PoIs at PO
 have GO := hide (show ∀ v, Pg v g B gr rc y d2 → Pz v g B gr rc y (t.wd d2) st d2.m from fun v p => h.ofPg p)
 unfold TgIs tgO
 generalize t.d.plR mo re = pr at PO ⊢
 generalize t.d.plA mo re = pa at PO ⊢
 generalize t.d.plO mo re = po at PO ⊢
 clear h hk e2 ec pq
 go_enter Tryz.func112, Tryz.ntmps112
 go_wp2_with fail
 refine (uh PO).mono ?_
 rintro e w2 ⟨rfl, p2, g2⟩
 have H3 := hide ((uh GO _ p2).later (below_new w2 (Obj.cells #[.int .i64 pr, .int .i64 pa] 97)))
 have R3 := (heap_alloc_last w2 (Obj.cells #[.int .i64 pr, .int .i64 pa] 97))
 have k0 := row2S_0 R3
 have k1 := row2S_1 R3
 have F3 := hide (((uh F1).trans (Fm.grownR g2 (uh AR))).trans (Fm.of (below_new w2 (Obj.cells #[.int .i64 pr, .int .i64 pa] 97))))
 clear p2 g2 PO R3
 go_wp2_with (first | (refine wpList_store_new rfl 97 _ _ rfl #[.int .i64 pr, .int .i64 pa] rfl rfl _ (by kernel_rfl) rfl rfl ?_))
 generalize w2.alloc (Obj.cells #[.int .i64 pr, .int .i64 pa] 97) = w3 at H3 F3 k0 k1 ⊢
 cases po
 ·
  go_quiet (fail)
  go_wp2
  go_ret2
  exact ⟨rfl, (uh H3).later (below_drewN (Below.refl _ _) _), (uh F3).trans (Fm.of (below_drewN (Below.refl _ _) _))⟩
 ·
  go_quiet (fail)
  go_wp2
  go_ret2
  exact ⟨by simp, (uh H3).later (below_drewN (Below.refl _ _) _), (uh F3).trans (Fm.of (below_drewN (Below.refl _ _) _))⟩
def JpIs (g B gr rc op sm sr dm dr : Nat) (sx dx n : Int) (y : Mv) (t : Ms) (st : Int) (w : World) : Prop :=
 Calls Tryz.prog 75 #[.pointer (some ⟨g, 0, none⟩), .agg #[.int .i64 (op : Int), .int .i64 (sm : Int), .int .i64 (sr : Int), .int .i64 sx, .int .i64 (dm : Int), .int .i64 (dr : Int), .int .i64 dx, .int .i64 n]] w fun e w' => e = .returned (.bool (tgO t dm dr)) ∧ AcE (tgO t dm dr) (Pz w' g B gr rc y ((t.op dm dr).rg 7 (t.d.plA dm dr)) st (t.op dm dr).d.m) (Fm w w' g y y)
theorem jump_any (g B gr rc op sm sr dm dr : Nat) (sx dx n : Int) (y : Mv) (t : Ms) (st : Int) (w : World) (h : Pz w g B gr rc y t st t.d.m) (hk : Dk t.d) (d7 : dm ≤ 7) (d8 : dr < 8) : JpIs g B gr rc op sm sr dm dr sx dx n y t st w := by
 have GL := hide h.gl
 have YL := hide (fun b (hb : y.at b) => h.yl hb)
 have H1 := hide (h.later (below_new w (Obj.cells #[.int .i64 (op : Int), .int .i64 (sm : Int), .int .i64 (sr : Int), .int .i64 sx, .int .i64 (dm : Int), .int .i64 (dr : Int), .int .i64 dx, .int .i64 n] 69)))
 have F1 := hide (Fm.of (g := g) (y := y) (below_new w (Obj.cells #[.int .i64 (op : Int), .int .i64 (sm : Int), .int .i64 (sr : Int), .int .i64 sx, .int .i64 (dm : Int), .int .i64 (dr : Int), .int .i64 dx, .int .i64 n] 69)))
 have R1 := hide (heap_alloc_last w (Obj.cells #[.int .i64 (op : Int), .int .i64 (sm : Int), .int .i64 (sr : Int), .int .i64 sx, .int .i64 (dm : Int), .int .i64 (dr : Int), .int .i64 dx, .int .i64 n] 69))
 obtain ⟨d2, e2, k2, tg⟩ := target_any g B gr rc dm dr dx y t st hk d7 d8 _ (uh H1)
 have TG := hide tg
 unfold TgIs at TG
 have E2 := hide (show tgO t dm dr = true → d2 = t.d.plD dm dr from fun ho => e2 (by unfold tgO at ho; simp only [Bool.and_eq_true] at ho; exact ho.1))
 unfold JpIs
 have k4 := insR 4 _ (uh R1) rfl
 have k5 := insR 5 _ (uh R1) rfl
 have k6 := insR 6 _ (uh R1) rfl
 generalize tgO t dm dr = ok at TG E2 ⊢
 generalize t.d.plA dm dr = pa at TG ⊢
 clear h hk e2 tg
 go_enter Tryz.func75, Tryz.ntmps75
 go_wp2_with fail
 refine (uh TG).mono ?_
 rintro e w2 ⟨rfl, p2, f2⟩
 have c1 := p2.cr
 obtain ⟨p3, f3, c2, c3⟩ := p2.setR 7 pa (by omega)
 have H3 := hide p3
 have F3 := hide (((uh F1).trans f2).trans f3)
 clear p2 f2 p3 f3 TG k4 k5 k6
 go_wp2
 go_ret
 exact ⟨rfl, ⟨fun ho => by have e := uh E2 ho; subst e; exact uh H3, uh F3⟩⟩
theorem halt_any (g B gr rc op sm sr dm dr : Nat) (sx dx n : Int) (y : Mv) (t : Ms) (st : Int) (w : World) (h : Pz w g B gr rc y t st t.d.m) (hk : Dk t.d) : Calls Tryz.prog 84 #[.pointer (some ⟨g, 0, none⟩), .agg #[.int .i64 (op : Int), .int .i64 (sm : Int), .int .i64 (sr : Int), .int .i64 sx, .int .i64 (dm : Int), .int .i64 (dr : Int), .int .i64 dx, .int .i64 n]] w fun e w' => e = .returned (.bool true) ∧ Pz w' g B gr rc { y with st := 1 } t 1 t.d.m ∧ Fm w w' g y { y with st := 1 } := by
 have H1 := hide (h.later (below_new w (Obj.cells #[.int .i64 (op : Int), .int .i64 (sm : Int), .int .i64 (sr : Int), .int .i64 sx, .int .i64 (dm : Int), .int .i64 (dr : Int), .int .i64 dx, .int .i64 n] 69)))
 have F1 := hide (Fm.of (g := g) (y := y) (below_new w (Obj.cells #[.int .i64 (op : Int), .int .i64 (sm : Int), .int .i64 (sr : Int), .int .i64 sx, .int .i64 (dm : Int), .int .i64 (dr : Int), .int .i64 dx, .int .i64 n] 69)))
 have c8 := (uh H1).cell 8 _ rfl
 have e8 := (uh H1).fz 264
 obtain ⟨h2, f2⟩ := (uh H1).setS 1
 have H2 := hide h2
 have F2 := hide ((uh F1).trans f2)
 clear h hk h2 f2
 go_enter Tryz.func84, Tryz.ntmps84
 go_wp2
 go_ret
 exact ⟨rfl, uh H2, uh F2⟩
theorem ad_sh (a : Int) (h : 0 ≤ a) : Psh (-1) a := .inl ⟨rfl, h⟩
def ClIs (g B gr rc op sm sr dm dr k : Nat) (sx dx : Int) (y : Mv) (t : Ms) (st : Int) (ok : Bool) (w : World) : Prop :=
 Calls Tryz.prog 76 #[.pointer (some ⟨g, 0, none⟩), .agg #[.int .i64 (op : Int), .int .i64 (sm : Int), .int .i64 (sr : Int), .int .i64 sx, .int .i64 (dm : Int), .int .i64 (dr : Int), .int .i64 dx, .int .i64 (k : Int)]] w fun e w' => e = .returned (.bool ok) ∧ AcE ok (Pz w' g B gr rc y ((((t.op dm dr).go2 k).rg k (nAt ((t.op dm dr).go2 k).d.r 7)).rg 7 (t.d.plA dm dr)) st (t.op dm dr).d.m) (Fm w w' g y y)
theorem Pz.atR {w : World} {g B gr rc : Nat} {y : Mv} {t : Ms} {st : Int} {m0 : List Int} (h : Pz w g B gr rc y t st m0) (k : Nat) (hk : k < 8) : w.cell? ⟨gr, k, none⟩ = some (.int .i64 (nAt t.d.r k)) := (h.setR k 0 hk).2.2.1
def clO (t : Ms) (dm dr : Nat) : Bool := tgO t dm dr && (t.op dm dr).go1.d.ldB (-1) ((nAt (t.op dm dr).d.r 6 - 2) % 65536)
theorem call_no (g B gr rc op sm sr dm dr : Nat) (k : Nat) (sx dx : Int) (y : Mv) (t : Ms) (st : Int) (w : World) (h : Pz w g B gr rc y t st t.d.m) (hk : Dk t.d) (d7 : dm ≤ 7) (d8 : dr < 8) (hno : clO t dm dr = false) : ClIs g B gr rc op sm sr dm dr k sx dx y t st false w := by
 have GL := hide h.gl
 have YL := hide (fun b (hb : y.at b) => h.yl hb)
 have H1 := hide (h.later (below_new w (Obj.cells #[.int .i64 (op : Int), .int .i64 (sm : Int), .int .i64 (sr : Int), .int .i64 sx, .int .i64 (dm : Int), .int .i64 (dr : Int), .int .i64 dx, .int .i64 (k : Int)] 69)))
 have F1 := hide (Fm.of (g := g) (y := y) (below_new w (Obj.cells #[.int .i64 (op : Int), .int .i64 (sm : Int), .int .i64 (sr : Int), .int .i64 sx, .int .i64 (dm : Int), .int .i64 (dr : Int), .int .i64 dx, .int .i64 (k : Int)] 69)))
 have R1 := hide (heap_alloc_last w (Obj.cells #[.int .i64 (op : Int), .int .i64 (sm : Int), .int .i64 (sr : Int), .int .i64 sx, .int .i64 (dm : Int), .int .i64 (dr : Int), .int .i64 dx, .int .i64 (k : Int)] 69))
 obtain ⟨d2, e2, k2, tg⟩ := target_any g B gr rc dm dr dx y t st hk d7 d8 _ (uh H1)
 have TG := hide tg
 unfold TgIs at TG
 have D8 := k2.rl
 obtain ⟨a0, a1⟩ := k2.rw _ (nAt_mem (show 6 < d2.r.length by omega))
 have GB := hide (fun v (p : Pz v g B gr rc y (t.wd d2) st d2.m) => goBack_any g B gr rc 6 y d2 v p.pg (by omega) a0 a1)
 have GO := hide (show ∀ v v', Pz v g B gr rc y (t.wd d2) st d2.m → Pg v' g B gr rc y (d2.reg 6 ((nAt d2.r 6 - 2) % 65536)) → Pz v' g B gr rc y ((t.wd d2).go1) st d2.m from fun v v' p q => p.ofPg q)
 have AD := hide (fun v => adPlace_any ((nAt d2.r 6 - 2) % 65536) v)
 have K3 := hide (show Dk (t.wd d2).go1.d from k2.regS _ _)
 have RC := hide (fun v (p : Pz v g B gr rc y (t.wd d2).go1 st d2.m) => reachZ p k2.ml (uh K3) (-1) ((nAt d2.r 6 - 2) % 65536) (ad_sh _ (by omega)))
 have NO := hide (show tgO t dm dr = true → (t.wd d2).go1.d.ldB (-1) ((nAt d2.r 6 - 2) % 65536) = false from fun ho => by
  have e := e2 (by unfold tgO at ho; simp only [Bool.and_eq_true] at ho; exact ho.1)
  subst e
  unfold clO at hno
  rw [ho] at hno
  exact hno)
 unfold ClIs
 generalize tgO t dm dr = ok at TG NO ⊢
 generalize t.d.plA dm dr = pa at TG
 generalize (nAt d2.r 6 - 2) % 65536 = a6 at GB GO AD RC NO
 generalize (t.wd d2).go1.d.ldB (-1) a6 = lb at RC NO
 generalize plP g gr (-1) a6 = pp at RC
 clear h hk e2 tg hno a0 a1 D8 k2
 cases ok
 ·
  have k4 := insR 4 _ (uh R1) rfl
  have k5 := insR 5 _ (uh R1) rfl
  have k6 := insR 6 _ (uh R1) rfl
  go_enter Tryz.func76, Tryz.ntmps76
  go_wp2_with fail
  refine (uh TG).mono ?_
  rintro e w2 ⟨rfl, p2, f2⟩
  have c1 := p2.cr
  have F2 := hide ((uh F1).trans f2)
  have R2 := hide (f2.row (uh R1) (by have := uh GL; omega) (fun e => by have := uh YL _ e; omega))
  have GBC := hide (uh GB _ p2)
  have P2 := hide p2
  clear p2 f2 TG k4 k5 k6
  go_wp2_with fail
  refine (uh GBC).mono ?_
  rintro e w3 ⟨rfl, p3, g3⟩
  have H3 := hide (uh GO _ _ (uh P2) p3)
  have f3 := Fm.grownR (g := g) g3 (uh P2).atr
  have F3 := hide ((uh F2).trans f3)
  have R3 := hide (f3.row (uh R2) (by have := uh GL; omega) (fun e => by have := uh YL _ e; omega))
  clear p3 g3 f3 GBC GO P2 R2 F2 c1
  go_wp2_with fail
  refine (uh AD _).mono ?_
  rintro e w4 ⟨rfl, b4⟩
  have H4 := hide ((uh H3).later b4)
  have F4 := hide ((uh F3).trans (Fm.of b4))
  have R4 := hide (row_lat (uh R3) b4)
  have RCC := hide (uh RC _ (uh H4))
  clear b4 AD RC
  go_wp2_with fail
  refine (uh RCC).mono ?_
  rintro e w5 ⟨rfl, b5⟩
  have H5 := hide ((uh H4).later b5)
  have F5 := hide ((uh F4).trans (Fm.of b5))
  have R5 := hide (row_lat (uh R4) b5)
  clear b5 RCC H3 F3 R3 H4 F4 R4
  cases lb
  ·
   go_wp2
   go_ret
   exact ⟨rfl, ⟨fun h => by simp at h, uh F5⟩⟩
  ·
   go_wp2
   go_ret
   exact ⟨rfl, ⟨fun h => by simp at h, uh F5⟩⟩
 ·
  have NO2 := uh NO (by trivial)
  subst NO2
  have k4 := insR 4 _ (uh R1) rfl
  have k5 := insR 5 _ (uh R1) rfl
  have k6 := insR 6 _ (uh R1) rfl
  go_enter Tryz.func76, Tryz.ntmps76
  go_wp2_with fail
  refine (uh TG).mono ?_
  rintro e w2 ⟨rfl, p2, f2⟩
  have c1 := p2.cr
  have F2 := hide ((uh F1).trans f2)
  have R2 := hide (f2.row (uh R1) (by have := uh GL; omega) (fun e => by have := uh YL _ e; omega))
  have GBC := hide (uh GB _ p2)
  have P2 := hide p2
  clear p2 f2 TG k4 k5 k6
  go_wp2_with fail
  refine (uh GBC).mono ?_
  rintro e w3 ⟨rfl, p3, g3⟩
  have H3 := hide (uh GO _ _ (uh P2) p3)
  have f3 := Fm.grownR (g := g) g3 (uh P2).atr
  have F3 := hide ((uh F2).trans f3)
  have R3 := hide (f3.row (uh R2) (by have := uh GL; omega) (fun e => by have := uh YL _ e; omega))
  clear p3 g3 f3 GBC GO P2 R2 F2 c1
  go_wp2_with fail
  refine (uh AD _).mono ?_
  rintro e w4 ⟨rfl, b4⟩
  have H4 := hide ((uh H3).later b4)
  have F4 := hide ((uh F3).trans (Fm.of b4))
  have R4 := hide (row_lat (uh R3) b4)
  have RCC := hide (uh RC _ (uh H4))
  clear b4 AD RC
  go_wp2_with fail
  refine (uh RCC).mono ?_
  rintro e w5 ⟨rfl, b5⟩
  have H5 := hide ((uh H4).later b5)
  have F5 := hide ((uh F4).trans (Fm.of b5))
  have R5 := hide (row_lat (uh R4) b5)
  clear b5 RCC H3 F3 R3 H4 F4 R4
  go_wp2
  go_ret
  exact ⟨rfl, ⟨fun h => by simp at h, uh F5⟩⟩
theorem call_yes (g B gr rc op sm sr dm dr : Nat) (k : Nat) (sx dx : Int) (y : Mv) (t : Ms) (st : Int) (w : World) (h : Pz w g B gr rc y t st t.d.m) (hk : Dk t.d) (d7 : dm ≤ 7) (d8 : dr < 8) (k8 : k < 8) (hy : clO t dm dr = true) : ClIs g B gr rc op sm sr dm dr k sx dx y t st true w := by
 have GL := hide h.gl
 have YL := hide (fun b (hb : y.at b) => h.yl hb)
 have H1 := hide (h.later (below_new w (Obj.cells #[.int .i64 (op : Int), .int .i64 (sm : Int), .int .i64 (sr : Int), .int .i64 sx, .int .i64 (dm : Int), .int .i64 (dr : Int), .int .i64 dx, .int .i64 (k : Int)] 69)))
 have F1 := hide (Fm.of (g := g) (y := y) (below_new w (Obj.cells #[.int .i64 (op : Int), .int .i64 (sm : Int), .int .i64 (sr : Int), .int .i64 sx, .int .i64 (dm : Int), .int .i64 (dr : Int), .int .i64 dx, .int .i64 (k : Int)] 69)))
 have R1 := hide (heap_alloc_last w (Obj.cells #[.int .i64 (op : Int), .int .i64 (sm : Int), .int .i64 (sr : Int), .int .i64 sx, .int .i64 (dm : Int), .int .i64 (dr : Int), .int .i64 dx, .int .i64 (k : Int)] 69))
 obtain ⟨d2, e2, k2, tg⟩ := target_any g B gr rc dm dr dx y t st hk d7 d8 _ (uh H1)
 have TG := hide tg
 unfold TgIs at TG
 have D8 := k2.rl
 obtain ⟨a0, a1⟩ := k2.rw _ (nAt_mem (show 6 < d2.r.length by omega))
 have GB := hide (fun v (p : Pz v g B gr rc y (t.wd d2) st d2.m) => goBack_any g B gr rc 6 y d2 v p.pg (by omega) a0 a1)
 have GO := hide (show ∀ v v', Pz v g B gr rc y (t.wd d2) st d2.m → Pg v' g B gr rc y (d2.reg 6 ((nAt d2.r 6 - 2) % 65536)) → Pz v' g B gr rc y ((t.wd d2).go1) st d2.m from fun v v' p q => p.ofPg q)
 have AD := hide (fun v => adPlace_any ((nAt d2.r 6 - 2) % 65536) v)
 have K3 := hide (show Dk (t.wd d2).go1.d from k2.regS _ _)
 have RC := hide (fun v (p : Pz v g B gr rc y (t.wd d2).go1 st d2.m) => reachZ p k2.ml (uh K3) (-1) ((nAt d2.r 6 - 2) % 65536) (ad_sh _ (by omega)))
 have hy2 : tgO t dm dr = true ∧ (t.op dm dr).go1.d.ldB (-1) ((nAt (t.op dm dr).d.r 6 - 2) % 65536) = true := by unfold clO at hy; simpa only [Bool.and_eq_true] using hy
 have e3 := e2 (by have := hy2.1; unfold tgO at this; simp only [Bool.and_eq_true] at this; exact this.1)
 subst e3
 have LB : (t.wd (t.d.plD dm dr)).go1.d.ldB (-1) ((nAt (t.d.plD dm dr).r 6 - 2) % 65536) = true := hy2.2
 rw [hy2.1] at TG
 rw [LB] at RC
 simp only [if_true] at RC
 have SH := ad_sh ((nAt (t.d.plD dm dr).r 6 - 2) % 65536) (by omega)
 have VK := (uh K3).rw _ (nAt_mem (show k < (t.wd (t.d.plD dm dr)).go1.d.r.length by have := (uh K3).rl; omega))
 have PL := hide (fun v (p : Pz v g B gr rc y (t.wd (t.d.plD dm dr)).go1 st (t.d.plD dm dr).m) => (p.place LB SH).imp id (fun q => And.intro q.1 (q.2 (nAt (t.wd (t.d.plD dm dr)).go1.d.r k) VK.1 VK.2)))
 have AR := hide (fun v (p : Pz v g B gr rc y (t.wd (t.d.plD dm dr)).go1 st (t.d.plD dm dr).m) => p.atR k k8)
 unfold ClIs
 rw [show (t.op dm dr).go2 k = (t.wd (t.d.plD dm dr)).go1.st (-1) ((nAt (t.d.plD dm dr).r 6 - 2) % 65536) (nAt (t.wd (t.d.plD dm dr)).go1.d.r k) from rfl]
 rw [show (t.op dm dr).d.m = (t.d.plD dm dr).m from rfl]
 generalize t.d.plA dm dr = pa at TG ⊢
 generalize (t.wd (t.d.plD dm dr)).go1.d.ldV (-1) ((nAt (t.d.plD dm dr).r 6 - 2) % 65536) = old at PL
 generalize (t.wd (t.d.plD dm dr)).go1.st (-1) ((nAt (t.d.plD dm dr).r 6 - 2) % 65536) (nAt (t.wd (t.d.plD dm dr)).go1.d.r k) = u2 at PL ⊢
 generalize nAt (t.wd (t.d.plD dm dr)).go1.d.r k = vk at PL AR
 generalize (nAt (t.d.plD dm dr).r 6 - 2) % 65536 = a6 at GB GO AD RC PL
 generalize plP g gr (-1) a6 = pp at RC PL
 clear h hk e2 tg hy hy2 a0 a1 D8 LB SH VK k2
 have kr : (k : Int) < 8 := by omega
 have kn : ¬ (8 : Int) ≤ (k : Int) := by omega
 have k4 := insR 4 _ (uh R1) rfl
 have k5 := insR 5 _ (uh R1) rfl
 have k6 := insR 6 _ (uh R1) rfl
 go_enter Tryz.func76, Tryz.ntmps76
 go_wp2_with fail
 refine (uh TG).mono ?_
 rintro e w2 ⟨rfl, p2, f2⟩
 have c1 := p2.cr
 have F2 := hide ((uh F1).trans f2)
 have R2 := hide (f2.row (uh R1) (by have := uh GL; omega) (fun e => by have := uh YL _ e; omega))
 have GBC := hide (uh GB _ p2)
 have P2 := hide p2
 clear p2 f2 TG k4 k5 k6
 go_wp2_with fail
 refine (uh GBC).mono ?_
 rintro e w3 ⟨rfl, p3, g3⟩
 have H3 := hide (uh GO _ _ (uh P2) p3)
 have f3 := Fm.grownR (g := g) g3 (uh P2).atr
 have F3 := hide ((uh F2).trans f3)
 have R3 := hide (f3.row (uh R2) (by have := uh GL; omega) (fun e => by have := uh YL _ e; omega))
 clear p3 g3 f3 GBC GO P2 R2 F2 c1
 go_wp2_with fail
 refine (uh AD _).mono ?_
 rintro e w4 ⟨rfl, b4⟩
 have H4 := hide ((uh H3).later b4)
 have F4 := hide ((uh F3).trans (Fm.of b4))
 have R4 := hide (row_lat (uh R3) b4)
 have RCC := hide (uh RC _ (uh H4))
 clear b4 AD RC
 go_wp2_with fail
 refine (uh RCC).mono ?_
 rintro e w5 ⟨rfl, b5⟩
 have H5 := hide ((uh H4).later b5)
 have F5 := hide ((uh F4).trans (Fm.of b5))
 have R5 := hide (row_lat (uh R4) b5)
 clear b5 RCC H3 F3 R3 H4 F4 R4
 have H6 := hide ((uh H5).later (below_drew (w := w5)))
 have F6 := hide ((uh F5).trans (Fm.of (below_drew (w := w5))))
 have R6 := hide (row_lat (uh R5) (below_drew (w := w5)))
 have c1 := (uh H6).cr
 have c2 := insR 7 _ (uh R6) rfl
 have c3 := uh AR _ (uh H6)
 obtain ⟨c4, c5, h7, f7⟩ := uh PL _ (uh H6)
 have H7 := hide h7
 have F7 := hide ((uh F6).trans f7)
 have R7 := hide (f7.row (uh R6) (by have := uh GL; omega) (fun e => by have := uh YL _ e; omega))
 clear h7 f7 AR PL H5 F5 R5
 go_wp2_with fail
 refine wp_region_last (fun v => v = w5.drew) 11 (by kernel_rfl) ?_
 generalize w5.drew = wd at H6 F6 R6 H7 F7 R7 c1 c2 c3 c4 c5 ⊢
 refine twB 0 (.pointer (some pp)) rfl (.inl rfl) ?_
 go_simp
 refine twB 1 (.pointer (some ⟨g, 0, none⟩)) rfl (.inl rfl) ?_
 go_simp
 refine twB 2 (.pointer (some ⟨g, 0, none⟩)) rfl (.inl rfl) ?_
 go_simp
 refine twB 3 (.pointer (some ⟨g, 256, none⟩)) rfl (.inl rfl) ?_
 go_simp
 refine twB 4 (.pointer (some ⟨g, 257, none⟩)) rfl (.inl rfl) ?_
 go_simp
 refine tsA 5 (.slice (some ⟨gr, 0, none⟩) 8 rc) rfl (.inl ⟨by rfl, fun w hc => ?_⟩) (rfl) ?_
 · rw [hc]; clear hc; go_simp
 go_simp
 refine twB 6 (.pointer (some ⟨w.heap.size, 7, none⟩)) rfl (.inl rfl) ?_
 go_simp
 refine tsA 7 (.int .i64 (k : Int)) rfl (.inl ⟨by rfl, fun w hc => ?_⟩) (rfl) ?_
 · rw [hc]; clear hc; go_simp
 go_simp
 refine twB 8 (.pointer (some ⟨gr, k, none⟩)) rfl (.inl rfl) ?_
 go_simp
 refine tsA 9 (.int .i64 vk) rfl (.inl ⟨by rfl, fun w hc => ?_⟩) (rfl) ?_
 · rw [hc]; clear hc; go_simp
 go_simp
 refine twB 10 (.pointer (some pp)) rfl (.inl rfl) ?_
 go_simp
 refine wpAnyL_one (i := 11) (by kernel_rfl) rfl (fun K2 hK => ?_)
 go_simp
 refine hK.out _ _ (fun h => absurd h (by decide)) ?_
 clear hK K2
 refine wpAnyL_done (by kernel_rfl) ?_ _
 generalize wd.setCell pp (.int .i64 vk) = w6 at H7 F7 R7 ⊢
 clear H6 F6 R6 c1 c2 c3 c4 c5
 have H8 := hide ((uh H7).later (below_drew (w := w6)))
 have F8 := hide ((uh F7).trans (Fm.of (below_drew (w := w6))))
 have R8 := hide (row_lat (uh R7) (below_drew (w := w6)))
 have c1 := (uh H8).cr
 have c2 := insR 7 _ (uh R8) rfl
 have c3 := (uh H8).atR 7 (by omega)
 obtain ⟨h9, f9, c4, c5⟩ := (uh H8).setR k (nAt u2.d.r 7) k8
 have H9 := hide h9
 have F9 := hide ((uh F8).trans f9)
 obtain ⟨v7, hv7⟩ : ∃ q, nAt u2.d.r 7 = q := ⟨_, rfl⟩
 have HV := hide hv7
 rw [hv7] at c3 H9 F9
 clear hv7
 clear h9 f9 H7 F7 R7
 go_wp2_with fail
 refine wp_region_last (fun v => v = w6.drew) 15 (by kernel_rfl) ?_
 generalize w6.drew = we at H8 F8 R8 H9 F9 c1 c2 c3 c4 c5 ⊢
 refine twB 0 (.pointer (some ⟨g, 0, none⟩)) rfl (.inl rfl) ?_
 go_simp
 refine twB 1 (.pointer (some ⟨g, 0, none⟩)) rfl (.inl rfl) ?_
 go_simp
 refine twB 2 (.pointer (some ⟨g, 256, none⟩)) rfl (.inl rfl) ?_
 go_simp
 refine twB 3 (.pointer (some ⟨g, 257, none⟩)) rfl (.inl rfl) ?_
 go_simp
 refine tsA 4 (.slice (some ⟨gr, 0, none⟩) 8 rc) rfl (.inl ⟨by rfl, fun w hc => ?_⟩) (rfl) ?_
 · rw [hc]; clear hc; go_simp
 go_simp
 refine twB 5 (.pointer (some ⟨w.heap.size, 7, none⟩)) rfl (.inl rfl) ?_
 go_simp
 refine tsA 6 (.int .i64 (k : Int)) rfl (.inl ⟨by rfl, fun w hc => ?_⟩) (rfl) ?_
 · rw [hc]; clear hc; go_simp
 go_simp
 refine twB 7 (.pointer (some ⟨g, 0, none⟩)) rfl (.inl rfl) ?_
 go_simp
 refine twB 8 (.pointer (some ⟨g, 0, none⟩)) rfl (.inl rfl) ?_
 go_simp
 refine twB 9 (.pointer (some ⟨g, 256, none⟩)) rfl (.inl rfl) ?_
 go_simp
 refine twB 10 (.pointer (some ⟨g, 257, none⟩)) rfl (.inl rfl) ?_
 go_simp
 refine tsA 11 (.slice (some ⟨gr, 0, none⟩) 8 rc) rfl (.inl ⟨by rfl, fun w hc => ?_⟩) (rfl) ?_
 · rw [hc]; clear hc; go_simp
 go_simp
 refine twB 12 (.pointer (some ⟨gr, 7, none⟩)) rfl (.inl rfl) ?_
 go_simp
 refine tsA 13 (.int .i64 v7) rfl (.inl ⟨by rfl, fun w hc => ?_⟩) (rfl) ?_
 · rw [hc]; clear hc; go_simp
 go_simp
 refine twB 14 (.pointer (some ⟨gr, k, none⟩)) rfl (.inl rfl) ?_
 go_simp
 refine wpAnyL_one (i := 15) (by kernel_rfl) rfl (fun K2 hK => ?_)
 go_simp
 refine hK.out _ _ (fun h => absurd h (by decide)) ?_
 clear hK K2
 refine wpAnyL_done (by kernel_rfl) ?_ _
 generalize we.setCell ⟨gr, k, none⟩ (.int .i64 v7) = w7 at H9 F9 ⊢
 clear H8 F8 R8 c1 c2 c3 c4 c5
 have c1 := (uh H9).cr
 obtain ⟨h10, f10, c4, c5⟩ := (uh H9).setR 7 pa (by omega)
 have H10 := hide h10
 have F10 := hide ((uh F9).trans f10)
 clear h10 f10
 go_wp2
 go_ret
 exact ⟨rfl, ⟨fun _ => by rw [uh HV]; exact uh H10, uh F10⟩⟩
def CbIs (g B gr rc op sm sr dm dr k : Nat) (sx dx : Int) (y : Mv) (t : Ms) (st : Int) (ok : Bool) (w : World) : Prop :=
 Calls Tryz.prog 77 #[.pointer (some ⟨g, 0, none⟩), .agg #[.int .i64 (op : Int), .int .i64 (sm : Int), .int .i64 (sr : Int), .int .i64 sx, .int .i64 (dm : Int), .int .i64 (dr : Int), .int .i64 dx, .int .i64 (k : Int)]] w fun e w' => e = .returned (.bool ok) ∧ AcE ok (Pz w' g B gr rc y (t.back k) st t.d.m) (Fm w w' g y y)
theorem rg6 (t : Ms) (k : Nat) : nAt (t.rg 7 (nAt t.d.r k)).d.r 6 = nAt t.d.r 6 := Ms.rg_at t 7 6 _ (by omega)
theorem back_anyI (g B gr rc op sm sr dm dr : Nat) (k : Nat) (sx dx : Int) (y : Mv) (t : Ms) (st : Int) (w : World) (h : Pz w g B gr rc y t st t.d.m) (hk : Dk t.d) (k8 : k < 8) : CbIs g B gr rc op sm sr dm dr k sx dx y t st ((t.back1 k).d.has (nAt t.d.r 6)) w := by
 have GL := hide h.gl
 have YL := hide (fun b (hb : y.at b) => h.yl hb)
 have H1 := hide (h.later (below_new w (Obj.cells #[.int .i64 (op : Int), .int .i64 (sm : Int), .int .i64 (sr : Int), .int .i64 sx, .int .i64 (dm : Int), .int .i64 (dr : Int), .int .i64 dx, .int .i64 (k : Int)] 69)))
 have F1 := hide (Fm.of (g := g) (y := y) (below_new w (Obj.cells #[.int .i64 (op : Int), .int .i64 (sm : Int), .int .i64 (sr : Int), .int .i64 sx, .int .i64 (dm : Int), .int .i64 (dr : Int), .int .i64 dx, .int .i64 (k : Int)] 69)))
 have R1 := hide (heap_alloc_last w (Obj.cells #[.int .i64 (op : Int), .int .i64 (sm : Int), .int .i64 (sr : Int), .int .i64 sx, .int .i64 (dm : Int), .int .i64 (dr : Int), .int .i64 dx, .int .i64 (k : Int)] 69))
 have VK := hk.rw _ (nAt_mem (show k < t.d.r.length by have := hk.rl; omega))
 have K1 := hide (show Dk (t.rg 7 (nAt t.d.r k)).d from hk.rgk 7 _ VK.1 VK.2)
 have V6 := hk.rw _ (nAt_mem (show 6 < t.d.r.length by have := hk.rl; omega))
 have SR := hide (fun v (p : Pz v g B gr rc y t st t.d.m) => p.setR 7 (nAt t.d.r k) (by omega))
 have AR := hide (fun v (p : Pz v g B gr rc y t st t.d.m) => p.atR k k8)
 have GB := hide (fun v (p : Pz v g B gr rc y (t.rg 7 (nAt t.d.r k)) st t.d.m) => goOn_any g B gr rc 6 y (t.rg 7 (nAt t.d.r k)).d v p.pg (by rw [(uh K1).rl]; omega) (by rw [rg6]; exact V6.1) (by rw [rg6]; exact V6.2))
 rw [rg6] at GB
 have GO := hide (show ∀ v v', Pz v g B gr rc y (t.rg 7 (nAt t.d.r k)) st t.d.m → Pg v' g B gr rc y ((t.rg 7 (nAt t.d.r k)).d.reg 6 ((nAt t.d.r 6 + 2) % 65536)) → Pz v' g B gr rc y ((t.rg 7 (nAt t.d.r k)).rg 6 ((nAt t.d.r 6 + 2) % 65536)) st t.d.m from fun v v' p q => p.ofPg q)
 have AD := hide (fun v => adPlace_any (nAt t.d.r 6) v)
 have K3 := hide (show Dk ((t.rg 7 (nAt t.d.r k)).rg 6 ((nAt t.d.r 6 + 2) % 65536)).d from (uh K1).regS _ _)
 have SH := ad_sh (nAt t.d.r 6) V6.1
 have RC := hide (fun v (p : Pz v g B gr rc y ((t.rg 7 (nAt t.d.r k)).rg 6 ((nAt t.d.r 6 + 2) % 65536)) st t.d.m) => reachZ p hk.ml (uh K3) (-1) (nAt t.d.r 6) SH)
 have PL := hide (fun v (hb : ((t.rg 7 (nAt t.d.r k)).rg 6 ((nAt t.d.r 6 + 2) % 65536)).d.ldB (-1) (nAt t.d.r 6) = true) (p : Pz v g B gr rc y ((t.rg 7 (nAt t.d.r k)).rg 6 ((nAt t.d.r 6 + 2) % 65536)) st t.d.m) => (p.place hb SH).1)
 unfold CbIs
 rw [show (t.back1 k).d.has (nAt t.d.r 6) = ((t.rg 7 (nAt t.d.r k)).rg 6 ((nAt t.d.r 6 + 2) % 65536)).d.ldB (-1) (nAt t.d.r 6) from rfl]
 rw [show t.back k = ((t.rg 7 (nAt t.d.r k)).rg 6 ((nAt t.d.r 6 + 2) % 65536)).rg k (((t.rg 7 (nAt t.d.r k)).rg 6 ((nAt t.d.r 6 + 2) % 65536)).d.ldV (-1) (nAt t.d.r 6)) from rfl]
 have S3 := hide (fun v (u : Int) (p : Pz v g B gr rc y ((t.rg 7 (nAt t.d.r k)).rg 6 ((nAt t.d.r 6 + 2) % 65536)) st t.d.m) => p.setR k u k8)
 generalize ((t.rg 7 (nAt t.d.r k)).rg 6 ((nAt t.d.r 6 + 2) % 65536)).d.ldB (-1) (nAt t.d.r 6) = lb at RC PL ⊢
 generalize ((t.rg 7 (nAt t.d.r k)).rg 6 ((nAt t.d.r 6 + 2) % 65536)).d.ldV (-1) (nAt t.d.r 6) = lv at PL ⊢
 generalize (nAt t.d.r 6 + 2) % 65536 = x6 at GB GO RC PL S3 ⊢
 generalize (t.rg 7 (nAt t.d.r k)).rg 6 x6 = u2 at GO RC PL S3 ⊢
 generalize plP g gr (-1) (nAt t.d.r 6) = pp at RC PL
 generalize (t.rg 7 (nAt t.d.r k)).d.reg 6 x6 = dd at GB GO
 generalize nAt t.d.r 6 = v6 at GB AD RC
 generalize t.rg 7 (nAt t.d.r k) = u1 at SR GB GO
 generalize nAt t.d.r k = vk at SR AR
 clear hk VK V6 SH K1 K3
 have kr : (k : Int) < 8 := by omega
 have kn : ¬ (8 : Int) ≤ (k : Int) := by omega
 have H2 := hide ((uh H1).later (below_drew (w := w.alloc (Obj.cells #[.int .i64 (op : Int), .int .i64 (sm : Int), .int .i64 (sr : Int), .int .i64 sx, .int .i64 (dm : Int), .int .i64 (dr : Int), .int .i64 dx, .int .i64 (k : Int)] 69))))
 have F2 := hide ((uh F1).trans (Fm.of (below_drew (w := w.alloc (Obj.cells #[.int .i64 (op : Int), .int .i64 (sm : Int), .int .i64 (sr : Int), .int .i64 sx, .int .i64 (dm : Int), .int .i64 (dr : Int), .int .i64 dx, .int .i64 (k : Int)] 69)))))
 have R2 := hide (row_lat (uh R1) (below_drew (w := w.alloc (Obj.cells #[.int .i64 (op : Int), .int .i64 (sm : Int), .int .i64 (sr : Int), .int .i64 sx, .int .i64 (dm : Int), .int .i64 (dr : Int), .int .i64 dx, .int .i64 (k : Int)] 69))))
 have c1 := (uh H2).cr
 have c2 := insR 7 _ (uh R2) rfl
 have c3 := uh AR _ (uh H2)
 obtain ⟨h3, f3, c4, c5⟩ := uh SR _ (uh H2)
 have H3 := hide h3
 have F3 := hide ((uh F2).trans f3)
 have R3 := hide (f3.row (uh R2) (by have := uh GL; omega) (fun e => by have := uh YL _ e; omega))
 clear h3 f3 h AR SR
 go_enter Tryz.func77, Tryz.ntmps77
 go_wp2_with fail
 refine wp_region_last (fun v => v = (w.alloc (Obj.cells #[.int .i64 (op : Int), .int .i64 (sm : Int), .int .i64 (sr : Int), .int .i64 sx, .int .i64 (dm : Int), .int .i64 (dr : Int), .int .i64 dx, .int .i64 (k : Int)] 69)).drew) 15 (by kernel_rfl) ?_
 generalize (w.alloc (Obj.cells #[.int .i64 (op : Int), .int .i64 (sm : Int), .int .i64 (sr : Int), .int .i64 sx, .int .i64 (dm : Int), .int .i64 (dr : Int), .int .i64 dx, .int .i64 (k : Int)] 69)).drew = wd at H2 F2 R2 H3 F3 R3 c1 c2 c3 c4 c5 ⊢
 refine twB 0 (.pointer (some ⟨g, 0, none⟩)) rfl (.inl rfl) ?_
 go_simp
 refine twB 1 (.pointer (some ⟨g, 0, none⟩)) rfl (.inl rfl) ?_
 go_simp
 refine twB 2 (.pointer (some ⟨g, 256, none⟩)) rfl (.inl rfl) ?_
 go_simp
 refine twB 3 (.pointer (some ⟨g, 257, none⟩)) rfl (.inl rfl) ?_
 go_simp
 refine tsA 4 (.slice (some ⟨gr, 0, none⟩) 8 rc) rfl (.inl ⟨by rfl, fun w hc => ?_⟩) (rfl) ?_
 · rw [hc]; clear hc; go_simp
 go_simp
 refine twB 5 (.pointer (some ⟨g, 0, none⟩)) rfl (.inl rfl) ?_
 go_simp
 refine twB 6 (.pointer (some ⟨g, 0, none⟩)) rfl (.inl rfl) ?_
 go_simp
 refine twB 7 (.pointer (some ⟨g, 256, none⟩)) rfl (.inl rfl) ?_
 go_simp
 refine twB 8 (.pointer (some ⟨g, 257, none⟩)) rfl (.inl rfl) ?_
 go_simp
 refine tsA 9 (.slice (some ⟨gr, 0, none⟩) 8 rc) rfl (.inl ⟨by rfl, fun w hc => ?_⟩) (rfl) ?_
 · rw [hc]; clear hc; go_simp
 go_simp
 refine twB 10 (.pointer (some ⟨w.heap.size, 7, none⟩)) rfl (.inl rfl) ?_
 go_simp
 refine tsA 11 (.int .i64 (k : Int)) rfl (.inl ⟨by rfl, fun w hc => ?_⟩) (rfl) ?_
 · rw [hc]; clear hc; go_simp
 go_simp
 refine twB 12 (.pointer (some ⟨gr, k, none⟩)) rfl (.inl rfl) ?_
 go_simp
 refine tsA 13 (.int .i64 vk) rfl (.inl ⟨by rfl, fun w hc => ?_⟩) (rfl) ?_
 · rw [hc]; clear hc; go_simp
 go_simp
 refine twB 14 (.pointer (some ⟨gr, 7, none⟩)) rfl (.inl rfl) ?_
 go_simp
 refine wpAnyL_one (i := 15) (by kernel_rfl) rfl (fun K2 hK => ?_)
 go_simp
 refine hK.out _ _ (fun h => absurd h (by decide)) ?_
 clear hK K2
 refine wpAnyL_done (by kernel_rfl) ?_ _
 generalize wd.setCell ⟨gr, 7, none⟩ (.int .i64 vk) = w3 at H3 F3 R3 ⊢
 clear H2 F2 R2 H1 F1 R1 c1 c2 c3 c4 c5
 have c1 := (uh H3).cr
 have GBC := hide (uh GB _ (uh H3))
 clear GB
 go_wp2_with fail
 refine (uh GBC).mono ?_
 rintro e w4 ⟨rfl, p4, g4⟩
 have H4 := hide (uh GO _ _ (uh H3) p4)
 have f4 := Fm.grownR (g := g) g4 (uh H3).atr
 have F4 := hide ((uh F3).trans f4)
 have R4 := hide (f4.row (uh R3) (by have := uh GL; omega) (fun e => by have := uh YL _ e; omega))
 clear p4 g4 f4 GBC GO H3 F3 R3 c1
 go_wp2_with fail
 refine (uh AD _).mono ?_
 rintro e w5 ⟨rfl, b5⟩
 have H5 := hide ((uh H4).later b5)
 have F5 := hide ((uh F4).trans (Fm.of b5))
 have R5 := hide (row_lat (uh R4) b5)
 have RCC := hide (uh RC _ (uh H5))
 clear b5 AD RC
 go_wp2_with fail
 refine (uh RCC).mono ?_
 rintro e w6 ⟨rfl, b6⟩
 have H6 := hide ((uh H5).later b6)
 have F6 := hide ((uh F5).trans (Fm.of b6))
 have R6 := hide (row_lat (uh R5) b6)
 clear b6 RCC H4 F4 R4 H5 F5 R5
 cases lb
 ·
  go_wp2
  go_ret
  exact ⟨rfl, ⟨fun h => by simp at h, uh F6⟩⟩
 ·
  have H7 := hide ((uh H6).later (below_drew (w := w6)))
  have F7 := hide ((uh F6).trans (Fm.of (below_drew (w := w6))))
  have R7 := hide (row_lat (uh R6) (below_drew (w := w6)))
  have c1 := (uh H7).cr
  have c2 := insR 7 _ (uh R7) rfl
  have c3 := uh PL _ (by trivial) (uh H7)
  obtain ⟨h8, f8, c4, c5⟩ := uh S3 _ lv (uh H7)
  have H8 := hide h8
  have F8 := hide ((uh F7).trans f8)
  clear h8 f8 S3 PL H6 F6 R6
  go_wp2_with fail
  refine wp_region_last (fun v => v = w6.drew) 11 (by kernel_rfl) ?_
  generalize w6.drew = we at H7 F7 R7 H8 F8 c1 c2 c3 c4 c5 ⊢
  refine twB 0 (.pointer (some ⟨g, 0, none⟩)) rfl (.inl rfl) ?_
  go_simp
  refine twB 1 (.pointer (some ⟨g, 0, none⟩)) rfl (.inl rfl) ?_
  go_simp
  refine twB 2 (.pointer (some ⟨g, 256, none⟩)) rfl (.inl rfl) ?_
  go_simp
  refine twB 3 (.pointer (some ⟨g, 257, none⟩)) rfl (.inl rfl) ?_
  go_simp
  refine tsA 4 (.slice (some ⟨gr, 0, none⟩) 8 rc) rfl (.inl ⟨by rfl, fun w hc => ?_⟩) (rfl) ?_
  · rw [hc]; clear hc; go_simp
  go_simp
  refine twB 5 (.pointer (some ⟨w.heap.size, 7, none⟩)) rfl (.inl rfl) ?_
  go_simp
  refine tsA 6 (.int .i64 (k : Int)) rfl (.inl ⟨by rfl, fun w hc => ?_⟩) (rfl) ?_
  · rw [hc]; clear hc; go_simp
  go_simp
  refine twB 7 (.pointer (some pp)) rfl (.inl rfl) ?_
  go_simp
  refine twB 8 (.pointer (some pp)) rfl (.inl rfl) ?_
  go_simp
  refine tsA 9 (.int .i64 lv) rfl (.inl ⟨by rfl, fun w hc => ?_⟩) (rfl) ?_
  · rw [hc]; clear hc; go_simp
  go_simp
  refine twB 10 (.pointer (some ⟨gr, k, none⟩)) rfl (.inl rfl) ?_
  go_simp
  refine wpAnyL_one (i := 11) (by kernel_rfl) rfl (fun K2 hK => ?_)
  go_simp
  refine hK.out _ _ (fun h => absurd h (by decide)) ?_
  clear hK K2
  refine wpAnyL_done (by kernel_rfl) ?_ _
  generalize we.setCell ⟨gr, k, none⟩ (.int .i64 lv) = w8 at H8 F8 ⊢
  go_wp2
  go_ret
  exact ⟨rfl, ⟨fun _ => uh H8, uh F8⟩⟩
def EmIs (B g : Nat) (y : Mv) (t t2 : Ms) (st n : Int) (ok : Bool) (w : World) : Prop :=
 Calls Tryz.prog 96 #[.pointer (some ⟨g, 0, none⟩), .int .i64 n] w fun e w' => e = .returned (.bool ok) ∧ ∃ y', (ok = true → Sm w' B g y' t2 st) ∧ Fm w w' g y y'
theorem emt_x (B g : Nat) (y : Mv) (t t2 : Ms) (st n : Int) (w : World) (h : Sm w B g y t st) (n1 : n ≠ 1) (n2 : n ≠ 2) : EmIs B g y t t2 st n false w := by
 have F0 := hide (Fm.of (g := g) (y := y) (Below.refl w.heap.size w))
 unfold EmIs
 clear h
 go_enter Tryz.func96, Tryz.ntmps96
 go_wp2
 go_ret
 exact ⟨rfl, y, fun h => Bool.noConfusion h, uh F0⟩
theorem emt_f (B g : Nat) (y : Mv) (t t2 : Ms) (st : Int) (w : World) (h : Sm w B g y t st) (hk : Dk t.d) (hl : 50 ≤ t.d.o.length) : EmIs B g y t t2 st 1 false w := by
 have F0 := hide (Fm.of (g := g) (y := y) (Below.refl w.heap.size w))
 have co := row_o h.row
 have hn : (50 : Int) ≤ y.o.n := by have := h.own.o.len; omega
 have hn2 : ¬ (y.o.n : Int) < 50 := by omega
 unfold EmIs
 generalize y.o.n = on at co hn hn2
 clear h hk
 go_enter Tryz.func96, Tryz.ntmps96
 go_wp2
 go_ret
 first | exact ⟨rfl, y, fun h => Bool.noConfusion h, uh F0⟩ | exact ⟨rfl, y, uh F0⟩
theorem emt_2e (B g : Nat) (y : Mv) (t : Ms) (st : Int) (w : World) (h : Sm w B g y t st) (hk : Dk t.d) (hl : t.d.i = []) : EmIs B g y t ((t.rg 0 65535).cs true) st 2 true w := by
 have ci := row_i h.row
 have hn : y.i.n = 0 := by have := h.own.i.len; rw [hl] at this; simp at this; omega
 rw [hn] at ci
 obtain ⟨gr, rc, er⟩ := h.regs hk.rl
 have c1 := h.rcell er
 have SC := hide (h.setR er 0 65535 (by have := hk.rl; omega))
 have c2 := (uh SC).2.2.1
 have c3 := (uh SC).2.2.2
 have H1 := hide (uh SC).1
 have F1 := hide (uh SC).2.1
 have c5 := row_c (uh H1).row
 have f5 := row_fz (uh H1).row 5
 obtain ⟨h4, f4⟩ := (uh H1).setC true
 have H4 := hide h4
 have F4 := hide ((uh F1).trans f4)
 unfold EmIs
 clear h hk hl hn er SC h4 f4 H1 F1
 go_enter Tryz.func96, Tryz.ntmps96
 go_wp2
 go_ret
 exact ⟨rfl, _, fun _ => uh H4, uh F4⟩
theorem OwnM.putO {w w' : World} {B : Nat} {x : Mv} {d : Md} {ns : List Int} (h : OwnM w B x d) (o' : Sl) (hg : w.grownBy w' x.o.v.ownBlock) (ho : OwnN w' B o'.v ns) (hb : ∀ b, o'.v.ownBlock = some b → x.o.v.ownBlock = some b ∨ w.heap.size ≤ b) : OwnM w' B { x with o := o' } ⟨d.m, d.r, d.i, ns⟩ :=
 { m := h.m.keep fun q hv hq => hg.block q hq (fun e => h.mo q hv e.symm)
   r := h.r.keep fun q hv hq => hg.block q hq (fun e => h.ro q hv e.symm)
   i := h.i.keep fun q hv hq => hg.block q hq (fun e => h.io q hv e.symm)
   o := ho
   mr := h.mr
   mi := h.mi
   ri := h.ri
   mo := fun b hm k => (hb b k).elim (fun e => h.mo b hm e) (fun l => by have := (h.m.lt hm).2; omega)
   ro := fun b hm k => (hb b k).elim (fun e => h.ro b hm e) (fun l => by have := (h.r.lt hm).2; omega)
   io := fun b hm k => (hb b k).elim (fun e => h.io b hm e) (fun l => by have := (h.i.lt hm).2; omega) }
def Ms.out (t : Ms) (ns : List Int) : Ms := { t with d := ⟨t.d.m, t.d.r, t.d.i, ns⟩ }
theorem Sm.mid {w w1 : World} {B g : Nat} {y : Mv} {t : Ms} {st : Int} (h : Sm w B g y t st) (hg : w.grownBy w1 y.o.v.ownBlock) : w1.heap[g]? = some (.cells y.cs 26 (0, 0)) :=
 (hg.block g (row_lt h.row) (fun e => h.ne g (.inr (.inr (.inr e.symm))) rfl)).trans h.row
theorem Sm.putO {w w1 : World} {B g : Nat} {y : Mv} {t : Ms} {st : Int} {ns : List Int} (h : Sm w B g y t st) (o' : Sl) (hg : w.grownBy w1 y.o.v.ownBlock) (ho : OwnN w1 B o'.v ns) (hb : ∀ b, o'.v.ownBlock = some b → y.o.v.ownBlock = some b ∨ w.heap.size ≤ b) :
  Sm (w1.setCell ⟨g, 7, none⟩ o'.v) B g { y with o := o' } (t.out ns) st ∧ Fm w (w1.setCell ⟨g, 7, none⟩ o'.v) g y { y with o := o' } := by
 have hat : ∀ b, Mv.at { y with o := o' } b → y.at b ∨ w.heap.size ≤ b := fun b k => by
  rcases k with k | k | k | k
  · exact .inl (.inl k)
  · exact .inl (.inr (.inl k))
  · exact .inl (.inr (.inr (.inl k)))
  · exact (hb b k).elim (fun e => .inl (.inr (.inr (.inr e)))) .inr
 have hne : ∀ b, Mv.at { y with o := o' } b → b ≠ g := fun b k e => (hat b k).elim (fun a => h.ne b a e) (fun l => by have := row_lt h.row; omega)
 have F1 : Fm w w1 g y { y with o := o' } := ⟨hg.os, hg.tape, hg.output, hg.size, fun k hk _ hy => hg.block k hk (fun e => hy (.inr (.inr (.inr e.symm)))), hat⟩
 refine ⟨⟨row_put (h.mid hg) 7 o'.v { y with o := o' } rfl, (h.own.putO o' hg ho hb).keepH fun b k _ => Below.heap_setCell w1 ⟨g, 7, none⟩ o'.v b (hne b k), h.fl, h.lo, hne⟩, F1.trans (Fm.grown (grownBy_set (b := g) (o := 7) o'.v) (.inl rfl) (fun k hk => hk))⟩
theorem rdN_one {w : World} {g : Nat} {x : Int} {τ : TypeId} (h : w.heap[g]? = some (.cells #[.int .i64 x] τ (0, 0))) : RdN w (some ⟨g, 0, none⟩) [x] :=
 .inr ⟨g, 0, rfl, row_lt h, fun j hj => by
  have : j = 0 := by simpa using hj
  subst this
  exact (cell_of_row w g 0 _ τ _ h).trans rfl⟩
theorem emt_1 (B g : Nat) (y : Mv) (t : Ms) (st : Int) (w : World) (h : Sm w B g y t st) (hk : Dk t.d) (hl : t.d.o.length < 50) : EmIs B g y t (t.out (t.d.o ++ [nAt t.d.r 0])) st 1 true w := by
 have GL := hide (show g < w.heap.size from row_lt h.row)
 obtain ⟨gr, rc, er⟩ := h.regs hk.rl
 have ER := hide er
 have co := row_o h.row
 have HD := hide (h.later (below_drew (w := w)))
 have C0 := hide (show w.drew.cell? ⟨g, 1, none⟩ = some (.slice (some ⟨gr, 0, none⟩) 8 rc) ∧ w.drew.cell? ⟨gr, 0, none⟩ = some (.int .i64 (nAt t.d.r 0)) from ⟨(uh HD).rcell er, ((uh HD).setR er 0 0 (by have := hk.rl; omega)).2.2.1⟩)
 have CO := hide (row_o (uh HD).row)
 have F0 := hide (Fm.of (g := g) (y := y) (below_drew (w := w)))
 have hl2 := h.own.o.len
 have hn : (y.o.n : Int) < 50 := by omega
 have HL := hide hl
 have T8 := hide hk.rl
 unfold EmIs
 obtain ⟨r0, hr0⟩ : ∃ q, nAt t.d.r 0 = q := ⟨_, rfl⟩
 have ER0 := hide hr0
 rw [hr0] at C0 ⊢
 clear hr0
 have AO := hide (fun v (hv : Sm v B g y t st) => hv.own.o)
 obtain ⟨oa, hoa⟩ : ∃ q, y.o.a = q := ⟨_, rfl⟩
 obtain ⟨on, hon⟩ : ∃ q, y.o.n = q := ⟨_, rfl⟩
 obtain ⟨oc, hoc⟩ : ∃ q, y.o.c = q := ⟨_, rfl⟩
 have HO := hide (show y.o.v = .slice oa on oc by unfold Sl.v; rw [hoa, hon, hoc])
 rw [hoa, hon, hoc] at co CO
 rw [hon] at hn
 have hn0 : (0 : Int) ≤ (on : Int) := by omega
 clear hoa hon hoc h hk er hl hl2
 go_enter Tryz.func96, Tryz.ntmps96
 go_wp2_with fail
 refine wp_region_held_drew (S := fun v => v.cell? ⟨g, 1, none⟩ = some (.slice (some ⟨gr, 0, none⟩) 8 rc) ∧ v.cell? ⟨gr, 0, none⟩ = some (.int .i64 r0)) (by kernel_rfl) (uh C0) (fun hS => ?_)
 have HS := hide hS
 clear hS
 generalize w.drew = wd at HD C0 CO F0 HS ⊢
 refine tkB 0 (.pointer (some ⟨g, 0, none⟩)) rfl (uh HS) ?_
 go_simp
 refine tkB 1 (.pointer (some ⟨g, 0, none⟩)) rfl (uh HS) ?_
 go_simp
 refine tkB 2 (.pointer (some ⟨g, 0, none⟩)) rfl (uh HS) ?_
 go_simp
 refine tkB 3 (.pointer (some ⟨g, 7, none⟩)) rfl (uh HS) ?_
 go_simp
 refine tkB 5 (.pointer (some ⟨g, 0, none⟩)) rfl (uh HS) ?_
 go_simp
 refine tkB 6 (.pointer (some ⟨g, 0, none⟩)) rfl (uh HS) ?_
 go_simp
 refine tkB 7 (.pointer (some ⟨g, 1, none⟩)) rfl (uh HS) ?_
 go_simp
 refine tkA 8 (.slice (some ⟨gr, 0, none⟩) 8 rc) rfl (.inl ⟨by rfl, fun w hc => ?_⟩) (uh HS) ?_
 · obtain ⟨h1, h2⟩ := hc; go_simp
 go_simp
 refine tkB 9 (.pointer (some ⟨gr, 0, none⟩)) rfl (uh HS) ?_
 go_simp
 refine tkA 10 (.int .i64 r0) rfl (.inl ⟨by rfl, fun w hc => ?_⟩) (uh HS) ?_
 · obtain ⟨h1, h2⟩ := hc; go_simp
 go_simp
 refine wpAnyH_ready (rs := [4, 11]) (by kernel_rfl) (by simp) ?_
 refine AllReadyH.cons rfl (fun K2 hK => ?_) (AllReadyH.cons rfl (fun K2 hK => ?_) (AllReadyH.nil))
 ·
  skip
  have c2 := uh CO
  go_simp
  clear c2
  refine hK.out _ _ (uh C0) (fun hS => ?_)
  clear HS
  have HS := hide hS
  clear hS hK K2
  refine wpAnyH_ready (rs := [11]) (by kernel_rfl) (by simp) ?_
  refine AllReadyH.cons rfl (fun K2 hK => ?_) (AllReadyH.nil)
  go_simp
  have HA := hide ((uh HD).later (below_new wd (Obj.cells #[.int .i64 r0] 3)))
  have FA := hide ((uh F0).trans (Fm.of (below_new wd (Obj.cells #[.int .i64 r0] 3))))
  have C1 := hide (show (wd.alloc (Obj.cells #[.int .i64 r0] 3)).cell? ⟨g, 1, none⟩ = some (.slice (some ⟨gr, 0, none⟩) 8 rc) ∧ (wd.alloc (Obj.cells #[.int .i64 r0] 3)).cell? ⟨gr, 0, none⟩ = some (.int .i64 r0) from ⟨(uh HA).rcell (uh ER), ((below_new wd (Obj.cells #[.int .i64 r0] 3)).cell (p := ⟨gr, 0, none⟩) ((uh HD).own.lo (at_r (uh ER))).2).trans (uh C0).2⟩)
  have CA := hide (show (wd.alloc (Obj.cells #[.int .i64 r0] 3)).cell? ⟨g, 7, none⟩ = some (.slice oa on oc) from ((below_new wd (Obj.cells #[.int .i64 r0] 3)).cell (p := ⟨g, 7, none⟩) (row_lt (uh HD).row)).trans (uh CO))
  have RA := hide (heap_alloc_last wd (Obj.cells #[.int .i64 r0] 3))
  refine hK.out _ _ (uh C1) (fun hS => ?_)
  clear HS
  have HS := hide hS
  clear hS hK K2
  refine wpAnyH_ready (rs := [12]) (by kernel_rfl) (by simp) ?_
  refine AllReadyH.cons rfl (fun K2 hK => ?_) (AllReadyH.nil)
  rw [if_pos (by rfl)]
  refine wp_app _ _ rfl B (.slice oa on oc) t.d.o rfl (by rw [← uh HO]; exact uh AO _ (uh HA)) ⟨some ⟨wd.heap.size, 0, none⟩, 1, 1⟩ [r0] rfl (rdN_one (uh RA)) rfl (fun e => by cases e) (by have := uh HL; simp; omega) (by have := (uh HA).lo; have := row_lt (uh HA).row; omega) (fun v' w2 o2 g2 b2 => ?_)
  have G2 := hide (show (wd.alloc (Obj.cells #[.int .i64 r0] 3)).grownBy w2 y.o.v.ownBlock by rw [uh HO]; exact g2)
  have RK := hide (show OwnN w2 B (.slice (some ⟨gr, 0, none⟩) 8 rc) t.d.r by
   have k := (uh HA).own.r.keep fun q hv hq => (uh G2).block q hq (fun e => (uh HA).own.ro q hv e.symm)
   rw [uh ER] at k
   exact k)
  have C2 := hide (show w2.cell? ⟨g, 1, none⟩ = some (.slice (some ⟨gr, 0, none⟩) 8 rc) ∧ w2.cell? ⟨gr, 0, none⟩ = some (.int .i64 r0) from ⟨by rw [row_r ((uh HA).mid (uh G2)), uh ER], by rw [((uh RK).cellAt 0 (by have := uh T8; omega)).1, uh ER0]⟩)
  have C3 := hide (And.intro (row_o ((uh HA).mid (uh G2))) (row_fz ((uh HA).mid (uh G2)) 7))
  rcases o2.form with ⟨_, e0⟩ | ⟨gb, cap, rfl, _⟩
  · exact absurd e0 (by simp)
  have PO := hide ((uh HA).putO ⟨some ⟨gb, 0, none⟩, (t.d.o ++ [r0]).length, cap⟩ (uh G2) o2 (fun b hb => b2.elim (fun k => .inl (by rw [uh HO, ← k]; exact hb)) (fun k => .inr (by have k2 := hb.symm.trans k; cases k2; exact Nat.le_refl _))))
  have H9 := hide (uh PO).1
  have F9 := hide ((uh FA).trans (uh PO).2)
  have C9 := hide (show (w2.setCell ⟨g, 7, none⟩ (.slice (some ⟨gb, 0, none⟩) (t.d.o ++ [r0]).length cap)).cell? ⟨g, 1, none⟩ = some (.slice (some ⟨gr, 0, none⟩) 8 rc) ∧ (w2.setCell ⟨g, 7, none⟩ (.slice (some ⟨gb, 0, none⟩) (t.d.o ++ [r0]).length cap)).cell? ⟨gr, 0, none⟩ = some (.int .i64 r0) from
   ⟨(uh H9).rcell (uh ER), (((uh H9).setR (uh ER) 0 0 (by show 0 < t.d.r.length; have := uh T8; omega)).2.2.1).trans (congrArg (fun q : Int => some (Value.int .i64 q)) (uh ER0))⟩)
  generalize hN : (t.d.o ++ [r0]).length = oN at C9 H9 F9 ⊢
  clear o2 g2 b2 PO G2 RK RA CA C1 HA FA hN
  refine hK.out _ _ (uh C2) (fun hS => ?_)
  clear HS
  have HS := hide hS
  clear hS hK K2
  refine tkB 13 (.pointer (some ⟨g, 0, none⟩)) rfl (uh HS) ?_
  go_simp
  refine tkB 14 (.pointer (some ⟨g, 7, none⟩)) rfl (uh HS) ?_
  go_simp
  refine wpAnyH_ready (rs := [15]) (by kernel_rfl) (by simp) ?_
  refine AllReadyH.cons rfl (fun K2 hK => ?_) (AllReadyH.nil)
  obtain ⟨c2, c3⟩ := uh C3
  go_simp
  clear c2 c3
  refine hK.out _ _ (uh C9) (fun hS => ?_)
  clear HS
  have HS := hide hS
  clear hS hK K2
  refine wpAnyH_done (by kernel_rfl) ?_ _
  clear HS
  go_wp2_with fail
  go_ret
  exact ⟨rfl, _, fun _ => uh H9, uh F9⟩
 ·
  skip
  go_simp
  have HA := hide ((uh HD).later (below_new wd (Obj.cells #[.int .i64 r0] 3)))
  have FA := hide ((uh F0).trans (Fm.of (below_new wd (Obj.cells #[.int .i64 r0] 3))))
  have C1 := hide (show (wd.alloc (Obj.cells #[.int .i64 r0] 3)).cell? ⟨g, 1, none⟩ = some (.slice (some ⟨gr, 0, none⟩) 8 rc) ∧ (wd.alloc (Obj.cells #[.int .i64 r0] 3)).cell? ⟨gr, 0, none⟩ = some (.int .i64 r0) from ⟨(uh HA).rcell (uh ER), ((below_new wd (Obj.cells #[.int .i64 r0] 3)).cell (p := ⟨gr, 0, none⟩) ((uh HD).own.lo (at_r (uh ER))).2).trans (uh C0).2⟩)
  have CA := hide (show (wd.alloc (Obj.cells #[.int .i64 r0] 3)).cell? ⟨g, 7, none⟩ = some (.slice oa on oc) from ((below_new wd (Obj.cells #[.int .i64 r0] 3)).cell (p := ⟨g, 7, none⟩) (row_lt (uh HD).row)).trans (uh CO))
  have RA := hide (heap_alloc_last wd (Obj.cells #[.int .i64 r0] 3))
  refine hK.out _ _ (uh C1) (fun hS => ?_)
  clear HS
  have HS := hide hS
  clear hS hK K2
  refine wpAnyH_ready (rs := [4]) (by kernel_rfl) (by simp) ?_
  refine AllReadyH.cons rfl (fun K2 hK => ?_) (AllReadyH.nil)
  have c2 := uh CA
  go_simp
  clear c2
  refine hK.out _ _ (uh C1) (fun hS => ?_)
  clear HS
  have HS := hide hS
  clear hS hK K2
  refine wpAnyH_ready (rs := [12]) (by kernel_rfl) (by simp) ?_
  refine AllReadyH.cons rfl (fun K2 hK => ?_) (AllReadyH.nil)
  rw [if_pos (by rfl)]
  refine wp_app _ _ rfl B (.slice oa on oc) t.d.o rfl (by rw [← uh HO]; exact uh AO _ (uh HA)) ⟨some ⟨wd.heap.size, 0, none⟩, 1, 1⟩ [r0] rfl (rdN_one (uh RA)) rfl (fun e => by cases e) (by have := uh HL; simp; omega) (by have := (uh HA).lo; have := row_lt (uh HA).row; omega) (fun v' w2 o2 g2 b2 => ?_)
  have G2 := hide (show (wd.alloc (Obj.cells #[.int .i64 r0] 3)).grownBy w2 y.o.v.ownBlock by rw [uh HO]; exact g2)
  have RK := hide (show OwnN w2 B (.slice (some ⟨gr, 0, none⟩) 8 rc) t.d.r by
   have k := (uh HA).own.r.keep fun q hv hq => (uh G2).block q hq (fun e => (uh HA).own.ro q hv e.symm)
   rw [uh ER] at k
   exact k)
  have C2 := hide (show w2.cell? ⟨g, 1, none⟩ = some (.slice (some ⟨gr, 0, none⟩) 8 rc) ∧ w2.cell? ⟨gr, 0, none⟩ = some (.int .i64 r0) from ⟨by rw [row_r ((uh HA).mid (uh G2)), uh ER], by rw [((uh RK).cellAt 0 (by have := uh T8; omega)).1, uh ER0]⟩)
  have C3 := hide (And.intro (row_o ((uh HA).mid (uh G2))) (row_fz ((uh HA).mid (uh G2)) 7))
  rcases o2.form with ⟨_, e0⟩ | ⟨gb, cap, rfl, _⟩
  · exact absurd e0 (by simp)
  have PO := hide ((uh HA).putO ⟨some ⟨gb, 0, none⟩, (t.d.o ++ [r0]).length, cap⟩ (uh G2) o2 (fun b hb => b2.elim (fun k => .inl (by rw [uh HO, ← k]; exact hb)) (fun k => .inr (by have k2 := hb.symm.trans k; cases k2; exact Nat.le_refl _))))
  have H9 := hide (uh PO).1
  have F9 := hide ((uh FA).trans (uh PO).2)
  have C9 := hide (show (w2.setCell ⟨g, 7, none⟩ (.slice (some ⟨gb, 0, none⟩) (t.d.o ++ [r0]).length cap)).cell? ⟨g, 1, none⟩ = some (.slice (some ⟨gr, 0, none⟩) 8 rc) ∧ (w2.setCell ⟨g, 7, none⟩ (.slice (some ⟨gb, 0, none⟩) (t.d.o ++ [r0]).length cap)).cell? ⟨gr, 0, none⟩ = some (.int .i64 r0) from
   ⟨(uh H9).rcell (uh ER), (((uh H9).setR (uh ER) 0 0 (by show 0 < t.d.r.length; have := uh T8; omega)).2.2.1).trans (congrArg (fun q : Int => some (Value.int .i64 q)) (uh ER0))⟩)
  generalize hN : (t.d.o ++ [r0]).length = oN at C9 H9 F9 ⊢
  clear o2 g2 b2 PO G2 RK RA CA C1 HA FA hN
  refine hK.out _ _ (uh C2) (fun hS => ?_)
  clear HS
  have HS := hide hS
  clear hS hK K2
  refine tkB 13 (.pointer (some ⟨g, 0, none⟩)) rfl (uh HS) ?_
  go_simp
  refine tkB 14 (.pointer (some ⟨g, 7, none⟩)) rfl (uh HS) ?_
  go_simp
  refine wpAnyH_ready (rs := [15]) (by kernel_rfl) (by simp) ?_
  refine AllReadyH.cons rfl (fun K2 hK => ?_) (AllReadyH.nil)
  obtain ⟨c2, c3⟩ := uh C3
  go_simp
  clear c2 c3
  refine hK.out _ _ (uh C9) (fun hS => ?_)
  clear HS
  have HS := hide hS
  clear hS hK K2
  refine wpAnyH_done (by kernel_rfl) ?_ _
  clear HS
  go_wp2_with fail
  go_ret
  exact ⟨rfl, _, fun _ => uh H9, uh F9⟩
theorem own_formL {w : World} {B : Nat} {s : Sl} {ns : List Int} (h : OwnN w B s.v ns) (h0 : 0 < ns.length) : ∃ g c, s = ⟨some ⟨g, 0, none⟩, ns.length, c⟩ ∧ ns.length ≤ c := by
 obtain ⟨sa, sn, sc⟩ := s
 rcases h.form with ⟨_, e⟩ | ⟨g, c, e, _, _, hc, _⟩
 · rw [e] at h0; simp at h0
 ·
  unfold Sl.v at e
  simp at e
  obtain ⟨rfl, rfl, rfl⟩ := e
  exact ⟨g, sc, rfl, hc⟩
theorem rdN_tl {w : World} {b : Nat} {x : Int} {xs : List Int} (h : RdN w (some ⟨b, 0, none⟩) (x :: xs)) : RdN w (some ⟨b, 1, none⟩) xs := by
 rcases h with h | ⟨b', off, ha, hlt, hc⟩
 · cases h
 ·
  cases ha
  exact .inr ⟨b, 1, rfl, hlt, fun i hi => by
   have k := hc (i + 1) (by simp; omega)
   rw [show 0 + (i + 1) = 1 + i by omega] at k
   exact k⟩
theorem OwnM.putI {w w' : World} {B : Nat} {x : Mv} {d : Md} {ns : List Int} (h : OwnM w B x d) (i' : Sl) (hg : Below w.heap.size w w') (ho : OwnN w' B i'.v ns) (hb : ∀ b, i'.v.ownBlock = some b → w.heap.size ≤ b) : OwnM w' B { x with i := i' } ⟨d.m, d.r, ns, d.o⟩ :=
 { m := h.m.later hg
   r := h.r.later hg
   i := ho
   o := h.o.later hg
   mr := h.mr
   mo := h.mo
   ro := h.ro
   mi := fun b hm k => by have := (h.m.lt hm).2; have := hb b k; omega
   ri := fun b hm k => by have := (h.r.lt hm).2; have := hb b k; omega
   io := fun b k hm => by have := (h.o.lt hm).2; have := hb b k; omega }
def Ms.inp (t : Ms) (ns : List Int) : Ms := { t with d := ⟨t.d.m, t.d.r, ns, t.d.o⟩ }
theorem Sm.putI {w w1 : World} {B g : Nat} {y : Mv} {t : Ms} {st : Int} {ns : List Int} (h : Sm w B g y t st) (i' : Sl) (hg : Below w.heap.size w w1) (ho : OwnN w1 B i'.v ns) (hb : ∀ b, i'.v.ownBlock = some b → w.heap.size ≤ b) :
  Sm (w1.setCell ⟨g, 6, none⟩ i'.v) B g { y with i := i' } (t.inp ns) st ∧ Fm w (w1.setCell ⟨g, 6, none⟩ i'.v) g y { y with i := i' } := by
 have hat : ∀ b, Mv.at { y with i := i' } b → y.at b ∨ w.heap.size ≤ b := fun b k => by
  rcases k with k | k | k | k
  · exact .inl (.inl k)
  · exact .inl (.inr (.inl k))
  · exact .inr (hb b k)
  · exact .inl (.inr (.inr (.inr k)))
 have hne : ∀ b, Mv.at { y with i := i' } b → b ≠ g := fun b k e => (hat b k).elim (fun a => h.ne b a e) (fun l => by have := row_lt h.row; omega)
 have F1 : Fm w w1 g y { y with i := i' } := ⟨hg.os, hg.tape, hg.output, hg.size, fun k hk _ hy => hg.block k hk, hat⟩
 refine ⟨⟨row_put (row_lat h.row hg) 6 i'.v { y with i := i' } rfl, (h.own.putI i' hg ho hb).keepH fun b k _ => Below.heap_setCell w1 ⟨g, 6, none⟩ i'.v b (hne b k), h.fl, h.lo, hne⟩, F1.trans (Fm.grown (grownBy_set (b := g) (o := 6) i'.v) (.inl rfl) (fun k hk => hk))⟩
theorem emt_2 (B g : Nat) (y : Mv) (t : Ms) (st x : Int) (xs : List Int) (w : World) (h : Sm w B g y t st) (hk : Dk t.d) (hi : t.d.i = x :: xs) : EmIs B g y t (((t.rg 0 x).inp xs).cs false) st 2 true w := by
 obtain ⟨gr, rc, er⟩ := h.regs hk.rl
 have ER := hide er
 obtain ⟨gi, ic, ei, hic⟩ : ∃ g c, y.i = ⟨some ⟨g, 0, none⟩, xs.length + 1, c⟩ ∧ xs.length + 1 ≤ c := by
  obtain ⟨a, b, q1, q2⟩ := own_formL h.own.i (by rw [hi]; simp)
  rw [hi] at q1 q2
  exact ⟨a, b, q1, q2⟩
 have EI := hide ei
 have HD := hide (h.later (below_drew (w := w)))
 have HSI := hide (fun (v : World) (t' : Ms) (hv : Sm v B g y t' st) (hx : t'.d.i = x :: xs) => (show v.cell? ⟨g, 6, none⟩ = some (.slice (some ⟨gi, 0, none⟩) (xs.length + 1) ic) ∧ v.cell? ⟨gi, 0, none⟩ = some (.int .i64 x) from ⟨by rw [row_i hv.row, ei], by
  have k := hv.own.i
  rw [ei, hx] at k
  exact (k.cellAt 0 (by simp)).1⟩))
 have SC := hide ((uh HD).setR er 0 x (by have := hk.rl; omega))
 have C0 := hide (show w.drew.cell? ⟨g, 1, none⟩ = some (.slice (some ⟨gr, 0, none⟩) 8 rc) ∧ w.drew.cell? ⟨g, 6, none⟩ = some (.slice (some ⟨gi, 0, none⟩) (xs.length + 1) ic) ∧ w.drew.cell? ⟨gi, 0, none⟩ = some (.int .i64 x) from ⟨(uh HD).rcell er, uh HSI _ t (uh HD) hi⟩)
 have CK := hide (uh SC).2.2
 have H1 := hide (uh SC).1
 have F1 := hide ((Fm.of (g := g) (y := y) (below_drew (w := w))).trans (uh SC).2.1)
 have C4 := hide (show (w.drew.setCell ⟨gr, 0, none⟩ (.int .i64 x)).cell? ⟨g, 1, none⟩ = some (.slice (some ⟨gr, 0, none⟩) 8 rc) ∧ (w.drew.setCell ⟨gr, 0, none⟩ (.int .i64 x)).cell? ⟨g, 6, none⟩ = some (.slice (some ⟨gi, 0, none⟩) (xs.length + 1) ic) ∧ (w.drew.setCell ⟨gr, 0, none⟩ (.int .i64 x)).cell? ⟨gi, 0, none⟩ = some (.int .i64 x) from ⟨(uh H1).rcell er, uh HSI _ (t.rg 0 x) (uh H1) hi⟩)
 have ci := (uh HSI w t h hi).1
 have HI := hide (show (t.rg 0 x).d.i = x :: xs from hi)
 have hlt : xs.length + 1 ≤ 50 := by
  have := hk.il
  rw [hi] at this
  simpa using this
 have il0 : ¬ ((xs.length + 1 : Nat) : Int) ≤ 0 := by omega
 have il1 : (0 : Int) < ((xs.length + 1 : Nat) : Int) := by omega
 have HC1 := hide hic
 unfold EmIs
 clear h hk hi er ei SC HD
 generalize t.rg 0 x = t1 at H1 HI ⊢
 go_enter Tryz.func96, Tryz.ntmps96
 go_wp2_with fail
 refine wp_region_held_drew (S := fun v => v.cell? ⟨g, 1, none⟩ = some (.slice (some ⟨gr, 0, none⟩) 8 rc) ∧ v.cell? ⟨g, 6, none⟩ = some (.slice (some ⟨gi, 0, none⟩) (xs.length + 1) ic) ∧ v.cell? ⟨gi, 0, none⟩ = some (.int .i64 x)) (by kernel_rfl) (uh C0) (fun hS => ?_)
 have HS := hide hS
 clear hS
 refine tkB 0 (.pointer (some ⟨g, 0, none⟩)) rfl (uh HS) ?_
 go_simp
 refine tkB 1 (.pointer (some ⟨g, 0, none⟩)) rfl (uh HS) ?_
 go_simp
 refine tkB 2 (.pointer (some ⟨g, 1, none⟩)) rfl (uh HS) ?_
 go_simp
 refine tkA 3 (.slice (some ⟨gr, 0, none⟩) 8 rc) rfl (.inl ⟨by rfl, fun w hc => ?_⟩) (uh HS) ?_
 · obtain ⟨h1, h2, h3⟩ := hc; go_simp
 go_simp
 refine tkB 4 (.pointer (some ⟨g, 0, none⟩)) rfl (uh HS) ?_
 go_simp
 refine tkB 5 (.pointer (some ⟨g, 0, none⟩)) rfl (uh HS) ?_
 go_simp
 refine tkB 6 (.pointer (some ⟨g, 6, none⟩)) rfl (uh HS) ?_
 go_simp
 refine tkA 7 (.slice (some ⟨gi, 0, none⟩) (xs.length + 1) ic) rfl (.inl ⟨by rfl, fun w hc => ?_⟩) (uh HS) ?_
 · obtain ⟨h1, h2, h3⟩ := hc; go_simp
 go_simp
 refine tkB 8 (.pointer (some ⟨gi, 0, none⟩)) rfl (uh HS) ?_
 go_simp
 refine tkA 9 (.int .i64 x) rfl (.inl ⟨by rfl, fun w hc => ?_⟩) (uh HS) ?_
 · obtain ⟨h1, h2, h3⟩ := hc; go_simp
 go_simp
 refine tkB 10 (.pointer (some ⟨gr, 0, none⟩)) rfl (uh HS) ?_
 go_simp
 refine wpAnyH_ready (rs := [11]) (by kernel_rfl) (by simp) ?_
 refine AllReadyH.cons rfl (fun K2 hK => ?_) (AllReadyH.nil)
 obtain ⟨c2, c3⟩ := uh CK
 go_simp
 clear c2 c3
 refine hK.out _ _ (uh C4) (fun hS => ?_)
 clear HS
 have HS := hide hS
 clear hS hK K2
 refine wpAnyH_done (by kernel_rfl) ?_ _
 clear HS
 generalize hwd : w.drew.setCell ⟨gr, 0, none⟩ (.int .i64 x) = w1 at H1 F1 C4
 rw [show (w.setCell ⟨gr, 0, none⟩ (.int .i64 x)).drew = w1 from hwd]
 clear hwd C0 CK ci
 have c6 := ((below_new w1 (Obj.cells #[] 3)).cell (p := ⟨g, 6, none⟩) (row_lt (uh H1).row)).trans (uh C4).2.1
 have OE := hide (show OwnN (w1.alloc (Obj.cells #[] 3)) w1.heap.size (.slice (some ⟨w1.heap.size, 0, none⟩) 0 0) [] from own_made (n := 0) (heap_alloc_last w1 (Obj.cells #[] 3)) (Nat.le_refl _) (by omega))
 have RT := hide (show RdN (w1.alloc (Obj.cells #[] 3)) (some ⟨gi, 0, none⟩) (x :: xs) by
  have k := (uh H1).own.i.rdS
  rw [uh HI, uh EI] at k
  exact k.later (below_new w1 (Obj.cells #[] 3)))
 have HB := hide (show w1.heap.size ≤ (w1.alloc (Obj.cells #[] 3)).heap.size by simp)
 have BG := hide (show B ≤ w1.heap.size from Nat.le_of_lt (Nat.lt_of_le_of_lt (uh H1).lo (row_lt (uh H1).row)))
 by_cases hc1 : ic = 1
 ·
  skip
  obtain rfl : xs = [] := List.eq_nil_of_length_eq_zero (by have := uh HC1; omega)
  subst hc1
  go_wp2_with (at_builtin; refine wpList_app rfl _ _ rfl w1.heap.size (.slice (some ⟨w1.heap.size, 0, none⟩) 0 0) [] rfl (uh OE) ⟨some ⟨gi, 0, none⟩, 0, 0⟩ [] rfl (.inl rfl) rfl (fun e => by cases e) (by first | (simp; omega) | simp) (uh HB) ?_; intro v' w2 ho hg; obtain ⟨a0, n0, c0, rfl⟩ : ∃ a n c, v' = Value.slice a n c := (by obtain ⟨a, c, e, _⟩ := ho.rd; exact ⟨_, _, _, e⟩); have BL := hide ((below_new w1 (Obj.cells #[] 3)).trans (show Below w1.heap.size (w1.alloc (Obj.cells #[] 3)) w2 from ⟨hg.os, hg.tape, hg.output, hg.size, fun k hk => hg.block k (by simp; omega) (fun e => Nat.lt_irrefl w1.heap.size (by cases e; exact hk))⟩)); have PI := hide ((uh H1).putI ⟨a0, n0, c0⟩ (uh BL) (show OwnN w2 B (.slice a0 n0 c0) ([] : List Int) from ho.base (uh BG)) (fun b hb => (ho.lt hb).1)); have ca := row_i (row_lat (uh H1).row (uh BL)); have cb := row_fz (row_lat (uh H1).row (uh BL)) 6; have H5 := hide (uh PI).1; have F5 := hide ((uh F1).trans (uh PI).2); clear PI BL ho hg; have c5 := row_c (uh H5).row; change (w2.setCell ⟨g, 6, none⟩ (Value.slice a0 n0 c0)).cell? ⟨g, 5, none⟩ = some (.bool y.c) at c5; have f5 := row_fz (uh H5).row 5; change (w2.setCell ⟨g, 6, none⟩ (Value.slice a0 n0 c0)).frozen? ⟨g, 5, none⟩ = false at f5; have S6 := hide ((uh H5).setC false); have H6 := hide (uh S6).1; have F6 := hide ((uh F5).trans (uh S6).2); clear S6 H5 F5)
  go_ret
  first | exact ⟨rfl, _, fun _ => uh H6, uh F6⟩ | exact ⟨rfl, _, uh H6, uh F6⟩
 ·
  skip
  have hc2 : 1 < ic := by have := uh HC1; omega
  go_wp2_with (at_builtin; refine wpList_app rfl _ _ rfl w1.heap.size (.slice (some ⟨w1.heap.size, 0, none⟩) 0 0) [] rfl (uh OE) ⟨some ⟨gi, 1, none⟩, xs.length, ic - 1⟩ xs rfl (rdN_tl (uh RT)) rfl (fun e => by cases e) (by first | (simp; omega) | simp) (uh HB) ?_; intro v' w2 ho hg; obtain ⟨a0, n0, c0, rfl⟩ : ∃ a n c, v' = Value.slice a n c := (by obtain ⟨a, c, e, _⟩ := ho.rd; exact ⟨_, _, _, e⟩); have BL := hide ((below_new w1 (Obj.cells #[] 3)).trans (show Below w1.heap.size (w1.alloc (Obj.cells #[] 3)) w2 from ⟨hg.os, hg.tape, hg.output, hg.size, fun k hk => hg.block k (by simp; omega) (fun e => Nat.lt_irrefl w1.heap.size (by cases e; exact hk))⟩)); have PI := hide ((uh H1).putI ⟨a0, n0, c0⟩ (uh BL) (show OwnN w2 B (.slice a0 n0 c0) xs from ho.base (uh BG)) (fun b hb => (ho.lt hb).1)); have ca := row_i (row_lat (uh H1).row (uh BL)); have cb := row_fz (row_lat (uh H1).row (uh BL)) 6; have H5 := hide (uh PI).1; have F5 := hide ((uh F1).trans (uh PI).2); clear PI BL ho hg; have c5 := row_c (uh H5).row; change (w2.setCell ⟨g, 6, none⟩ (Value.slice a0 n0 c0)).cell? ⟨g, 5, none⟩ = some (.bool y.c) at c5; have f5 := row_fz (uh H5).row 5; change (w2.setCell ⟨g, 6, none⟩ (Value.slice a0 n0 c0)).frozen? ⟨g, 5, none⟩ = false at f5; have S6 := hide ((uh H5).setC false); have H6 := hide (uh S6).1; have F6 := hide ((uh F5).trans (uh S6).2); clear S6 H5 F5)
  go_ret
  first | exact ⟨rfl, _, fun _ => uh H6, uh F6⟩ | exact ⟨rfl, _, uh H6, uh F6⟩
def Ms.emt (t : Ms) (n : Int) : Ms := if n = 1 then t.out (t.d.o ++ [nAt t.d.r 0]) else match t.d.i with
 | [] => (t.rg 0 65535).cs true
 | x :: xs => ((t.rg 0 x).inp xs).cs false
def Ms.emtB (t : Ms) (n : Int) : Bool := if n = 1 then decide (t.d.o.length < 50) else decide (n = 2)
theorem emt_any (B g : Nat) (y : Mv) (t : Ms) (st n : Int) (w : World) (h : Sm w B g y t st) (hk : Dk t.d) : EmIs B g y t (t.emt n) st n (t.emtB n) w := by
 unfold Ms.emt Ms.emtB
 by_cases h1 : n = 1
 ·
  subst h1
  rw [if_pos rfl, if_pos rfl]
  by_cases hl : t.d.o.length < 50
  ·
   rw [decide_eq_true hl]
   exact emt_1 B g y t st w h hk hl
  ·
   rw [decide_eq_false hl]
   exact emt_f B g y t _ st w h hk (by omega)
 ·
  rw [if_neg h1, if_neg h1]
  by_cases h2 : n = 2
  ·
   subst h2
   rw [decide_eq_true rfl]
   cases hi : t.d.i with
   | nil => exact emt_2e B g y t st w h hk hi
   | cons x xs => exact emt_2 B g y t st x xs w h hk hi
  ·
   rw [decide_eq_false h2]
   exact emt_x B g y t _ st n w h h1 h2
end Go.Proofs.YtjpbjbnialehbaaGreatDoor
