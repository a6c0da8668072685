/- Contracts over this seat's translation, laid together; conditions stand as hypotheses of each. -/
import Derived.Test.YtboedaofbchdkaaDoorPsB
import Derived.Test.YtboedaofbchdkaaDoorPsI

namespace Go.Proofs.YtboedaofbchdkaaDoor
open Go.ChangeShapes Go.WideShapes Go.ChangeAt Go.RowKit
set_option linter.unusedVariables false
set_option maxRecDepth 8000
set_option linter.unusedSimpArgs false
def Ms.wd (t : Ms) (d2 : Md) : Ms := { t with d := d2 }
def tgO (t : Ms) (mo re : Nat) : Bool := t.d.plO mo re && (t.d.plR mo re == -1)
/-- What target answers. -/
def TgIs (g B gr rc mo re : Nat) (X : Int) (y : Mv) (t : Ms) (d2 : Md) (st : Int) (w : World) : Prop :=
  Calls Tryd.prog 107 #[.pointer (some ⟨g, 0, none⟩), .agg #[.int .i64 (mo : Int), .int .i64 (re : Int), .int .i64 X]] w fun e w' => e = .returned (.tuple #[.int .i64 (t.d.plA mo re), .bool (tgO t mo re)]) ∧ Pz w' g B gr rc y (t.wd d2) st d2.m ∧ Fm w w' g y y
set_option maxHeartbeats 4000000 in
theorem target_any (g B gr rc mo re : Nat) (X : Int) (y : Mv) (t : Ms) (st : Int) (hk : Dk t.d) (h7 : mo ≤ 7) (hr : re < 8) :
    ∀ w, Pz w g B gr rc y t st t.d.m → ∃ d2, (t.d.plO mo re = true → d2 = t.d.plD mo re) ∧ Dk d2 ∧ TgIs g B gr rc mo re X y t d2 st w := by
  intro w h
  have H1 := hide (h.later (below_new w (Obj.cells #[.int .i64 (mo : Int), .int .i64 (re : Int), .int .i64 X] 28)))
  obtain ⟨d2, pq, e2, ec⟩ := po_all g B gr rc mo re X y t.d _ (unhide H1).pg hk.r8 hr (h.small h.len hk) (hk.getb _) h7 ((unhide H1).yl (unhide H1).atr) (unhide H1).gl
  refine ⟨d2, e2, ?_, ?_⟩
  · rcases ec with rfl | rfl
    · exact dk_plS hk mo re
    · exact hk.regS _ _
  have F1 := hide (Fm.of (g := g) (y := y) (below_new w (Obj.cells #[.int .i64 (mo : Int), .int .i64 (re : Int), .int .i64 X] 28)))
  have AR := hide h.atr
  have PO := hide pq
  unfold PoIs at PO
  have GO := hide (show ∀ v, Pg v g B gr rc y d2 → Pz v g B gr rc y (t.wd d2) st d2.m from fun v p => h.ofPg p)
  unfold TgIs tgO
  generalize t.d.plR mo re = pr at PO ⊢
  generalize t.d.plA mo re = pa at PO ⊢
  generalize t.d.plO mo re = po at PO ⊢
  clear h hk e2 ec pq
  go_enter Tryd.func107, Tryd.ntmps107
  go_wp2_with fail
  refine (unhide PO).mono ?_
  rintro e w2 ⟨rfl, p2, g2⟩
  have H3 := hide ((unhide GO _ p2).later (below_new w2 (Obj.cells #[.int .i64 pr, .int .i64 pa] 126)))
  have R3 := (heap_alloc_last w2 (Obj.cells #[.int .i64 pr, .int .i64 pa] 126))
  have k0 := row2S_0 R3
  have k1 := row2S_1 R3
  have F3 := hide (((unhide F1).trans (Fm.grownR g2 (unhide AR))).trans (Fm.of (below_new w2 (Obj.cells #[.int .i64 pr, .int .i64 pa] 126))))
  clear p2 g2 PO R3
  go_wp2_with (first | (refine wpList_store_new rfl 126 _ _ rfl #[.int .i64 pr, .int .i64 pa] rfl rfl _ (by kernel_rfl) rfl rfl ?_))
  generalize w2.alloc (Obj.cells #[.int .i64 pr, .int .i64 pa] 126) = w3 at H3 F3 k0 k1 ⊢
  cases po
  · go_quiet (fail)
    go_wp2
    go_ret2
    exact ⟨rfl, (unhide H3).later (below_drewN (Below.refl _ _) _), (unhide F3).trans (Fm.of (below_drewN (Below.refl _ _) _))⟩
  · go_quiet (fail)
    go_wp2
    go_ret2
    exact ⟨by simp, (unhide H3).later (below_drewN (Below.refl _ _) _), (unhide F3).trans (Fm.of (below_drewN (Below.refl _ _) _))⟩
def JpIs (g B gr rc op sm sr dm dr : Nat) (sx dx n : Int) (y : Mv) (t : Ms) (st : Int) (w : World) : Prop :=
  Calls Tryd.prog 85 #[.pointer (some ⟨g, 0, none⟩), .agg #[.int .i64 (op : Int), .int .i64 (sm : Int), .int .i64 (sr : Int), .int .i64 sx, .int .i64 (dm : Int), .int .i64 (dr : Int), .int .i64 dx, .int .i64 n]] w fun e w' => e = .returned (.bool (tgO t dm dr)) ∧ AcE (tgO t dm dr) (Pz w' g B gr rc y ((t.op dm dr).rg 7 (t.d.plA dm dr)) st (t.op dm dr).d.m) (Fm w w' g y y)
set_option maxHeartbeats 4000000 in
theorem jump_any (g B gr rc op sm sr dm dr : Nat) (sx dx n : Int) (y : Mv) (t : Ms) (st : Int) (w : World) (h : Pz w g B gr rc y t st t.d.m) (hk : Dk t.d) (d7 : dm ≤ 7) (d8 : dr < 8) : JpIs g B gr rc op sm sr dm dr sx dx n y t st w := by
  have GL := hide h.gl
  have YL := hide (fun b (hb : y.at b) => h.yl hb)
  have H1 := hide (h.later (below_new w (Obj.cells #[.int .i64 (op : Int), .int .i64 (sm : Int), .int .i64 (sr : Int), .int .i64 sx, .int .i64 (dm : Int), .int .i64 (dr : Int), .int .i64 dx, .int .i64 n] 30)))
  have F1 := hide (Fm.of (g := g) (y := y) (below_new w (Obj.cells #[.int .i64 (op : Int), .int .i64 (sm : Int), .int .i64 (sr : Int), .int .i64 sx, .int .i64 (dm : Int), .int .i64 (dr : Int), .int .i64 dx, .int .i64 n] 30)))
  have R1 := hide (heap_alloc_last w (Obj.cells #[.int .i64 (op : Int), .int .i64 (sm : Int), .int .i64 (sr : Int), .int .i64 sx, .int .i64 (dm : Int), .int .i64 (dr : Int), .int .i64 dx, .int .i64 n] 30))
  obtain ⟨d2, e2, k2, tg⟩ := target_any g B gr rc dm dr dx y t st hk d7 d8 _ (unhide H1)
  have TG := hide tg
  unfold TgIs at TG
  have E2 := hide (show tgO t dm dr = true → d2 = t.d.plD dm dr from fun ho => e2 (by unfold tgO at ho; simp only [Bool.and_eq_true] at ho; exact ho.1))
  unfold JpIs
  have k4 := insR 4 _ (unhide R1) rfl
  have k5 := insR 5 _ (unhide R1) rfl
  have k6 := insR 6 _ (unhide R1) rfl
  generalize tgO t dm dr = ok at TG E2 ⊢
  generalize t.d.plA dm dr = pa at TG ⊢
  clear h hk e2 tg
  go_enter Tryd.func85, Tryd.ntmps85
  go_wp2_with fail
  refine (unhide TG).mono ?_
  rintro e w2 ⟨rfl, p2, f2⟩
  have c1 := p2.cr
  obtain ⟨p3, f3, c2, c3⟩ := p2.setR 7 pa (by omega)
  have H3 := hide p3
  have F3 := hide (((unhide F1).trans f2).trans f3)
  clear p2 f2 p3 f3 TG k4 k5 k6
  go_wp2
  go_ret
  exact ⟨rfl, ⟨fun ho => by have e := unhide E2 ho; subst e; exact unhide H3, unhide F3⟩⟩
set_option maxHeartbeats 1000000 in
theorem halt_any (g B gr rc op sm sr dm dr : Nat) (sx dx n : Int) (y : Mv) (t : Ms) (st : Int) (w : World) (h : Pz w g B gr rc y t st t.d.m) (hk : Dk t.d) : Calls Tryd.prog 94 #[.pointer (some ⟨g, 0, none⟩), .agg #[.int .i64 (op : Int), .int .i64 (sm : Int), .int .i64 (sr : Int), .int .i64 sx, .int .i64 (dm : Int), .int .i64 (dr : Int), .int .i64 dx, .int .i64 n]] w fun e w' => e = .returned (.bool true) ∧ Pz w' g B gr rc { y with st := 1 } t 1 t.d.m ∧ Fm w w' g y { y with st := 1 } := by
  have H1 := hide (h.later (below_new w (Obj.cells #[.int .i64 (op : Int), .int .i64 (sm : Int), .int .i64 (sr : Int), .int .i64 sx, .int .i64 (dm : Int), .int .i64 (dr : Int), .int .i64 dx, .int .i64 n] 30)))
  have F1 := hide (Fm.of (g := g) (y := y) (below_new w (Obj.cells #[.int .i64 (op : Int), .int .i64 (sm : Int), .int .i64 (sr : Int), .int .i64 sx, .int .i64 (dm : Int), .int .i64 (dr : Int), .int .i64 dx, .int .i64 n] 30)))
  have c8 := (unhide H1).cell 8 _ rfl
  have e8 := (unhide H1).fz 264
  obtain ⟨h2, f2⟩ := (unhide H1).setS 1
  have H2 := hide h2
  have F2 := hide ((unhide F1).trans f2)
  clear h hk h2 f2
  go_enter Tryd.func94, Tryd.ntmps94
  go_wp2
  go_ret
  exact ⟨rfl, unhide H2, unhide F2⟩
/-- The stack's next place, and what stands there. -/
theorem ad_sh (a : Int) (h : 0 ≤ a) : Psh (-1) a := .inl ⟨rfl, h⟩
def ClIs (g B gr rc op sm sr dm dr k : Nat) (sx dx : Int) (y : Mv) (t : Ms) (st : Int) (ok : Bool) (w : World) : Prop :=
  Calls Tryd.prog 86 #[.pointer (some ⟨g, 0, none⟩), .agg #[.int .i64 (op : Int), .int .i64 (sm : Int), .int .i64 (sr : Int), .int .i64 sx, .int .i64 (dm : Int), .int .i64 (dr : Int), .int .i64 dx, .int .i64 (k : Int)]] w fun e w' => e = .returned (.bool ok) ∧ AcE ok (Pz w' g B gr rc y ((((t.op dm dr).go2 k).rg k (nAt ((t.op dm dr).go2 k).d.r 7)).rg 7 (t.d.plA dm dr)) st (t.op dm dr).d.m) (Fm w w' g y y)
theorem Pz.atR {w : World} {g B gr rc : Nat} {y : Mv} {t : Ms} {st : Int} {m0 : List Int} (h : Pz w g B gr rc y t st m0) (k : Nat) (hk : k < 8) : w.cell? ⟨gr, k, none⟩ = some (.int .i64 (nAt t.d.r k)) := (h.setR k 0 hk).2.2.1
def clO (t : Ms) (dm dr : Nat) : Bool := tgO t dm dr && (t.op dm dr).go1.d.ldB (-1) ((nAt (t.op dm dr).d.r 6 - 2) % 65536)
set_option maxHeartbeats 4000000 in
theorem call_no (g B gr rc op sm sr dm dr : Nat) (k : Nat) (sx dx : Int) (y : Mv) (t : Ms) (st : Int) (w : World) (h : Pz w g B gr rc y t st t.d.m) (hk : Dk t.d) (d7 : dm ≤ 7) (d8 : dr < 8) (hno : clO t dm dr = false) : ClIs g B gr rc op sm sr dm dr k sx dx y t st false w := by
  have GL := hide h.gl
  have YL := hide (fun b (hb : y.at b) => h.yl hb)
  have H1 := hide (h.later (below_new w (Obj.cells #[.int .i64 (op : Int), .int .i64 (sm : Int), .int .i64 (sr : Int), .int .i64 sx, .int .i64 (dm : Int), .int .i64 (dr : Int), .int .i64 dx, .int .i64 (k : Int)] 30)))
  have F1 := hide (Fm.of (g := g) (y := y) (below_new w (Obj.cells #[.int .i64 (op : Int), .int .i64 (sm : Int), .int .i64 (sr : Int), .int .i64 sx, .int .i64 (dm : Int), .int .i64 (dr : Int), .int .i64 dx, .int .i64 (k : Int)] 30)))
  have R1 := hide (heap_alloc_last w (Obj.cells #[.int .i64 (op : Int), .int .i64 (sm : Int), .int .i64 (sr : Int), .int .i64 sx, .int .i64 (dm : Int), .int .i64 (dr : Int), .int .i64 dx, .int .i64 (k : Int)] 30))
  obtain ⟨d2, e2, k2, tg⟩ := target_any g B gr rc dm dr dx y t st hk d7 d8 _ (unhide H1)
  have TG := hide tg
  unfold TgIs at TG
  have D8 := k2.rl
  obtain ⟨a0, a1⟩ := k2.rw _ (nAt_mem (show 6 < d2.r.length by omega))
  have GB := hide (fun v (p : Pz v g B gr rc y (t.wd d2) st d2.m) => goBack_any g B gr rc 6 y d2 v p.pg (by omega) a0 a1)
  have GO := hide (show ∀ v v', Pz v g B gr rc y (t.wd d2) st d2.m → Pg v' g B gr rc y (d2.reg 6 ((nAt d2.r 6 - 2) % 65536)) → Pz v' g B gr rc y ((t.wd d2).go1) st d2.m from fun v v' p q => p.ofPg q)
  have AD := hide (fun v => adPlace_any ((nAt d2.r 6 - 2) % 65536) v)
  have K3 := hide (show Dk (t.wd d2).go1.d from k2.regS _ _)
  have RC := hide (fun v (p : Pz v g B gr rc y (t.wd d2).go1 st d2.m) => reachZ p k2.ml (unhide K3) (-1) ((nAt d2.r 6 - 2) % 65536) (ad_sh _ (by omega)))
  have NO := hide (show tgO t dm dr = true → (t.wd d2).go1.d.ldB (-1) ((nAt d2.r 6 - 2) % 65536) = false from fun ho => by
    have e := e2 (by unfold tgO at ho; simp only [Bool.and_eq_true] at ho; exact ho.1)
    subst e
    unfold clO at hno
    rw [ho] at hno
    exact hno)
  unfold ClIs
  generalize tgO t dm dr = ok at TG NO ⊢
  generalize t.d.plA dm dr = pa at TG
  generalize (nAt d2.r 6 - 2) % 65536 = a6 at GB GO AD RC NO
  generalize (t.wd d2).go1.d.ldB (-1) a6 = lb at RC NO
  generalize plP g gr (-1) a6 = pp at RC
  clear h hk e2 tg hno a0 a1 D8 k2
  cases ok
  · have k4 := insR 4 _ (unhide R1) rfl
    have k5 := insR 5 _ (unhide R1) rfl
    have k6 := insR 6 _ (unhide R1) rfl
    go_enter Tryd.func86, Tryd.ntmps86
    go_wp2_with fail
    refine (unhide TG).mono ?_
    rintro e w2 ⟨rfl, p2, f2⟩
    have c1 := p2.cr
    have F2 := hide ((unhide F1).trans f2)
    have R2 := hide (f2.row (unhide R1) (by have := unhide GL; omega) (fun e => by have := unhide YL _ e; omega))
    have GBC := hide (unhide GB _ p2)
    have P2 := hide p2
    clear p2 f2 TG k4 k5 k6
    go_wp2_with fail
    refine (unhide GBC).mono ?_
    rintro e w3 ⟨rfl, p3, g3⟩
    have H3 := hide (unhide GO _ _ (unhide P2) p3)
    have f3 := Fm.grownR (g := g) g3 (unhide P2).atr
    have F3 := hide ((unhide F2).trans f3)
    have R3 := hide (f3.row (unhide R2) (by have := unhide GL; omega) (fun e => by have := unhide YL _ e; omega))
    clear p3 g3 f3 GBC GO P2 R2 F2 c1
    go_wp2_with fail
    refine (unhide AD _).mono ?_
    rintro e w4 ⟨rfl, b4⟩
    have H4 := hide ((unhide H3).later b4)
    have F4 := hide ((unhide F3).trans (Fm.of b4))
    have R4 := hide (row_lat (unhide R3) b4)
    have RCC := hide (unhide RC _ (unhide H4))
    clear b4 AD RC
    go_wp2_with fail
    refine (unhide RCC).mono ?_
    rintro e w5 ⟨rfl, b5⟩
    have H5 := hide ((unhide H4).later b5)
    have F5 := hide ((unhide F4).trans (Fm.of b5))
    have R5 := hide (row_lat (unhide R4) b5)
    clear b5 RCC H3 F3 R3 H4 F4 R4
    cases lb
    · go_wp2
      go_ret
      exact ⟨rfl, ⟨fun h => by simp at h, unhide F5⟩⟩
    · go_wp2
      go_ret
      exact ⟨rfl, ⟨fun h => by simp at h, unhide F5⟩⟩
  · have NO2 := unhide NO (by trivial)
    subst NO2
    have k4 := insR 4 _ (unhide R1) rfl
    have k5 := insR 5 _ (unhide R1) rfl
    have k6 := insR 6 _ (unhide R1) rfl
    go_enter Tryd.func86, Tryd.ntmps86
    go_wp2_with fail
    refine (unhide TG).mono ?_
    rintro e w2 ⟨rfl, p2, f2⟩
    have c1 := p2.cr
    have F2 := hide ((unhide F1).trans f2)
    have R2 := hide (f2.row (unhide R1) (by have := unhide GL; omega) (fun e => by have := unhide YL _ e; omega))
    have GBC := hide (unhide GB _ p2)
    have P2 := hide p2
    clear p2 f2 TG k4 k5 k6
    go_wp2_with fail
    refine (unhide GBC).mono ?_
    rintro e w3 ⟨rfl, p3, g3⟩
    have H3 := hide (unhide GO _ _ (unhide P2) p3)
    have f3 := Fm.grownR (g := g) g3 (unhide P2).atr
    have F3 := hide ((unhide F2).trans f3)
    have R3 := hide (f3.row (unhide R2) (by have := unhide GL; omega) (fun e => by have := unhide YL _ e; omega))
    clear p3 g3 f3 GBC GO P2 R2 F2 c1
    go_wp2_with fail
    refine (unhide AD _).mono ?_
    rintro e w4 ⟨rfl, b4⟩
    have H4 := hide ((unhide H3).later b4)
    have F4 := hide ((unhide F3).trans (Fm.of b4))
    have R4 := hide (row_lat (unhide R3) b4)
    have RCC := hide (unhide RC _ (unhide H4))
    clear b4 AD RC
    go_wp2_with fail
    refine (unhide RCC).mono ?_
    rintro e w5 ⟨rfl, b5⟩
    have H5 := hide ((unhide H4).later b5)
    have F5 := hide ((unhide F4).trans (Fm.of b5))
    have R5 := hide (row_lat (unhide R4) b5)
    clear b5 RCC H3 F3 R3 H4 F4 R4
    go_wp2
    go_ret
    exact ⟨rfl, ⟨fun h => by simp at h, unhide F5⟩⟩
set_option maxHeartbeats 8000000 in
theorem call_yes (g B gr rc op sm sr dm dr : Nat) (k : Nat) (sx dx : Int) (y : Mv) (t : Ms) (st : Int) (w : World) (h : Pz w g B gr rc y t st t.d.m) (hk : Dk t.d) (d7 : dm ≤ 7) (d8 : dr < 8) (k8 : k < 8) (hy : clO t dm dr = true) : ClIs g B gr rc op sm sr dm dr k sx dx y t st true w := by
  have GL := hide h.gl
  have YL := hide (fun b (hb : y.at b) => h.yl hb)
  have H1 := hide (h.later (below_new w (Obj.cells #[.int .i64 (op : Int), .int .i64 (sm : Int), .int .i64 (sr : Int), .int .i64 sx, .int .i64 (dm : Int), .int .i64 (dr : Int), .int .i64 dx, .int .i64 (k : Int)] 30)))
  have F1 := hide (Fm.of (g := g) (y := y) (below_new w (Obj.cells #[.int .i64 (op : Int), .int .i64 (sm : Int), .int .i64 (sr : Int), .int .i64 sx, .int .i64 (dm : Int), .int .i64 (dr : Int), .int .i64 dx, .int .i64 (k : Int)] 30)))
  have R1 := hide (heap_alloc_last w (Obj.cells #[.int .i64 (op : Int), .int .i64 (sm : Int), .int .i64 (sr : Int), .int .i64 sx, .int .i64 (dm : Int), .int .i64 (dr : Int), .int .i64 dx, .int .i64 (k : Int)] 30))
  obtain ⟨d2, e2, k2, tg⟩ := target_any g B gr rc dm dr dx y t st hk d7 d8 _ (unhide H1)
  have TG := hide tg
  unfold TgIs at TG
  have D8 := k2.rl
  obtain ⟨a0, a1⟩ := k2.rw _ (nAt_mem (show 6 < d2.r.length by omega))
  have GB := hide (fun v (p : Pz v g B gr rc y (t.wd d2) st d2.m) => goBack_any g B gr rc 6 y d2 v p.pg (by omega) a0 a1)
  have GO := hide (show ∀ v v', Pz v g B gr rc y (t.wd d2) st d2.m → Pg v' g B gr rc y (d2.reg 6 ((nAt d2.r 6 - 2) % 65536)) → Pz v' g B gr rc y ((t.wd d2).go1) st d2.m from fun v v' p q => p.ofPg q)
  have AD := hide (fun v => adPlace_any ((nAt d2.r 6 - 2) % 65536) v)
  have K3 := hide (show Dk (t.wd d2).go1.d from k2.regS _ _)
  have RC := hide (fun v (p : Pz v g B gr rc y (t.wd d2).go1 st d2.m) => reachZ p k2.ml (unhide K3) (-1) ((nAt d2.r 6 - 2) % 65536) (ad_sh _ (by omega)))
  have hy2 : tgO t dm dr = true ∧ (t.op dm dr).go1.d.ldB (-1) ((nAt (t.op dm dr).d.r 6 - 2) % 65536) = true := by unfold clO at hy; simpa only [Bool.and_eq_true] using hy
  have e3 := e2 (by have := hy2.1; unfold tgO at this; simp only [Bool.and_eq_true] at this; exact this.1)
  subst e3
  have LB : (t.wd (t.d.plD dm dr)).go1.d.ldB (-1) ((nAt (t.d.plD dm dr).r 6 - 2) % 65536) = true := hy2.2
  rw [hy2.1] at TG
  rw [LB] at RC
  simp only [if_true] at RC
  have SH := ad_sh ((nAt (t.d.plD dm dr).r 6 - 2) % 65536) (by omega)
  have VK := (unhide K3).rw _ (nAt_mem (show k < (t.wd (t.d.plD dm dr)).go1.d.r.length by have := (unhide K3).rl; omega))
  have PL := hide (fun v (p : Pz v g B gr rc y (t.wd (t.d.plD dm dr)).go1 st (t.d.plD dm dr).m) => (p.place LB SH).imp id (fun q => And.intro q.1 (q.2 (nAt (t.wd (t.d.plD dm dr)).go1.d.r k) VK.1 VK.2)))
  have AR := hide (fun v (p : Pz v g B gr rc y (t.wd (t.d.plD dm dr)).go1 st (t.d.plD dm dr).m) => p.atR k k8)
  unfold ClIs
  rw [show (t.op dm dr).go2 k = (t.wd (t.d.plD dm dr)).go1.st (-1) ((nAt (t.d.plD dm dr).r 6 - 2) % 65536) (nAt (t.wd (t.d.plD dm dr)).go1.d.r k) from rfl]
  rw [show (t.op dm dr).d.m = (t.d.plD dm dr).m from rfl]
  generalize t.d.plA dm dr = pa at TG ⊢
  generalize (t.wd (t.d.plD dm dr)).go1.d.ldV (-1) ((nAt (t.d.plD dm dr).r 6 - 2) % 65536) = old at PL
  generalize (t.wd (t.d.plD dm dr)).go1.st (-1) ((nAt (t.d.plD dm dr).r 6 - 2) % 65536) (nAt (t.wd (t.d.plD dm dr)).go1.d.r k) = u2 at PL ⊢
  generalize nAt (t.wd (t.d.plD dm dr)).go1.d.r k = vk at PL AR
  generalize (nAt (t.d.plD dm dr).r 6 - 2) % 65536 = a6 at GB GO AD RC PL
  generalize plP g gr (-1) a6 = pp at RC PL
  clear h hk e2 tg hy hy2 a0 a1 D8 LB SH VK k2
  have kr : (k : Int) < 8 := by omega
  have kn : ¬ (8 : Int) ≤ (k : Int) := by omega
  have k4 := insR 4 _ (unhide R1) rfl
  have k5 := insR 5 _ (unhide R1) rfl
  have k6 := insR 6 _ (unhide R1) rfl
  go_enter Tryd.func86, Tryd.ntmps86
  go_wp2_with fail
  refine (unhide TG).mono ?_
  rintro e w2 ⟨rfl, p2, f2⟩
  have c1 := p2.cr
  have F2 := hide ((unhide F1).trans f2)
  have R2 := hide (f2.row (unhide R1) (by have := unhide GL; omega) (fun e => by have := unhide YL _ e; omega))
  have GBC := hide (unhide GB _ p2)
  have P2 := hide p2
  clear p2 f2 TG k4 k5 k6
  go_wp2_with fail
  refine (unhide GBC).mono ?_
  rintro e w3 ⟨rfl, p3, g3⟩
  have H3 := hide (unhide GO _ _ (unhide P2) p3)
  have f3 := Fm.grownR (g := g) g3 (unhide P2).atr
  have F3 := hide ((unhide F2).trans f3)
  have R3 := hide (f3.row (unhide R2) (by have := unhide GL; omega) (fun e => by have := unhide YL _ e; omega))
  clear p3 g3 f3 GBC GO P2 R2 F2 c1
  go_wp2_with fail
  refine (unhide AD _).mono ?_
  rintro e w4 ⟨rfl, b4⟩
  have H4 := hide ((unhide H3).later b4)
  have F4 := hide ((unhide F3).trans (Fm.of b4))
  have R4 := hide (row_lat (unhide R3) b4)
  have RCC := hide (unhide RC _ (unhide H4))
  clear b4 AD RC
  go_wp2_with fail
  refine (unhide RCC).mono ?_
  rintro e w5 ⟨rfl, b5⟩
  have H5 := hide ((unhide H4).later b5)
  have F5 := hide ((unhide F4).trans (Fm.of b5))
  have R5 := hide (row_lat (unhide R4) b5)
  clear b5 RCC H3 F3 R3 H4 F4 R4
  have H6 := hide ((unhide H5).later (below_drew (w := w5)))
  have F6 := hide ((unhide F5).trans (Fm.of (below_drew (w := w5))))
  have R6 := hide (row_lat (unhide R5) (below_drew (w := w5)))
  have c1 := (unhide H6).cr
  have c2 := insR 7 _ (unhide R6) rfl
  have c3 := unhide AR _ (unhide H6)
  obtain ⟨c4, c5, h7, f7⟩ := unhide PL _ (unhide H6)
  have H7 := hide h7
  have F7 := hide ((unhide F6).trans f7)
  have R7 := hide (f7.row (unhide R6) (by have := unhide GL; omega) (fun e => by have := unhide YL _ e; omega))
  clear h7 f7 AR PL H5 F5 R5
  go_wp2_with fail
  refine wp_region_last (fun v => v = w5.drew) 11 (by kernel_rfl) ?_
  generalize w5.drew = wd at H6 F6 R6 H7 F7 R7 c1 c2 c3 c4 c5 ⊢
  refine wpAnyL_takeW (i := 0) (v := .pointer (some pp)) rfl (by kernel_rfl) (by kernel_rfl) (by kernel_rfl) (by kernel_rfl) (fun _ _ _ h => h) (Or.inl ⟨by rfl, fun w hc => ?_⟩) (.inl rfl) ?_
  · clear hc; go_simp
  go_simp
  refine wpAnyL_takeW (i := 1) (v := .pointer (some ⟨g, 0, none⟩)) rfl (by kernel_rfl) (by kernel_rfl) (by kernel_rfl) (by kernel_rfl) (fun _ _ _ h => h) (Or.inl ⟨by rfl, fun w hc => ?_⟩) (.inl rfl) ?_
  · clear hc; go_simp
  go_simp
  refine wpAnyL_takeW (i := 2) (v := .pointer (some ⟨g, 0, none⟩)) rfl (by kernel_rfl) (by kernel_rfl) (by kernel_rfl) (by kernel_rfl) (fun _ _ _ h => h) (Or.inl ⟨by rfl, fun w hc => ?_⟩) (.inl rfl) ?_
  · clear hc; go_simp
  go_simp
  refine wpAnyL_takeW (i := 3) (v := .pointer (some ⟨g, 256, none⟩)) rfl (by kernel_rfl) (by kernel_rfl) (by kernel_rfl) (by kernel_rfl) (fun _ _ _ h => h) (Or.inl ⟨by rfl, fun w hc => ?_⟩) (.inl rfl) ?_
  · clear hc; go_simp
  go_simp
  refine wpAnyL_takeW (i := 4) (v := .pointer (some ⟨g, 257, none⟩)) rfl (by kernel_rfl) (by kernel_rfl) (by kernel_rfl) (by kernel_rfl) (fun _ _ _ h => h) (Or.inl ⟨by rfl, fun w hc => ?_⟩) (.inl rfl) ?_
  · clear hc; go_simp
  go_simp
  refine wpAnyL_takeS (i := 5) (v := .slice (some ⟨gr, 0, none⟩) 8 rc) rfl (by kernel_rfl) (by kernel_rfl) (by kernel_rfl) (by kernel_rfl) (by kernel_rfl) (fun _ _ _ h => h) (Or.inl ⟨by rfl, fun w hc => ?_⟩) (rfl) ?_
  · rw [hc]; clear hc; go_simp
  go_simp
  refine wpAnyL_takeW (i := 6) (v := .pointer (some ⟨w.heap.size, 7, none⟩)) rfl (by kernel_rfl) (by kernel_rfl) (by kernel_rfl) (by kernel_rfl) (fun _ _ _ h => h) (Or.inl ⟨by rfl, fun w hc => ?_⟩) (.inl rfl) ?_
  · clear hc; go_simp
  go_simp
  refine wpAnyL_takeS (i := 7) (v := .int .i64 (k : Int)) rfl (by kernel_rfl) (by kernel_rfl) (by kernel_rfl) (by kernel_rfl) (by kernel_rfl) (fun _ _ _ h => h) (Or.inl ⟨by rfl, fun w hc => ?_⟩) (rfl) ?_
  · rw [hc]; clear hc; go_simp
  go_simp
  refine wpAnyL_takeW (i := 8) (v := .pointer (some ⟨gr, k, none⟩)) rfl (by kernel_rfl) (by kernel_rfl) (by kernel_rfl) (by kernel_rfl) (fun _ _ _ h => h) (Or.inl ⟨by rfl, fun w hc => ?_⟩) (.inl rfl) ?_
  · clear hc; go_simp
  go_simp
  refine wpAnyL_takeS (i := 9) (v := .int .i64 vk) rfl (by kernel_rfl) (by kernel_rfl) (by kernel_rfl) (by kernel_rfl) (by kernel_rfl) (fun _ _ _ h => h) (Or.inl ⟨by rfl, fun w hc => ?_⟩) (rfl) ?_
  · rw [hc]; clear hc; go_simp
  go_simp
  refine wpAnyL_takeW (i := 10) (v := .pointer (some pp)) rfl (by kernel_rfl) (by kernel_rfl) (by kernel_rfl) (by kernel_rfl) (fun _ _ _ h => h) (Or.inl ⟨by rfl, fun w hc => ?_⟩) (.inl rfl) ?_
  · clear hc; go_simp
  go_simp
  refine wpAnyL_one (i := 11) (by kernel_rfl) rfl (fun K2 hK => ?_)
  go_simp
  refine hK.out _ _ (fun h => absurd h (by decide)) ?_
  clear hK K2
  refine wpAnyL_done (by kernel_rfl) ?_ _
  generalize wd.setCell pp (.int .i64 vk) = w6 at H7 F7 R7 ⊢
  clear H6 F6 R6 c1 c2 c3 c4 c5
  have H8 := hide ((unhide H7).later (below_drew (w := w6)))
  have F8 := hide ((unhide F7).trans (Fm.of (below_drew (w := w6))))
  have R8 := hide (row_lat (unhide R7) (below_drew (w := w6)))
  have c1 := (unhide H8).cr
  have c2 := insR 7 _ (unhide R8) rfl
  have c3 := (unhide H8).atR 7 (by omega)
  obtain ⟨h9, f9, c4, c5⟩ := (unhide H8).setR k (nAt u2.d.r 7) k8
  have H9 := hide h9
  have F9 := hide ((unhide F8).trans f9)
  obtain ⟨v7, hv7⟩ : ∃ q, nAt u2.d.r 7 = q := ⟨_, rfl⟩
  have HV := hide hv7
  rw [hv7] at c3 H9 F9
  clear hv7
  clear h9 f9 H7 F7 R7
  go_wp2_with fail
  refine wp_region_last (fun v => v = w6.drew) 15 (by kernel_rfl) ?_
  generalize w6.drew = we at H8 F8 R8 H9 F9 c1 c2 c3 c4 c5 ⊢
  refine wpAnyL_takeW (i := 0) (v := .pointer (some ⟨g, 0, none⟩)) rfl (by kernel_rfl) (by kernel_rfl) (by kernel_rfl) (by kernel_rfl) (fun _ _ _ h => h) (Or.inl ⟨by rfl, fun w hc => ?_⟩) (.inl rfl) ?_
  · clear hc; go_simp
  go_simp
  refine wpAnyL_takeW (i := 1) (v := .pointer (some ⟨g, 0, none⟩)) rfl (by kernel_rfl) (by kernel_rfl) (by kernel_rfl) (by kernel_rfl) (fun _ _ _ h => h) (Or.inl ⟨by rfl, fun w hc => ?_⟩) (.inl rfl) ?_
  · clear hc; go_simp
  go_simp
  refine wpAnyL_takeW (i := 2) (v := .pointer (some ⟨g, 256, none⟩)) rfl (by kernel_rfl) (by kernel_rfl) (by kernel_rfl) (by kernel_rfl) (fun _ _ _ h => h) (Or.inl ⟨by rfl, fun w hc => ?_⟩) (.inl rfl) ?_
  · clear hc; go_simp
  go_simp
  refine wpAnyL_takeW (i := 3) (v := .pointer (some ⟨g, 257, none⟩)) rfl (by kernel_rfl) (by kernel_rfl) (by kernel_rfl) (by kernel_rfl) (fun _ _ _ h => h) (Or.inl ⟨by rfl, fun w hc => ?_⟩) (.inl rfl) ?_
  · clear hc; go_simp
  go_simp
  refine wpAnyL_takeS (i := 4) (v := .slice (some ⟨gr, 0, none⟩) 8 rc) rfl (by kernel_rfl) (by kernel_rfl) (by kernel_rfl) (by kernel_rfl) (by kernel_rfl) (fun _ _ _ h => h) (Or.inl ⟨by rfl, fun w hc => ?_⟩) (rfl) ?_
  · rw [hc]; clear hc; go_simp
  go_simp
  refine wpAnyL_takeW (i := 5) (v := .pointer (some ⟨w.heap.size, 7, none⟩)) rfl (by kernel_rfl) (by kernel_rfl) (by kernel_rfl) (by kernel_rfl) (fun _ _ _ h => h) (Or.inl ⟨by rfl, fun w hc => ?_⟩) (.inl rfl) ?_
  · clear hc; go_simp
  go_simp
  refine wpAnyL_takeS (i := 6) (v := .int .i64 (k : Int)) rfl (by kernel_rfl) (by kernel_rfl) (by kernel_rfl) (by kernel_rfl) (by kernel_rfl) (fun _ _ _ h => h) (Or.inl ⟨by rfl, fun w hc => ?_⟩) (rfl) ?_
  · rw [hc]; clear hc; go_simp
  go_simp
  refine wpAnyL_takeW (i := 7) (v := .pointer (some ⟨g, 0, none⟩)) rfl (by kernel_rfl) (by kernel_rfl) (by kernel_rfl) (by kernel_rfl) (fun _ _ _ h => h) (Or.inl ⟨by rfl, fun w hc => ?_⟩) (.inl rfl) ?_
  · clear hc; go_simp
  go_simp
  refine wpAnyL_takeW (i := 8) (v := .pointer (some ⟨g, 0, none⟩)) rfl (by kernel_rfl) (by kernel_rfl) (by kernel_rfl) (by kernel_rfl) (fun _ _ _ h => h) (Or.inl ⟨by rfl, fun w hc => ?_⟩) (.inl rfl) ?_
  · clear hc; go_simp
  go_simp
  refine wpAnyL_takeW (i := 9) (v := .pointer (some ⟨g, 256, none⟩)) rfl (by kernel_rfl) (by kernel_rfl) (by kernel_rfl) (by kernel_rfl) (fun _ _ _ h => h) (Or.inl ⟨by rfl, fun w hc => ?_⟩) (.inl rfl) ?_
  · clear hc; go_simp
  go_simp
  refine wpAnyL_takeW (i := 10) (v := .pointer (some ⟨g, 257, none⟩)) rfl (by kernel_rfl) (by kernel_rfl) (by kernel_rfl) (by kernel_rfl) (fun _ _ _ h => h) (Or.inl ⟨by rfl, fun w hc => ?_⟩) (.inl rfl) ?_
  · clear hc; go_simp
  go_simp
  refine wpAnyL_takeS (i := 11) (v := .slice (some ⟨gr, 0, none⟩) 8 rc) rfl (by kernel_rfl) (by kernel_rfl) (by kernel_rfl) (by kernel_rfl) (by kernel_rfl) (fun _ _ _ h => h) (Or.inl ⟨by rfl, fun w hc => ?_⟩) (rfl) ?_
  · rw [hc]; clear hc; go_simp
  go_simp
  refine wpAnyL_takeW (i := 12) (v := .pointer (some ⟨gr, 7, none⟩)) rfl (by kernel_rfl) (by kernel_rfl) (by kernel_rfl) (by kernel_rfl) (fun _ _ _ h => h) (Or.inl ⟨by rfl, fun w hc => ?_⟩) (.inl rfl) ?_
  · clear hc; go_simp
  go_simp
  refine wpAnyL_takeS (i := 13) (v := .int .i64 v7) rfl (by kernel_rfl) (by kernel_rfl) (by kernel_rfl) (by kernel_rfl) (by kernel_rfl) (fun _ _ _ h => h) (Or.inl ⟨by rfl, fun w hc => ?_⟩) (rfl) ?_
  · rw [hc]; clear hc; go_simp
  go_simp
  refine wpAnyL_takeW (i := 14) (v := .pointer (some ⟨gr, k, none⟩)) rfl (by kernel_rfl) (by kernel_rfl) (by kernel_rfl) (by kernel_rfl) (fun _ _ _ h => h) (Or.inl ⟨by rfl, fun w hc => ?_⟩) (.inl rfl) ?_
  · clear hc; go_simp
  go_simp
  refine wpAnyL_one (i := 15) (by kernel_rfl) rfl (fun K2 hK => ?_)
  go_simp
  refine hK.out _ _ (fun h => absurd h (by decide)) ?_
  clear hK K2
  refine wpAnyL_done (by kernel_rfl) ?_ _
  generalize we.setCell ⟨gr, k, none⟩ (.int .i64 v7) = w7 at H9 F9 ⊢
  clear H8 F8 R8 c1 c2 c3 c4 c5
  have c1 := (unhide H9).cr
  obtain ⟨h10, f10, c4, c5⟩ := (unhide H9).setR 7 pa (by omega)
  have H10 := hide h10
  have F10 := hide ((unhide F9).trans f10)
  clear h10 f10
  go_wp2
  go_ret
  exact ⟨rfl, ⟨fun _ => by rw [unhide HV]; exact unhide H10, unhide F10⟩⟩
def CbIs (g B gr rc op sm sr dm dr k : Nat) (sx dx : Int) (y : Mv) (t : Ms) (st : Int) (ok : Bool) (w : World) : Prop :=
  Calls Tryd.prog 87 #[.pointer (some ⟨g, 0, none⟩), .agg #[.int .i64 (op : Int), .int .i64 (sm : Int), .int .i64 (sr : Int), .int .i64 sx, .int .i64 (dm : Int), .int .i64 (dr : Int), .int .i64 dx, .int .i64 (k : Int)]] w fun e w' => e = .returned (.bool ok) ∧ AcE ok (Pz w' g B gr rc y (t.back k) st t.d.m) (Fm w w' g y y)
theorem rg6 (t : Ms) (k : Nat) : nAt (t.rg 7 (nAt t.d.r k)).d.r 6 = nAt t.d.r 6 := Ms.rg_at t 7 6 _ (by omega)
set_option maxHeartbeats 8000000 in
theorem back_anyI (g B gr rc op sm sr dm dr : Nat) (k : Nat) (sx dx : Int) (y : Mv) (t : Ms) (st : Int) (w : World) (h : Pz w g B gr rc y t st t.d.m) (hk : Dk t.d) (k8 : k < 8) : CbIs g B gr rc op sm sr dm dr k sx dx y t st ((t.back1 k).d.has (nAt t.d.r 6)) w := by
  have GL := hide h.gl
  have YL := hide (fun b (hb : y.at b) => h.yl hb)
  have H1 := hide (h.later (below_new w (Obj.cells #[.int .i64 (op : Int), .int .i64 (sm : Int), .int .i64 (sr : Int), .int .i64 sx, .int .i64 (dm : Int), .int .i64 (dr : Int), .int .i64 dx, .int .i64 (k : Int)] 30)))
  have F1 := hide (Fm.of (g := g) (y := y) (below_new w (Obj.cells #[.int .i64 (op : Int), .int .i64 (sm : Int), .int .i64 (sr : Int), .int .i64 sx, .int .i64 (dm : Int), .int .i64 (dr : Int), .int .i64 dx, .int .i64 (k : Int)] 30)))
  have R1 := hide (heap_alloc_last w (Obj.cells #[.int .i64 (op : Int), .int .i64 (sm : Int), .int .i64 (sr : Int), .int .i64 sx, .int .i64 (dm : Int), .int .i64 (dr : Int), .int .i64 dx, .int .i64 (k : Int)] 30))
  have VK := hk.rw _ (nAt_mem (show k < t.d.r.length by have := hk.rl; omega))
  have K1 := hide (show Dk (t.rg 7 (nAt t.d.r k)).d from hk.rgk 7 _ VK.1 VK.2)
  have V6 := hk.rw _ (nAt_mem (show 6 < t.d.r.length by have := hk.rl; omega))
  have SR := hide (fun v (p : Pz v g B gr rc y t st t.d.m) => p.setR 7 (nAt t.d.r k) (by omega))
  have AR := hide (fun v (p : Pz v g B gr rc y t st t.d.m) => p.atR k k8)
  have GB := hide (fun v (p : Pz v g B gr rc y (t.rg 7 (nAt t.d.r k)) st t.d.m) => goOn_any g B gr rc 6 y (t.rg 7 (nAt t.d.r k)).d v p.pg (by rw [(unhide K1).rl]; omega) (by rw [rg6]; exact V6.1) (by rw [rg6]; exact V6.2))
  rw [rg6] at GB
  have GO := hide (show ∀ v v', Pz v g B gr rc y (t.rg 7 (nAt t.d.r k)) st t.d.m → Pg v' g B gr rc y ((t.rg 7 (nAt t.d.r k)).d.reg 6 ((nAt t.d.r 6 + 2) % 65536)) → Pz v' g B gr rc y ((t.rg 7 (nAt t.d.r k)).rg 6 ((nAt t.d.r 6 + 2) % 65536)) st t.d.m from fun v v' p q => p.ofPg q)
  have AD := hide (fun v => adPlace_any (nAt t.d.r 6) v)
  have K3 := hide (show Dk ((t.rg 7 (nAt t.d.r k)).rg 6 ((nAt t.d.r 6 + 2) % 65536)).d from (unhide K1).regS _ _)
  have SH := ad_sh (nAt t.d.r 6) V6.1
  have RC := hide (fun v (p : Pz v g B gr rc y ((t.rg 7 (nAt t.d.r k)).rg 6 ((nAt t.d.r 6 + 2) % 65536)) st t.d.m) => reachZ p hk.ml (unhide K3) (-1) (nAt t.d.r 6) SH)
  have PL := hide (fun v (hb : ((t.rg 7 (nAt t.d.r k)).rg 6 ((nAt t.d.r 6 + 2) % 65536)).d.ldB (-1) (nAt t.d.r 6) = true) (p : Pz v g B gr rc y ((t.rg 7 (nAt t.d.r k)).rg 6 ((nAt t.d.r 6 + 2) % 65536)) st t.d.m) => (p.place hb SH).1)
  unfold CbIs
  rw [show (t.back1 k).d.has (nAt t.d.r 6) = ((t.rg 7 (nAt t.d.r k)).rg 6 ((nAt t.d.r 6 + 2) % 65536)).d.ldB (-1) (nAt t.d.r 6) from rfl]
  rw [show t.back k = ((t.rg 7 (nAt t.d.r k)).rg 6 ((nAt t.d.r 6 + 2) % 65536)).rg k (((t.rg 7 (nAt t.d.r k)).rg 6 ((nAt t.d.r 6 + 2) % 65536)).d.ldV (-1) (nAt t.d.r 6)) from rfl]
  have S3 := hide (fun v (u : Int) (p : Pz v g B gr rc y ((t.rg 7 (nAt t.d.r k)).rg 6 ((nAt t.d.r 6 + 2) % 65536)) st t.d.m) => p.setR k u k8)
  generalize ((t.rg 7 (nAt t.d.r k)).rg 6 ((nAt t.d.r 6 + 2) % 65536)).d.ldB (-1) (nAt t.d.r 6) = lb at RC PL ⊢
  generalize ((t.rg 7 (nAt t.d.r k)).rg 6 ((nAt t.d.r 6 + 2) % 65536)).d.ldV (-1) (nAt t.d.r 6) = lv at PL ⊢
  generalize (nAt t.d.r 6 + 2) % 65536 = x6 at GB GO RC PL S3 ⊢
  generalize (t.rg 7 (nAt t.d.r k)).rg 6 x6 = u2 at GO RC PL S3 ⊢
  generalize plP g gr (-1) (nAt t.d.r 6) = pp at RC PL
  generalize (t.rg 7 (nAt t.d.r k)).d.reg 6 x6 = dd at GB GO
  generalize nAt t.d.r 6 = v6 at GB AD RC
  generalize t.rg 7 (nAt t.d.r k) = u1 at SR GB GO
  generalize nAt t.d.r k = vk at SR AR
  clear hk VK V6 SH K1 K3
  have kr : (k : Int) < 8 := by omega
  have kn : ¬ (8 : Int) ≤ (k : Int) := by omega
  have H2 := hide ((unhide H1).later (below_drew (w := w.alloc (Obj.cells #[.int .i64 (op : Int), .int .i64 (sm : Int), .int .i64 (sr : Int), .int .i64 sx, .int .i64 (dm : Int), .int .i64 (dr : Int), .int .i64 dx, .int .i64 (k : Int)] 30))))
  have F2 := hide ((unhide F1).trans (Fm.of (below_drew (w := w.alloc (Obj.cells #[.int .i64 (op : Int), .int .i64 (sm : Int), .int .i64 (sr : Int), .int .i64 sx, .int .i64 (dm : Int), .int .i64 (dr : Int), .int .i64 dx, .int .i64 (k : Int)] 30)))))
  have R2 := hide (row_lat (unhide R1) (below_drew (w := w.alloc (Obj.cells #[.int .i64 (op : Int), .int .i64 (sm : Int), .int .i64 (sr : Int), .int .i64 sx, .int .i64 (dm : Int), .int .i64 (dr : Int), .int .i64 dx, .int .i64 (k : Int)] 30))))
  have c1 := (unhide H2).cr
  have c2 := insR 7 _ (unhide R2) rfl
  have c3 := unhide AR _ (unhide H2)
  obtain ⟨h3, f3, c4, c5⟩ := unhide SR _ (unhide H2)
  have H3 := hide h3
  have F3 := hide ((unhide F2).trans f3)
  have R3 := hide (f3.row (unhide R2) (by have := unhide GL; omega) (fun e => by have := unhide YL _ e; omega))
  clear h3 f3 h AR SR
  go_enter Tryd.func87, Tryd.ntmps87
  go_wp2_with fail
  refine wp_region_last (fun v => v = (w.alloc (Obj.cells #[.int .i64 (op : Int), .int .i64 (sm : Int), .int .i64 (sr : Int), .int .i64 sx, .int .i64 (dm : Int), .int .i64 (dr : Int), .int .i64 dx, .int .i64 (k : Int)] 30)).drew) 15 (by kernel_rfl) ?_
  generalize (w.alloc (Obj.cells #[.int .i64 (op : Int), .int .i64 (sm : Int), .int .i64 (sr : Int), .int .i64 sx, .int .i64 (dm : Int), .int .i64 (dr : Int), .int .i64 dx, .int .i64 (k : Int)] 30)).drew = wd at H2 F2 R2 H3 F3 R3 c1 c2 c3 c4 c5 ⊢
  refine wpAnyL_takeW (i := 0) (v := .pointer (some ⟨g, 0, none⟩)) rfl (by kernel_rfl) (by kernel_rfl) (by kernel_rfl) (by kernel_rfl) (fun _ _ _ h => h) (Or.inl ⟨by rfl, fun w hc => ?_⟩) (.inl rfl) ?_
  · clear hc; go_simp
  go_simp
  refine wpAnyL_takeW (i := 1) (v := .pointer (some ⟨g, 0, none⟩)) rfl (by kernel_rfl) (by kernel_rfl) (by kernel_rfl) (by kernel_rfl) (fun _ _ _ h => h) (Or.inl ⟨by rfl, fun w hc => ?_⟩) (.inl rfl) ?_
  · clear hc; go_simp
  go_simp
  refine wpAnyL_takeW (i := 2) (v := .pointer (some ⟨g, 256, none⟩)) rfl (by kernel_rfl) (by kernel_rfl) (by kernel_rfl) (by kernel_rfl) (fun _ _ _ h => h) (Or.inl ⟨by rfl, fun w hc => ?_⟩) (.inl rfl) ?_
  · clear hc; go_simp
  go_simp
  refine wpAnyL_takeW (i := 3) (v := .pointer (some ⟨g, 257, none⟩)) rfl (by kernel_rfl) (by kernel_rfl) (by kernel_rfl) (by kernel_rfl) (fun _ _ _ h => h) (Or.inl ⟨by rfl, fun w hc => ?_⟩) (.inl rfl) ?_
  · clear hc; go_simp
  go_simp
  refine wpAnyL_takeS (i := 4) (v := .slice (some ⟨gr, 0, none⟩) 8 rc) rfl (by kernel_rfl) (by kernel_rfl) (by kernel_rfl) (by kernel_rfl) (by kernel_rfl) (fun _ _ _ h => h) (Or.inl ⟨by rfl, fun w hc => ?_⟩) (rfl) ?_
  · rw [hc]; clear hc; go_simp
  go_simp
  refine wpAnyL_takeW (i := 5) (v := .pointer (some ⟨g, 0, none⟩)) rfl (by kernel_rfl) (by kernel_rfl) (by kernel_rfl) (by kernel_rfl) (fun _ _ _ h => h) (Or.inl ⟨by rfl, fun w hc => ?_⟩) (.inl rfl) ?_
  · clear hc; go_simp
  go_simp
  refine wpAnyL_takeW (i := 6) (v := .pointer (some ⟨g, 0, none⟩)) rfl (by kernel_rfl) (by kernel_rfl) (by kernel_rfl) (by kernel_rfl) (fun _ _ _ h => h) (Or.inl ⟨by rfl, fun w hc => ?_⟩) (.inl rfl) ?_
  · clear hc; go_simp
  go_simp
  refine wpAnyL_takeW (i := 7) (v := .pointer (some ⟨g, 256, none⟩)) rfl (by kernel_rfl) (by kernel_rfl) (by kernel_rfl) (by kernel_rfl) (fun _ _ _ h => h) (Or.inl ⟨by rfl, fun w hc => ?_⟩) (.inl rfl) ?_
  · clear hc; go_simp
  go_simp
  refine wpAnyL_takeW (i := 8) (v := .pointer (some ⟨g, 257, none⟩)) rfl (by kernel_rfl) (by kernel_rfl) (by kernel_rfl) (by kernel_rfl) (fun _ _ _ h => h) (Or.inl ⟨by rfl, fun w hc => ?_⟩) (.inl rfl) ?_
  · clear hc; go_simp
  go_simp
  refine wpAnyL_takeS (i := 9) (v := .slice (some ⟨gr, 0, none⟩) 8 rc) rfl (by kernel_rfl) (by kernel_rfl) (by kernel_rfl) (by kernel_rfl) (by kernel_rfl) (fun _ _ _ h => h) (Or.inl ⟨by rfl, fun w hc => ?_⟩) (rfl) ?_
  · rw [hc]; clear hc; go_simp
  go_simp
  refine wpAnyL_takeW (i := 10) (v := .pointer (some ⟨w.heap.size, 7, none⟩)) rfl (by kernel_rfl) (by kernel_rfl) (by kernel_rfl) (by kernel_rfl) (fun _ _ _ h => h) (Or.inl ⟨by rfl, fun w hc => ?_⟩) (.inl rfl) ?_
  · clear hc; go_simp
  go_simp
  refine wpAnyL_takeS (i := 11) (v := .int .i64 (k : Int)) rfl (by kernel_rfl) (by kernel_rfl) (by kernel_rfl) (by kernel_rfl) (by kernel_rfl) (fun _ _ _ h => h) (Or.inl ⟨by rfl, fun w hc => ?_⟩) (rfl) ?_
  · rw [hc]; clear hc; go_simp
  go_simp
  refine wpAnyL_takeW (i := 12) (v := .pointer (some ⟨gr, k, none⟩)) rfl (by kernel_rfl) (by kernel_rfl) (by kernel_rfl) (by kernel_rfl) (fun _ _ _ h => h) (Or.inl ⟨by rfl, fun w hc => ?_⟩) (.inl rfl) ?_
  · clear hc; go_simp
  go_simp
  refine wpAnyL_takeS (i := 13) (v := .int .i64 vk) rfl (by kernel_rfl) (by kernel_rfl) (by kernel_rfl) (by kernel_rfl) (by kernel_rfl) (fun _ _ _ h => h) (Or.inl ⟨by rfl, fun w hc => ?_⟩) (rfl) ?_
  · rw [hc]; clear hc; go_simp
  go_simp
  refine wpAnyL_takeW (i := 14) (v := .pointer (some ⟨gr, 7, none⟩)) rfl (by kernel_rfl) (by kernel_rfl) (by kernel_rfl) (by kernel_rfl) (fun _ _ _ h => h) (Or.inl ⟨by rfl, fun w hc => ?_⟩) (.inl rfl) ?_
  · clear hc; go_simp
  go_simp
  refine wpAnyL_one (i := 15) (by kernel_rfl) rfl (fun K2 hK => ?_)
  go_simp
  refine hK.out _ _ (fun h => absurd h (by decide)) ?_
  clear hK K2
  refine wpAnyL_done (by kernel_rfl) ?_ _
  generalize wd.setCell ⟨gr, 7, none⟩ (.int .i64 vk) = w3 at H3 F3 R3 ⊢
  clear H2 F2 R2 H1 F1 R1 c1 c2 c3 c4 c5
  have c1 := (unhide H3).cr
  have GBC := hide (unhide GB _ (unhide H3))
  clear GB
  go_wp2_with fail
  refine (unhide GBC).mono ?_
  rintro e w4 ⟨rfl, p4, g4⟩
  have H4 := hide (unhide GO _ _ (unhide H3) p4)
  have f4 := Fm.grownR (g := g) g4 (unhide H3).atr
  have F4 := hide ((unhide F3).trans f4)
  have R4 := hide (f4.row (unhide R3) (by have := unhide GL; omega) (fun e => by have := unhide YL _ e; omega))
  clear p4 g4 f4 GBC GO H3 F3 R3 c1
  go_wp2_with fail
  refine (unhide AD _).mono ?_
  rintro e w5 ⟨rfl, b5⟩
  have H5 := hide ((unhide H4).later b5)
  have F5 := hide ((unhide F4).trans (Fm.of b5))
  have R5 := hide (row_lat (unhide R4) b5)
  have RCC := hide (unhide RC _ (unhide H5))
  clear b5 AD RC
  go_wp2_with fail
  refine (unhide RCC).mono ?_
  rintro e w6 ⟨rfl, b6⟩
  have H6 := hide ((unhide H5).later b6)
  have F6 := hide ((unhide F5).trans (Fm.of b6))
  have R6 := hide (row_lat (unhide R5) b6)
  clear b6 RCC H4 F4 R4 H5 F5 R5
  cases lb
  · go_wp2
    go_ret
    exact ⟨rfl, ⟨fun h => by simp at h, unhide F6⟩⟩
  · have H7 := hide ((unhide H6).later (below_drew (w := w6)))
    have F7 := hide ((unhide F6).trans (Fm.of (below_drew (w := w6))))
    have R7 := hide (row_lat (unhide R6) (below_drew (w := w6)))
    have c1 := (unhide H7).cr
    have c2 := insR 7 _ (unhide R7) rfl
    have c3 := unhide PL _ (by trivial) (unhide H7)
    obtain ⟨h8, f8, c4, c5⟩ := unhide S3 _ lv (unhide H7)
    have H8 := hide h8
    have F8 := hide ((unhide F7).trans f8)
    clear h8 f8 S3 PL H6 F6 R6
    go_wp2_with fail
    refine wp_region_last (fun v => v = w6.drew) 11 (by kernel_rfl) ?_
    generalize w6.drew = we at H7 F7 R7 H8 F8 c1 c2 c3 c4 c5 ⊢
    refine wpAnyL_takeW (i := 0) (v := .pointer (some ⟨g, 0, none⟩)) rfl (by kernel_rfl) (by kernel_rfl) (by kernel_rfl) (by kernel_rfl) (fun _ _ _ h => h) (Or.inl ⟨by rfl, fun w hc => ?_⟩) (.inl rfl) ?_
    · clear hc; go_simp
    go_simp
    refine wpAnyL_takeW (i := 1) (v := .pointer (some ⟨g, 0, none⟩)) rfl (by kernel_rfl) (by kernel_rfl) (by kernel_rfl) (by kernel_rfl) (fun _ _ _ h => h) (Or.inl ⟨by rfl, fun w hc => ?_⟩) (.inl rfl) ?_
    · clear hc; go_simp
    go_simp
    refine wpAnyL_takeW (i := 2) (v := .pointer (some ⟨g, 256, none⟩)) rfl (by kernel_rfl) (by kernel_rfl) (by kernel_rfl) (by kernel_rfl) (fun _ _ _ h => h) (Or.inl ⟨by rfl, fun w hc => ?_⟩) (.inl rfl) ?_
    · clear hc; go_simp
    go_simp
    refine wpAnyL_takeW (i := 3) (v := .pointer (some ⟨g, 257, none⟩)) rfl (by kernel_rfl) (by kernel_rfl) (by kernel_rfl) (by kernel_rfl) (fun _ _ _ h => h) (Or.inl ⟨by rfl, fun w hc => ?_⟩) (.inl rfl) ?_
    · clear hc; go_simp
    go_simp
    refine wpAnyL_takeS (i := 4) (v := .slice (some ⟨gr, 0, none⟩) 8 rc) rfl (by kernel_rfl) (by kernel_rfl) (by kernel_rfl) (by kernel_rfl) (by kernel_rfl) (fun _ _ _ h => h) (Or.inl ⟨by rfl, fun w hc => ?_⟩) (rfl) ?_
    · rw [hc]; clear hc; go_simp
    go_simp
    refine wpAnyL_takeW (i := 5) (v := .pointer (some ⟨w.heap.size, 7, none⟩)) rfl (by kernel_rfl) (by kernel_rfl) (by kernel_rfl) (by kernel_rfl) (fun _ _ _ h => h) (Or.inl ⟨by rfl, fun w hc => ?_⟩) (.inl rfl) ?_
    · clear hc; go_simp
    go_simp
    refine wpAnyL_takeS (i := 6) (v := .int .i64 (k : Int)) rfl (by kernel_rfl) (by kernel_rfl) (by kernel_rfl) (by kernel_rfl) (by kernel_rfl) (fun _ _ _ h => h) (Or.inl ⟨by rfl, fun w hc => ?_⟩) (rfl) ?_
    · rw [hc]; clear hc; go_simp
    go_simp
    refine wpAnyL_takeW (i := 7) (v := .pointer (some pp)) rfl (by kernel_rfl) (by kernel_rfl) (by kernel_rfl) (by kernel_rfl) (fun _ _ _ h => h) (Or.inl ⟨by rfl, fun w hc => ?_⟩) (.inl rfl) ?_
    · clear hc; go_simp
    go_simp
    refine wpAnyL_takeW (i := 8) (v := .pointer (some pp)) rfl (by kernel_rfl) (by kernel_rfl) (by kernel_rfl) (by kernel_rfl) (fun _ _ _ h => h) (Or.inl ⟨by rfl, fun w hc => ?_⟩) (.inl rfl) ?_
    · clear hc; go_simp
    go_simp
    refine wpAnyL_takeS (i := 9) (v := .int .i64 lv) rfl (by kernel_rfl) (by kernel_rfl) (by kernel_rfl) (by kernel_rfl) (by kernel_rfl) (fun _ _ _ h => h) (Or.inl ⟨by rfl, fun w hc => ?_⟩) (rfl) ?_
    · rw [hc]; clear hc; go_simp
    go_simp
    refine wpAnyL_takeW (i := 10) (v := .pointer (some ⟨gr, k, none⟩)) rfl (by kernel_rfl) (by kernel_rfl) (by kernel_rfl) (by kernel_rfl) (fun _ _ _ h => h) (Or.inl ⟨by rfl, fun w hc => ?_⟩) (.inl rfl) ?_
    · clear hc; go_simp
    go_simp
    refine wpAnyL_one (i := 11) (by kernel_rfl) rfl (fun K2 hK => ?_)
    go_simp
    refine hK.out _ _ (fun h => absurd h (by decide)) ?_
    clear hK K2
    refine wpAnyL_done (by kernel_rfl) ?_ _
    generalize we.setCell ⟨gr, k, none⟩ (.int .i64 lv) = w8 at H8 F8 ⊢
    go_wp2
    go_ret
    exact ⟨rfl, ⟨fun _ => unhide H8, unhide F8⟩⟩
end Go.Proofs.YtboedaofbchdkaaDoor

namespace Go.Proofs.YtboedaofbchdkaaDoor
open Go.ChangeShapes Go.WideShapes Go.ChangeAt Go.RowKit
set_option linter.unusedVariables false
set_option maxRecDepth 8000
set_option linter.unusedSimpArgs false
theorem OwnM.putO {w w' : World} {B : Nat} {x : Mv} {d : Md} {ns : List Int} (h : OwnM w B x d) (o' : Sl) (hg : w.grownBy w' x.o.v.ownBlock) (ho : OwnN w' B o'.v ns) (hb : ∀ b, o'.v.ownBlock = some b → x.o.v.ownBlock = some b ∨ w.heap.size ≤ b) : OwnM w' B { x with o := o' } ⟨d.m, d.r, d.i, ns⟩ :=
  { m := h.m.keep fun q hv hq => hg.block q hq (fun e => h.mo q hv e.symm)
    r := h.r.keep fun q hv hq => hg.block q hq (fun e => h.ro q hv e.symm)
    i := h.i.keep fun q hv hq => hg.block q hq (fun e => h.io q hv e.symm)
    o := ho
    mr := h.mr
    mi := h.mi
    ri := h.ri
    mo := fun b hm k => (hb b k).elim (fun e => h.mo b hm e) (fun l => by have := (h.m.lt hm).2; omega)
    ro := fun b hm k => (hb b k).elim (fun e => h.ro b hm e) (fun l => by have := (h.r.lt hm).2; omega)
    io := fun b hm k => (hb b k).elim (fun e => h.io b hm e) (fun l => by have := (h.i.lt hm).2; omega) }
def Ms.out (t : Ms) (ns : List Int) : Ms := { t with d := ⟨t.d.m, t.d.r, t.d.i, ns⟩ }
theorem rdN_one {w : World} {g : Nat} {x : Int} {τ : TypeId} (h : w.heap[g]? = some (.cells #[.int .i64 x] τ (0, 0))) : RdN w (some ⟨g, 0, none⟩) [x] :=
  .inr ⟨g, 0, rfl, row_lt h, fun j hj => by
    have : j = 0 := by simpa using hj
    subst this
    exact (cell_of_row w g 0 _ τ _ h).trans rfl⟩
end Go.Proofs.YtboedaofbchdkaaDoor

namespace Go.Proofs.YtboedaofbchdkaaDoor
open Go.ChangeShapes Go.WideShapes Go.ChangeAt Go.RowKit
set_option linter.unusedVariables false
set_option maxRecDepth 8000
set_option linter.unusedSimpArgs false
theorem own_formL {w : World} {B : Nat} {s : Sl} {ns : List Int} (h : OwnN w B s.v ns) (h0 : 0 < ns.length) : ∃ g c, s = ⟨some ⟨g, 0, none⟩, ns.length, c⟩ ∧ ns.length ≤ c := by
  obtain ⟨sa, sn, sc⟩ := s
  rcases h.form with ⟨_, e⟩ | ⟨g, c, e, _, _, hc, _⟩
  · rw [e] at h0; simp at h0
  · unfold Sl.v at e
    simp at e
    obtain ⟨rfl, rfl, rfl⟩ := e
    exact ⟨g, sc, rfl, hc⟩
def Ms.inp (t : Ms) (ns : List Int) : Ms := { t with d := ⟨t.d.m, t.d.r, ns, t.d.o⟩ }
/-- What goes out or comes in. -/
def Ms.emt (t : Ms) (n : Int) : Ms := if n = 1 then t.out (t.d.o ++ [nAt t.d.r 0]) else match t.d.i with
  | [] => (t.rg 0 65535).cs true
  | x :: xs => ((t.rg 0 x).inp xs).cs false
def Ms.emtB (t : Ms) (n : Int) : Bool := if n = 1 then decide (t.d.o.length < 50) else decide (n = 2)
end Go.Proofs.YtboedaofbchdkaaDoor
