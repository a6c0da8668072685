/- Contracts over this seat's translation, laid together; conditions stand as hypotheses of each. -/
import Derived.Test.YtjpbjbnialehbaaGreatDoorSsR
namespace Go.Proofs.YtjpbjbnialehbaaGreatDoor
open Go.ChangeShapes Go.WideShapes Go.ChangeAt Go.RowKit
set_option maxHeartbeats 16000000
set_option linter.unusedVariables false
set_option maxRecDepth 8000
set_option linter.unusedSimpArgs false
theorem Fm.src {w w1 : World} {g : Nat} {y y1 y2 : Mv} (h : Fm w w1 g y y1) (e : ∀ b, y2.at b ↔ y.at b) : Fm w w1 g y2 y1 :=
 ⟨h.os, h.tape, h.output, h.size, fun k hk hg hy => h.blk k hk hg (fun c => hy ((e k).2 c)), fun b hb => (h.new b hb).elim (fun c => .inl ((e b).2 c)) .inr⟩
theorem Fm.dst {w w1 : World} {g : Nat} {y y1 y2 : Mv} (h : Fm w w1 g y y1) (e : ∀ b, y2.at b → y1.at b) : Fm w w1 g y y2 :=
 ⟨h.os, h.tape, h.output, h.size, h.blk, fun b hb => h.new b (e b hb)⟩
def wkS (t : Ms) (op sm sr dm dr : Nat) : Int := wkR op (t.sV op sm sr) ((t.sT op sm sr).opV dm dr)
def Ms.nzI (t : Ms) (r : Int) : Ms := { t with n := sgI r, z := (r == 0) }
def Mv.nzI (y : Mv) (r : Int) : Mv := { y with n := sgI r, z := (r == 0) }
def Ms.wo (t : Ms) (op sm sr dm dr : Nat) : Ms := ((t.woT op sm sr dm dr).wk op (t.sV op sm sr) ((t.sT op sm sr).opV dm dr)).nzI (wkS t op sm sr dm dr)
def Mv.wo (y : Mv) (t : Ms) (op sm sr dm dr : Nat) : Mv := (y.wk op (t.sV op sm sr) ((t.sT op sm sr).opV dm dr)).nzI (wkS t op sm sr dm dr)
theorem Pz.setNZ {w : World} {g B gr rc : Nat} {y : Mv} {t : Ms} {st : Int} {m0 : List Int} (h : Pz w g B gr rc y t st m0) (a b : Bool) : Pz ((w.setCell ⟨g, 258, none⟩ (.bool a)).setCell ⟨g, 259, none⟩ (.bool b)) g B gr rc { y with n := a, z := b } { t with n := a, z := b } st m0 ∧ Fm w ((w.setCell ⟨g, 258, none⟩ (.bool a)).setCell ⟨g, 259, none⟩ (.bool b)) g y { y with n := a, z := b } :=
 ⟨((h.setN a).1.setZ b).1, (h.setN a).2.trans ((h.setN a).1.setZ b).2⟩
def WoIs (f g B gr rc op sm sr dm dr : Nat) (sx dx n : Int) (y : Mv) (t : Ms) (st : Int) (w : World) : Prop :=
 Calls Tryz.prog 106 #[.pointer (some ⟨g, 0, none⟩), .agg #[.int .i64 (op : Int), .int .i64 (sm : Int), .int .i64 (sr : Int), .int .i64 sx, .int .i64 (dm : Int), .int .i64 (dr : Int), .int .i64 dx, .int .i64 n], .func (.func f) #[] #[]] w fun e w' => ∃ s q, e = .returned (.tuple #[.int .i64 s, .pointer q]) ∧ OsE (t.woB op sm sr dm dr) s (wkS t op sm sr dm dr) q ((t.sT op sm sr).opP g gr dm dr) (Pz w' g B gr rc (y.wo t op sm sr dm dr) (t.wo op sm sr dm dr) st (t.woT op sm sr dm dr).d.m) (Fm w w' g y y)
theorem wo_any (f : Nat) (g B gr rc op sm sr dm dr : Nat) (sx dx n : Int) (y : Mv) (t : Ms) (st : Int) (w : World) (h : Pz w g B gr rc y t st t.d.m) (hk : Dk t.d) (h1 : 1 ≤ op) (h13 : op ≤ 13) (hs : op ≤ 6 → sm ≤ 7 ∧ sr < 8) (d7 : dm ≤ 7) (d8 : dr < 8) (wk : WkIs f op) (hcf : ∀ vs w, (callFunc f vs).run Tryz.prog w = .ok (.enter f vs) w) : WoIs f g B gr rc op sm sr dm dr sx dx n y t st w := by
 have H1 := hide (h.later (below_new w (Obj.cells #[.int .i64 (op : Int), .int .i64 (sm : Int), .int .i64 (sr : Int), .int .i64 sx, .int .i64 (dm : Int), .int .i64 (dr : Int), .int .i64 dx, .int .i64 n] 69)))
 have F1 := hide (Fm.of (g := g) (y := y) (below_new w (Obj.cells #[.int .i64 (op : Int), .int .i64 (sm : Int), .int .i64 (sr : Int), .int .i64 sx, .int .i64 (dm : Int), .int .i64 (dr : Int), .int .i64 dx, .int .i64 n] 69)))
 have OS := hide (os_any g B gr rc op sm sr dm dr sx dx n y t st _ (uh H1) hk h1 hs d7 d8)
 have PL := hide (fun v (hb : t.woB op sm sr dm dr = true) (p : Pz v g B gr rc y (t.woT op sm sr dm dr) st (t.woT op sm sr dm dr).d.m) => Pz.place2 (dk_sT hk op sm sr) d8 (show (t.sT op sm sr).opB dm dr = true by unfold Ms.woB at hb; simp only [Bool.and_eq_true] at hb; exact hb.2) p)
 have VB := sV_b hk op sm sr
 have DB := op_v (dk_sT hk op sm sr) dm dr
 have WK := hide (fun v (p : Pz v g B gr rc y (t.woT op sm sr dm dr) st (t.woT op sm sr dm dr).d.m) => wk g B gr rc y (t.woT op sm sr dm dr) st _ (t.sV op sm sr) ((t.sT op sm sr).opV dm dr) v p VB.1 VB.2 DB.1 DB.2)
 have HS := hide (fun v => hasSign_any (wkS t op sm sr dm dr) v)
 unfold OsIs at OS
 unfold WoIs Ms.wo Mv.wo
 rw [← show wkS t op sm sr dm dr = wkR op (t.sV op sm sr) ((t.sT op sm sr).opV dm dr) from rfl] at WK
 have FA := hide (show ∀ b, (y.wk op (t.sV op sm sr) ((t.sT op sm sr).opV dm dr)).at b ↔ y.at b from fun b => Iff.rfl)
 generalize y.wk op (t.sV op sm sr) ((t.sT op sm sr).opV dm dr) = y2 at WK FA ⊢
 generalize (t.woT op sm sr dm dr).wk op (t.sV op sm sr) ((t.sT op sm sr).opV dm dr) = t2 at WK ⊢
 generalize wkS t op sm sr dm dr = r at WK HS ⊢
 unfold Ms.nzI Mv.nzI
 generalize sgI r = r9 at HS ⊢
 generalize (t.woT op sm sr dm dr).d.m = m1 at OS PL WK ⊢
 generalize t.woT op sm sr dm dr = t1 at OS PL WK
 generalize t.woB op sm sr dm dr = ok at OS PL ⊢
 generalize t.sV op sm sr = sv at OS PL WK
 generalize (t.sT op sm sr).opV dm dr = dv at PL WK
 generalize (t.sT op sm sr).opP g gr dm dr = pp at OS PL ⊢
 clear h hk VB DB wk
 go_enter Tryz.func106, Tryz.ntmps106
 go_wp2_with fail
 refine (uh OS).mono ?_
 rintro e w2 ⟨s, q, rfl, hs2⟩
 have F2 := hide ((uh F1).trans hs2.fm)
 cases ok
 ·
  obtain rfl := hs2.no rfl
  clear hs2 OS WK PL
  go_wp2
  go_ret2
  exact ⟨0, none, rfl, ⟨fun _ => rfl, fun h => by simp at h, uh F2⟩⟩
 ·
  obtain ⟨rfl, rfl, p2⟩ := hs2.yes rfl
  have C2 := (uh PL _ (by trivial) p2).1
  have WC := hide (uh WK _ p2)
  clear hs2 OS WK PL p2
  go_wp2_with fail
  refine (uh WC).mono ?_
  rintro e w3 ⟨rfl, h3, f3⟩
  have F3 := hide ((uh F2).trans f3)
  have c2 := h3.cell 2 _ rfl
  have e2 := h3.fz 258
  have c3 := h3.cell 3 _ rfl
  have e3 := h3.fz 259
  have H4 := hide (h3.setNZ r9 (r == 0))
  clear h3 f3 WC C2
  go_wp2_with fail
  refine (uh HS _).mono ?_
  rintro e w9 ⟨rfl, hw9⟩
  rw [hw9]
  clear hw9 w9
  go_wp2
  go_ret2
  exact ⟨r, _, rfl, ⟨fun h => by simp at h, fun _ => ⟨rfl, rfl, (uh H4).1⟩, ((uh F3).trans (uh H4).2).dst (fun b hb => (uh FA b).2 hb)⟩⟩
structure AcE (ok : Bool) (P F : Prop) : Prop where
 yes : ok = true → P
 fm : F
def ActIs (k : Nat) (fb g B gr rc op sm sr dm dr : Nat) (sx dx n : Int) (y : Mv) (t t2 : Ms) (st : Int) (m0 : List Int) (w : World) : Prop :=
 Calls Tryz.prog k #[.pointer (some ⟨g, 0, none⟩), .agg #[.int .i64 (op : Int), .int .i64 (sm : Int), .int .i64 (sr : Int), .int .i64 sx, .int .i64 (dm : Int), .int .i64 (dr : Int), .int .i64 dx, .int .i64 n], .pointer (some ⟨fb, 0, none⟩)] w fun e w' => e = .returned (.bool (t.woB op sm sr dm dr)) ∧ AcE (t.woB op sm sr dm dr) (Pz w' g B gr rc (y.wo t op sm sr dm dr) t2 st m0) (Fm w w' g y y)
theorem told_any (f fb : Nat) (g B gr rc op sm sr dm dr : Nat) (sx dx n : Int) (y : Mv) (t : Ms) (st : Int) (w : World) (h : Pz w g B gr rc y t st t.d.m) (hk : Dk t.d) (h1 : 1 ≤ op) (h13 : op ≤ 13) (hs : op ≤ 6 → sm ≤ 7 ∧ sr < 8) (d7 : dm ≤ 7) (d8 : dr < 8) (wk : WkIs f op) (hcf : ∀ vs w, (callFunc f vs).run Tryz.prog w = .ok (.enter f vs) w) (hb : Bx w fb f 119) : ActIs 107 fb g B gr rc op sm sr dm dr sx dx n y t (t.wo op sm sr dm dr) st (t.woT op sm sr dm dr).d.m w := by
 have H1 := hide (h.later (below_new w (Obj.cells #[.int .i64 (op : Int), .int .i64 (sm : Int), .int .i64 (sr : Int), .int .i64 sx, .int .i64 (dm : Int), .int .i64 (dr : Int), .int .i64 dx, .int .i64 n] 69)))
 have F1 := hide (Fm.of (g := g) (y := y) (below_new w (Obj.cells #[.int .i64 (op : Int), .int .i64 (sm : Int), .int .i64 (sr : Int), .int .i64 sx, .int .i64 (dm : Int), .int .i64 (dr : Int), .int .i64 dx, .int .i64 n] 69)))
 have WO := hide (wo_any f g B gr rc op sm sr dm dr sx dx n y t st _ (uh H1) hk h1 h13 hs d7 d8 wk hcf)
 have CF : (w.alloc (Obj.cells #[.int .i64 (op : Int), .int .i64 (sm : Int), .int .i64 (sr : Int), .int .i64 sx, .int .i64 (dm : Int), .int .i64 (dr : Int), .int .i64 dx, .int .i64 n] 69)).cell? ⟨fb, 0, none⟩ = some (.func (.func f) #[] #[]) := (cell_of_row _ fb 0 _ 119 _ (hb.later (below_new w (Obj.cells #[.int .i64 (op : Int), .int .i64 (sm : Int), .int .i64 (sr : Int), .int .i64 sx, .int .i64 (dm : Int), .int .i64 (dr : Int), .int .i64 dx, .int .i64 n] 69)))).trans rfl
 unfold WoIs at WO
 unfold ActIs
 generalize t.woB op sm sr dm dr = ok at WO ⊢
 generalize t.wo op sm sr dm dr = t2 at WO ⊢
 generalize y.wo t op sm sr dm dr = y2 at WO ⊢
 generalize (t.woT op sm sr dm dr).d.m = m1 at WO ⊢
 generalize (t.sT op sm sr).opP g gr dm dr = pp at WO
 generalize wkS t op sm sr dm dr = r at WO
 clear h hk hb wk
 go_enter Tryz.func107, Tryz.ntmps107
 go_wp2_with fail
 refine (uh WO).mono ?_
 rintro e w2 ⟨s, q, rfl, hs2⟩
 have F2 := hide ((uh F1).trans hs2.fm)
 cases ok
 ·
  obtain rfl := hs2.no rfl
  clear hs2 WO
  go_wp2
  go_ret
  exact ⟨rfl, ⟨fun h => by simp at h, uh F2⟩⟩
 ·
  obtain ⟨rfl, rfl, p2⟩ := hs2.yes rfl
  have H2 := hide p2
  clear hs2 WO p2
  go_wp2
  go_ret
  exact ⟨rfl, ⟨fun _ => uh H2, uh F2⟩⟩
theorem stored_any (f fb : Nat) (g B gr rc op sm sr dm dr : Nat) (sx dx n : Int) (y : Mv) (t : Ms) (st : Int) (w : World) (h : Pz w g B gr rc y t st t.d.m) (hk : Dk t.d) (h1 : 1 ≤ op) (h13 : op ≤ 13) (hs : op ≤ 6 → sm ≤ 7 ∧ sr < 8) (d7 : dm ≤ 7) (d8 : dr < 8) (wk : WkIs f op) (hcf : ∀ vs w, (callFunc f vs).run Tryz.prog w = .ok (.enter f vs) w) (hb : Bx w fb f 119) (r0 : 0 ≤ wkS t op sm sr dm dr) (r1 : wkS t op sm sr dm dr ≤ 65535) : ActIs 105 fb g B gr rc op sm sr dm dr sx dx n y t ((t.wo op sm sr dm dr).st ((t.sT op sm sr).d.plR dm dr) ((t.sT op sm sr).d.plA dm dr) (wkS t op sm sr dm dr)) st (t.woT op sm sr dm dr).d.m w := by
 have H1 := hide (h.later (below_new w (Obj.cells #[.int .i64 (op : Int), .int .i64 (sm : Int), .int .i64 (sr : Int), .int .i64 sx, .int .i64 (dm : Int), .int .i64 (dr : Int), .int .i64 dx, .int .i64 n] 69)))
 have F1 := hide (Fm.of (g := g) (y := y) (below_new w (Obj.cells #[.int .i64 (op : Int), .int .i64 (sm : Int), .int .i64 (sr : Int), .int .i64 sx, .int .i64 (dm : Int), .int .i64 (dr : Int), .int .i64 dx, .int .i64 n] 69)))
 have WO := hide (wo_any f g B gr rc op sm sr dm dr sx dx n y t st _ (uh H1) hk h1 h13 hs d7 d8 wk hcf)
 have CF : (w.alloc (Obj.cells #[.int .i64 (op : Int), .int .i64 (sm : Int), .int .i64 (sr : Int), .int .i64 sx, .int .i64 (dm : Int), .int .i64 (dr : Int), .int .i64 dx, .int .i64 n] 69)).cell? ⟨fb, 0, none⟩ = some (.func (.func f) #[] #[]) := (cell_of_row _ fb 0 _ 119 _ (hb.later (below_new w (Obj.cells #[.int .i64 (op : Int), .int .i64 (sm : Int), .int .i64 (sr : Int), .int .i64 sx, .int .i64 (dm : Int), .int .i64 (dr : Int), .int .i64 dx, .int .i64 n] 69)))).trans rfl
 unfold WoIs at WO
 have PL := hide (show ∀ v m1, t.woB op sm sr dm dr = true → Pz v g B gr rc (y.wo t op sm sr dm dr) (t.wo op sm sr dm dr) st m1 → _ from fun v m1 (hb : t.woB op sm sr dm dr = true) (p : Pz v g B gr rc (y.wo t op sm sr dm dr) (t.wo op sm sr dm dr) st m1) =>
  (show v.cell? ((t.sT op sm sr).opP g gr dm dr) = some (.int .i64 ((t.sT op sm sr).opV dm dr)) ∧ v.frozen? ((t.sT op sm sr).opP g gr dm dr) = false ∧ (Pz (v.setCell ((t.sT op sm sr).opP g gr dm dr) (.int .i64 (wkS t op sm sr dm dr))) g B gr rc (y.wo t op sm sr dm dr) ((t.wo op sm sr dm dr).st ((t.sT op sm sr).d.plR dm dr) ((t.sT op sm sr).d.plA dm dr) (wkS t op sm sr dm dr)) st m1 ∧ Fm v (v.setCell ((t.sT op sm sr).opP g gr dm dr) (.int .i64 (wkS t op sm sr dm dr))) g (y.wo t op sm sr dm dr) (y.wo t op sm sr dm dr)) from by
   unfold Ms.woB Ms.opB at hb
   simp only [Bool.and_eq_true] at hb
   obtain ⟨a, b, c⟩ := p.place (r := (t.sT op sm sr).d.plR dm dr) (a := (t.sT op sm sr).d.plA dm dr) hb.2.2 (pl_sh (dk_sT hk op sm sr) dm dr d8 hb.2.1)
   exact ⟨a, b, c _ r0 r1⟩))
 unfold ActIs
 have FA := hide (show ∀ b, (y.wo t op sm sr dm dr).at b ↔ y.at b from fun b => Iff.rfl)
 generalize t.woB op sm sr dm dr = ok at WO PL ⊢
 generalize (t.wo op sm sr dm dr).st ((t.sT op sm sr).d.plR dm dr) ((t.sT op sm sr).d.plA dm dr) (wkS t op sm sr dm dr) = t3 at PL ⊢
 generalize t.wo op sm sr dm dr = t2 at WO PL
 generalize y.wo t op sm sr dm dr = y2 at WO PL FA ⊢
 generalize (t.woT op sm sr dm dr).d.m = m1 at WO ⊢
 generalize (t.sT op sm sr).opP g gr dm dr = pp at WO PL
 generalize (t.sT op sm sr).opV dm dr = dv at PL
 generalize wkS t op sm sr dm dr = r at WO PL r0 r1
 clear h hk hb wk
 go_enter Tryz.func105, Tryz.ntmps105
 go_wp2_with fail
 refine (uh WO).mono ?_
 rintro e w2 ⟨s, q, rfl, hs2⟩
 have F2 := hide ((uh F1).trans hs2.fm)
 cases ok
 ·
  obtain rfl := hs2.no rfl
  clear hs2 WO PL
  go_wp2
  go_ret
  exact ⟨rfl, ⟨fun h => by simp at h, uh F2⟩⟩
 ·
  obtain ⟨rfl, rfl, p2⟩ := hs2.yes rfl
  obtain ⟨c1, c2, c3⟩ := uh PL _ _ (by trivial) p2
  have H3 := hide c3.1
  have F3 := hide ((uh F2).trans ((c3.2.src (fun b => (uh FA b).symm)).dst (fun b hb => (uh FA b).2 hb)))
  clear hs2 WO p2 PL c3 CF
  go_wp2
  go_ret
  exact ⟨rfl, ⟨fun _ => uh H3, uh F3⟩⟩
theorem Ms.rg_at (t : Ms) (k j : Nat) (v : Int) (h : j ≠ k) : nAt (t.rg k v).d.r j = nAt t.d.r j := by
 unfold Ms.rg Md.reg nAt
 simp [List.getElem?_set, Ne.symm h]
theorem Dk.rgk {t : Ms} (h : Dk t.d) (k : Nat) (v : Int) (v0 : 0 ≤ v) (v1 : v ≤ 65535) : Dk (t.rg k v).d := h.setR k v v0 v1
def Ms.back1 (t : Ms) (k : Nat) : Ms := t.rg 7 (nAt t.d.r k)
def Ms.back (t : Ms) (k : Nat) : Ms := ((t.back1 k).rg 6 ((nAt t.d.r 6 + 2) % 65536)).rg k ((t.back1 k).d.get (nAt t.d.r 6))
def BkIs (B g : Nat) (y : Mv) (t t2 : Ms) (st : Int) (k : Nat) (ok : Bool) (w : World) : Prop :=
 Calls Tryz.prog 94 #[.pointer (some ⟨g, 0, none⟩), .int .i64 (k : Int)] w fun e w' => e = .returned (.bool ok) ∧ (ok = true → Sm w' B g y t2 st) ∧ Fm w w' g y y
theorem back_false (B g k : Nat) (y : Mv) (t : Ms) (st : Int) (w : World) (h : Sm w B g y t st) (hk : Dk t.d) (hr : k < 8) (hq : (t.back1 k).d.has (nAt t.d.r 6) = false) : BkIs B g y t (t.back k) st k false w := by
 obtain ⟨gr, rc, er⟩ := h.regs hk.rl
 have ER := hide er
 have H8 := hide hk.rl
 have HR := hide hr
 have kr : (k : Int) < 8 := by omega
 have kn : ¬ (8 : Int) ≤ (k : Int) := by omega
 obtain ⟨a0, a1⟩ := hk.rw _ (nAt_mem (show k < t.d.r.length by have := hk.rl; omega))
 obtain ⟨s0, s1⟩ := hk.rw _ (nAt_mem (show 6 < t.d.r.length by have := hk.rl; omega))
 have E6 := hide (t.rg_at 7 6 (nAt t.d.r k) (by omega))
 have DK := hide (hk.rgk 7 (nAt t.d.r k) a0 a1)
 have H0 := hide h
 have F0 := hide (Fm.of (g := g) (y := y) (Below.refl w.heap.size w))
 unfold BkIs Ms.back Ms.back1
 rw [show (t.back1 k) = t.rg 7 (nAt t.d.r k) from rfl] at hq
 obtain ⟨ak, hak⟩ : ∃ q, nAt t.d.r k = q := ⟨_, rfl⟩
 obtain ⟨s6, hs6⟩ : ∃ q, nAt t.d.r 6 = q := ⟨_, rfl⟩
 have HA := hide hak
 have CA := hide (show w.drew.cell? ⟨gr, k, none⟩ = some (.int .i64 ak) by rw [((h.later (below_drew (w := w))).setR er k 0 (by have := hk.rl; omega)).2.2.1, hak])
 rw [hak] at a0 a1 E6 DK hq
 rw [hs6] at s0 s1 E6 hq
 rw [hak, hs6]
 clear hak hs6
 have HD := hide ((uh H0).later (below_drew (w := w)))
 have SC := hide ((uh HD).setR (uh ER) 7 ak (by have := uh H8; omega))
 have C0 := hide ((uh HD).rcell (uh ER))
 have C3 := hide (uh SC).2.2.2
 have C4 := hide (show (w.drew.setCell ⟨gr, 7, none⟩ (.int .i64 ak)).cell? ⟨g, 1, none⟩ = some (.slice (some ⟨gr, 0, none⟩) 8 rc) from (uh SC).1.rcell (uh ER))
 have CK := hide (uh SC).2.2.1
 have H1 := hide (uh SC).1
 have F1 := hide ((uh F0).trans ((Fm.of (below_drew (w := w))).trans (uh SC).2.1))
 have T8 := hide (show (t.rg 7 ak).d.r.length = 8 by rw [Ms.rg_len, uh H8])
 clear SC HD H0 F0 H8
 generalize t.rg 7 ak = t1 at H1 E6 DK hq T8 ⊢
 have RD6 := hide (fun v (r : RdM v y t1.d) => readS_any y t1.d s6 v ((uh H1).small (uh DK)) r)
 rw [hq] at RD6
 generalize t1.d.get s6 = u at RD6 ⊢
 clear h hk hq er
 go_enter Tryz.func94, Tryz.ntmps94
 go_wp2_with fail
 refine wp_region_held_drew (S := fun v => v.cell? ⟨g, 1, none⟩ = some (.slice (some ⟨gr, 0, none⟩) 8 rc)) (by kernel_rfl) (uh C0) (fun hS => ?_)
 have HS := hide hS
 clear hS
 refine tkB 0 (.pointer (some ⟨g, 0, none⟩)) rfl (uh HS) ?_
 go_simp
 refine tkB 1 (.pointer (some ⟨g, 0, none⟩)) rfl (uh HS) ?_
 go_simp
 refine tkB 2 (.pointer (some ⟨g, 1, none⟩)) rfl (uh HS) ?_
 go_simp
 refine tkA 3 (.slice (some ⟨gr, 0, none⟩) 8 rc) rfl (.inl ⟨by rfl, fun w hc => ?_⟩) (uh HS) ?_
 · go_simp
 go_simp
 refine tkB 4 (.pointer (some ⟨g, 0, none⟩)) rfl (uh HS) ?_
 go_simp
 refine tkB 5 (.pointer (some ⟨g, 0, none⟩)) rfl (uh HS) ?_
 go_simp
 refine tkB 6 (.pointer (some ⟨g, 1, none⟩)) rfl (uh HS) ?_
 go_simp
 refine tkA 7 (.slice (some ⟨gr, 0, none⟩) 8 rc) rfl (.inl ⟨by rfl, fun w hc => ?_⟩) (uh HS) ?_
 · go_simp
 go_simp
 refine tkB 8 (.int .i64 (k : Int)) rfl (uh HS) ?_
 go_simp
 refine tkB 9 (.pointer (some ⟨gr, k, none⟩)) rfl (uh HS) ?_
 go_simp
 refine wpAnyH_ready (rs := [10]) (by kernel_rfl) (by simp) ?_
 refine AllReadyH.cons rfl (fun K2 hK => ?_) AllReadyH.nil
 have c2 := uh CA
 go_simp
 clear c2
 refine hK.out _ _ (uh C0) (fun hS => ?_)
 clear HS
 have HS := hide hS
 clear hS hK K2
 refine tkB 11 (.pointer (some ⟨gr, 7, none⟩)) rfl (uh HS) ?_
 go_simp
 refine wpAnyH_ready (rs := [12]) (by kernel_rfl) (by simp) ?_
 refine AllReadyH.cons rfl (fun K2 hK => ?_) AllReadyH.nil
 have c2 := uh C3
 have c3 := uh CK
 go_simp
 clear c2 c3
 refine hK.out _ _ (uh C4) (fun hS => ?_)
 clear HS
 have HS := hide hS
 clear hS hK K2
 refine wpAnyH_done (by kernel_rfl) ?_ _
 clear HS C0 C3 CA CK
 generalize hwd : w.drew.setCell ⟨gr, 7, none⟩ (.int .i64 ak) = w1 at H1 F1 C4
 rw [show (w.setCell ⟨gr, 7, none⟩ (.int .i64 ak)).drew = w1 from hwd]
 clear hwd
 clear C4
 have HE := hide ((uh H1).later (below_drew (w := w1)))
 have F2 := hide ((uh F1).trans (Fm.of (below_drew (w := w1))))
 have C6 := hide (show w1.drew.cell? ⟨gr, 6, none⟩ = some (.int .i64 s6) by rw [((uh HE).setR (uh ER) 6 0 (by have := uh T8; omega)).2.2.1, uh E6])
 have C1 := hide ((uh HE).rcell (uh ER))
 clear H1 F1
 go_wp2_with fail
 refine wp_region_held_drew (S := fun v => v.heap[g]? = some (.cells y.cs 26 (0, 0)) ∧ v.cell? ⟨g, 1, none⟩ = some (.slice (some ⟨gr, 0, none⟩) 8 rc) ∧ v.cell? ⟨gr, 6, none⟩ = some (.int .i64 s6)) (by kernel_rfl) (⟨(uh HE).row, uh C1, uh C6⟩) (fun hS => ?_)
 have HS := hide hS
 clear hS
 generalize w1.drew = wd at HE F2 C6 C1 HS ⊢
 refine tkB 0 (.pointer (some ⟨g, 0, none⟩)) rfl (uh HS) ?_
 go_simp
 refine tkB 1 (.pointer (some ⟨g, 0, none⟩)) rfl (uh HS) ?_
 go_simp
 refine tkA 2 (.agg y.cs) rfl (yields_load rfl 26 _ rfl g rfl 26 y.cs _ (fun w h => h.1) Tryz.underlying26 rfl (by kernel_rfl)) (uh HS) ?_
 go_simp
 refine tkB 3 (.pointer (some ⟨g, 0, none⟩)) rfl (uh HS) ?_
 go_simp
 refine tkB 4 (.pointer (some ⟨g, 0, none⟩)) rfl (uh HS) ?_
 go_simp
 refine tkB 5 (.pointer (some ⟨g, 1, none⟩)) rfl (uh HS) ?_
 go_simp
 refine tkA 6 (.slice (some ⟨gr, 0, none⟩) 8 rc) rfl (.inl ⟨by rfl, fun w hc => ?_⟩) (uh HS) ?_
 · obtain ⟨h1, h2, h3⟩ := hc; clear h1; go_simp
 go_simp
 refine tkB 7 (.pointer (some ⟨gr, 6, none⟩)) rfl (uh HS) ?_
 go_simp
 refine tkA 8 (.int .i64 s6) rfl (.inl ⟨by rfl, fun w hc => ?_⟩) (uh HS) ?_
 · obtain ⟨h1, h2, h3⟩ := hc; clear h1; go_simp
 go_simp
 refine wpAnyH_ready (rs := [9]) (by kernel_rfl) (by simp) ?_
 refine AllReadyH.cons rfl (fun K2 hK => ?_) AllReadyH.nil
 go_simp
 refine (uh RD6 wd (uh HE).own.rd).mono ?_
 rintro e w2 ⟨rfl, hb⟩
 have H2 := hide ((uh HE).later hb)
 have F3 := hide ((uh F2).trans (Fm.of hb))
 have C7 := hide (show w2.cell? ⟨gr, 6, none⟩ = some (.int .i64 s6) by rw [((uh H2).setR (uh ER) 6 0 (by have := uh T8; omega)).2.2.1, uh E6])
 refine hK.out _ _ ⟨(uh H2).row, (uh H2).rcell (uh ER), uh C7⟩ (fun hS => ?_)
 clear HS
 have HS := hide hS
 clear hS hK K2 hb RD6 HE F2 C6 C1
 refine tkB 10 (.tuple #[.int .i64 u, .bool false]) rfl (uh HS) ?_
 go_simp
 refine tkB 11 (.int .i64 u) rfl (uh HS) ?_
 go_simp
 refine tkB 12 (.bool false) rfl (uh HS) ?_
 go_simp
 refine tkB 13 (.int .i64 u) rfl (uh HS) ?_
 go_simp
 refine tkB 14 (.bool false) rfl (uh HS) ?_
 go_simp
 refine wpAnyH_done (by kernel_rfl) ?_ _
 clear HS
 go_wp2_with fail
 go_ret
 exact ⟨rfl, fun h => Bool.noConfusion h, uh F3⟩
theorem back_true (B g k : Nat) (y : Mv) (t : Ms) (st : Int) (w : World) (h : Sm w B g y t st) (hk : Dk t.d) (hr : k < 8) (hq : (t.back1 k).d.has (nAt t.d.r 6) = true) : BkIs B g y t (t.back k) st k true w := by
 obtain ⟨gr, rc, er⟩ := h.regs hk.rl
 have ER := hide er
 have H8 := hide hk.rl
 have HR := hide hr
 have kr : (k : Int) < 8 := by omega
 have kn : ¬ (8 : Int) ≤ (k : Int) := by omega
 obtain ⟨a0, a1⟩ := hk.rw _ (nAt_mem (show k < t.d.r.length by have := hk.rl; omega))
 obtain ⟨s0, s1⟩ := hk.rw _ (nAt_mem (show 6 < t.d.r.length by have := hk.rl; omega))
 have E6 := hide (t.rg_at 7 6 (nAt t.d.r k) (by omega))
 have DK := hide (hk.rgk 7 (nAt t.d.r k) a0 a1)
 have H0 := hide h
 have F0 := hide (Fm.of (g := g) (y := y) (Below.refl w.heap.size w))
 unfold BkIs Ms.back Ms.back1
 rw [show (t.back1 k) = t.rg 7 (nAt t.d.r k) from rfl] at hq
 obtain ⟨ak, hak⟩ : ∃ q, nAt t.d.r k = q := ⟨_, rfl⟩
 obtain ⟨s6, hs6⟩ : ∃ q, nAt t.d.r 6 = q := ⟨_, rfl⟩
 have HA := hide hak
 have CA := hide (show w.drew.cell? ⟨gr, k, none⟩ = some (.int .i64 ak) by rw [((h.later (below_drew (w := w))).setR er k 0 (by have := hk.rl; omega)).2.2.1, hak])
 rw [hak] at a0 a1 E6 DK hq
 rw [hs6] at s0 s1 E6 hq
 rw [hak, hs6]
 clear hak hs6
 have HD := hide ((uh H0).later (below_drew (w := w)))
 have SC := hide ((uh HD).setR (uh ER) 7 ak (by have := uh H8; omega))
 have C0 := hide ((uh HD).rcell (uh ER))
 have C3 := hide (uh SC).2.2.2
 have C4 := hide (show (w.drew.setCell ⟨gr, 7, none⟩ (.int .i64 ak)).cell? ⟨g, 1, none⟩ = some (.slice (some ⟨gr, 0, none⟩) 8 rc) from (uh SC).1.rcell (uh ER))
 have CK := hide (uh SC).2.2.1
 have H1 := hide (uh SC).1
 have F1 := hide ((uh F0).trans ((Fm.of (below_drew (w := w))).trans (uh SC).2.1))
 have T8 := hide (show (t.rg 7 ak).d.r.length = 8 by rw [Ms.rg_len, uh H8])
 clear SC HD H0 F0 H8
 generalize t.rg 7 ak = t1 at H1 E6 DK hq T8 ⊢
 have RD6 := hide (fun v (r : RdM v y t1.d) => readS_any y t1.d s6 v ((uh H1).small (uh DK)) r)
 rw [hq] at RD6
 generalize t1.d.get s6 = u at RD6 ⊢
 clear h hk hq er
 go_enter Tryz.func94, Tryz.ntmps94
 go_wp2_with fail
 refine wp_region_held_drew (S := fun v => v.cell? ⟨g, 1, none⟩ = some (.slice (some ⟨gr, 0, none⟩) 8 rc)) (by kernel_rfl) (uh C0) (fun hS => ?_)
 have HS := hide hS
 clear hS
 refine tkB 0 (.pointer (some ⟨g, 0, none⟩)) rfl (uh HS) ?_
 go_simp
 refine tkB 1 (.pointer (some ⟨g, 0, none⟩)) rfl (uh HS) ?_
 go_simp
 refine tkB 2 (.pointer (some ⟨g, 1, none⟩)) rfl (uh HS) ?_
 go_simp
 refine tkA 3 (.slice (some ⟨gr, 0, none⟩) 8 rc) rfl (.inl ⟨by rfl, fun w hc => ?_⟩) (uh HS) ?_
 · go_simp
 go_simp
 refine tkB 4 (.pointer (some ⟨g, 0, none⟩)) rfl (uh HS) ?_
 go_simp
 refine tkB 5 (.pointer (some ⟨g, 0, none⟩)) rfl (uh HS) ?_
 go_simp
 refine tkB 6 (.pointer (some ⟨g, 1, none⟩)) rfl (uh HS) ?_
 go_simp
 refine tkA 7 (.slice (some ⟨gr, 0, none⟩) 8 rc) rfl (.inl ⟨by rfl, fun w hc => ?_⟩) (uh HS) ?_
 · go_simp
 go_simp
 refine tkB 8 (.int .i64 (k : Int)) rfl (uh HS) ?_
 go_simp
 refine tkB 9 (.pointer (some ⟨gr, k, none⟩)) rfl (uh HS) ?_
 go_simp
 refine wpAnyH_ready (rs := [10]) (by kernel_rfl) (by simp) ?_
 refine AllReadyH.cons rfl (fun K2 hK => ?_) AllReadyH.nil
 have c2 := uh CA
 go_simp
 clear c2
 refine hK.out _ _ (uh C0) (fun hS => ?_)
 clear HS
 have HS := hide hS
 clear hS hK K2
 refine tkB 11 (.pointer (some ⟨gr, 7, none⟩)) rfl (uh HS) ?_
 go_simp
 refine wpAnyH_ready (rs := [12]) (by kernel_rfl) (by simp) ?_
 refine AllReadyH.cons rfl (fun K2 hK => ?_) AllReadyH.nil
 have c2 := uh C3
 have c3 := uh CK
 go_simp
 clear c2 c3
 refine hK.out _ _ (uh C4) (fun hS => ?_)
 clear HS
 have HS := hide hS
 clear hS hK K2
 refine wpAnyH_done (by kernel_rfl) ?_ _
 clear HS C0 C3 CA CK
 generalize hwd : w.drew.setCell ⟨gr, 7, none⟩ (.int .i64 ak) = w1 at H1 F1 C4
 rw [show (w.setCell ⟨gr, 7, none⟩ (.int .i64 ak)).drew = w1 from hwd]
 clear hwd
 clear C4
 have HE := hide ((uh H1).later (below_drew (w := w1)))
 have F2 := hide ((uh F1).trans (Fm.of (below_drew (w := w1))))
 have C6 := hide (show w1.drew.cell? ⟨gr, 6, none⟩ = some (.int .i64 s6) by rw [((uh HE).setR (uh ER) 6 0 (by have := uh T8; omega)).2.2.1, uh E6])
 have C1 := hide ((uh HE).rcell (uh ER))
 clear H1 F1
 go_wp2_with fail
 refine wp_region_held_drew (S := fun v => v.heap[g]? = some (.cells y.cs 26 (0, 0)) ∧ v.cell? ⟨g, 1, none⟩ = some (.slice (some ⟨gr, 0, none⟩) 8 rc) ∧ v.cell? ⟨gr, 6, none⟩ = some (.int .i64 s6)) (by kernel_rfl) (⟨(uh HE).row, uh C1, uh C6⟩) (fun hS => ?_)
 have HS := hide hS
 clear hS
 generalize w1.drew = wd at HE F2 C6 C1 HS ⊢
 refine tkB 0 (.pointer (some ⟨g, 0, none⟩)) rfl (uh HS) ?_
 go_simp
 refine tkB 1 (.pointer (some ⟨g, 0, none⟩)) rfl (uh HS) ?_
 go_simp
 refine tkA 2 (.agg y.cs) rfl (yields_load rfl 26 _ rfl g rfl 26 y.cs _ (fun w h => h.1) Tryz.underlying26 rfl (by kernel_rfl)) (uh HS) ?_
 go_simp
 refine tkB 3 (.pointer (some ⟨g, 0, none⟩)) rfl (uh HS) ?_
 go_simp
 refine tkB 4 (.pointer (some ⟨g, 0, none⟩)) rfl (uh HS) ?_
 go_simp
 refine tkB 5 (.pointer (some ⟨g, 1, none⟩)) rfl (uh HS) ?_
 go_simp
 refine tkA 6 (.slice (some ⟨gr, 0, none⟩) 8 rc) rfl (.inl ⟨by rfl, fun w hc => ?_⟩) (uh HS) ?_
 · obtain ⟨h1, h2, h3⟩ := hc; clear h1; go_simp
 go_simp
 refine tkB 7 (.pointer (some ⟨gr, 6, none⟩)) rfl (uh HS) ?_
 go_simp
 refine tkA 8 (.int .i64 s6) rfl (.inl ⟨by rfl, fun w hc => ?_⟩) (uh HS) ?_
 · obtain ⟨h1, h2, h3⟩ := hc; clear h1; go_simp
 go_simp
 refine wpAnyH_ready (rs := [9]) (by kernel_rfl) (by simp) ?_
 refine AllReadyH.cons rfl (fun K2 hK => ?_) AllReadyH.nil
 go_simp
 refine (uh RD6 wd (uh HE).own.rd).mono ?_
 rintro e w2 ⟨rfl, hb⟩
 have H2 := hide ((uh HE).later hb)
 have F3 := hide ((uh F2).trans (Fm.of hb))
 have C7 := hide (show w2.cell? ⟨gr, 6, none⟩ = some (.int .i64 s6) by rw [((uh H2).setR (uh ER) 6 0 (by have := uh T8; omega)).2.2.1, uh E6])
 refine hK.out _ _ ⟨(uh H2).row, (uh H2).rcell (uh ER), uh C7⟩ (fun hS => ?_)
 clear HS
 have HS := hide hS
 clear hS hK K2 hb RD6 HE F2 C6 C1
 refine tkB 10 (.tuple #[.int .i64 u, .bool true]) rfl (uh HS) ?_
 go_simp
 refine tkB 11 (.int .i64 u) rfl (uh HS) ?_
 go_simp
 refine tkB 12 (.bool true) rfl (uh HS) ?_
 go_simp
 refine tkB 13 (.int .i64 u) rfl (uh HS) ?_
 go_simp
 refine tkB 14 (.bool true) rfl (uh HS) ?_
 go_simp
 refine wpAnyH_done (by kernel_rfl) ?_ _
 clear HS
 have WR := hide (fun v => wrapS_any (s6 + 2) v)
 have HW := hide (show IntKind.i64.wrap (s6 + 2) = s6 + 2 by rw [IntKind.wrap_i64]; omega)
 have HD := hide ((uh H2).later (below_drew (w := w2)))
 have SC := hide ((uh HD).setR (uh ER) 6 ((s6 + 2) % 65536) (by have := uh T8; omega))
 have C0 := hide ((uh HD).rcell (uh ER))
 have C3 := hide (uh SC).2.2.2
 have C4 := hide (show (w2.drew.setCell ⟨gr, 6, none⟩ (.int .i64 ((s6 + 2) % 65536))).cell? ⟨g, 1, none⟩ = some (.slice (some ⟨gr, 0, none⟩) 8 rc) from (uh SC).1.rcell (uh ER))
 have CK := hide (uh SC).2.2.1
 have H4 := hide (uh SC).1
 have F4 := hide ((uh F3).trans ((Fm.of (below_drew (w := w2))).trans (uh SC).2.1))
 rw [uh E6] at CK
 have L4 := hide (show (t1.rg 6 ((s6 + 2) % 65536)).d.r.length = 8 by rw [Ms.rg_len, uh T8])
 have HQ6 := hide (show ∃ q, (s6 + 2) % 65536 = q from ⟨_, rfl⟩)
 obtain ⟨X, hX⟩ := uh HQ6
 have HX := hide hX
 rw [hX] at C4 H4 F4 L4 WR
 clear hX HQ6 SC HD H2 F3 C7
 go_wp2_with fail
 refine wp_region_held_drew (S := fun v => v.cell? ⟨g, 1, none⟩ = some (.slice (some ⟨gr, 0, none⟩) 8 rc)) (by kernel_rfl) (uh C0) (fun hS => ?_)
 have HS := hide hS
 clear hS
 refine tkB 0 (.pointer (some ⟨g, 0, none⟩)) rfl (uh HS) ?_
 go_simp
 refine tkB 1 (.pointer (some ⟨g, 0, none⟩)) rfl (uh HS) ?_
 go_simp
 refine tkB 2 (.pointer (some ⟨g, 1, none⟩)) rfl (uh HS) ?_
 go_simp
 refine tkA 3 (.slice (some ⟨gr, 0, none⟩) 8 rc) rfl (.inl ⟨by rfl, fun w hc => ?_⟩) (uh HS) ?_
 · go_simp
 go_simp
 refine tkB 4 (.pointer (some ⟨g, 0, none⟩)) rfl (uh HS) ?_
 go_simp
 refine tkB 5 (.pointer (some ⟨g, 0, none⟩)) rfl (uh HS) ?_
 go_simp
 refine tkB 6 (.pointer (some ⟨g, 1, none⟩)) rfl (uh HS) ?_
 go_simp
 refine tkA 7 (.slice (some ⟨gr, 0, none⟩) 8 rc) rfl (.inl ⟨by rfl, fun w hc => ?_⟩) (uh HS) ?_
 · go_simp
 go_simp
 refine tkB 8 (.pointer (some ⟨gr, 6, none⟩)) rfl (uh HS) ?_
 go_simp
 refine wpAnyH_ready (rs := [9]) (by kernel_rfl) (by simp) ?_
 refine AllReadyH.cons rfl (fun K2 hK => ?_) AllReadyH.nil
 have c2 := uh CK
 go_simp
 clear c2
 refine hK.out _ _ (uh C0) (fun hS => ?_)
 clear HS
 have HS := hide hS
 clear hS hK K2
 refine tkA 10 (.int .i64 (s6 + 2)) rfl (.inl ⟨by rfl, fun w hc => ?_⟩) (uh HS) ?_
 · clear hc; have hw := uh HW; go_simp
 go_simp
 refine wpAnyH_ready (rs := [11]) (by kernel_rfl) (by simp) ?_
 refine AllReadyH.cons rfl (fun K2 hK => ?_) AllReadyH.nil
 go_simp
 refine (uh WR _).mono ?_
 rintro e w' ⟨rfl, hw'⟩
 rw [hw']
 clear hw' w'
 refine hK.out _ _ (uh C0) (fun hS => ?_)
 clear HS
 have HS := hide hS
 clear hS hK K2
 refine tkB 12 (.pointer (some ⟨gr, 6, none⟩)) rfl (uh HS) ?_
 go_simp
 refine wpAnyH_ready (rs := [13]) (by kernel_rfl) (by simp) ?_
 refine AllReadyH.cons rfl (fun K2 hK => ?_) AllReadyH.nil
 have c2 := uh C3
 have c3 := uh CK
 go_simp
 clear c2 c3
 refine hK.out _ _ (uh C4) (fun hS => ?_)
 clear HS
 have HS := hide hS
 clear hS hK K2
 refine wpAnyH_done (by kernel_rfl) ?_ _
 clear HS C0 C3 CK
 generalize hwd : w2.drew.setCell ⟨gr, 6, none⟩ (.int .i64 X) = w4 at H4 F4 C4
 rw [show (w2.setCell ⟨gr, 6, none⟩ (.int .i64 X)).drew = w4 from hwd]
 clear hwd
 have c1 := uh C4
 have SK := hide ((uh H4).setR (uh ER) k u (by have := uh L4; omega))
 have c2 := (uh SK).2.2.1
 have c3 := (uh SK).2.2.2
 have H5 := hide (uh SK).1
 have F5 := hide ((uh F4).trans (uh SK).2.1)
 clear SK
 go_wp2_with fail
 go_ret
 refine ⟨rfl, fun _ => ?_, uh F5⟩
 rw [uh HX]
 exact uh H5
theorem back_any (B g k : Nat) (y : Mv) (t : Ms) (st : Int) (w : World) (h : Sm w B g y t st) (hk : Dk t.d) (hr : k < 8) : BkIs B g y t (t.back k) st k ((t.back1 k).d.has (nAt t.d.r 6)) w := by
 obtain ⟨q, hq⟩ : ∃ q, (t.back1 k).d.has (nAt t.d.r 6) = q := ⟨_, rfl⟩
 rw [hq]
 cases q
 · exact back_false B g k y t st w h hk hr hq
 · exact back_true B g k y t st w h hk hr hq
def GoesIs (k : Nat) (q : Ms → Bool) : Prop := ∀ (g B gr rc : Nat) (y : Mv) (t : Ms) (st : Int) (m0 : List Int) (w : World), Pz w g B gr rc y t st m0 → Calls Tryz.prog k #[.pointer (some ⟨g, 0, none⟩)] w fun e w' => e = .returned (.bool (q t)) ∧ Below w.heap.size w w' 
theorem goes_always : GoesIs 79 (fun _ => true) := by
 intro g B gr rc y t st m0 w h
 clear h
 go_enter Tryz.func79, Tryz.ntmps79
 go_wp2
 go_ret
 exact ⟨rfl, Below.refl _ _⟩
theorem goes_notZero : GoesIs 80 (fun t => !t.z) := by
 intro g B gr rc y t st m0 w h
 obtain ⟨tn, tz, tv, -, -⟩ := h.flz
 simp only [tz]
 have c3 : w.cell? ⟨g, 259, none⟩ = some (.bool y.z) := h.cell 3 _ rfl
 generalize y.z = b3 at c3 ⊢
 clear h
 go_enter Tryz.func80, Tryz.ntmps80
 go_wp2
 go_ret
 exact ⟨rfl, Below.refl _ _⟩
theorem goes_zero : GoesIs 81 (fun t => t.z) := by
 intro g B gr rc y t st m0 w h
 obtain ⟨tn, tz, tv, -, -⟩ := h.flz
 simp only [tz]
 have c3 : w.cell? ⟨g, 259, none⟩ = some (.bool y.z) := h.cell 3 _ rfl
 generalize y.z = b3 at c3 ⊢
 clear h
 go_enter Tryz.func81, Tryz.ntmps81
 go_wp2
 go_ret
 exact ⟨rfl, Below.refl _ _⟩
theorem goes_notLess : GoesIs 82 (fun t => t.n == t.v) := by
 intro g B gr rc y t st m0 w h
 obtain ⟨tn, tz, tv, -, -⟩ := h.flz
 simp only [tn, tv]
 have c2 : w.cell? ⟨g, 258, none⟩ = some (.bool y.n) := h.cell 2 _ rfl
 have c4 : w.cell? ⟨g, 260, none⟩ = some (.bool y.v) := h.cell 4 _ rfl
 generalize y.n = b2 at c2 ⊢
 generalize y.v = b4 at c4 ⊢
 clear h
 go_enter Tryz.func82, Tryz.ntmps82
 go_wp2_with fail
 go_region_held (fun v => v.cell? ⟨g, 258, none⟩ = some (.bool b2) ∧ v.cell? ⟨g, 260, none⟩ = some (.bool b4)) (go_keep) (fail)
 go_wp2
 go_ret
 exact ⟨by cases b2 <;> cases b4 <;> rfl, below_drew⟩
theorem goes_less : GoesIs 83 (fun t => t.n != t.v) := by
 intro g B gr rc y t st m0 w h
 obtain ⟨tn, tz, tv, -, -⟩ := h.flz
 simp only [tn, tv]
 have c2 : w.cell? ⟨g, 258, none⟩ = some (.bool y.n) := h.cell 2 _ rfl
 have c4 : w.cell? ⟨g, 260, none⟩ = some (.bool y.v) := h.cell 4 _ rfl
 generalize y.n = b2 at c2 ⊢
 generalize y.v = b4 at c4 ⊢
 clear h
 go_enter Tryz.func83, Tryz.ntmps83
 go_wp2_with fail
 go_region_held (fun v => v.cell? ⟨g, 258, none⟩ = some (.bool b2) ∧ v.cell? ⟨g, 260, none⟩ = some (.bool b4)) (go_keep) (fail)
 go_wp2
 go_ret
 exact ⟨by cases b2 <;> cases b4 <;> rfl, below_drew⟩
theorem br_goes (f fb g B gr rc op sm sr dm dr : Nat) (sx dx n : Int) (y : Mv) (t : Ms) (st : Int) (m0 : List Int) (w : World) (q : Ms → Bool) (G : GoesIs f q) (hcf : ∀ vs w, (callFunc f vs).run Tryz.prog w = .ok (.enter f vs) w) (h : Pz w g B gr rc y t st m0) (hk : Dk t.d) (hn : -1000 ≤ n ∧ n ≤ 1000) (hb : Bx w fb f 93) :
  Calls Tryz.prog 116 #[.pointer (some ⟨g, 0, none⟩), .agg #[.int .i64 (op : Int), .int .i64 (sm : Int), .int .i64 (sr : Int), .int .i64 sx, .int .i64 (dm : Int), .int .i64 (dr : Int), .int .i64 dx, .int .i64 n], .pointer (some ⟨fb, 0, none⟩)] w fun e w' => e = .returned (.bool true) ∧ Pz w' g B gr rc y (if q t = true then t.rg 7 ((nAt t.d.r 7 + 2 * n) % 65536) else t) st m0 ∧ Fm w w' g y y := by
 have GL := hide h.gl
 have YL := hide (fun b (hb : y.at b) => h.yl hb)
 have H1 := hide (h.later (below_new w (Obj.cells #[.int .i64 (op : Int), .int .i64 (sm : Int), .int .i64 (sr : Int), .int .i64 sx, .int .i64 (dm : Int), .int .i64 (dr : Int), .int .i64 dx, .int .i64 n] 69)))
 have F1 := hide (Fm.of (g := g) (y := y) (below_new w (Obj.cells #[.int .i64 (op : Int), .int .i64 (sm : Int), .int .i64 (sr : Int), .int .i64 sx, .int .i64 (dm : Int), .int .i64 (dr : Int), .int .i64 dx, .int .i64 n] 69)))
 have R1 := hide (heap_alloc_last w (Obj.cells #[.int .i64 (op : Int), .int .i64 (sm : Int), .int .i64 (sr : Int), .int .i64 sx, .int .i64 (dm : Int), .int .i64 (dr : Int), .int .i64 dx, .int .i64 n] 69))
 have CF : (w.alloc (Obj.cells #[.int .i64 (op : Int), .int .i64 (sm : Int), .int .i64 (sr : Int), .int .i64 sx, .int .i64 (dm : Int), .int .i64 (dr : Int), .int .i64 dx, .int .i64 n] 69)).cell? ⟨fb, 0, none⟩ = some (.func (.func f) #[] #[]) := (cell_of_row _ fb 0 _ 93 _ (hb.later (below_new w (Obj.cells #[.int .i64 (op : Int), .int .i64 (sm : Int), .int .i64 (sr : Int), .int .i64 sx, .int .i64 (dm : Int), .int .i64 (dr : Int), .int .i64 dx, .int .i64 n] 69)))).trans rfl
 have GO := hide (G g B gr rc y t st m0 _ (uh H1))
 have DK := hide hk
 obtain ⟨n0, n1⟩ := hn
 obtain ⟨v0, v1⟩ := hk.rw _ (nAt_mem (show 7 < t.d.r.length by have := hk.rl; omega))
 generalize q t = go at GO ⊢
 clear h hk hb
 cases go
 ·
  go_enter Tryz.func116, Tryz.ntmps116
  go_wp2_with fail
  refine (uh GO).mono ?_
  rintro e w2 ⟨rfl, b2⟩
  have H2 := hide ((uh H1).later b2)
  have F2 := hide ((uh F1).trans (Fm.of b2))
  clear b2
  go_wp2
  go_ret
  exact ⟨rfl, uh H2, uh F2⟩
 ·
  have WR := hide (fun v => wrapI_any (nAt t.d.r 7 + 2 * n) v)
  have SR := hide (fun v (p : Pz v g B gr rc y t st m0) => p.setR 7 ((nAt t.d.r 7 + 2 * n) % 65536) (by omega))
  simp only [if_true]
  generalize (nAt t.d.r 7 + 2 * n) % 65536 = x at WR SR ⊢
  generalize t.rg 7 x = t2 at SR ⊢
  generalize nAt t.d.r 7 = v7 at WR SR v0 v1
  have hw : IntKind.i64.wrap (v7 + 2 * n) = v7 + 2 * n := by rw [IntKind.wrap_i64]; omega
  have hw2 : IntKind.i64.wrap (2 * n) = 2 * n := by rw [IntKind.wrap_i64]; omega
  go_enter Tryz.func116, Tryz.ntmps116
  go_wp2_with fail
  refine (uh GO).mono ?_
  rintro e w2 ⟨rfl, b2⟩
  have H2 := hide ((uh H1).later b2)
  have F2 := hide ((uh F1).trans (Fm.of b2))
  have R2 := row_lat (uh R1) b2
  have H3 := hide ((uh H2).later (below_drew (w := w2)))
  have F3 := hide ((uh F2).trans (Fm.of (below_drew (w := w2))))
  have c1 := (uh H3).cr
  have c2 := insR 7 _ (row_lat R2 (below_drew (w := w2))) rfl
  obtain ⟨p4, f4, c3, c4⟩ := uh SR _ (uh H3)
  have H4 := hide p4
  have F4 := hide ((uh F3).trans f4)
  clear b2 R2 p4 f4 CF GO SR H2 F2 H3 F3
  go_wp2_with fail
  refine wp_region_last (fun v => v = w2.drew) 18 (by kernel_rfl) ?_
  generalize w2.drew = wd at H4 F4 c1 c2 c3 c4 ⊢
  refine twB 0 (.pointer (some ⟨g, 0, none⟩)) rfl (.inl rfl) ?_
  go_simp
  refine twB 1 (.pointer (some ⟨g, 0, none⟩)) rfl (.inl rfl) ?_
  go_simp
  refine twB 2 (.pointer (some ⟨g, 256, none⟩)) rfl (.inl rfl) ?_
  go_simp
  refine twB 3 (.pointer (some ⟨g, 257, none⟩)) rfl (.inl rfl) ?_
  go_simp
  refine tsA 4 (.slice (some ⟨gr, 0, none⟩) 8 rc) rfl (.inl ⟨by rfl, fun w hc => ?_⟩) (rfl) ?_
  · rw [hc]; clear hc; go_simp
  go_simp
  refine twB 5 (.pointer (some ⟨g, 0, none⟩)) rfl (.inl rfl) ?_
  go_simp
  refine twB 6 (.pointer (some ⟨g, 0, none⟩)) rfl (.inl rfl) ?_
  go_simp
  refine twB 7 (.pointer (some ⟨g, 256, none⟩)) rfl (.inl rfl) ?_
  go_simp
  refine twB 8 (.pointer (some ⟨g, 257, none⟩)) rfl (.inl rfl) ?_
  go_simp
  refine tsA 9 (.slice (some ⟨gr, 0, none⟩) 8 rc) rfl (.inl ⟨by rfl, fun w hc => ?_⟩) (rfl) ?_
  · rw [hc]; clear hc; go_simp
  go_simp
  refine twB 10 (.pointer (some ⟨gr, 7, none⟩)) rfl (.inl rfl) ?_
  go_simp
  refine tsA 11 (.int .i64 v7) rfl (.inl ⟨by rfl, fun w hc => ?_⟩) (rfl) ?_
  · rw [hc]; clear hc; go_simp
  go_simp
  refine twB 12 (.pointer (some ⟨w.heap.size, 7, none⟩)) rfl (.inl rfl) ?_
  go_simp
  refine tsA 13 (.int .i64 n) rfl (.inl ⟨by rfl, fun w hc => ?_⟩) (rfl) ?_
  · rw [hc]; clear hc; go_simp
  go_simp
  refine twB 14 (.int .i64 (2 * n)) rfl (.inl rfl) ?_
  go_simp
  refine twB 15 (.int .i64 (v7 + 2 * n)) rfl (.inl rfl) ?_
  go_simp
  refine wpAnyL_one (i := 16) (by kernel_rfl) rfl (fun K2 hK => ?_)
  go_simp
  refine (uh WR _).mono ?_
  rintro e w9 ⟨rfl, hw9⟩
  rw [hw9]
  clear hw9 w9
  refine hK.out _ _ (fun _ => rfl) ?_
  clear hK K2
  refine twB 17 (.pointer (some ⟨gr, 7, none⟩)) rfl (.inl rfl) ?_
  go_simp
  refine wpAnyL_one (i := 18) (by kernel_rfl) rfl (fun K2 hK => ?_)
  go_simp
  refine hK.out _ _ (fun h => absurd h (by decide)) ?_
  clear hK K2
  refine wpAnyL_done (by kernel_rfl) ?_ _
  go_wp2
  go_ret
  exact ⟨rfl, uh H4, uh F4⟩
theorem Ms.rg_same (t : Ms) (k : Nat) (v : Int) (h : k < t.d.r.length) : nAt (t.rg k v).d.r k = v := by
 unfold Ms.rg Md.reg nAt
 simp [List.getElem?_set, h]
theorem dk_stM {t : Ms} (h : Dk t.d) (r p n : Int) : Dk (t.st r p n).d := by
 unfold Ms.st
 exact dk_stS h r p n
theorem put7_st (B g : Nat) (y : Mv) (t : Ms) (st r a n : Int) (w : World) (h : Sm w B g y t st) (hk : Dk t.d) :
  Calls Tryz.prog 124 #[.pointer (some ⟨g, 0, none⟩), .agg #[.int .i64 r, .int .i64 a], .int .i64 n] w fun e w' => e = .returned (.bool (t.d.ldB r a)) ∧ ∃ y', Sm w' B g y' (t.st r a n) st ∧ Fm w w' g y y' := by
 unfold Ms.st
 exact put7_any B g y t st r a n w h hk
def Ms.go1 (t : Ms) : Ms := t.rg 6 ((nAt t.d.r 6 - 2) % 65536)
def Ms.go2 (t : Ms) (k : Nat) : Ms := t.go1.st (-1) ((nAt t.d.r 6 - 2) % 65536) (nAt t.go1.d.r k)
def Ms.go3 (t : Ms) (k : Nat) : Ms := (t.go2 k).rg k (nAt (t.go2 k).d.r 7)
def Ms.call (t : Ms) (k : Nat) (qa : Int) : Ms := (t.go3 k).rg 7 qa
def GoIs (B g : Nat) (y : Mv) (t t2 : Ms) (st qr qa n : Int) (ok : Bool) (w : World) : Prop :=
 Calls Tryz.prog 92 #[.pointer (some ⟨g, 0, none⟩), .agg #[.int .i64 qr, .int .i64 qa], .int .i64 n] w fun e w' => e = .returned (.bool ok) ∧ ∃ y', (ok = true → Sm w' B g y' t2 st) ∧ Fm w w' g y y'
theorem go_no (B g : Nat) (y : Mv) (t t2 : Ms) (st qr qa n : Int) (w : World) (h : Sm w B g y t st) (hq : qr ≠ -1) : GoIs B g y t t2 st qr qa n false w := by
 have b0 := row2S_0 (heap_alloc_last w (Obj.cells #[.int .i64 qr, .int .i64 qa] 97))
 have F0 := hide (Fm.of (g := g) (y := y) (below_new w (Obj.cells #[.int .i64 qr, .int .i64 qa] 97)))
 unfold GoIs
 clear h
 go_enter Tryz.func92, Tryz.ntmps92
 go_wp2
 go_ret
 exact ⟨rfl, y, fun h => Bool.noConfusion h, uh F0⟩
theorem go_j (B g : Nat) (y : Mv) (t : Ms) (st qa : Int) (w : World) (h : Sm w B g y t st) (hk : Dk t.d) : GoIs B g y t (t.rg 7 qa) st (-1) qa (-1) true w := by
 have GL := hide (show g < w.heap.size from row_lt h.row)
 have YQ := hide (show ¬ y.at w.heap.size from fun e => by have := (h.own.lo e).2; omega)
 have H0 := hide (h.later (below_new w (Obj.cells #[.int .i64 (-1), .int .i64 qa] 97)))
 have F0 := hide (Fm.of (g := g) (y := y) (below_new w (Obj.cells #[.int .i64 (-1), .int .i64 qa] 97)))
 have R0 := hide (heap_alloc_last w (Obj.cells #[.int .i64 (-1), .int .i64 qa] 97))
 have b0 := row2S_0 (heap_alloc_last w (Obj.cells #[.int .i64 (-1), .int .i64 qa] 97))
 have H8 := hide hk.rl
 obtain ⟨gr, rc, er⟩ := h.regs hk.rl
 have ER := hide er
 unfold GoIs
 clear h hk er
 go_enter Tryz.func92, Tryz.ntmps92
 have HE := hide ((uh H0).later (below_drew (w := (w.alloc (Obj.cells #[.int .i64 (-1), .int .i64 qa] 97)))))
 have FE := hide ((uh F0).trans (Fm.of (below_drew (w := (w.alloc (Obj.cells #[.int .i64 (-1), .int .i64 qa] 97))))))
 have RE := hide (row_lat (uh R0) (below_drew (w := (w.alloc (Obj.cells #[.int .i64 (-1), .int .i64 qa] 97)))))
 have c1 := (uh HE).rcell (uh ER)
 have c2 := row2S_1 (uh RE)
 obtain ⟨h9, f9, c3, c4⟩ := (uh HE).setR (uh ER) 7 qa (by have := uh H8; omega)
 have H9 := hide h9
 have F9 := hide ((uh FE).trans f9)
 clear h9 f9
 go_wp2_with fail
 refine wp_region_last (fun v => v = (w.alloc (Obj.cells #[.int .i64 (-1), .int .i64 qa] 97)).drew) 7 (by kernel_rfl) ?_
 generalize (w.alloc (Obj.cells #[.int .i64 (-1), .int .i64 qa] 97)).drew = we at HE FE RE H9 F9 c1 c2 c3 c4 ⊢
 refine tvB 0 (.pointer (some ⟨g, 0, none⟩)) rfl (.inl rfl) ?_
 go_simp
 refine tvB 1 (.pointer (some ⟨g, 0, none⟩)) rfl (.inl rfl) ?_
 go_simp
 refine tvB 2 (.pointer (some ⟨g, 1, none⟩)) rfl (.inl rfl) ?_
 go_simp
 refine ttA 3 (.slice (some ⟨gr, 0, none⟩) 8 rc) rfl (.inl ⟨by rfl, fun w hc => ?_⟩) (rfl) ?_
 · rw [hc]; clear hc; go_simp
 go_simp
 refine tvB 4 (.pointer (some ⟨w.heap.size, 1, none⟩)) rfl (.inl rfl) ?_
 go_simp
 refine ttA 5 (.int .i64 qa) rfl (.inl ⟨by rfl, fun w hc => ?_⟩) (rfl) ?_
 · rw [hc]; clear hc; go_simp
 go_simp
 refine tvB 6 (.pointer (some ⟨gr, 7, none⟩)) rfl (.inl rfl) ?_
 go_simp
 refine wpAnyL_one (i := 7) (by kernel_rfl) rfl (fun K2 hK => ?_)
 go_simp
 refine hK.out _ _ (fun h => absurd h (by decide)) ?_
 clear hK K2
 refine wpAnyL_done (by kernel_rfl) ?_ _
 generalize we.setCell ⟨gr, 7, none⟩ (.int .i64 qa) = w9 at H9 F9 ⊢
 go_wp2
 go_ret
 exact ⟨rfl, _, fun _ => uh H9, uh F9⟩
theorem go_any (B g k : Nat) (y : Mv) (t : Ms) (st qa : Int) (w : World) (h : Sm w B g y t st) (hk : Dk t.d) (hr : k < 8) : GoIs B g y t (t.call k qa) st (-1) qa k (t.go1.d.ldB (-1) ((nAt t.d.r 6 - 2) % 65536)) w := by
 have GL := hide (show g < w.heap.size from row_lt h.row)
 have YQ := hide (show ¬ y.at w.heap.size from fun e => by have := (h.own.lo e).2; omega)
 have H0 := hide (h.later (below_new w (Obj.cells #[.int .i64 (-1), .int .i64 qa] 97)))
 have F0 := hide (Fm.of (g := g) (y := y) (below_new w (Obj.cells #[.int .i64 (-1), .int .i64 qa] 97)))
 have R0 := hide (heap_alloc_last w (Obj.cells #[.int .i64 (-1), .int .i64 qa] 97))
 have b0 := row2S_0 (heap_alloc_last w (Obj.cells #[.int .i64 (-1), .int .i64 qa] 97))
 have H8 := hide hk.rl
 obtain ⟨gr, rc, er⟩ := h.regs hk.rl
 have ER := hide er
 have kr : (k : Int) < 8 := by omega
 have kn : ¬ (8 : Int) ≤ (k : Int) := by omega
 have k0 : (0 : Int) ≤ (k : Int) := by omega
 obtain ⟨s0, s1⟩ := hk.rw _ (nAt_mem (show 6 < t.d.r.length by have := hk.rl; omega))
 have D1 := hide (show Dk t.go1.d from hk.rgk 6 ((nAt t.d.r 6 - 2) % 65536) (by omega) (by omega))
 have E6 := hide (show nAt t.go1.d.r 6 = (nAt t.d.r 6 - 2) % 65536 from t.rg_same 6 ((nAt t.d.r 6 - 2) % 65536) (by have := hk.rl; omega))
 have WR := hide (fun v => wrapS_any (nAt t.d.r 6 - 2) v)
 have HW := hide (show IntKind.i64.wrap (nAt t.d.r 6 - 2) = nAt t.d.r 6 - 2 by rw [IntKind.wrap_i64]; omega)
 have SR := hide (show ∀ v, Sm v B g y t st → v.cell? ⟨g, 1, none⟩ = some (.slice (some ⟨gr, 0, none⟩) 8 rc) ∧ Sm (v.setCell ⟨gr, 6, none⟩ (.int .i64 ((nAt t.d.r 6 - 2) % 65536))) B g y t.go1 st ∧ Fm v (v.setCell ⟨gr, 6, none⟩ (.int .i64 ((nAt t.d.r 6 - 2) % 65536))) g y y ∧ v.cell? ⟨gr, 6, none⟩ = some (.int .i64 (nAt t.d.r 6)) ∧ v.frozen? ⟨gr, 6, none⟩ = false from fun v p => And.intro (p.rcell er) (p.setR er 6 ((nAt t.d.r 6 - 2) % 65536) (by have := hk.rl; omega)))
 have D2 := hide (show Dk (t.go2 k).d from dk_stM (uh D1) _ _ _)
 have PT := hide (fun v (p : Sm v B g y t.go1 st) => put7_st B g y t.go1 st (-1) ((nAt t.d.r 6 - 2) % 65536) (nAt t.go1.d.r k) v p (uh D1))
 rw [← show t.go2 k = t.go1.st (-1) ((nAt t.d.r 6 - 2) % 65536) (nAt t.go1.d.r k) from rfl] at PT
 have AR := hide (fun v (p : Sm v B g y t.go1 st) => And.intro (p.rcell er) (And.intro ((p.setR er 6 0 (by have := (uh D1).rl; omega)).2.2.1) ((p.setR er k 0 (by have := (uh D1).rl; omega)).2.2.1)))
 rw [uh E6] at AR
 unfold GoIs Ms.call Ms.go3
 generalize t.go2 k = t2 at PT D2 ⊢
 generalize t.go1.d.ldB (-1) ((nAt t.d.r 6 - 2) % 65536) = lb at PT ⊢
 generalize nAt t.go1.d.r k = vk at PT AR
 generalize t.go1 = t1 at PT AR SR D1 E6
 generalize (nAt t.d.r 6 - 2) % 65536 = a6 at PT AR SR WR
 generalize nAt t.d.r 6 = v6 at SR WR HW
 have L2 := hide (uh D2).rl
 clear h hk er s0 s1 D1 D2 E6
 have HD := hide ((uh H0).later (below_drew (w := (w.alloc (Obj.cells #[.int .i64 (-1), .int .i64 qa] 97)))))
 have FD := hide ((uh F0).trans (Fm.of (below_drew (w := (w.alloc (Obj.cells #[.int .i64 (-1), .int .i64 qa] 97))))))
 have RD := hide (row_lat (uh R0) (below_drew (w := (w.alloc (Obj.cells #[.int .i64 (-1), .int .i64 qa] 97)))))
 obtain ⟨c1, h1, f1, c3, c4⟩ := uh SR _ (uh HD)
 have H1 := hide h1
 have F1 := hide ((uh FD).trans f1)
 have R1 := hide (f1.row (uh RD) (by have := uh GL; omega) (uh YQ))
 clear h1 f1 SR
 go_enter Tryz.func92, Tryz.ntmps92
 go_wp2_with fail
 refine wp_region_last (fun v => v = (w.alloc (Obj.cells #[.int .i64 (-1), .int .i64 qa] 97)).drew) 13 (by kernel_rfl) ?_
 generalize (w.alloc (Obj.cells #[.int .i64 (-1), .int .i64 qa] 97)).drew = wd at HD FD RD H1 F1 R1 c1 c3 c4 ⊢
 refine tvB 0 (.pointer (some ⟨g, 0, none⟩)) rfl (.inl rfl) ?_
 go_simp
 refine tvB 1 (.pointer (some ⟨g, 0, none⟩)) rfl (.inl rfl) ?_
 go_simp
 refine tvB 2 (.pointer (some ⟨g, 1, none⟩)) rfl (.inl rfl) ?_
 go_simp
 refine ttA 3 (.slice (some ⟨gr, 0, none⟩) 8 rc) rfl (.inl ⟨by rfl, fun w hc => ?_⟩) (rfl) ?_
 · rw [hc]; clear hc; go_simp
 go_simp
 refine tvB 4 (.pointer (some ⟨g, 0, none⟩)) rfl (.inl rfl) ?_
 go_simp
 refine tvB 5 (.pointer (some ⟨g, 0, none⟩)) rfl (.inl rfl) ?_
 go_simp
 refine tvB 6 (.pointer (some ⟨g, 1, none⟩)) rfl (.inl rfl) ?_
 go_simp
 refine ttA 7 (.slice (some ⟨gr, 0, none⟩) 8 rc) rfl (.inl ⟨by rfl, fun w hc => ?_⟩) (rfl) ?_
 · rw [hc]; clear hc; go_simp
 go_simp
 refine tvB 8 (.pointer (some ⟨gr, 6, none⟩)) rfl (.inl rfl) ?_
 go_simp
 refine ttA 9 (.int .i64 v6) rfl (.inl ⟨by rfl, fun w hc => ?_⟩) (rfl) ?_
 · rw [hc]; clear hc; go_simp
 go_simp
 refine tvA 10 (.int .i64 (v6 - 2)) rfl (.inl ⟨by rfl, fun w hc => ?_⟩) (.inl rfl) ?_
 · clear hc; have hw := uh HW; go_simp
 go_simp
 refine wpAnyL_one (i := 11) (by kernel_rfl) rfl (fun K2 hK => ?_)
 go_simp
 refine (uh WR _).mono ?_
 rintro e w9 ⟨rfl, hw9⟩
 rw [hw9]
 clear hw9 w9
 refine hK.out _ _ (fun _ => rfl) ?_
 clear hK K2
 refine tvB 12 (.pointer (some ⟨gr, 6, none⟩)) rfl (.inl rfl) ?_
 go_simp
 refine wpAnyL_one (i := 13) (by kernel_rfl) rfl (fun K2 hK => ?_)
 go_simp
 refine hK.out _ _ (fun h => absurd h (by decide)) ?_
 clear hK K2
 refine wpAnyL_done (by kernel_rfl) ?_ _
 generalize wd.setCell ⟨gr, 6, none⟩ (.int .i64 a6) = w2 at H1 F1 R1 ⊢
 clear HD FD RD c1 c3 c4 WR HW b0
 have H2 := hide ((uh H1).later (below_drew (w := w2)))
 have F2 := hide ((uh F1).trans (Fm.of (below_drew (w := w2))))
 have R2 := hide (row_lat (uh R1) (below_drew (w := w2)))
 obtain ⟨c1, c2, c3⟩ := uh AR _ (uh H2)
 have PC := hide (uh PT _ (uh H2))
 clear H1 F1 R1 AR PT
 go_wp2_with fail
 refine wp_region_last (fun v => v = w2.drew) 15 (by kernel_rfl) ?_
 generalize w2.drew = we at H2 F2 R2 c1 c2 c3 PC ⊢
 refine tvB 0 (.pointer (some ⟨g, 0, none⟩)) rfl (.inl rfl) ?_
 go_simp
 refine tvB 1 (.pointer (some ⟨g, 0, none⟩)) rfl (.inl rfl) ?_
 go_simp
 refine tvB 2 (.pointer (some ⟨g, 0, none⟩)) rfl (.inl rfl) ?_
 go_simp
 refine tvB 3 (.pointer (some ⟨g, 1, none⟩)) rfl (.inl rfl) ?_
 go_simp
 refine ttA 4 (.slice (some ⟨gr, 0, none⟩) 8 rc) rfl (.inl ⟨by rfl, fun w hc => ?_⟩) (rfl) ?_
 · rw [hc]; clear hc; go_simp
 go_simp
 refine tvB 5 (.pointer (some ⟨gr, 6, none⟩)) rfl (.inl rfl) ?_
 go_simp
 refine ttA 6 (.int .i64 a6) rfl (.inl ⟨by rfl, fun w hc => ?_⟩) (rfl) ?_
 · rw [hc]; clear hc; go_simp
 go_simp
 refine tvB 7 (.agg #[.int .i64 (-1), .int .i64 a6]) rfl (.inl rfl) ?_
 go_simp
 refine tvB 8 (.pointer (some ⟨g, 0, none⟩)) rfl (.inl rfl) ?_
 go_simp
 refine tvB 9 (.pointer (some ⟨g, 0, none⟩)) rfl (.inl rfl) ?_
 go_simp
 refine tvB 10 (.pointer (some ⟨g, 1, none⟩)) rfl (.inl rfl) ?_
 go_simp
 refine ttA 11 (.slice (some ⟨gr, 0, none⟩) 8 rc) rfl (.inl ⟨by rfl, fun w hc => ?_⟩) (rfl) ?_
 · rw [hc]; clear hc; go_simp
 go_simp
 refine tvB 12 (.int .i64 (k : Int)) rfl (.inl rfl) ?_
 go_simp
 refine tvB 13 (.pointer (some ⟨gr, k, none⟩)) rfl (.inl rfl) ?_
 go_simp
 refine ttA 14 (.int .i64 vk) rfl (.inl ⟨by rfl, fun w hc => ?_⟩) (rfl) ?_
 · rw [hc]; clear hc; go_simp
 go_simp
 refine wpAnyL_one (i := 15) (by kernel_rfl) rfl (fun K2 hK => ?_)
 go_simp
 refine (uh PC).mono ?_
 rintro e w3 ⟨rfl, y3, h3, f3⟩
 have H3 := hide h3
 have F3 := hide ((uh F2).trans f3)
 have R3 := hide (f3.row (uh R2) (by have := uh GL; omega) (uh YQ))
 have YQ3 := hide (show ¬ y3.at w.heap.size from fun e => (f3.new _ e).elim (uh YQ) (fun l => by have := row_lt (uh R2); omega))
 refine hK.out _ _ (fun h => absurd h (by decide)) ?_
 clear hK K2 h3 f3 PC H2 F2 R2 c1 c2 c3
 refine tvB 16 (.bool (!lb)) rfl (.inr (by decide)) ?_
 go_simp
 refine wpAnyL_done (by kernel_rfl) ?_ _
 cases lb
 ·
  go_wp2
  go_ret
  exact ⟨rfl, y3, fun h => Bool.noConfusion h, uh F3⟩
 obtain ⟨gr2, rc2, er2⟩ := (uh H3).regs (uh L2)
 have ER2 := hide er2
 have H4 := hide ((uh H3).later (below_drew (w := w3)))
 have F4 := hide ((uh F3).trans (Fm.of (below_drew (w := w3))))
 have R4 := hide (row_lat (uh R3) (below_drew (w := w3)))
 have c1 := (uh H4).rcell er2
 have c2 := ((uh H4).setR er2 7 0 (by have := uh L2; omega)).2.2.1
 obtain ⟨h5, f5, c3, c4⟩ := (uh H4).setR er2 k (nAt t2.d.r 7) (by have := uh L2; omega)
 have H5 := hide h5
 have F5 := hide ((uh F4).trans f5)
 have R5 := hide (f5.row (uh R4) (by have := uh GL; omega) (uh YQ3))
 have L5 := hide (show (t2.rg k (nAt t2.d.r 7)).d.r.length = 8 by rw [Ms.rg_len, uh L2])
 obtain ⟨v7, hv7⟩ : ∃ q, nAt t2.d.r 7 = q := ⟨_, rfl⟩
 have V7 := hide hv7
 rw [hv7] at c2 H5 F5 R5 L5
 clear h5 f5 er2 hv7 H3 F3 R3
 go_wp2_with fail
 refine wp_region_last (fun v => v = w3.drew) 12 (by kernel_rfl) ?_
 generalize w3.drew = wf at H4 F4 R4 c1 c2 c3 c4 H5 F5 R5 ⊢
 refine tvB 0 (.pointer (some ⟨g, 0, none⟩)) rfl (.inl rfl) ?_
 go_simp
 refine tvB 1 (.pointer (some ⟨g, 0, none⟩)) rfl (.inl rfl) ?_
 go_simp
 refine tvB 2 (.pointer (some ⟨g, 1, none⟩)) rfl (.inl rfl) ?_
 go_simp
 refine ttA 3 (.slice (some ⟨gr2, 0, none⟩) 8 rc2) rfl (.inl ⟨by rfl, fun w hc => ?_⟩) (rfl) ?_
 · rw [hc]; clear hc; go_simp
 go_simp
 refine tvB 4 (.int .i64 (k : Int)) rfl (.inl rfl) ?_
 go_simp
 refine tvB 5 (.pointer (some ⟨g, 0, none⟩)) rfl (.inl rfl) ?_
 go_simp
 refine tvB 6 (.pointer (some ⟨g, 0, none⟩)) rfl (.inl rfl) ?_
 go_simp
 refine tvB 7 (.pointer (some ⟨g, 1, none⟩)) rfl (.inl rfl) ?_
 go_simp
 refine ttA 8 (.slice (some ⟨gr2, 0, none⟩) 8 rc2) rfl (.inl ⟨by rfl, fun w hc => ?_⟩) (rfl) ?_
 · rw [hc]; clear hc; go_simp
 go_simp
 refine tvB 9 (.pointer (some ⟨gr2, 7, none⟩)) rfl (.inl rfl) ?_
 go_simp
 refine ttA 10 (.int .i64 v7) rfl (.inl ⟨by rfl, fun w hc => ?_⟩) (rfl) ?_
 · rw [hc]; clear hc; go_simp
 go_simp
 refine tvB 11 (.pointer (some ⟨gr2, k, none⟩)) rfl (.inl rfl) ?_
 go_simp
 refine wpAnyL_one (i := 12) (by kernel_rfl) rfl (fun K2 hK => ?_)
 go_simp
 refine hK.out _ _ (fun h => absurd h (by decide)) ?_
 clear hK K2
 refine wpAnyL_done (by kernel_rfl) ?_ _
 generalize wf.setCell ⟨gr2, k, none⟩ (.int .i64 v7) = w5 at H5 F5 R5 ⊢
 clear H4 F4 R4 c1 c2 c3 c4
 have HE := hide ((uh H5).later (below_drew (w := w5)))
 have FE := hide ((uh F5).trans (Fm.of (below_drew (w := w5))))
 have RE := hide (row_lat (uh R5) (below_drew (w := w5)))
 have c1 := (uh HE).rcell (uh ER2)
 have c2 := row2S_1 (uh RE)
 obtain ⟨h9, f9, c3, c4⟩ := (uh HE).setR (uh ER2) 7 qa (by have := uh L5; omega)
 have H9 := hide h9
 have F9 := hide ((uh FE).trans f9)
 clear h9 f9
 go_wp2_with fail
 refine wp_region_last (fun v => v = w5.drew) 7 (by kernel_rfl) ?_
 generalize w5.drew = we at HE FE RE H9 F9 c1 c2 c3 c4 ⊢
 refine tvB 0 (.pointer (some ⟨g, 0, none⟩)) rfl (.inl rfl) ?_
 go_simp
 refine tvB 1 (.pointer (some ⟨g, 0, none⟩)) rfl (.inl rfl) ?_
 go_simp
 refine tvB 2 (.pointer (some ⟨g, 1, none⟩)) rfl (.inl rfl) ?_
 go_simp
 refine ttA 3 (.slice (some ⟨gr2, 0, none⟩) 8 rc2) rfl (.inl ⟨by rfl, fun w hc => ?_⟩) (rfl) ?_
 · rw [hc]; clear hc; go_simp
 go_simp
 refine tvB 4 (.pointer (some ⟨w.heap.size, 1, none⟩)) rfl (.inl rfl) ?_
 go_simp
 refine ttA 5 (.int .i64 qa) rfl (.inl ⟨by rfl, fun w hc => ?_⟩) (rfl) ?_
 · rw [hc]; clear hc; go_simp
 go_simp
 refine tvB 6 (.pointer (some ⟨gr2, 7, none⟩)) rfl (.inl rfl) ?_
 go_simp
 refine wpAnyL_one (i := 7) (by kernel_rfl) rfl (fun K2 hK => ?_)
 go_simp
 refine hK.out _ _ (fun h => absurd h (by decide)) ?_
 clear hK K2
 refine wpAnyL_done (by kernel_rfl) ?_ _
 generalize we.setCell ⟨gr2, 7, none⟩ (.int .i64 qa) = w9 at H9 F9 ⊢
 go_wp2
 go_ret
 first | exact ⟨rfl, _, fun _ => by rw [uh V7]; exact uh H9, uh F9⟩ | exact ⟨rfl, _, by rw [uh V7]; exact uh H9, uh F9⟩
end Go.Proofs.YtjpbjbnialehbaaGreatDoor
