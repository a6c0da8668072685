/- Contracts over this seat's translation, laid together; conditions stand as hypotheses of each. -/
import Derived.Test.YtjpbjbnialehbaaGreatDoorSsP
namespace Go.Proofs.YtjpbjbnialehbaaGreatDoor
open Go.ChangeShapes Go.WideShapes Go.ChangeAt Go.RowKit
set_option maxHeartbeats 16000000
set_option linter.unusedVariables false
set_option maxRecDepth 8000
set_option linter.unusedSimpArgs false
section
theorem bigA_setW {mem : List Int} (y : Mv) (k : Nat) (v : Int) (hm : mem.length = 256) (hk : k < 256) : (bigA mem y).setIfInBounds k (.int .i64 v) = bigA (mem.set k v) y := by
 unfold bigA
 rw [List.setIfInBounds_toArray, List.set_append_left _ _ (by rw [cellsN_length]; omega)]
 congr 2
 unfold cellsN
 rw [List.map_set]
theorem bigA_setF {mem : List Int} (y y' : Mv) (j : Nat) (v : Value) (hm : mem.length = 256) (he : y.cs.setIfInBounds j v = y'.cs) : (bigA mem y).setIfInBounds (256 + j) v = bigA mem y' := by
 unfold bigA
 rw [List.setIfInBounds_toArray, List.set_append_right _ _ (by rw [cellsN_length]; omega), cellsN_length, hm, show 256 + j - 256 = j by omega, ← he]
 congr 2
 simp
structure Pz (w : World) (g B gr rc : Nat) (y : Mv) (t : Ms) (st : Int) (m0 : List Int) : Prop where
 row : w.heap[g]? = some (.cells (bigA t.d.m y) 44 (0, 0))
 len : t.d.m.length = 256
 own : OwnM w B y ⟨m0, t.d.r, t.d.i, t.d.o⟩
 er : y.r = ⟨some ⟨gr, 0, none⟩, 8, rc⟩
 r8 : t.d.r.length = 8
 fl : y.fl = t.fl st
 lo : B ≤ g
 ne : ∀ b, y.at b → b ≠ g
section
variable {w w' : World} {g B gr rc : Nat} {y : Mv} {t : Ms} {st : Int} {m0 : List Int}
theorem Pz.later (h : Pz w g B gr rc y t st m0) (hb : Below w.heap.size w w') : Pz w' g B gr rc y t st m0 := ⟨row_lat h.row hb, h.len, h.own.later hb, h.er, h.r8, h.fl, h.lo, h.ne⟩
theorem Pz.atr (h : Pz w g B gr rc y t st m0) : y.at gr := .inr (.inl (by rw [h.er]; rfl))
theorem Pz.gl (h : Pz w g B gr rc y t st m0) : g < w.heap.size := row_lt h.row
theorem Pz.yl (h : Pz w g B gr rc y t st m0) {b : Nat} (hb : y.at b) : b < w.heap.size := (h.own.lo hb).2
theorem Pz.pg (h : Pz w g B gr rc y t st t.d.m) : Pg w g B gr rc y t.d := ⟨h.row, h.len, h.own, by rw [h.r8]; exact h.er, h.ne _ h.atr⟩
theorem Pz.ofPg {d2 : Md} (h : Pz w g B gr rc y t st t.d.m) (p : Pg w' g B gr rc y d2) : Pz w' g B gr rc y { t with d := d2 } st d2.m :=
 ⟨p.row, p.len, p.own, h.er, by have := p.er; rw [h.er] at this; injection this with _ e _; exact e.symm, h.fl, h.lo, h.ne⟩
theorem Pz.setF (h : Pz w g B gr rc y t st m0) (j : Nat) (v : Value) (y' : Mv) (t' : Ms) (st' : Int) (he : y.cs.setIfInBounds j v = y'.cs) (em : y'.m = y.m) (er : y'.r = y.r) (ei : y'.i = y.i) (eo : y'.o = y.o) (hd : t'.d = t.d) (hf : y'.fl = t'.fl st') :
  Pz (w.setCell ⟨g, 256 + j, none⟩ v) g B gr rc y' t' st' m0 ∧ Fm w (w.setCell ⟨g, 256 + j, none⟩ v) g y y' := by
 have hat : ∀ b, y'.at b → y.at b := fun b hb => by unfold Mv.at at hb ⊢; rw [em, er, ei, eo] at hb; exact hb
 refine ⟨⟨?_, by rw [hd]; exact h.len, ?_, by rw [er]; exact h.er, by rw [hd]; exact h.r8, hf, h.lo, fun b hb => h.ne b (hat b hb)⟩, Fm.grown (grownBy_set (b := g) (o := 256 + j) v) (.inl rfl) hat⟩
 ·
  rw [setCell_eq_setRow w g _ _ 44 (0, 0) _ h.row, bigA_setF y y' j v h.len he, hd]
  exact setRow_heap w g _ _ 44 _ h.row
 ·
  have o2 := h.own.keepH (w' := w.setCell ⟨g, 256 + j, none⟩ v) fun b hb _ => Below.heap_setCell w ⟨g, 256 + j, none⟩ v b (h.ne b hb)
  rw [hd]
  obtain ⟨o1, o3, o4, o5, a1, a2, a3, a4, a5, a6⟩ := o2
  exact ⟨by rw [em]; exact o1, by rw [er]; exact o3, by rw [ei]; exact o4, by rw [eo]; exact o5, by rw [em, er]; exact a1, by rw [em, ei]; exact a2, by rw [em, eo]; exact a3, by rw [er, ei]; exact a4, by rw [er, eo]; exact a5, by rw [ei, eo]; exact a6⟩
theorem Pz.setV (h : Pz w g B gr rc y t st m0) (b : Bool) : Pz (w.setCell ⟨g, 260, none⟩ (.bool b)) g B gr rc { y with v := b } { t with v := b } st m0 ∧ Fm w (w.setCell ⟨g, 260, none⟩ (.bool b)) g y { y with v := b } :=
 h.setF 4 (.bool b) { y with v := b } { t with v := b } st rfl rfl rfl rfl rfl rfl (by have := h.fl; unfold Mv.fl Ms.fl at *; simp at *; exact ⟨this.1, this.2.1, this.2.2.2⟩)
theorem Pz.setC (h : Pz w g B gr rc y t st m0) (b : Bool) : Pz (w.setCell ⟨g, 261, none⟩ (.bool b)) g B gr rc { y with c := b } { t with c := b } st m0 ∧ Fm w (w.setCell ⟨g, 261, none⟩ (.bool b)) g y { y with c := b } :=
 h.setF 5 (.bool b) { y with c := b } { t with c := b } st rfl rfl rfl rfl rfl rfl (by have := h.fl; unfold Mv.fl Ms.fl at *; simp at *; exact ⟨this.1, this.2.1, this.2.2.1, this.2.2.2.2⟩)
theorem Pz.setN (h : Pz w g B gr rc y t st m0) (b : Bool) : Pz (w.setCell ⟨g, 258, none⟩ (.bool b)) g B gr rc { y with n := b } { t with n := b } st m0 ∧ Fm w (w.setCell ⟨g, 258, none⟩ (.bool b)) g y { y with n := b } :=
 h.setF 2 (.bool b) { y with n := b } { t with n := b } st rfl rfl rfl rfl rfl rfl (by have := h.fl; unfold Mv.fl Ms.fl at *; simp at *; exact ⟨this.2.1, this.2.2⟩)
theorem Pz.setZ (h : Pz w g B gr rc y t st m0) (b : Bool) : Pz (w.setCell ⟨g, 259, none⟩ (.bool b)) g B gr rc { y with z := b } { t with z := b } st m0 ∧ Fm w (w.setCell ⟨g, 259, none⟩ (.bool b)) g y { y with z := b } :=
 h.setF 3 (.bool b) { y with z := b } { t with z := b } st rfl rfl rfl rfl rfl rfl (by have := h.fl; unfold Mv.fl Ms.fl at *; simp at *; exact ⟨this.1, this.2.2⟩)
theorem Pz.setS (h : Pz w g B gr rc y t st m0) (s : Int) : Pz (w.setCell ⟨g, 264, none⟩ (.int .i64 s)) g B gr rc { y with st := s } t s m0 ∧ Fm w (w.setCell ⟨g, 264, none⟩ (.int .i64 s)) g y { y with st := s } :=
 h.setF 8 (.int .i64 s) { y with st := s } t s rfl rfl rfl rfl rfl rfl (by have := h.fl; unfold Mv.fl Ms.fl at *; simp at *; exact ⟨this.1, this.2.1, this.2.2.1, this.2.2.2.1⟩)
theorem Pz.cell (h : Pz w g B gr rc y t st m0) (k : Nat) (v : Value) (hv : y.cs[k]? = some v) : w.cell? ⟨g, 256 + k, none⟩ = some v := big_cell h.row h.len k v hv
theorem Pz.fz (h : Pz w g B gr rc y t st m0) (j : Nat) : w.frozen? ⟨g, j, none⟩ = false := by simp [World.frozen?, h.row]
theorem Pz.cr (h : Pz w g B gr rc y t st m0) : w.cell? ⟨g, 257, none⟩ = some (.slice (some ⟨gr, 0, none⟩) 8 rc) := by
 have c := h.cell 1 (.slice y.r.a y.r.n y.r.c) rfl
 rw [h.er] at c
 exact c
theorem Pz.setR (h : Pz w g B gr rc y t st m0) (k : Nat) (v : Int) (hk : k < 8) : Pz (w.setCell ⟨gr, k, none⟩ (.int .i64 v)) g B gr rc y (t.rg k v) st m0 ∧ Fm w (w.setCell ⟨gr, k, none⟩ (.int .i64 v)) g y y ∧ w.cell? ⟨gr, k, none⟩ = some (.int .i64 (nAt t.d.r k)) ∧ w.frozen? ⟨gr, k, none⟩ = false := by
 obtain ⟨o3, g3, _, _, c1, c2⟩ := own_setR h.own (show y.r = ⟨some ⟨gr, 0, none⟩, (Md.mk m0 t.d.r t.d.i t.d.o).r.length, rc⟩ by rw [h.r8]; exact h.er) k v (by rw [h.r8]; exact hk)
 exact ⟨⟨row_past h.row g3 (h.ne _ h.atr), h.len, o3, h.er, by rw [Ms.rg_len]; exact h.r8, h.fl, h.lo, h.ne⟩, Fm.grown g3 (.inr h.atr) (fun k hk => hk), c1, c2⟩
theorem Pz.setM (h : Pz w g B gr rc y t st m0) (k : Nat) (v : Int) (hk : k < 256) : Pz (w.setCell ⟨g, k, none⟩ (.int .i64 v)) g B gr rc y { t with d := ⟨t.d.m.set k v, t.d.r, t.d.i, t.d.o⟩ } st m0 ∧ Fm w (w.setCell ⟨g, k, none⟩ (.int .i64 v)) g y y ∧ w.cell? ⟨g, k, none⟩ = some (.int .i64 (nAt t.d.m k)) ∧ w.frozen? ⟨g, k, none⟩ = false := by
 refine ⟨⟨?_, by simp [h.len], h.own.keepH (w' := w.setCell ⟨g, k, none⟩ (.int .i64 v)) fun b hb _ => Below.heap_setCell w ⟨g, k, none⟩ _ b (h.ne b hb), h.er, h.r8, h.fl, h.lo, h.ne⟩, Fm.grown (grownBy_set (b := g) (o := k) _) (.inl rfl) (fun k hk => hk), ?_, h.fz k⟩
 ·
  rw [setCell_eq_setRow w g _ _ 44 (0, 0) _ h.row, bigA_setW y k v h.len hk]
  exact setRow_heap w g _ _ 44 _ h.row
 · exact (cell_of_row w g k _ 44 _ h.row).trans (bigA_mem y h.len hk)
end
theorem Fm.grownR {w w' : World} {g gr : Nat} {y : Mv} (hg : w.grownBy w' (some gr)) (ha : y.at gr) : Fm w w' g y y := Fm.grown hg (.inr ha) (fun k hk => hk)
end
def sgI (n : Int) : Bool := decide (32768 ≤ n)
theorem hasSign_any (n : Int) (w : World) : Calls Tryz.prog 109 #[.int .i64 n] w fun e w' => e = .returned (.bool (sgI n)) ∧ w' = w := by
 unfold sgI
 go_enter Tryz.func109, Tryz.ntmps109
 go_wp2
 go_ret
 exact ⟨by simp, rfl⟩
def wkR (op : Nat) (s d : Int) : Int := match op with
 | 1 => s
 | 2 => (s - d) % 65536
 | 3 => bits .andNot .i64 d s
 | 4 => bits .or .i64 d s
 | 5 => (s + d) % 65536
 | 6 => (d - s) % 65536
 | 7 => 0
 | 8 => (d + 1) % 65536
 | 9 => (d - 1) % 65536
 | 10 => (-d) % 65536
 | 11 => d
 | 12 => (sgV d / 2) % 65536
 | _ => (2 * d) % 65536
def wkV (op : Nat) (s d : Int) : Bool := match op with
 | 2 => (sgI s != sgI d) && (sgI ((s - d) % 65536) == sgI d)
 | 5 => (sgI s == sgI d) && (sgI ((s + d) % 65536) != sgI s)
 | 6 => (sgI d != sgI s) && (sgI ((d - s) % 65536) == sgI s)
 | 8 => d == 32767
 | 9 => d == 32768
 | 10 => (-d) % 65536 == 32768
 | 12 => sgI ((sgV d / 2) % 65536) != (bits .and .i64 d 1 == 1)
 | 13 => sgI ((2 * d) % 65536) != sgI d
 | _ => false
def wkC (op : Nat) (s d : Int) (c : Bool) : Bool := match op with
 | 2 => decide (s < d)
 | 5 => !inB (s + d) 0 65535
 | 6 => decide (d < s)
 | 7 => false
 | 10 => (-d) % 65536 != 0
 | 11 => false
 | 12 => bits .and .i64 d 1 == 1
 | 13 => sgI d
 | _ => c
def Mv.wk (y : Mv) (op : Nat) (s d : Int) : Mv := { y with v := wkV op s d, c := wkC op s d y.c }
def Ms.wk (t : Ms) (op : Nat) (s d : Int) : Ms := { t with v := wkV op s d, c := wkC op s d t.c }
def WkIs (k op : Nat) : Prop := ∀ (g B gr rc : Nat) (y : Mv) (t : Ms) (st : Int) (m0 : List Int) (s d : Int) (w : World), Pz w g B gr rc y t st m0 → 0 ≤ s → s ≤ 65535 → 0 ≤ d → d ≤ 65535 →
 Calls Tryz.prog k #[.pointer (some ⟨g, 0, none⟩), .int .i64 s, .int .i64 d] w fun e w' => e = .returned (.int .i64 (wkR op s d)) ∧ Pz w' g B gr rc (y.wk op s d) (t.wk op s d) st m0 ∧ Fm w w' g y (y.wk op s d)
theorem Pz.flz {w : World} {g B gr rc : Nat} {y : Mv} {t : Ms} {st : Int} {m0 : List Int} (h : Pz w g B gr rc y t st m0) : t.n = y.n ∧ t.z = y.z ∧ t.v = y.v ∧ t.c = y.c ∧ st = y.st := by
 have := h.fl
 unfold Mv.fl Ms.fl at this
 simp at this
 exact ⟨this.1.symm, this.2.1.symm, this.2.2.1.symm, this.2.2.2.1.symm, this.2.2.2.2.symm⟩
theorem Pz.setVC {w : World} {g B gr rc : Nat} {y : Mv} {t : Ms} {st : Int} {m0 : List Int} (h : Pz w g B gr rc y t st m0) (a b : Bool) : Pz ((w.setCell ⟨g, 260, none⟩ (.bool a)).setCell ⟨g, 261, none⟩ (.bool b)) g B gr rc { y with v := a, c := b } { t with v := a, c := b } st m0 ∧ Fm w ((w.setCell ⟨g, 260, none⟩ (.bool a)).setCell ⟨g, 261, none⟩ (.bool b)) g y { y with v := a, c := b } :=
 ⟨((h.setV a).1.setC b).1, (h.setV a).2.trans ((h.setV a).1.setC b).2⟩
theorem wk_1 : WkIs 61 1 := by
 intro g B gr rc y t st m0 s d w h s0 s1 d0 d1
 have c4 := h.cell 4 _ rfl
 have f4 := h.fz 260
 have c5 := h.cell 5 _ rfl
 have f5 := h.fz 261
 have HT := hide h.flz.2.2.2.1
 have H := hide h
 unfold Mv.wk Ms.wk
 simp only [wkV, wkC, wkR]
 have H2 := hide (((uh H).setV false))
 clear h
 go_enter Tryz.func61, Tryz.ntmps61
 go_wp2
 go_ret
 rw [uh HT]
 have := uh HT
 exact ⟨rfl, by have q := (uh H2).1; rw [show ({ t with v := false } : Ms) = { t with v := false, c := y.c } by rw [← this]] at q; exact q, (uh H2).2⟩
theorem wk_3 : WkIs 64 3 := by
 intro g B gr rc y t st m0 s d w h s0 s1 d0 d1
 have c4 := h.cell 4 _ rfl
 have f4 := h.fz 260
 have c5 := h.cell 5 _ rfl
 have f5 := h.fz 261
 have HT := hide h.flz.2.2.2.1
 have H := hide h
 unfold Mv.wk Ms.wk
 simp only [wkV, wkC, wkR]
 have hq : bits .andNot .i64 d s = bits .andNot .i64 d s := rfl
 clear hq
 have H2 := hide (((uh H).setV false))
 clear h
 go_enter Tryz.func64, Tryz.ntmps64
 go_wp2
 go_ret
 rw [uh HT]
 have := uh HT
 exact ⟨rfl, by have q := (uh H2).1; rw [show ({ t with v := false } : Ms) = { t with v := false, c := y.c } by rw [← this]] at q; exact q, (uh H2).2⟩
theorem wk_4 : WkIs 65 4 := by
 intro g B gr rc y t st m0 s d w h s0 s1 d0 d1
 have c4 := h.cell 4 _ rfl
 have f4 := h.fz 260
 have c5 := h.cell 5 _ rfl
 have f5 := h.fz 261
 have HT := hide h.flz.2.2.2.1
 have H := hide h
 unfold Mv.wk Ms.wk
 simp only [wkV, wkC, wkR]
 have hq : bits .or .i64 d s = bits .or .i64 d s := rfl
 clear hq
 have H2 := hide (((uh H).setV false))
 clear h
 go_enter Tryz.func65, Tryz.ntmps65
 go_wp2
 go_ret
 rw [uh HT]
 have := uh HT
 exact ⟨rfl, by have q := (uh H2).1; rw [show ({ t with v := false } : Ms) = { t with v := false, c := y.c } by rw [← this]] at q; exact q, (uh H2).2⟩
theorem wk_8 : WkIs 69 8 := by
 intro g B gr rc y t st m0 s d w h s0 s1 d0 d1
 have c4 := h.cell 4 _ rfl
 have f4 := h.fz 260
 have c5 := h.cell 5 _ rfl
 have f5 := h.fz 261
 have HT := hide h.flz.2.2.2.1
 have H := hide h
 unfold Mv.wk Ms.wk
 simp only [wkV, wkC, wkR]
 have hw : IntKind.i64.wrap (d + 1) = d + 1 := by rw [IntKind.wrap_i64]; omega
 have WR := hide (fun v => wrapI_any (d + 1) v)
 generalize (d + 1) % 65536 = r at WR ⊢
 have H2 := hide (((uh H).setV (d == 32767)))
 clear h
 go_enter Tryz.func69, Tryz.ntmps69
 go_wp2_with fail
 refine (uh WR _).mono ?_
 rintro e w9 ⟨rfl, hw9⟩
 rw [hw9]
 clear hw9 w9
 go_wp2
 go_ret
 have := uh HT
 exact ⟨rfl, by have q := (uh H2).1; rw [show ({ t with v := (d == 32767) } : Ms) = { t with v := (d == 32767), c := t.c } from rfl] at q; exact q, (uh H2).2⟩
theorem wk_9 : WkIs 70 9 := by
 intro g B gr rc y t st m0 s d w h s0 s1 d0 d1
 have c4 := h.cell 4 _ rfl
 have f4 := h.fz 260
 have c5 := h.cell 5 _ rfl
 have f5 := h.fz 261
 have HT := hide h.flz.2.2.2.1
 have H := hide h
 unfold Mv.wk Ms.wk
 simp only [wkV, wkC, wkR]
 have hw : IntKind.i64.wrap (d - 1) = d - 1 := by rw [IntKind.wrap_i64]; omega
 have WR := hide (fun v => wrapI_any (d - 1) v)
 generalize (d - 1) % 65536 = r at WR ⊢
 have H2 := hide (((uh H).setV (d == 32768)))
 clear h
 go_enter Tryz.func70, Tryz.ntmps70
 go_wp2_with fail
 refine (uh WR _).mono ?_
 rintro e w9 ⟨rfl, hw9⟩
 rw [hw9]
 clear hw9 w9
 go_wp2
 go_ret
 have := uh HT
 exact ⟨rfl, by have q := (uh H2).1; rw [show ({ t with v := (d == 32768) } : Ms) = { t with v := (d == 32768), c := t.c } from rfl] at q; exact q, (uh H2).2⟩
theorem wk_7 : WkIs 68 7 := by
 intro g B gr rc y t st m0 s d w h s0 s1 d0 d1
 have c4 := h.cell 4 _ rfl
 have f4 := h.fz 260
 have c5 := h.cell 5 _ rfl
 have f5 := h.fz 261
 have HT := hide h.flz.2.2.2.1
 have H := hide h
 unfold Mv.wk Ms.wk
 simp only [wkV, wkC, wkR]
 have H2 := hide ((uh H).setVC false false)
 clear h
 go_enter Tryz.func68, Tryz.ntmps68
 go_wp2
 go_ret
 exact ⟨rfl, (uh H2).1, (uh H2).2⟩
theorem wk_11 : WkIs 72 11 := by
 intro g B gr rc y t st m0 s d w h s0 s1 d0 d1
 have c4 := h.cell 4 _ rfl
 have f4 := h.fz 260
 have c5 := h.cell 5 _ rfl
 have f5 := h.fz 261
 have HT := hide h.flz.2.2.2.1
 have H := hide h
 unfold Mv.wk Ms.wk
 simp only [wkV, wkC, wkR]
 have H2 := hide ((uh H).setVC false false)
 clear h
 go_enter Tryz.func72, Tryz.ntmps72
 go_wp2
 go_ret
 exact ⟨rfl, (uh H2).1, (uh H2).2⟩
theorem wk_10 : WkIs 71 10 := by
 intro g B gr rc y t st m0 s d w h s0 s1 d0 d1
 have c4 := h.cell 4 _ rfl
 have f4 := h.fz 260
 have c5 := h.cell 5 _ rfl
 have f5 := h.fz 261
 have H := hide h
 unfold Mv.wk Ms.wk
 simp only [wkV, wkC, wkR]
 have hw : IntKind.i64.wrap (-d) = -d := by rw [IntKind.wrap_i64]; omega
 have WR := hide (fun v => wrapI_any (-d) v)
 generalize (-d) % 65536 = r at WR ⊢
 have H2 := hide ((uh H).setVC (r == 32768) (r != 0))
 clear h
 go_enter Tryz.func71, Tryz.ntmps71
 go_wp2_with fail
 refine (uh WR _).mono ?_
 rintro e w9 ⟨rfl, hw9⟩
 rw [hw9]
 clear hw9 w9
 go_wp2
 go_ret
 exact ⟨rfl, (uh H2).1, (uh H2).2⟩
theorem lessen_any (g B gr rc : Nat) (y : Mv) (t : Ms) (st : Int) (m0 : List Int) (s d : Int) (w : World) (h : Pz w g B gr rc y t st m0) (s0 : 0 ≤ s) (s1 : s ≤ 65535) (d0 : 0 ≤ d) (d1 : d ≤ 65535) :
 Calls Tryz.prog 108 #[.pointer (some ⟨g, 0, none⟩), .int .i64 s, .int .i64 d] w fun e w' => e = .returned (.int .i64 ((s - d) % 65536)) ∧ Pz w' g B gr rc { y with v := ((sgI s != sgI d) && (sgI ((s - d) % 65536) == sgI d)), c := decide (s < d) } { t with v := ((sgI s != sgI d) && (sgI ((s - d) % 65536) == sgI d)), c := decide (s < d) } st m0 ∧ Fm w w' g y { y with v := ((sgI s != sgI d) && (sgI ((s - d) % 65536) == sgI d)), c := decide (s < d) } := by
 have c4 := h.cell 4 _ rfl
 have f4 := h.fz 260
 have c5 := h.cell 5 _ rfl
 have f5 := h.fz 261
 have H := hide h
 have hw : IntKind.i64.wrap (s - d) = s - d := by rw [IntKind.wrap_i64]; omega
 have WR := hide (fun v => wrapI_any (s - d) v)
 have SA := hide (fun v => hasSign_any s v)
 have SB := hide (fun v => hasSign_any d v)
 have SR := hide (fun v => hasSign_any ((s - d) % 65536) v)
 generalize sgI ((s - d) % 65536) = b3 at SR ⊢
 generalize (s - d) % 65536 = r at WR SR ⊢
 generalize sgI s = b1 at SA ⊢
 generalize sgI d = b2 at SB ⊢
 clear h
 cases b1 <;> cases b2 <;> cases b3
 ·
  skip
  have H2 := hide ((uh H).setVC false (decide (s < d)))
  go_enter Tryz.func108, Tryz.ntmps108
  go_wp2_with fail
  refine (uh WR _).mono ?_
  rintro e w9 ⟨rfl, hw9⟩
  rw [hw9]
  clear hw9 w9
  go_wp2_with fail
  refine (uh SA _).mono ?_
  rintro e w9 ⟨rfl, hw9⟩
  rw [hw9]
  clear hw9 w9
  go_wp2_with fail
  refine (uh SB _).mono ?_
  rintro e w9 ⟨rfl, hw9⟩
  rw [hw9]
  clear hw9 w9
  go_wp2
  go_ret
  exact ⟨rfl, (uh H2).1, (uh H2).2⟩
 ·
  skip
  have H2 := hide ((uh H).setVC false (decide (s < d)))
  go_enter Tryz.func108, Tryz.ntmps108
  go_wp2_with fail
  refine (uh WR _).mono ?_
  rintro e w9 ⟨rfl, hw9⟩
  rw [hw9]
  clear hw9 w9
  go_wp2_with fail
  refine (uh SA _).mono ?_
  rintro e w9 ⟨rfl, hw9⟩
  rw [hw9]
  clear hw9 w9
  go_wp2_with fail
  refine (uh SB _).mono ?_
  rintro e w9 ⟨rfl, hw9⟩
  rw [hw9]
  clear hw9 w9
  go_wp2
  go_ret
  exact ⟨rfl, (uh H2).1, (uh H2).2⟩
 ·
  skip
  have H2 := hide ((uh H).setVC false (decide (s < d)))
  go_enter Tryz.func108, Tryz.ntmps108
  go_wp2_with fail
  refine (uh WR _).mono ?_
  rintro e w9 ⟨rfl, hw9⟩
  rw [hw9]
  clear hw9 w9
  go_wp2_with fail
  refine (uh SA _).mono ?_
  rintro e w9 ⟨rfl, hw9⟩
  rw [hw9]
  clear hw9 w9
  go_wp2_with fail
  refine (uh SB _).mono ?_
  rintro e w9 ⟨rfl, hw9⟩
  rw [hw9]
  clear hw9 w9
  go_wp2_with fail
  refine (uh SR _).mono ?_
  rintro e w9 ⟨rfl, hw9⟩
  rw [hw9]
  clear hw9 w9
  go_wp2_with fail
  refine (uh SB _).mono ?_
  rintro e w9 ⟨rfl, hw9⟩
  rw [hw9]
  clear hw9 w9
  go_wp2
  go_ret
  exact ⟨rfl, (uh H2).1, (uh H2).2⟩
 ·
  skip
  have H2 := hide ((uh H).setVC true (decide (s < d)))
  go_enter Tryz.func108, Tryz.ntmps108
  go_wp2_with fail
  refine (uh WR _).mono ?_
  rintro e w9 ⟨rfl, hw9⟩
  rw [hw9]
  clear hw9 w9
  go_wp2_with fail
  refine (uh SA _).mono ?_
  rintro e w9 ⟨rfl, hw9⟩
  rw [hw9]
  clear hw9 w9
  go_wp2_with fail
  refine (uh SB _).mono ?_
  rintro e w9 ⟨rfl, hw9⟩
  rw [hw9]
  clear hw9 w9
  go_wp2_with fail
  refine (uh SR _).mono ?_
  rintro e w9 ⟨rfl, hw9⟩
  rw [hw9]
  clear hw9 w9
  go_wp2_with fail
  refine (uh SB _).mono ?_
  rintro e w9 ⟨rfl, hw9⟩
  rw [hw9]
  clear hw9 w9
  go_wp2
  go_ret
  exact ⟨rfl, (uh H2).1, (uh H2).2⟩
 ·
  skip
  have H2 := hide ((uh H).setVC true (decide (s < d)))
  go_enter Tryz.func108, Tryz.ntmps108
  go_wp2_with fail
  refine (uh WR _).mono ?_
  rintro e w9 ⟨rfl, hw9⟩
  rw [hw9]
  clear hw9 w9
  go_wp2_with fail
  refine (uh SA _).mono ?_
  rintro e w9 ⟨rfl, hw9⟩
  rw [hw9]
  clear hw9 w9
  go_wp2_with fail
  refine (uh SB _).mono ?_
  rintro e w9 ⟨rfl, hw9⟩
  rw [hw9]
  clear hw9 w9
  go_wp2_with fail
  refine (uh SR _).mono ?_
  rintro e w9 ⟨rfl, hw9⟩
  rw [hw9]
  clear hw9 w9
  go_wp2_with fail
  refine (uh SB _).mono ?_
  rintro e w9 ⟨rfl, hw9⟩
  rw [hw9]
  clear hw9 w9
  go_wp2
  go_ret
  exact ⟨rfl, (uh H2).1, (uh H2).2⟩
 ·
  skip
  have H2 := hide ((uh H).setVC false (decide (s < d)))
  go_enter Tryz.func108, Tryz.ntmps108
  go_wp2_with fail
  refine (uh WR _).mono ?_
  rintro e w9 ⟨rfl, hw9⟩
  rw [hw9]
  clear hw9 w9
  go_wp2_with fail
  refine (uh SA _).mono ?_
  rintro e w9 ⟨rfl, hw9⟩
  rw [hw9]
  clear hw9 w9
  go_wp2_with fail
  refine (uh SB _).mono ?_
  rintro e w9 ⟨rfl, hw9⟩
  rw [hw9]
  clear hw9 w9
  go_wp2_with fail
  refine (uh SR _).mono ?_
  rintro e w9 ⟨rfl, hw9⟩
  rw [hw9]
  clear hw9 w9
  go_wp2_with fail
  refine (uh SB _).mono ?_
  rintro e w9 ⟨rfl, hw9⟩
  rw [hw9]
  clear hw9 w9
  go_wp2
  go_ret
  exact ⟨rfl, (uh H2).1, (uh H2).2⟩
 ·
  skip
  have H2 := hide ((uh H).setVC false (decide (s < d)))
  go_enter Tryz.func108, Tryz.ntmps108
  go_wp2_with fail
  refine (uh WR _).mono ?_
  rintro e w9 ⟨rfl, hw9⟩
  rw [hw9]
  clear hw9 w9
  go_wp2_with fail
  refine (uh SA _).mono ?_
  rintro e w9 ⟨rfl, hw9⟩
  rw [hw9]
  clear hw9 w9
  go_wp2_with fail
  refine (uh SB _).mono ?_
  rintro e w9 ⟨rfl, hw9⟩
  rw [hw9]
  clear hw9 w9
  go_wp2
  go_ret
  exact ⟨rfl, (uh H2).1, (uh H2).2⟩
 ·
  skip
  have H2 := hide ((uh H).setVC false (decide (s < d)))
  go_enter Tryz.func108, Tryz.ntmps108
  go_wp2_with fail
  refine (uh WR _).mono ?_
  rintro e w9 ⟨rfl, hw9⟩
  rw [hw9]
  clear hw9 w9
  go_wp2_with fail
  refine (uh SA _).mono ?_
  rintro e w9 ⟨rfl, hw9⟩
  rw [hw9]
  clear hw9 w9
  go_wp2_with fail
  refine (uh SB _).mono ?_
  rintro e w9 ⟨rfl, hw9⟩
  rw [hw9]
  clear hw9 w9
  go_wp2
  go_ret
  exact ⟨rfl, (uh H2).1, (uh H2).2⟩
theorem wk_5 : WkIs 66 5 := by
 intro g B gr rc y t st m0 s d w h s0 s1 d0 d1
 have c4 := h.cell 4 _ rfl
 have f4 := h.fz 260
 have c5 := h.cell 5 _ rfl
 have f5 := h.fz 261
 have H := hide h
 unfold Mv.wk Ms.wk
 simp only [wkV, wkC, wkR]
 have hw : IntKind.i64.wrap (s + d) = s + d := by rw [IntKind.wrap_i64]; omega
 have WR := hide (fun v => wrapI_any (s + d) v)
 have SA := hide (fun v => hasSign_any s v)
 have SB := hide (fun v => hasSign_any d v)
 have SR := hide (fun v => hasSign_any ((s + d) % 65536) v)
 generalize sgI ((s + d) % 65536) = b3 at SR ⊢
 generalize (s + d) % 65536 = r at WR SR ⊢
 generalize sgI s = b1 at SA ⊢
 generalize sgI d = b2 at SB ⊢
 have IW := hide (fun v => isWord_any (s + d) v)
 generalize inB (s + d) 0 65535 = iw at IW ⊢
 clear h
 cases b1 <;> cases b2 <;> cases b3
 ·
  skip
  have H2 := hide ((uh H).setVC false (!iw))
  go_enter Tryz.func66, Tryz.ntmps66
  go_wp2_with fail
  refine (uh WR _).mono ?_
  rintro e w9 ⟨rfl, hw9⟩
  rw [hw9]
  clear hw9 w9
  go_wp2_with fail
  refine (uh SA _).mono ?_
  rintro e w9 ⟨rfl, hw9⟩
  rw [hw9]
  clear hw9 w9
  go_wp2_with fail
  refine (uh SB _).mono ?_
  rintro e w9 ⟨rfl, hw9⟩
  rw [hw9]
  clear hw9 w9
  go_wp2_with fail
  refine (uh SR _).mono ?_
  rintro e w9 ⟨rfl, hw9⟩
  rw [hw9]
  clear hw9 w9
  go_wp2_with fail
  refine (uh SA _).mono ?_
  rintro e w9 ⟨rfl, hw9⟩
  rw [hw9]
  clear hw9 w9
  go_wp2_with fail
  refine (uh IW _).mono ?_
  rintro e w9 ⟨rfl, hw9⟩
  rw [hw9]
  clear hw9 w9
  go_wp2
  go_ret
  exact ⟨rfl, (uh H2).1, (uh H2).2⟩
 ·
  skip
  have H2 := hide ((uh H).setVC true (!iw))
  go_enter Tryz.func66, Tryz.ntmps66
  go_wp2_with fail
  refine (uh WR _).mono ?_
  rintro e w9 ⟨rfl, hw9⟩
  rw [hw9]
  clear hw9 w9
  go_wp2_with fail
  refine (uh SA _).mono ?_
  rintro e w9 ⟨rfl, hw9⟩
  rw [hw9]
  clear hw9 w9
  go_wp2_with fail
  refine (uh SB _).mono ?_
  rintro e w9 ⟨rfl, hw9⟩
  rw [hw9]
  clear hw9 w9
  go_wp2_with fail
  refine (uh SR _).mono ?_
  rintro e w9 ⟨rfl, hw9⟩
  rw [hw9]
  clear hw9 w9
  go_wp2_with fail
  refine (uh SA _).mono ?_
  rintro e w9 ⟨rfl, hw9⟩
  rw [hw9]
  clear hw9 w9
  go_wp2_with fail
  refine (uh IW _).mono ?_
  rintro e w9 ⟨rfl, hw9⟩
  rw [hw9]
  clear hw9 w9
  go_wp2
  go_ret
  exact ⟨rfl, (uh H2).1, (uh H2).2⟩
 ·
  skip
  have H2 := hide ((uh H).setVC false (!iw))
  go_enter Tryz.func66, Tryz.ntmps66
  go_wp2_with fail
  refine (uh WR _).mono ?_
  rintro e w9 ⟨rfl, hw9⟩
  rw [hw9]
  clear hw9 w9
  go_wp2_with fail
  refine (uh SA _).mono ?_
  rintro e w9 ⟨rfl, hw9⟩
  rw [hw9]
  clear hw9 w9
  go_wp2_with fail
  refine (uh SB _).mono ?_
  rintro e w9 ⟨rfl, hw9⟩
  rw [hw9]
  clear hw9 w9
  go_wp2_with fail
  refine (uh IW _).mono ?_
  rintro e w9 ⟨rfl, hw9⟩
  rw [hw9]
  clear hw9 w9
  go_wp2
  go_ret
  exact ⟨rfl, (uh H2).1, (uh H2).2⟩
 ·
  skip
  have H2 := hide ((uh H).setVC false (!iw))
  go_enter Tryz.func66, Tryz.ntmps66
  go_wp2_with fail
  refine (uh WR _).mono ?_
  rintro e w9 ⟨rfl, hw9⟩
  rw [hw9]
  clear hw9 w9
  go_wp2_with fail
  refine (uh SA _).mono ?_
  rintro e w9 ⟨rfl, hw9⟩
  rw [hw9]
  clear hw9 w9
  go_wp2_with fail
  refine (uh SB _).mono ?_
  rintro e w9 ⟨rfl, hw9⟩
  rw [hw9]
  clear hw9 w9
  go_wp2_with fail
  refine (uh IW _).mono ?_
  rintro e w9 ⟨rfl, hw9⟩
  rw [hw9]
  clear hw9 w9
  go_wp2
  go_ret
  exact ⟨rfl, (uh H2).1, (uh H2).2⟩
 ·
  skip
  have H2 := hide ((uh H).setVC false (!iw))
  go_enter Tryz.func66, Tryz.ntmps66
  go_wp2_with fail
  refine (uh WR _).mono ?_
  rintro e w9 ⟨rfl, hw9⟩
  rw [hw9]
  clear hw9 w9
  go_wp2_with fail
  refine (uh SA _).mono ?_
  rintro e w9 ⟨rfl, hw9⟩
  rw [hw9]
  clear hw9 w9
  go_wp2_with fail
  refine (uh SB _).mono ?_
  rintro e w9 ⟨rfl, hw9⟩
  rw [hw9]
  clear hw9 w9
  go_wp2_with fail
  refine (uh IW _).mono ?_
  rintro e w9 ⟨rfl, hw9⟩
  rw [hw9]
  clear hw9 w9
  go_wp2
  go_ret
  exact ⟨rfl, (uh H2).1, (uh H2).2⟩
 ·
  skip
  have H2 := hide ((uh H).setVC false (!iw))
  go_enter Tryz.func66, Tryz.ntmps66
  go_wp2_with fail
  refine (uh WR _).mono ?_
  rintro e w9 ⟨rfl, hw9⟩
  rw [hw9]
  clear hw9 w9
  go_wp2_with fail
  refine (uh SA _).mono ?_
  rintro e w9 ⟨rfl, hw9⟩
  rw [hw9]
  clear hw9 w9
  go_wp2_with fail
  refine (uh SB _).mono ?_
  rintro e w9 ⟨rfl, hw9⟩
  rw [hw9]
  clear hw9 w9
  go_wp2_with fail
  refine (uh IW _).mono ?_
  rintro e w9 ⟨rfl, hw9⟩
  rw [hw9]
  clear hw9 w9
  go_wp2
  go_ret
  exact ⟨rfl, (uh H2).1, (uh H2).2⟩
 ·
  skip
  have H2 := hide ((uh H).setVC true (!iw))
  go_enter Tryz.func66, Tryz.ntmps66
  go_wp2_with fail
  refine (uh WR _).mono ?_
  rintro e w9 ⟨rfl, hw9⟩
  rw [hw9]
  clear hw9 w9
  go_wp2_with fail
  refine (uh SA _).mono ?_
  rintro e w9 ⟨rfl, hw9⟩
  rw [hw9]
  clear hw9 w9
  go_wp2_with fail
  refine (uh SB _).mono ?_
  rintro e w9 ⟨rfl, hw9⟩
  rw [hw9]
  clear hw9 w9
  go_wp2_with fail
  refine (uh SR _).mono ?_
  rintro e w9 ⟨rfl, hw9⟩
  rw [hw9]
  clear hw9 w9
  go_wp2_with fail
  refine (uh SA _).mono ?_
  rintro e w9 ⟨rfl, hw9⟩
  rw [hw9]
  clear hw9 w9
  go_wp2_with fail
  refine (uh IW _).mono ?_
  rintro e w9 ⟨rfl, hw9⟩
  rw [hw9]
  clear hw9 w9
  go_wp2
  go_ret
  exact ⟨rfl, (uh H2).1, (uh H2).2⟩
 ·
  skip
  have H2 := hide ((uh H).setVC false (!iw))
  go_enter Tryz.func66, Tryz.ntmps66
  go_wp2_with fail
  refine (uh WR _).mono ?_
  rintro e w9 ⟨rfl, hw9⟩
  rw [hw9]
  clear hw9 w9
  go_wp2_with fail
  refine (uh SA _).mono ?_
  rintro e w9 ⟨rfl, hw9⟩
  rw [hw9]
  clear hw9 w9
  go_wp2_with fail
  refine (uh SB _).mono ?_
  rintro e w9 ⟨rfl, hw9⟩
  rw [hw9]
  clear hw9 w9
  go_wp2_with fail
  refine (uh SR _).mono ?_
  rintro e w9 ⟨rfl, hw9⟩
  rw [hw9]
  clear hw9 w9
  go_wp2_with fail
  refine (uh SA _).mono ?_
  rintro e w9 ⟨rfl, hw9⟩
  rw [hw9]
  clear hw9 w9
  go_wp2_with fail
  refine (uh IW _).mono ?_
  rintro e w9 ⟨rfl, hw9⟩
  rw [hw9]
  clear hw9 w9
  go_wp2
  go_ret
  exact ⟨rfl, (uh H2).1, (uh H2).2⟩
theorem wk_2 : WkIs 63 2 := by
 intro g B gr rc y t st m0 s d w h s0 s1 d0 d1
 have LS := hide (lessen_any g B gr rc y t st m0 s d w h s0 s1 d0 d1)
 unfold Mv.wk Ms.wk
 simp only [wkV, wkC, wkR]
 generalize ((sgI s != sgI d) && (sgI ((s - d) % 65536) == sgI d)) = v1 at LS ⊢
 generalize decide (s < d) = v2 at LS ⊢
 generalize (s - d) % 65536 = r at LS ⊢
 clear h
 go_enter Tryz.func63, Tryz.ntmps63
 go_wp2_with fail
 refine (uh LS).mono ?_
 rintro e w2 ⟨rfl, h2, f2⟩
 have H2 := hide h2
 have F2 := hide f2
 clear h2 f2 LS
 go_wp2
 go_ret
 exact ⟨rfl, uh H2, uh F2⟩
theorem wk_6 : WkIs 67 6 := by
 intro g B gr rc y t st m0 s d w h s0 s1 d0 d1
 have LS := hide (lessen_any g B gr rc y t st m0 d s w h d0 d1 s0 s1)
 unfold Mv.wk Ms.wk
 simp only [wkV, wkC, wkR]
 generalize ((sgI d != sgI s) && (sgI ((d - s) % 65536) == sgI s)) = v1 at LS ⊢
 generalize decide (d < s) = v2 at LS ⊢
 generalize (d - s) % 65536 = r at LS ⊢
 clear h
 go_enter Tryz.func67, Tryz.ntmps67
 go_wp2_with fail
 refine (uh LS).mono ?_
 rintro e w2 ⟨rfl, h2, f2⟩
 have H2 := hide h2
 have F2 := hide f2
 clear h2 f2 LS
 go_wp2
 go_ret
 exact ⟨rfl, uh H2, uh F2⟩
theorem shiftI_any (g B gr rc : Nat) (y : Mv) (t : Ms) (st : Int) (m0 : List Int) (r : Int) (out : Bool) (w : World) (h : Pz w g B gr rc y t st m0) :
 Calls Tryz.prog 110 #[.pointer (some ⟨g, 0, none⟩), .int .i64 r, .bool out] w fun e w' => e = .returned (.int .i64 r) ∧ Pz w' g B gr rc { y with v := (sgI r != out), c := out } { t with v := (sgI r != out), c := out } st m0 ∧ Fm w w' g y { y with v := (sgI r != out), c := out } := by
 have c4 := h.cell 4 _ rfl
 have f4 := h.fz 260
 have c5 := h.cell 5 _ rfl
 have f5 := h.fz 261
 have H := hide h
 have SR := hide (fun v => hasSign_any r v)
 generalize sgI r = b3 at SR ⊢
 clear h
 cases b3 <;> cases out
 ·
  have H2 := hide ((uh H).setVC false false)
  go_enter Tryz.func110, Tryz.ntmps110
  go_wp2_with fail
  refine (uh SR _).mono ?_
  rintro e w9 ⟨rfl, hw9⟩
  rw [hw9]
  clear hw9 w9
  go_wp2
  go_ret
  exact ⟨rfl, (uh H2).1, (uh H2).2⟩
 ·
  have H2 := hide ((uh H).setVC true true)
  go_enter Tryz.func110, Tryz.ntmps110
  go_wp2_with fail
  refine (uh SR _).mono ?_
  rintro e w9 ⟨rfl, hw9⟩
  rw [hw9]
  clear hw9 w9
  go_wp2
  go_ret
  exact ⟨rfl, (uh H2).1, (uh H2).2⟩
 ·
  have H2 := hide ((uh H).setVC true false)
  go_enter Tryz.func110, Tryz.ntmps110
  go_wp2_with fail
  refine (uh SR _).mono ?_
  rintro e w9 ⟨rfl, hw9⟩
  rw [hw9]
  clear hw9 w9
  go_wp2
  go_ret
  exact ⟨rfl, (uh H2).1, (uh H2).2⟩
 ·
  have H2 := hide ((uh H).setVC false true)
  go_enter Tryz.func110, Tryz.ntmps110
  go_wp2_with fail
  refine (uh SR _).mono ?_
  rintro e w9 ⟨rfl, hw9⟩
  rw [hw9]
  clear hw9 w9
  go_wp2
  go_ret
  exact ⟨rfl, (uh H2).1, (uh H2).2⟩
theorem signedI_any (n : Int) (w : World) : Calls Tryz.prog 111 #[.int .i64 n] w fun e w' => e = .returned (.int .i64 (sgV n)) ∧ w' = w := by
 have WR := hide (fun v => wrapI_any n v)
 have SR := hide (fun v => hasSign_any (n % 65536) v)
 have HB : 0 ≤ n % 65536 ∧ n % 65536 ≤ 65535 := by omega
 unfold sgV
 generalize n % 65536 = q at WR SR HB ⊢
 obtain ⟨q0, q1⟩ := HB
 unfold sgI at SR
 by_cases hq : 32768 ≤ q
 ·
  rw [if_pos hq]
  rw [decide_eq_true hq] at SR
  have hw : IntKind.i64.wrap (q - 65536) = q - 65536 := by rw [IntKind.wrap_i64]; omega
  go_enter Tryz.func111, Tryz.ntmps111
  go_wp2_with fail
  refine (uh WR _).mono ?_
  rintro e w9 ⟨rfl, hw9⟩
  rw [hw9]
  clear hw9 w9
  go_wp2_with fail
  refine (uh SR _).mono ?_
  rintro e w9 ⟨rfl, hw9⟩
  rw [hw9]
  clear hw9 w9
  go_wp2
  go_ret
  exact ⟨rfl, rfl⟩
 ·
  rw [if_neg hq]
  rw [decide_eq_false hq] at SR
  go_enter Tryz.func111, Tryz.ntmps111
  go_wp2_with fail
  refine (uh WR _).mono ?_
  rintro e w9 ⟨rfl, hw9⟩
  rw [hw9]
  clear hw9 w9
  go_wp2_with fail
  refine (uh SR _).mono ?_
  rintro e w9 ⟨rfl, hw9⟩
  rw [hw9]
  clear hw9 w9
  go_wp2
  go_ret
  exact ⟨rfl, rfl⟩
theorem wk_13 : WkIs 74 13 := by
 intro g B gr rc y t st m0 s d w h s0 s1 d0 d1
 have hw : IntKind.i64.wrap (2 * d) = 2 * d := by rw [IntKind.wrap_i64]; omega
 have WR := hide (fun v => wrapI_any (2 * d) v)
 have SR := hide (fun v => hasSign_any d v)
 have SH := hide (fun v (h : Pz v g B gr rc y t st m0) => shiftI_any g B gr rc y t st m0 ((2 * d) % 65536) (sgI d) v h)
 unfold Mv.wk Ms.wk
 simp only [wkV, wkC, wkR]
 have H := hide h
 generalize (sgI ((2 * d) % 65536) != sgI d) = v1 at SH ⊢
 generalize sgI d = v2 at SH SR ⊢
 generalize (2 * d) % 65536 = r at SH WR ⊢
 clear h
 go_enter Tryz.func74, Tryz.ntmps74
 go_wp2_with fail
 refine (uh WR _).mono ?_
 rintro e w9 ⟨rfl, hw9⟩
 rw [hw9]
 clear hw9 w9
 go_wp2_with fail
 refine (uh SR _).mono ?_
 rintro e w9 ⟨rfl, hw9⟩
 rw [hw9]
 clear hw9 w9
 go_wp2_with fail
 refine (uh SH _ (uh H)).mono ?_
 rintro e w2 ⟨rfl, h2, f2⟩
 have H2 := hide h2
 have F2 := hide f2
 clear h2 f2 SH
 go_wp2
 go_ret
 exact ⟨rfl, uh H2, uh F2⟩
theorem wk_12 : WkIs 73 12 := by
 intro g B gr rc y t st m0 s d w h s0 s1 d0 d1
 have WR := hide (fun v => wrapI_any (sgV d / 2) v)
 have SR := hide (fun v => signedI_any d v)
 have SH := hide (fun v (h : Pz v g B gr rc y t st m0) => shiftI_any g B gr rc y t st m0 ((sgV d / 2) % 65536) (bits .and .i64 d 1 == 1) v h)
 have SB := sgV_b d
 unfold Mv.wk Ms.wk
 simp only [wkV, wkC, wkR]
 have H := hide h
 generalize (sgI ((sgV d / 2) % 65536) != (bits .and .i64 d 1 == 1)) = v1 at SH ⊢
 generalize (sgV d / 2) % 65536 = r at SH WR ⊢
 generalize sgV d = q at SR WR SB
 clear h
 go_enter Tryz.func73, Tryz.ntmps73
 go_wp2_with fail
 refine (uh SR _).mono ?_
 rintro e w9 ⟨rfl, hw9⟩
 rw [hw9]
 clear hw9 w9
 go_wp2_with fail
 refine (uh WR _).mono ?_
 rintro e w9 ⟨rfl, hw9⟩
 rw [hw9]
 clear hw9 w9
 go_wp2_with fail
 refine (uh SH _ (uh H)).mono ?_
 rintro e w2 ⟨rfl, h2, f2⟩
 have H2 := hide h2
 have F2 := hide f2
 clear h2 f2 SH
 go_wp2
 go_ret
 exact ⟨rfl, uh H2, uh F2⟩
section
def plP (g gr : Nat) (r a : Int) : Addr := if r = -1 then ⟨g, (a / 2).toNat, none⟩ else ⟨gr, r.toNat, none⟩
def Psh (r a : Int) : Prop := (r = -1 ∧ 0 ≤ a) ∨ (0 ≤ r ∧ r ≤ 7 ∧ a = -1)
theorem rch_of (g gr : Nat) (d : Md) (r a : Int) (h8 : d.r.length = 8) (h : Psh r a) : rchI g gr d r a = if d.ldB r a = true then some (plP g gr r a) else none := by
 unfold rchI Md.ldB plP regB inB
 rcases h with ⟨rfl, ha⟩ | ⟨h0, h7, rfl⟩
 ·
  rw [if_neg (by omega)]
  simp
 ·
  rw [if_pos ⟨rfl, by simp [h8]; omega⟩, if_neg (show ¬ r = -1 by omega), if_neg (show ¬ r = -1 by omega)]
  simp [h8]
  omega
theorem ad_nn {d : Md} (hk : Dk d) (mo re : Nat) (hr : re < 8) : 0 ≤ d.adV mo re := by
 have h := (hk.rw _ (nAt_mem (show re < d.r.length by have := hk.rl; omega))).1
 unfold Md.adV
 repeat' split
 all_goals omega
theorem pl_sh {d : Md} (hk : Dk d) (mo re : Nat) (hr : re < 8) (ho : d.plO mo re = true) : Psh (d.plR mo re) (d.plA mo re) := by
 unfold Md.plR Md.plA
 by_cases h0 : mo = 0
 ·
  rw [if_pos h0, if_pos h0]
  exact .inr ⟨by omega, by omega, rfl⟩
 ·
  rw [if_neg h0, if_neg h0, if_pos ho, if_pos ho]
  refine .inl ⟨rfl, ?_⟩
  split
  ·
   have : Dk (d.adD mo re) := by have := dk_plS hk mo re; unfold Md.plD at this; rw [if_neg h0] at this; exact this
   exact (this.getb _).1
  · exact ad_nn hk mo re hr
section
variable {w w' : World} {g B gr rc : Nat} {y : Mv} {t : Ms} {st : Int} {m0 : List Int}
theorem Pz.small (h : Pz w g B gr rc y t st m0) (hm : m0.length = 256) (hk : Dk t.d) : y.small := by
 have a := h.own.m.len
 have b := h.own.r.len
 have c := h.own.i.len
 have e := h.own.o.len
 have := hk.rl
 have := hk.il
 have := hk.ol
 exact ⟨by simp at a; omega, by simp at b; omega, by simp at c; omega, by simp at e; omega⟩
theorem Pz.place (h : Pz w g B gr rc y t st m0) {r a : Int} (hb : t.d.ldB r a = true) (sh : Psh r a) : w.cell? (plP g gr r a) = some (.int .i64 (t.d.ldV r a)) ∧ w.frozen? (plP g gr r a) = false ∧ ∀ v, 0 ≤ v → v ≤ 65535 → Pz (w.setCell (plP g gr r a) (.int .i64 v)) g B gr rc y (t.st r a v) st m0 ∧ Fm w (w.setCell (plP g gr r a) (.int .i64 v)) g y y := by
 unfold plP Md.ldV Ms.st Md.stD Md.put Md.get
 rcases sh with ⟨rfl, ha⟩ | ⟨h0, h7, rfl⟩
 ·
  unfold Md.ldB at hb
  rw [if_pos rfl] at hb
  rw [if_pos rfl, if_pos rfl, if_pos hb]
  obtain ⟨ta, tl⟩ := has_t hb
  obtain ⟨t0, t1, _⟩ := adB_t ta
  obtain ⟨_, _, c, f⟩ := h.setM (a / 2).toNat 0 (by omega)
  refine ⟨c, f, fun v v0 v1 => ?_⟩
  rw [if_pos rfl, if_pos hb]
  rw [show v % 65536 = v by omega]
  exact ⟨(h.setM (a / 2).toNat v (by omega)).1, (h.setM (a / 2).toNat v (by omega)).2.1⟩
 ·
  rw [if_neg (show ¬ r = -1 by omega), if_neg (show ¬ r = -1 by omega), if_pos hb]
  obtain ⟨_, _, c, f⟩ := h.setR r.toNat 0 (by omega)
  refine ⟨c, f, fun v v0 v1 => ?_⟩
  rw [if_neg (show ¬ r = -1 by omega), if_pos hb]
  rw [show v % 65536 = v by omega]
  exact ⟨(h.setR r.toNat v (by omega)).1, (h.setR r.toNat v (by omega)).2.1⟩
theorem reachZ (h : Pz w g B gr rc y t st m0) (hm : m0.length = 256) (hk : Dk t.d) (r a : Int) (sh : Psh r a) : Calls Tryz.prog 113 #[.pointer (some ⟨g, 0, none⟩), .agg #[.int .i64 r, .int .i64 a]] w fun e w' => e = .returned (.pointer (if t.d.ldB r a = true then some (plP g gr r a) else none)) ∧ Below w.heap.size w w' := by
 rw [← rch_of g gr t.d r a h.r8 sh]
 have a := h.own.m.len
 have b := h.own.r.len
 exact reach_any g gr rc r _ t.d.m y t.d w h.len h.row (by rw [h.len, ← a, hm]) (by simp at b; exact b) (h.small hm hk) (fun _ => by rw [h.r8]; exact h.er)
end
def Ms.op (t : Ms) (mo re : Nat) : Ms := { t with d := t.d.plD mo re }
def Ms.opB (t : Ms) (mo re : Nat) : Bool := t.d.plO mo re && (t.op mo re).d.ldB (t.d.plR mo re) (t.d.plA mo re)
def Ms.opV (t : Ms) (mo re : Nat) : Int := (t.op mo re).d.ldV (t.d.plR mo re) (t.d.plA mo re)
def Ms.opP (t : Ms) (g gr mo re : Nat) : Addr := plP g gr (t.d.plR mo re) (t.d.plA mo re)
theorem dk_op {t : Ms} (h : Dk t.d) (mo re : Nat) : Dk (t.op mo re).d := dk_plS h mo re
theorem op_v {t : Ms} (h : Dk t.d) (mo re : Nat) : 0 ≤ t.opV mo re ∧ t.opV mo re ≤ 65535 := (dk_op h mo re).ldb _ _
theorem Pz.place2 {w : World} {g B gr rc : Nat} {y : Mv} {t : Ms} {st : Int} {m0 : List Int} {mo re : Nat} (hk : Dk t.d) (hr : re < 8) (hb : t.opB mo re = true) (h : Pz w g B gr rc y (t.op mo re) st m0) :
  w.cell? (t.opP g gr mo re) = some (.int .i64 (t.opV mo re)) ∧ w.frozen? (t.opP g gr mo re) = false := by
 unfold Ms.opB at hb
 simp only [Bool.and_eq_true] at hb
 obtain ⟨a, b, _⟩ := h.place hb.2 (pl_sh hk mo re hr hb.1)
 exact ⟨a, b⟩
theorem operand_any (g B gr rc mo re : Nat) (X : Int) (y : Mv) (t : Ms) (st : Int) (w : World) (h : Pz w g B gr rc y t st t.d.m) (hk : Dk t.d) (h7 : mo ≤ 7) (hr : re < 8) :
  Calls Tryz.prog 148 #[.pointer (some ⟨g, 0, none⟩), .agg #[.int .i64 (mo : Int), .int .i64 (re : Int), .int .i64 X]] w fun e w' => e = .returned (.pointer (if t.opB mo re = true then some (t.opP g gr mo re) else none)) ∧ (t.opB mo re = true → Pz w' g B gr rc y (t.op mo re) st (t.op mo re).d.m) ∧ Fm w w' g y y := by
 have GL := hide h.gl
 have H1 := hide (h.later (below_new w (Obj.cells #[.int .i64 (mo : Int), .int .i64 (re : Int), .int .i64 X] 67)))
 have F1 := hide (Fm.of (g := g) (y := y) (below_new w (Obj.cells #[.int .i64 (mo : Int), .int .i64 (re : Int), .int .i64 X] 67)))
 have AR := hide h.atr
 have PO := hide (po_any g B gr rc mo re X y t.d _ (uh H1).pg hk.r8 hr (h.small h.len hk) (hk.getb _) h7 ((uh H1).yl (uh H1).atr) (uh H1).gl)
 unfold PoIs0 at PO
 have SHP := hide (pl_sh hk mo re hr)
 have K2 := hide (dk_op hk mo re)
 have GO := hide (show ∀ v, Pg v g B gr rc y (t.d.plD mo re) → Pz v g B gr rc y (t.op mo re) st (t.op mo re).d.m from fun v p => h.ofPg p)
 unfold Ms.opB Ms.opP
 have RZ := hide (fun v (p : Pz v g B gr rc y (t.op mo re) st (t.op mo re).d.m) (ho : t.d.plO mo re = true) => reachZ p p.len (uh K2) (t.d.plR mo re) (t.d.plA mo re) (uh SHP ho))
 generalize (t.op mo re).d.ldB (t.d.plR mo re) (t.d.plA mo re) = lb at RZ ⊢
 generalize plP g gr (t.d.plR mo re) (t.d.plA mo re) = pp at RZ ⊢
 generalize t.d.plR mo re = pr at PO RZ SHP
 generalize t.d.plA mo re = pa at PO RZ SHP
 generalize t.d.plO mo re = po at PO RZ SHP ⊢
 generalize t.op mo re = t2 at GO RZ K2 ⊢
 generalize t.d.plD mo re = d2 at PO GO
 clear h hk K2 SHP
 go_enter Tryz.func148, Tryz.ntmps148
 go_wp2_with fail
 refine (uh PO).mono ?_
 rintro e w2 ⟨rfl, p2, g2⟩
 have F2 := hide ((uh F1).trans (Fm.grownR g2 (uh AR)))
 cases po
 ·
  have B3 := hide (below_new w2 (Obj.cells #[.int .i64 pr, .int .i64 pa] 97))
  clear p2 g2 PO RZ
  go_wp2_with (refine wpList_store_new rfl 97 _ _ rfl #[.int .i64 pr, .int .i64 pa] rfl rfl _ (by kernel_rfl) rfl rfl ?_)
  go_ret
  first | exact ⟨rfl, fun h => Bool.noConfusion h, (uh F2).trans (Fm.of (uh B3))⟩ | exact ⟨rfl, (uh F2).trans (Fm.of (uh B3))⟩
 ·
  have H3 := hide ((uh GO _ (p2 rfl)).later (below_new w2 (Obj.cells #[.int .i64 pr, .int .i64 pa] 97)))
  have R3 := hide (heap_alloc_last w2 (Obj.cells #[.int .i64 pr, .int .i64 pa] 97))
  have F3 := hide ((uh F2).trans (Fm.of (below_new w2 (Obj.cells #[.int .i64 pr, .int .i64 pa] 97))))
  have RC := hide (uh RZ _ (uh H3) rfl)
  clear p2 g2 PO RZ
  go_wp2_with (first | (refine wpList_store_new rfl 97 _ _ rfl #[.int .i64 pr, .int .i64 pa] rfl rfl _ (by kernel_rfl) rfl rfl ?_) | (refine wpList_load_row rfl 97 _ rfl w2.heap.size rfl 97 #[.int .i64 pr, .int .i64 pa] (0, 0) _ (uh R3) Tryz.underlying97 rfl (by kernel_rfl) ?_))
  refine (uh RC).mono ?_
  rintro e w4 ⟨rfl, hb⟩
  have H4 := hide ((uh H3).later hb)
  have F4 := hide ((uh F3).trans (Fm.of hb))
  clear hb RC
  cases lb
  ·
   go_wp2
   go_ret
   first | exact ⟨rfl, fun h => Bool.noConfusion h, uh F4⟩ | exact ⟨rfl, uh F4⟩
  ·
   go_wp2
   go_ret
   first | exact ⟨rfl, fun _ => uh H4, uh F4⟩ | exact ⟨rfl, uh H4, uh F4⟩
end
theorem i64_and65535Q (n : Int) : bits .and .i64 n 65535 = n % 65536 := by
 have h127 : (BitVec.ofInt 64 65535).toNat = 2 ^ 16 - 1 := by decide
 have key : (BitVec.ofInt 64 n &&& BitVec.ofInt 64 65535).toNat = (n % ((2 ^ 64 : Nat) : Int)).toNat % 2 ^ 16 := by
  rw [BitVec.toNat_and, BitVec.toNat_ofInt, h127, Nat.and_two_pow_sub_one_eq_mod]
 show IntKind.i64.wrap ((BitVec.ofInt 64 n &&& BitVec.ofInt 64 65535).toNat : Nat) = n % 65536
 rw [key, IntKind.wrap_i64]
 omega
theorem isWordI_any (n : Int) (w : World) : Calls Tryz.prog 52 #[.int .i64 n] w fun e w' => e = .returned (.bool (inB n 0 65535)) ∧ w' = w := by
 have H := i64_and65535Q n
 have HE := hide (show (n == n % 65536) = inB n 0 65535 by unfold inB; rw [Bool.eq_iff_iff]; simp; omega)
 go_enter Tryz.func52, Tryz.ntmps52
 go_wp2
 go_ret
 exact ⟨by rw [← uh HE]; rfl, rfl⟩
theorem hasSrc_any (op : Int) (w : World) : Calls Tryz.prog 101 #[.int .i64 op] w fun e w' => e = .returned (.bool (inB op 1 6)) ∧ w' = w := by
 unfold inB
 by_cases h1 : (1 : Int) ≤ op
 ·
  rw [decide_eq_true h1, Bool.true_and]
  go_enter Tryz.func101, Tryz.ntmps101
  go_wp2
  go_ret
  exact ⟨rfl, rfl⟩
 ·
  rw [decide_eq_false h1, Bool.false_and]
  have h3 : decide ((1 : Int) ≤ op) = false := decide_eq_false h1
  go_enter Tryz.func101, Tryz.ntmps101
  go_wp2
  go_ret
  exact ⟨rfl, rfl⟩
theorem hasDst_any (op : Int) (w : World) : Calls Tryz.prog 102 #[.int .i64 op] w fun e w' => e = .returned (.bool (inB op 1 15)) ∧ w' = w := by
 unfold inB
 by_cases h1 : (1 : Int) ≤ op
 ·
  rw [decide_eq_true h1, Bool.true_and]
  go_enter Tryz.func102, Tryz.ntmps102
  go_wp2
  go_ret
  exact ⟨rfl, rfl⟩
 ·
  rw [decide_eq_false h1, Bool.false_and]
  have h3 : decide ((1 : Int) ≤ op) = false := decide_eq_false h1
  go_enter Tryz.func102, Tryz.ntmps102
  go_wp2
  go_ret
  exact ⟨rfl, rfl⟩
def loN (op : Int) : Int := if inB op 17 21 = true then -128 else 0
def hiN (op : Int) : Int := if op = 15 ∨ op = 16 then 7 else if inB op 17 21 = true then 127 else if op = 23 then 255 else 0
theorem bounds_any (op : Int) (w : World) : Calls Tryz.prog 103 #[.int .i64 op] w fun e w' => e = .returned (.tuple #[.int .i64 (loN op), .int .i64 (hiN op)]) ∧ w' = w := by
 have HR := hide (show ∀ a b : Int, a = loN op → b = hiN op → Ending.returned (.tuple #[.int .i64 a, .int .i64 b]) = .returned (.tuple #[.int .i64 (loN op), .int .i64 (hiN op)]) from fun a b h1 h2 => by rw [h1, h2])
 cases h15 : (op == 15)
 ·
  cases h16 : (op == 16)
  ·
   cases h17 : decide (17 ≤ op)
   ·
    cases h23 : (op == 23)
    ·
     go_enter Tryz.func103, Tryz.ntmps103
     go_wp2
     go_ret2
     exact ⟨uh HR _ _ (by simp at *; simp [loN, inB, *]; omega) (by simp at *; simp [hiN, inB, *]; omega), rfl⟩
    ·
     go_enter Tryz.func103, Tryz.ntmps103
     go_wp2
     go_ret2
     exact ⟨uh HR _ _ (by simp at *; simp [loN, inB, *]) (by simp at *; simp [hiN, inB, *]), rfl⟩
   ·
    cases h21 : decide (op ≤ 21)
    ·
     cases h23 : (op == 23)
     ·
      go_enter Tryz.func103, Tryz.ntmps103
      go_wp2
      go_ret2
      exact ⟨uh HR _ _ (by simp at *; simp [loN, inB, *]) (by simp at *; simp [hiN, inB, *]), rfl⟩
     ·
      go_enter Tryz.func103, Tryz.ntmps103
      go_wp2
      go_ret2
      exact ⟨uh HR _ _ (by simp at *; simp [loN, inB, *]) (by simp at *; simp [hiN, inB, *]), rfl⟩
    ·
     go_enter Tryz.func103, Tryz.ntmps103
     go_wp2
     go_ret2
     exact ⟨uh HR _ _ (by simp at *; simp [loN, inB, *]) (by simp at *; simp [hiN, inB, *]), rfl⟩
  ·
   go_enter Tryz.func103, Tryz.ntmps103
   go_wp2
   go_ret2
   exact ⟨uh HR _ _ (by simp at *; simp [loN, inB, *]) (by simp at *; simp [hiN, inB, *]), rfl⟩
 ·
  go_enter Tryz.func103, Tryz.ntmps103
  go_wp2
  go_ret2
  exact ⟨uh HR _ _ (by simp at *; simp [loN, inB, *]) (by simp at *; simp [hiN, inB, *]), rfl⟩
theorem hasXI_anyQ (o : Od) (w : World) : Calls Tryz.prog 58 #[o.v] w fun e w' => e = .returned (.bool o.hasX) ∧ Below w.heap.size w w' := by
 obtain ⟨m, r, x⟩ := o
 have HR := hide (show ∀ b : Bool, b = Od.hasX ⟨m, r, x⟩ → Ending.returned (.bool b) = .returned (.bool (Od.hasX ⟨m, r, x⟩)) from fun b h => by rw [h])
 unfold Od.v
 simp only
 have hB := hide ((Below.refl w.heap.size w).alloc (Nat.le_refl _) (Obj.cells #[.int .i64 m, .int .i64 r, .int .i64 x] 67))
 cases h6 : (m == 6)
 ·
  cases h7 : (m == 7)
  ·
   cases h2 : (m == 2)
   ·
    cases h3 : (m == 3)
    ·
     go_enter Tryz.func58, Tryz.ntmps58
     go_wp2
     go_ret
     exact ⟨uh HR _ (by simp [Od.hasX, *]), uh hB⟩
    ·
     go_enter Tryz.func58, Tryz.ntmps58
     go_wp2
     go_ret
     exact ⟨uh HR _ (by simp [Od.hasX, *]), uh hB⟩
   ·
    go_enter Tryz.func58, Tryz.ntmps58
    go_wp2
    go_ret
    exact ⟨uh HR _ (by simp [Od.hasX, *]), uh hB⟩
  ·
   go_enter Tryz.func58, Tryz.ntmps58
   go_wp2
   go_ret
   exact ⟨uh HR _ (by simp [Od.hasX, *]), uh hB⟩
 ·
  go_enter Tryz.func58, Tryz.ntmps58
  go_wp2
  go_ret
  exact ⟨uh HR _ (by simp [Od.hasX, *]), uh hB⟩
theorem opdOkI_anyQ (o : Od) (w : World) : Calls Tryz.prog 137 #[o.v] w fun e w' => e = .returned (.bool o.ok) ∧ Below w.heap.size w w' := by
 have HX := hide (fun w => hasXI_anyQ o w)
 obtain ⟨m, r, x⟩ := o
 have HR := hide (show ∀ b : Bool, b = Od.ok ⟨m, r, x⟩ → Ending.returned (.bool b) = .returned (.bool (Od.ok ⟨m, r, x⟩)) from fun b h => by rw [h])
 have HF : ∀ q, Od.hasX ⟨m, r, x⟩ = q → Od.ok ⟨m, r, x⟩ = (((inB m 0 7 && inB r 0 7) && inB x 0 65535) && (q || x == 0)) := fun q h => by rw [← h]; rfl
 obtain ⟨q, hq⟩ : ∃ q, Od.hasX ⟨m, r, x⟩ = q := ⟨_, rfl⟩
 have HF2 := hide (HF q hq)
 rw [hq] at HX
 clear hq HF
 have hB := hide ((Below.refl w.heap.size w).alloc (Nat.le_refl _) (Obj.cells #[.int .i64 m, .int .i64 r, .int .i64 x] 67))
 have HS := hide (box_below w (Obj.cells #[.int .i64 m, .int .i64 r, .int .i64 x] 67))
 have hz : w.heap.size + 1 ≤ (w.alloc (Obj.cells #[.int .i64 m, .int .i64 r, .int .i64 x] 67)).heap.size := by simp
 have HZ := hide hz
 clear hz
 have hc : ∀ y : Sub (w.heap.size + 1) (w.alloc (Obj.cells #[.int .i64 m, .int .i64 r, .int .i64 x] 67)), y.w.cell? ⟨w.heap.size, 2, none⟩ = some (.int .i64 x) := fun y => y.cells 2 _ rfl
 unfold Od.v at HX ⊢
 simp only at HX ⊢
 cases h1 : decide (m < 0)
 ·
  cases h2 : decide (7 < m)
  ·
   cases h3 : decide (r < 0)
   ·
    cases h4 : decide (7 < r)
    ·
     go_enter Tryz.func137, Tryz.ntmps137
     go_wp2_with fail
     refine (Sub.call (x := ⟨_, Below.refl _ _⟩) (uh HZ) (uh HX _)).mono ?_
     rintro e _ ⟨rfl, y, rfl⟩
     clear HX
     cases q
     ·
      go_wp2
      go_ret
      exact ⟨uh HR _ (by rw [uh HF2]; simp at *; simp [inB, *]; omega), uh HS _ y.h⟩
     ·
      go_wp2_with (go_at_call 52; refine (isWordI_any _ _).mono ?_; rintro e _ ⟨rfl, rfl⟩)
      go_ret
      exact ⟨uh HR _ (by rw [uh HF2]; simp at *; simp [inB, *]), uh HS _ y.h⟩
    ·
     go_enter Tryz.func137, Tryz.ntmps137
     go_wp2
     go_ret
     exact ⟨uh HR _ (by rw [uh HF2]; simp at *; simp [inB, *]; omega), uh hB⟩
   ·
    go_enter Tryz.func137, Tryz.ntmps137
    go_wp2
    go_ret
    exact ⟨uh HR _ (by rw [uh HF2]; simp at *; simp [inB, *]; omega), uh hB⟩
  ·
   go_enter Tryz.func137, Tryz.ntmps137
   go_wp2
   go_ret
   exact ⟨uh HR _ (by rw [uh HF2]; simp at *; simp [inB, *]; omega), uh hB⟩
 ·
  go_enter Tryz.func137, Tryz.ntmps137
  go_wp2
  go_ret
  exact ⟨uh HR _ (by rw [uh HF2]; simp at *; simp [inB, *]; omega), uh hB⟩
def Od.fits (o : Od) (b : Bool) : Bool := if b = true then o.ok else o.zero
theorem fits_any (o : Od) (b : Bool) (w : World) : Calls Tryz.prog 104 #[o.v, .bool b] w fun e w' => e = .returned (.bool (o.fits b)) ∧ Below w.heap.size w w' := by
 have HX := hide (fun w => opdOkI_anyQ o w)
 obtain ⟨m, r, x⟩ := o
 cases b
 ·
  unfold Od.fits Od.zero Od.v
  simp only
  go_enter Tryz.func104, Tryz.ntmps104
  go_wp2
  all_goals go_ret
  all_goals refine ⟨?_, (Below.refl _ _).alloc (Nat.le_refl _) _⟩
  all_goals simp_all
 ·
  have HS := hide (box_below w (Obj.cells #[.int .i64 m, .int .i64 r, .int .i64 x] 67))
  have hz : w.heap.size + 1 ≤ (w.alloc (Obj.cells #[.int .i64 m, .int .i64 r, .int .i64 x] 67)).heap.size := by simp
  have HZ := hide hz
  clear hz
  have hf : Od.fits ⟨m, r, x⟩ true = Od.ok ⟨m, r, x⟩ := rfl
  rw [hf]
  clear hf
  unfold Od.v at HX ⊢
  simp only at HX ⊢
  go_enter Tryz.func104, Tryz.ntmps104
  go_wp2_with fail
  refine (Sub.call (x := ⟨_, Below.refl _ _⟩) (uh HZ) (uh HX _)).mono ?_
  rintro e _ ⟨rfl, y, rfl⟩
  go_wp2
  go_ret
  exact ⟨rfl, uh HS _ y.h⟩
def Is.okI (i : Is) : Bool := inB i.op 1 23 && (((i.s.fits (inB i.op 1 6) && i.d.fits (inB i.op 1 15)) && decide (loN i.op ≤ i.n)) && decide (i.n ≤ hiN i.op))
theorem inB_tQ (x a b : Int) (h : a ≤ x ∧ x ≤ b) : inB x a b = true := by simp [inB, h]
theorem inB_fQ (x a b : Int) (h : x < a ∨ b < x) : inB x a b = false := by unfold inB; rw [Bool.and_eq_false_iff]; simp; omega
theorem eqB_fQ (x a : Int) (h : x ≠ a) : (x == a) = false := by simp [h]
theorem okI_eq (i : Is) : i.okI = i.ok := by
 obtain ⟨op, s, d, n⟩ := i
 have hc : op < 1 ∨ (1 ≤ op ∧ op ≤ 6) ∨ (7 ≤ op ∧ op ≤ 14) ∨ op = 15 ∨ op = 16 ∨ (17 ≤ op ∧ op ≤ 21) ∨ op = 22 ∨ op = 23 ∨ 23 < op := by omega
 unfold Is.okI Is.ok Od.fits
 simp only
 generalize s.ok = a
 generalize d.ok = b
 generalize s.zero = c
 generalize d.zero = f
 have e1 : (inB op 1 23 = true ∧ 1 ≤ op ∧ op ≤ 23) ∨ (inB op 1 23 = false ∧ (op < 1 ∨ 23 < op)) := by
  by_cases h : 1 ≤ op ∧ op ≤ 23
  · exact .inl ⟨inB_tQ _ _ _ h, h⟩
  · exact .inr ⟨inB_fQ _ _ _ (by omega), by omega⟩
 have hn : ∀ lo hi : Int, (decide (lo ≤ n) && decide (n ≤ hi)) = inB n lo hi := fun _ _ => rfl
 have h0 : inB n 0 0 = (n == 0) := by unfold inB; rw [Bool.eq_iff_iff]; simp; omega
 unfold loN hiN
 rw [Bool.and_assoc]
 rw [hn]
 rcases hc with h | h | h | h | h | h | h | h | h
 · rw [inB_fQ op 1 23 (by omega), inB_fQ op 1 6 (by omega), inB_fQ op 7 14 (by omega), inB_fQ op 17 21 (by omega), eqB_fQ op 15 (by omega), eqB_fQ op 16 (by omega), eqB_fQ op 22 (by omega), eqB_fQ op 23 (by omega)]; simp
 · rw [inB_tQ op 1 23 (by omega), inB_tQ op 1 6 (by omega), inB_tQ op 1 15 (by omega), inB_fQ op 17 21 (by omega), if_neg (show ¬ (op = 15 ∨ op = 16) by omega), if_neg (show ¬ op = 23 by omega)]; simp [h0]
 · rw [inB_tQ op 1 23 (by omega), inB_fQ op 1 6 (by omega), inB_tQ op 1 15 (by omega), inB_tQ op 7 14 (by omega), inB_fQ op 17 21 (by omega), if_neg (show ¬ (op = 15 ∨ op = 16) by omega), if_neg (show ¬ op = 23 by omega)]; simp [h0]
 · subst h; cases a <;> cases b <;> cases c <;> cases f <;> simp [inB]
 · subst h; cases a <;> cases b <;> cases c <;> cases f <;> simp [inB]
 · rw [inB_tQ op 1 23 (by omega), inB_fQ op 1 6 (by omega), inB_fQ op 1 15 (by omega), inB_fQ op 7 14 (by omega), inB_tQ op 17 21 (by omega), if_neg (show ¬ (op = 15 ∨ op = 16) by omega), eqB_fQ op 15 (by omega), eqB_fQ op 16 (by omega)]; cases c <;> cases f <;> simp
 · subst h; cases a <;> cases b <;> cases c <;> cases f <;> simp [inB] <;> (rw [Bool.eq_iff_iff]; simp; omega)
 · subst h; cases a <;> cases b <;> cases c <;> cases f <;> simp [inB]
 · rw [inB_fQ op 1 23 (by omega), inB_fQ op 1 6 (by omega), inB_fQ op 7 14 (by omega), inB_fQ op 17 21 (by omega), eqB_fQ op 15 (by omega), eqB_fQ op 16 (by omega), eqB_fQ op 22 (by omega), eqB_fQ op 23 (by omega)]; simp
end Go.Proofs.YtjpbjbnialehbaaGreatDoor
