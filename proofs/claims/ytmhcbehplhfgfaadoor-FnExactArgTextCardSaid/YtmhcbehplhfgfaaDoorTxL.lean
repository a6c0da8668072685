/- Contracts over this seat's translation, laid together; conditions stand as hypotheses of each. -/
import Derived.Test.YtmhcbehplhfgfaaDoorTxA
import Derived.Test.YtmhcbehplhfgfaaDoorTxB
import Derived.Test.YtmhcbehplhfgfaaDoorTxD
import Derived.Test.YtmhcbehplhfgfaaDoorTxE
import Derived.Test.YtmhcbehplhfgfaaDoorTxK
import Derived.Deep.RegionWith

namespace Go.Proofs.YtmhcbehplhfgfaaDoor
open Go.ChangeShapes Go.WideShapes Go.ChangeAt Go.RowKit
set_option linter.unusedVariables false
set_option maxRecDepth 8000

def EqP (e : Ex) : Prop := ∀ (a b : Option Addr) (c1 c2 : Nat) (w : World), RdX w 0 e a → RdX w 0 e b → e.sz ≤ 1048576 → Calls Tryd.prog 24 #[.agg (e.cs a c1), .agg (e.cs b c2)] w fun r w' => r = .returned (.bool true) ∧ Below w.heap.size w w'
set_option maxHeartbeats 1000000 in
theorem eqXS_of (e : Ex) (ih : ∀ i, i < e.l.length → EqP (xAt e.l i)) (a b : Option Addr) (c1 c2 : Nat) (w : World) (h1 : RdX w 0 e a) (h2 : RdX w 0 e b) (hz : e.sz ≤ 1048576) :
    Calls Tryd.prog 33 #[.slice a e.l.length c1, .slice b e.l.length c2] w fun r w' => r = .returned (.bool true) ∧ Below w.heap.size w w' := by
  have hsz := sz_is e
  rw [RdX_eq] at h1 h2
  have hp : ∀ i, i < e.l.length → (xAt e.l i).sz ≤ 1048576 := fun i hi => by have := sz_part hi; omega
  have hm : e.l.length ≤ 1048576 := by omega
  clear hsz hz
  generalize e.l = l at *
  obtain ⟨len, hl⟩ : ∃ len, l.length = len := ⟨_, rfl⟩
  rw [hl] at hm ih h1 h2 hp ⊢
  go_enter Tryd.func33, Tryd.ntmps33
  go_wp2
  go_loopw [5] (fun i wr => ∃ (k : Nat) (y : Sub w.heap.size w), k ≤ len ∧ i = .int .i64 k ∧ wr = y.w) (fun i _ => len - (intOf i).toNat)
  case atStart => exact ⟨0, ⟨w, Below.refl _ _⟩, Nat.zero_le _, rfl, rfl⟩
  case round =>
    obtain ⟨k, x, hk, rfl, rfl⟩ := hrel
    by_cases hlt : k < len
    · rcases h1 with h0 | ⟨p, po, rfl, _, hp1, hpc⟩
      · rw [h0] at hl; simp at hl; omega
      rcases h2 with h0 | ⟨q, qo, rfl, _, hq1, hqc⟩
      · rw [h0] at hl; simp at hl; omega
      obtain ⟨e0, e1, e2, pc, pp, e3, e4⟩ := hpc k (by omega)
      obtain ⟨g0, g1, g2, qc, qp, g3, g4⟩ := hqc k (by omega)
      have d0 : ∀ y : Sub w.heap.size w, y.w.cell? ⟨p, po + k * 4, none⟩ = _ := fun y => (y.h.cell (p := ⟨p, _, none⟩) hp1).trans e0
      have d1 : ∀ y : Sub w.heap.size w, y.w.cell? ⟨p, po + k * 4 + 1, none⟩ = _ := fun y => (y.h.cell (p := ⟨p, _, none⟩) hp1).trans e1
      have d2 : ∀ y : Sub w.heap.size w, y.w.cell? ⟨p, po + k * 4 + 2, none⟩ = _ := fun y => (y.h.cell (p := ⟨p, _, none⟩) hp1).trans e2
      have d3 : ∀ y : Sub w.heap.size w, y.w.cell? ⟨p, po + k * 4 + 3, none⟩ = _ := fun y => (y.h.cell (p := ⟨p, _, none⟩) hp1).trans e3
      have f0 : ∀ y : Sub w.heap.size w, y.w.cell? ⟨q, qo + k * 4, none⟩ = _ := fun y => (y.h.cell (p := ⟨q, _, none⟩) hq1).trans g0
      have f1 : ∀ y : Sub w.heap.size w, y.w.cell? ⟨q, qo + k * 4 + 1, none⟩ = _ := fun y => (y.h.cell (p := ⟨q, _, none⟩) hq1).trans g1
      have f2 : ∀ y : Sub w.heap.size w, y.w.cell? ⟨q, qo + k * 4 + 2, none⟩ = _ := fun y => (y.h.cell (p := ⟨q, _, none⟩) hq1).trans g2
      have f3 : ∀ y : Sub w.heap.size w, y.w.cell? ⟨q, qo + k * 4 + 3, none⟩ = _ := fun y => (y.h.cell (p := ⟨q, _, none⟩) hq1).trans g3
      have HE := hide (fun y : Sub w.heap.size w => ih k hlt pc qc pp qp y.w (e4.later y.h) (g4.later y.h) (hp k hlt))
      have ne := Sub.ne w.heap.size w
      have HZ := hide (Nat.le_refl w.heap.size)
      clear e0 e1 e2 e3 e4 g0 g1 g2 g3 g4 hpc hqc ih hp
      unfold Ex.cs at HE
      generalize (xAt l k).s = ss at *
      generalize (xAt l k).k = kk at *
      generalize (xAt l k).n = nn at *
      generalize (xAt l k).l.length = ll at *
      go_wp2_with fail
      refine wp_region_sub x (by kernel_rfl) (by kernel_rfl) ?_
      repeat (go_big_quiet_step (first | (go_at_call 24; exact Sub.call (unhide HZ) (unhide HE _))))
      refine wpQuiet_nil ?_
      intro y
      go_wp2
      go_roundw
      case rel => exact ⟨k + 1, y, by omega, by go_num, rfl⟩
      case measure => simp [intOf]; omega
    · go_wp2
      go_ret
      exact ⟨rfl, x.h⟩
set_option maxHeartbeats 1000000 in
theorem eqX_same (e : Ex) : EqP e := by
  induction e using Ex.ind with
  | h k n s l ih =>
    intro a b c1 c2 w h1 h2 hz
    have e2 : (Ex.mk k n s l).l = l := rfl
    have hbW : Below w.heap.size w ((w.alloc (.cells #[.int .i64 k, .int .i64 n, .string s, .slice a l.length c1] 31)).alloc (.cells #[.int .i64 k, .int .i64 n, .string s, .slice b l.length c2] 31)) := ((Below.refl _ _).alloc (Nat.le_refl _) _).alloc (by simp) _
    have HZ := eqXS_of ⟨k, n, s, l⟩ (fun i hi => ih _ (xAt_mem hi)) a b c1 c2 _ (h1.later hbW) (h2.later hbW) hz
    rw [e2] at HZ
    have HS := hide (HZ.mono (R' := fun r w' => r = .returned (.bool true) ∧ Below w.heap.size w w') (by rintro r w' ⟨rfl, h⟩; exact ⟨rfl, hbW.trans (h.mono hbW.size)⟩))
    unfold Ex.cs
    simp only
    clear h1 h2 hz ih HZ hbW e2
    generalize l.length = ll at *
    go_enter Tryd.func24, Tryd.ntmps24
    go_wp2_with (go_at_call 33; refine (unhide HS).mono ?_; rintro e w1 ⟨rfl, hb1⟩)
    go_ret
    exact ⟨rfl, hb1⟩
end Go.Proofs.YtmhcbehplhfgfaaDoor

namespace Go.Proofs.YtmhcbehplhfgfaaDoor
open Go.ChangeShapes Go.WideShapes Go.ChangeAt Go.RowKit
set_option linter.unusedVariables false
set_option maxRecDepth 8000
set_option linter.unusedSimpArgs false

/-- The cursor, while draws go on that began at w. -/
structure Dz (w wr : World) (cb : Nat) (a : Option Addr) (len cap : Nat) (xs : List UInt8) : Prop where
  cur : Cur wr cb a len cap xs
  gr : w.grownBy wr (some cb)
  lt : cb < w.heap.size
  cd : xs = [] ∨ ∀ ad, a = some ad → ad.block < w.heap.size
section
variable {w wr w' : World} {cb : Nat} {a : Option Addr} {len cap : Nat} {xs : List UInt8}
theorem dz_new (hc : Cur w cb a len cap xs) : Dz w w cb a len cap xs := ⟨hc, grownBy_below (Below.refl _ _), hc.lt, hc.code⟩
theorem Dz.size (h : Dz w wr cb a len cap xs) : w.heap.size ≤ wr.heap.size := h.gr.size
theorem Dz.draw (h : Dz w wr cb a len cap xs) (hc : Cur w' cb a len cap xs) (hg : wr.grownBy w' (some cb)) : Dz w w' cb a len cap xs := ⟨hc, grownBy_trans h.gr hg, h.lt, h.cd⟩
theorem Dz.later (h : Dz w wr cb a len cap xs) (hb : Below wr.heap.size wr w') : Dz w w' cb a len cap xs := h.draw (h.cur.later hb) (grownBy_below hb)
theorem Dz.own {row : Option Nat} (h : Dz w wr cb a len cap xs) (hg : wr.grownBy w' row) (hr : ∀ g, row = some g → w.heap.size ≤ g) : Dz w w' cb a len cap xs := ⟨h.cur.past hg h.lt h.cd hr, grownBy_own h.gr hg hr, h.lt, h.cd⟩
theorem grownBy_row {W : World} {g : Nat} (cs : Array Value) : W.grownBy (W.setRow g cs) (some g) := ⟨rfl, rfl, rfl, by simp [World.setRow], fun k _ hk => setRow_other _ _ _ _ (fun e => hk (by rw [e]))⟩
theorem Dz.row (h : Dz w wr cb a len cap xs) (cs : Array Value) : Dz w (wr.setRow w.heap.size cs) cb a len cap xs := h.own (grownBy_row cs) (fun g e => by cases e; exact Nat.le_refl _)
/-- A block of the call's own stays while draws go on. -/
theorem Dz.blk {W : World} {g : Nat} {o : Obj} (h : Dz w wr cb a len cap xs) (hg : wr.grownBy W (some cb)) (hb : wr.heap[g]? = some o) (hge : w.heap.size ≤ g) : W.heap[g]? = some o :=
  (hg.block g (Array.getElem?_eq_some_iff.1 hb).1 (fun e => by have := h.lt; simp at e; omega)).trans hb
end
theorem lit_cell (L : List ByteArray) (W : World) (j : Nat) (h : j < L.length) : (W.alloc (.cells (L.map Value.string).toArray 9)).cell? ⟨W.heap.size, j, none⟩ = some (.string (L.getD j E0)) := by
  rw [World.cell?_alloc_at _ _ _ _ rfl, List.getElem?_toArray, List.getElem?_map, List.getElem?_eq_getElem h, List.getD_eq_getElem?_getD, List.getElem?_eq_getElem h]
  rfl
def L9a : List ByteArray := [⟨#[97]⟩, ⟨#[115, 116, 97, 114, 116]⟩, ⟨#[120, 49]⟩, ⟨#[114, 54]⟩]
def L9b : List ByteArray := [⟨#[46, 119, 111, 114, 100]⟩, ⟨#[46, 109, 97, 99, 114, 111]⟩, ⟨#[46, 120]⟩]
def L9c : List ByteArray := [⟨#[109, 111, 118]⟩, ⟨#[114, 48]⟩, ⟨#[104, 97, 108, 116]⟩]
def L9d : List ByteArray := [⟨#[58]⟩, ⟨#[44]⟩, ⟨#[40]⟩, ⟨#[41]⟩, ⟨#[46]⟩, ⟨#[60]⟩, ⟨#[64]⟩]
theorem ok9a : ∀ j : Fin 4, (Tk.mk 1 0 (L9a.getD j.val E0)).ok = true := by decide +kernel
theorem ok9b : ∀ j : Fin 3, (Tk.mk 3 0 (L9b.getD j.val E0)).ok = true := by decide +kernel
theorem ok9c : ∀ j : Fin 3, (Tk.mk 5 0 (L9c.getD j.val E0)).ok = true := by decide +kernel
theorem ok9d : ∀ j : Fin 7, (Tk.mk 4 0 (L9d.getD j.val E0)).ok = true := by decide +kernel
theorem ok9n (x : Int) (h0 : 0 ≤ x) (h1 : x ≤ 65535) : (Tk.mk 2 x ⟨#[]⟩).ok = true := by
  unfold Tk.ok
  simp only
  rw [if_pos (by decide), inB_t _ _ _ h0 h1]
  rfl
end Go.Proofs.YtmhcbehplhfgfaaDoor

namespace Go.Proofs.YtmhcbehplhfgfaaDoor
open Go.ChangeShapes Go.WideShapes Go.ChangeAt Go.RowKit
set_option linter.unusedVariables false
set_option maxRecDepth 8000
set_option linter.unusedSimpArgs false

theorem szE : (Tryd.prog.info? 31).map (·.size) = some 4 := by kernel_rfl
theorem ex_one (k n : Int) (x : ByteArray) (b : Option Addr) (i j : Nat) : (#[Value.int .i64 k, .int .i64 n, .string x, .slice b i j] : Array Value).all (·.oneCell') = true := by simp [Value.oneCell']
def E0x : Array Value := #[.int .i64 0, .int .i64 0, .string ⟨#[]⟩, .slice none 0 0]
theorem NewX.drawn {wr w' : World} {cb B : Nat} {e : Ex} {c : Option Addr} (h : NewX wr B e c) (hg : wr.grownBy w' (some cb)) (hB : cb < B) : NewX w' B e c := by
  obtain ⟨F, h1, h2, h3⟩ := h
  exact ⟨F, OwX.keep e c F (fun b hF => hg.block b (OwX.lt e c F h1 b hF) (fun e => by have := h3 b hF; simp at e; omega)) h1, h2, h3⟩
theorem NewX.row {wr : World} {B g : Nat} {e : Ex} {c : Option Addr} (h : NewX wr B e c) (cs : Array Value) (hg : g < B) : NewX (wr.setRow g cs) B e c := by
  obtain ⟨F, h1, h2, h3⟩ := h
  exact ⟨F, OwX.keep e c F (fun b hF => setRow_other _ _ _ _ (by have := h3 b hF; omega)) h1, h2, h3⟩
def L10a : List ByteArray := [⟨#[97]⟩, ⟨#[98]⟩, ⟨#[99]⟩]
def L10b : List ByteArray := [⟨#[103]⟩, ⟨#[104]⟩]
theorem sz10a : ∀ j : Fin 3, (L10a.getD j.val E0).size ≤ 1 := by decide +kernel
theorem sz10b : ∀ j : Fin 2, (L10b.getD j.val E0).size ≤ 1 := by decide +kernel
end Go.Proofs.YtmhcbehplhfgfaaDoor

namespace Go.Proofs.YtmhcbehplhfgfaaDoor
open Go.ChangeShapes Go.WideShapes Go.ChangeAt Go.RowKit
set_option linter.unusedVariables false
set_option maxRecDepth 8000
set_option linter.unusedSimpArgs false

theorem fit_l {e : Ex} (h : Fit e) : Fit ⟨0, 0, E0, e.l⟩ := (Fit_eq ⟨0, 0, E0, e.l⟩).2 ⟨show E0.size ≤ 9223372036854775807 by decide, ((Fit_eq e).1 h).2⟩
set_option maxHeartbeats 2000000 in
theorem szA_any (a : Ag) (b : Option Addr) (cap : Nat) (left : Int) (w : World) (hr : RdX w 0 a.e b) (hf : Fit a.e) (h0 : 0 ≤ left) (h1 : left ≤ 1048576) : Calls Tryd.prog 6 #[.agg (a.cs b cap), .int .i64 left] w fun r w' => r = .returned (.int .i64 (lessX left a.e.sz)) ∧ Below w.heap.size w w' := by
  have B0 := below_new w (.cells (a.cs b cap) 26)
  have S := hide (szX_any a.e b cap left _ (hr.later B0) hf h0 h1)
  have HB := hide B0
  unfold lessX at S ⊢
  unfold Ex.cs at S
  unfold Ag.cs at S HB ⊢
  generalize a.e.sz = z at *
  generalize a.e.l.length = ll at *
  generalize a.e.k = k at *
  generalize a.e.n = n at *
  generalize a.e.s = s at *
  generalize a.f = f at *
  generalize a.r = r at *
  clear hr hf B0
  by_cases hneg : left - (z : Int) < 0
  · rw [if_pos hneg] at S ⊢
    clear hneg
    go_enter Tryd.func6, Tryd.ntmps6
    go_wp2_with (go_at_call 18; refine (unhide S).mono ?_; rintro e w1 ⟨rfl, hb1⟩)
    go_ret
    exact ⟨rfl, (unhide HB).trans (hb1.mono (unhide HB).size)⟩
  · rw [if_neg hneg] at S ⊢
    generalize left - (z : Int) = d at *
    go_enter Tryd.func6, Tryd.ntmps6
    go_wp2_with (go_at_call 18; refine (unhide S).mono ?_; rintro e w1 ⟨rfl, hb1⟩)
    go_ret
    exact ⟨rfl, (unhide HB).trans (hb1.mono (unhide HB).size)⟩
set_option maxHeartbeats 2000000 in
theorem eqA_same (a : Ag) (b c : Option Addr) (cp dp : Nat) (w : World) (h1 : RdX w 0 a.e b) (h2 : RdX w 0 a.e c) (hz : a.e.sz ≤ 1048576) : Calls Tryd.prog 10 #[.agg (a.cs b cp), .agg (a.cs c dp)] w fun r w' => r = .returned (.bool true) ∧ Below w.heap.size w w' := by
  have B0 : Below w.heap.size w ((w.alloc (.cells (a.cs b cp) 33)).alloc (.cells (a.cs c dp) 33)) := ((Below.refl _ _).alloc (Nat.le_refl _) _).alloc (by simp) _
  have S := hide (eqX_same a.e b c cp dp _ (h1.later B0) (h2.later B0) hz)
  have HB := hide B0
  unfold Ex.cs at S
  unfold Ag.cs at S HB ⊢
  generalize a.e.l.length = ll at *
  generalize a.e.k = k at *
  generalize a.e.n = n at *
  generalize a.e.s = s at *
  generalize a.f = f at *
  generalize a.r = r at *
  clear h1 h2 hz B0
  go_enter Tryd.func10, Tryd.ntmps10
  go_wp2_with (go_at_call 24; refine (unhide S).mono ?_; rintro e w1 ⟨rfl, hb1⟩)
  go_ret
  exact ⟨rfl, (unhide HB).trans (hb1.mono (unhide HB).size)⟩
theorem three_new0 (w : World) (o1 o2 o3 : Obj) : (((w.alloc o1).alloc o2).alloc o3).heap[w.heap.size]? = some o1 := by
  have p1 : (w.alloc o1).heap[w.heap.size]? = some o1 := Array.getElem?_push_size
  exact (((Below.refl (w.alloc o1).heap.size (w.alloc o1)).alloc (Nat.le_refl _) o2).alloc (by simp) o3).block _ (by simp) |>.trans p1
theorem heap_setK {w : World} {g : Nat} {cs : Array Value} {t : TypeId} (o : Nat) (v : Value) (h : w.heap[g]? = some (.cells cs t (0, 0))) : (w.setCell ⟨g, o, none⟩ v).heap[g]? = some (.cells (cs.setIfInBounds o v) t (0, 0)) := heap_setCell_same _ g o _ t v h
set_option maxHeartbeats 4000000 in
theorem toA_any (a : Ag) (b : Option Addr) (cap : Nat) (w : World) (hr : RdX w 0 a.e b) (hz : a.e.sz ≤ 1048576) : Calls Tryd.prog 8 #[.agg (a.cs b cap)] w fun r w' => ∃ (c : Option Addr) (cp : Nat), r = .returned (.agg (a.cs c cp)) ∧ NewX w' w.heap.size a.e c ∧ Below w.heap.size w w' := by
  obtain ⟨hb, hg1, hg2⟩ := three_new w (.cells (a.cs b cap) 26) (.cells #[.int .i64 0, .int .i64 0, .int .i64 0, .int .i64 0, .string ⟨#[]⟩, .slice none 0 0] 33) (.cells #[.int .i64 a.f, .int .i64 a.r, .int .i64 0, .int .i64 0, .string ⟨#[]⟩, .slice none 0 0] 33)
  obtain ⟨W, hW⟩ : ∃ W, ((w.alloc (.cells (a.cs b cap) 26)).alloc (.cells #[.int .i64 0, .int .i64 0, .int .i64 0, .int .i64 0, .string ⟨#[]⟩, .slice none 0 0] 33)).alloc (.cells #[.int .i64 a.f, .int .i64 a.r, .int .i64 0, .int .i64 0, .string ⟨#[]⟩, .slice none 0 0] 33) = W := ⟨_, rfl⟩
  have hsz : w.heap.size + 3 = W.heap.size := by rw [← hW]; simp
  have hg0 := three_new0 w (.cells (a.cs b cap) 26) (.cells #[.int .i64 0, .int .i64 0, .int .i64 0, .int .i64 0, .string ⟨#[]⟩, .slice none 0 0] 33) (.cells #[.int .i64 a.f, .int .i64 a.r, .int .i64 0, .int .i64 0, .string ⟨#[]⟩, .slice none 0 0] 33)
  rw [hW] at hb hg1 hg2 hg0
  have c2 := Lib.cell_of_heap hg0 2
  have c3 := Lib.cell_of_heap hg0 3
  have c4 := Lib.cell_of_heap hg0 4
  have c5 := Lib.cell_of_heap hg0 5
  have S := hide (toX_any a.e b cap W (hr.later hb) hz)
  have HB := hide hb
  have G1 := hide hg1
  have G2 := hide hg2
  have HS := hide hsz
  clear hr hb hg0 hg1 hg2 hz hsz
  unfold Ex.cs at S
  unfold Ag.cs at hW c2 c3 c4 c5 ⊢
  simp at c2 c3 c4 c5
  generalize a.e.l.length = ll at *
  generalize a.e.k = k at *
  generalize a.e.n = n at *
  generalize a.e.s = s at *
  generalize a.f = f at *
  generalize a.r = r at *
  go_enter Tryd.func8, Tryd.ntmps8
  go_wp2_with fail
  refine (unhide S).mono ?_
  rintro e w1 ⟨c, cp, rfl, hn, hb1⟩
  have hl := unhide HS
  have q1 := row_keep (unhide G1) hb1
  have q2 := row_keep (unhide G2) hb1
  have B1 := (unhide HB).trans (hb1.mono (unhide HB).size)
  have hg : w1.grownBy ((((w1.setCell ⟨w.heap.size + 1 + 1, 2, none⟩ (.int .i64 k)).setCell ⟨w.heap.size + 1 + 1, 3, none⟩ (.int .i64 n)).setCell ⟨w.heap.size + 1 + 1, 4, none⟩ (.string s)).setCell ⟨w.heap.size + 1 + 1, 5, none⟩ (.slice c ll cp)) (some (w.heap.size + 1 + 1)) := (grownBy_trans (grownBy_trans (grownBy_trans (grownBy_set (.int .i64 k)) (grownBy_set (.int .i64 n))) (grownBy_set (.string s))) (grownBy_set (.slice c ll cp)))
  have N2 := hide ((hn.drawn hg (by omega)).lower (show w.heap.size + 2 ≤ W.heap.size by omega))
  have Q1 := hide ((hg.block _ (Array.getElem?_eq_some_iff.1 q1).1 (fun e => by simp at e)).trans q1)
  have Q2 := hide (show (((((w1.setCell ⟨w.heap.size + 1 + 1, 2, none⟩ (.int .i64 k)).setCell ⟨w.heap.size + 1 + 1, 3, none⟩ (.int .i64 n)).setCell ⟨w.heap.size + 1 + 1, 4, none⟩ (.string s)).setCell ⟨w.heap.size + 1 + 1, 5, none⟩ (.slice c ll cp))).heap[w.heap.size + 1 + 1]? = some (.cells #[.int .i64 f, .int .i64 r, .int .i64 k, .int .i64 n, .string s, .slice c ll cp] 33 (0, 0)) from heap_setK 5 _ (heap_setK 4 _ (heap_setK 3 _ (heap_setK 2 _ q2))))
  have BB := hide (B1.grown hg B1.size (fun g e => by cases e; omega))
  have k2 := Lib.cell_of_heap q2 2
  have f2 := Lib.frozen_of_heap q2 2
  have k3 := Lib.cell_of_heap q2 3
  have f3 := Lib.frozen_of_heap q2 3
  have k4 := Lib.cell_of_heap q2 4
  have f4 := Lib.frozen_of_heap q2 4
  have k5 := Lib.cell_of_heap q2 5
  have f5 := Lib.frozen_of_heap q2 5
  clear hn hb1 q1 q2 B1 hg S G1 G2 hl
  obtain ⟨w2, hw2⟩ : ∃ w2, ((((w1.setCell ⟨w.heap.size + 1 + 1, 2, none⟩ (.int .i64 k)).setCell ⟨w.heap.size + 1 + 1, 3, none⟩ (.int .i64 n)).setCell ⟨w.heap.size + 1 + 1, 4, none⟩ (.string s)).setCell ⟨w.heap.size + 1 + 1, 5, none⟩ (.slice c ll cp)) = w2 := ⟨_, rfl⟩
  rw [hw2] at N2 Q1 Q2 BB
  go_wp2_with (first | (refine wpList_load_row rfl 33 _ rfl (w.heap.size + 1 + 1) rfl 33 #[.int .i64 f, .int .i64 r, .int .i64 k, .int .i64 n, .string s, .slice c ll cp] (0, 0) _ (unhide Q2) Tryd.underlying33 rfl (by kernel_rfl) ?_) | (refine wpList_store_row rfl 33 _ _ rfl (w.heap.size + 1) #[.int .i64 f, .int .i64 r, .int .i64 k, .int .i64 n, .string s, .slice c ll cp] rfl rfl 33 _ (unhide Q1) (by kernel_rfl) rfl (by simp [Value.oneCell']) ?_))
  refine bodyPost_ret (results_cell_row (P := Tryd.prog) rfl _ _ (w.heap.size + 1) 33 #[.int .i64 f, .int .i64 r, .int .i64 k, .int .i64 n, .string s, .slice c ll cp] (0, 0) _ rfl (setRow_heap _ _ _ _ _ _ (unhide Q1)) Tryd.underlying33 rfl (by kernel_rfl)) rfl ?_
  exact ⟨c, cp, rfl, ((unhide N2).row _ (by omega)).lower (by omega), (unhide BB).grown (grownBy_row _) (unhide BB).size (fun g e => by cases e; omega)⟩
end Go.Proofs.YtmhcbehplhfgfaaDoor

namespace Go.Proofs.YtmhcbehplhfgfaaDoor
open Go.ChangeShapes Go.WideShapes Go.ChangeAt Go.RowKit
set_option linter.unusedVariables false
set_option maxRecDepth 8000
set_option linter.unusedSimpArgs false

/-- How much a line holds, as the laws count it. -/
def Ln.zz (x : Ln) : Nat := x.s.size + x.src.e.sz + x.dst.e.sz + (x.l.length + szX x.l)
structure FtL (x : Ln) : Prop where
  s : x.s.size ≤ 9223372036854775807
  a : Fit x.src.e
  b : Fit x.dst.e
  l : Fit ⟨0, 0, E0, x.l⟩
theorem SzL.of {x : Ln} (h : x.zz ≤ 1048576) : SzL x := by
  unfold Ln.zz at h
  refine ⟨by omega, by omega, by omega, by omega, fun i hi => ?_⟩
  have := sz_part hi
  omega
set_option maxHeartbeats 8000000 in
theorem szL_any (x : Ln) (p : La) (left : Int) (w : World) (hr : RdL w x p) (hf : FtL x) (h0 : 0 ≤ left) (h1 : left ≤ 1048576) : Calls Tryd.prog 11 #[.agg (x.cs p), .int .i64 left] w fun r w' => r = .returned (.int .i64 (lessX left x.zz)) ∧ Below w.heap.size w w' := by
  have hbW := below_new w (.cells (x.cs p) 38)
  obtain ⟨W, hW⟩ : ∃ W, w.alloc (.cells (x.cs p) 38) = W := ⟨_, rfl⟩
  have hrW := hr.later hbW
  have xl : w.heap.size < W.heap.size := by rw [← hW]; simp
  have xc : ∀ (i : Nat) (v : Value), (x.cs p)[i]? = some v → ∀ y : Sub W.heap.size W, y.w.cell? ⟨w.heap.size, i, none⟩ = some v := fun i v h y => (y.h.cell (p := ⟨w.heap.size, i, none⟩) xl).trans (by rw [← hW]; exact box17 w _ _ i v h)
  rw [hW] at hbW hrW
  obtain ⟨z, hz0⟩ : ∃ z : Sub W.heap.size W, w.alloc (.cells (x.cs p) 38) = z.w := ⟨⟨W, Below.refl _ _⟩, hW⟩
  have ne := Sub.ne W.heap.size W
  have HZ := hide (Nat.le_refl W.heap.size)
  have HB := hide (fun y : Sub W.heap.size W => hbW.trans (y.h.mono hbW.size))
  have F0 : ∀ y : Sub W.heap.size W, y.w.cell? ⟨w.heap.size, 0, none⟩ = some (.int .i64 x.k) := xc 0 _ rfl
  have F1 : ∀ y : Sub W.heap.size W, y.w.cell? ⟨w.heap.size, 1, none⟩ = some (.string x.s) := xc 1 _ rfl
  have F2 : ∀ y : Sub W.heap.size W, y.w.cell? ⟨w.heap.size, 2, none⟩ = some (.int .i64 x.op) := xc 2 _ rfl
  have F3 : ∀ y : Sub W.heap.size W, y.w.cell? ⟨w.heap.size, 3, none⟩ = some (.int .i64 x.src.f) := xc 3 _ rfl
  have F4 : ∀ y : Sub W.heap.size W, y.w.cell? ⟨w.heap.size, 4, none⟩ = some (.int .i64 x.src.r) := xc 4 _ rfl
  have F5 : ∀ y : Sub W.heap.size W, y.w.cell? ⟨w.heap.size, 5, none⟩ = some (.int .i64 x.src.e.k) := xc 5 _ rfl
  have F6 : ∀ y : Sub W.heap.size W, y.w.cell? ⟨w.heap.size, 6, none⟩ = some (.int .i64 x.src.e.n) := xc 6 _ rfl
  have F7 : ∀ y : Sub W.heap.size W, y.w.cell? ⟨w.heap.size, 7, none⟩ = some (.string x.src.e.s) := xc 7 _ rfl
  have F8 : ∀ y : Sub W.heap.size W, y.w.cell? ⟨w.heap.size, 8, none⟩ = some (.slice p.b1 x.src.e.l.length p.c1) := xc 8 _ rfl
  have F9 : ∀ y : Sub W.heap.size W, y.w.cell? ⟨w.heap.size, 9, none⟩ = some (.int .i64 x.dst.f) := xc 9 _ rfl
  have F10 : ∀ y : Sub W.heap.size W, y.w.cell? ⟨w.heap.size, 10, none⟩ = some (.int .i64 x.dst.r) := xc 10 _ rfl
  have F11 : ∀ y : Sub W.heap.size W, y.w.cell? ⟨w.heap.size, 11, none⟩ = some (.int .i64 x.dst.e.k) := xc 11 _ rfl
  have F12 : ∀ y : Sub W.heap.size W, y.w.cell? ⟨w.heap.size, 12, none⟩ = some (.int .i64 x.dst.e.n) := xc 12 _ rfl
  have F13 : ∀ y : Sub W.heap.size W, y.w.cell? ⟨w.heap.size, 13, none⟩ = some (.string x.dst.e.s) := xc 13 _ rfl
  have F14 : ∀ y : Sub W.heap.size W, y.w.cell? ⟨w.heap.size, 14, none⟩ = some (.slice p.b2 x.dst.e.l.length p.c2) := xc 14 _ rfl
  have F15 : ∀ y : Sub W.heap.size W, y.w.cell? ⟨w.heap.size, 15, none⟩ = some (.int .i64 x.n) := xc 15 _ rfl
  have F16 : ∀ y : Sub W.heap.size W, y.w.cell? ⟨w.heap.size, 16, none⟩ = some (.slice p.b3 x.l.length p.c3) := xc 16 _ rfl
  obtain ⟨hfs, hfa, hfb, hfl⟩ := hf
  have S1 := hide (fun (d : Int) (q0 : 0 ≤ d) (q1 : d ≤ 1048576) (y : Sub W.heap.size W) => szA_any x.src p.b1 p.c1 d y.w (hrW.a.later y.h) hfa q0 q1)
  have S2 := hide (fun (d : Int) (q0 : 0 ≤ d) (q1 : d ≤ 1048576) (y : Sub W.heap.size W) => szA_any x.dst p.b2 p.c2 d y.w (hrW.b.later y.h) hfb q0 q1)
  have S3 := hide (fun (d : Int) (q0 : 0 ≤ d) (q1 : d ≤ 1048576) (y : Sub W.heap.size W) => (show Calls Tryd.prog 25 #[.slice p.b3 x.l.length p.c3, .int .i64 d] y.w fun r w' => r = .returned (.int .i64 (lessX d (x.l.length + szX x.l))) ∧ Below y.w.heap.size y.w w' from szXS_of ⟨0, 0, E0, x.l⟩ (fun i hi => szX_any _) p.b3 p.c3 d y.w (hrW.l.later y.h) hfl q0 q1))
  unfold Ln.zz
  unfold Ag.cs at S1 S2
  unfold Ln.cs at hz0 ⊢
  clear hr hrW hfa hfb hfl xl hW xc hbW
  generalize x.src.e.sz = za at *
  generalize x.dst.e.sz = zb at *
  generalize x.l.length + szX x.l = zc at *
  generalize hzs : x.s.size = zs at *
  have HS := hide hzs
  clear hzs
  generalize x.src.f = sf at *
  generalize x.src.r = sr at *
  generalize x.src.e.k = sk at *
  generalize x.src.e.n = sn at *
  generalize x.src.e.s = ss at *
  generalize x.src.e.l.length = sl at *
  generalize x.dst.f = df at *
  generalize x.dst.r = dr at *
  generalize x.dst.e.k = dk at *
  generalize x.dst.e.n = dn at *
  generalize x.dst.e.s = ds at *
  generalize x.dst.e.l.length = dl at *
  generalize x.k = k at *
  generalize x.op = op at *
  generalize x.n = n at *
  generalize x.l.length = ll at *
  generalize p.b1 = b1 at *
  generalize p.c1 = c1 at *
  generalize p.b2 = b2 at *
  generalize p.c2 = c2 at *
  generalize p.b3 = b3 at *
  generalize p.c3 = c3 at *
  have hw : IntKind.i64.wrap (left - (zs : Int)) = left - (zs : Int) := by rw [IntKind.wrap_i64]; omega
  have hsz : x.s.size = zs := unhide HS
  unfold lessX at S1 S2 S3 ⊢
  by_cases n1 : left - (zs : Int) < 0
  · rw [if_pos (show left - ((zs + za + zb + zc : Nat) : Int) < 0 by omega)]
    go_enter Tryd.func11, Tryd.ntmps11
    go_wp2_with fail
    go_ret
    exact ⟨rfl, unhide HB _⟩
  obtain ⟨d1, hd1⟩ : ∃ d, left - (zs : Int) = d := ⟨_, rfl⟩
  rw [hd1] at hw n1
  have g1 : (0 : Int) ≤ d1 := by omega
  have C1 := hide (unhide S1 d1 g1 (by omega))
  clear S1
  by_cases n2 : d1 - (za : Int) < 0
  · rw [if_pos n2] at C1
    rw [if_pos (show left - ((zs + za + zb + zc : Nat) : Int) < 0 by omega)]
    clear n2 g1
    go_enter Tryd.func11, Tryd.ntmps11
    go_wp2_with (go_at_call_of 6 sf; refine (Sub.call (unhide HZ) (unhide C1 _)).mono ?_; rintro r _ ⟨rfl, z2, rfl⟩)
    go_ret
    exact ⟨rfl, unhide HB _⟩
  obtain ⟨d2, hd2⟩ : ∃ d, d1 - (za : Int) = d := ⟨_, rfl⟩
  rw [if_neg n2, hd2] at C1
  rw [hd2] at n2
  have g2 : (0 : Int) ≤ d2 := by omega
  have C2 := hide (unhide S2 d2 g2 (by omega))
  clear S2
  by_cases n3 : d2 - (zb : Int) < 0
  · rw [if_pos n3] at C2
    rw [if_pos (show left - ((zs + za + zb + zc : Nat) : Int) < 0 by omega)]
    clear n3 g1 g2 hd2
    go_enter Tryd.func11, Tryd.ntmps11
    go_wp2_with (first | (go_at_call_of 6 sf; refine (Sub.call (unhide HZ) (unhide C1 _)).mono ?_; rintro r _ ⟨rfl, z2, rfl⟩) | (go_at_call_of 6 df; refine (Sub.call (unhide HZ) (unhide C2 _)).mono ?_; rintro r _ ⟨rfl, z2, rfl⟩))
    go_ret
    exact ⟨rfl, unhide HB _⟩
  obtain ⟨d3, hd3⟩ : ∃ d, d2 - (zb : Int) = d := ⟨_, rfl⟩
  rw [if_neg n3, hd3] at C2
  rw [hd3] at n3
  have g3 : (0 : Int) ≤ d3 := by omega
  have C3 := hide (unhide S3 d3 g3 (by omega))
  clear S3
  by_cases n4 : d3 - (zc : Int) < 0
  · rw [if_pos n4] at C3
    rw [if_pos (show left - ((zs + za + zb + zc : Nat) : Int) < 0 by omega)]
    clear n4 g1 g2 g3 hd2 hd3
    go_enter Tryd.func11, Tryd.ntmps11
    go_wp2_with (first | (go_at_call_of 6 sf; refine (Sub.call (unhide HZ) (unhide C1 _)).mono ?_; rintro r _ ⟨rfl, z2, rfl⟩) | (go_at_call_of 6 df; refine (Sub.call (unhide HZ) (unhide C2 _)).mono ?_; rintro r _ ⟨rfl, z2, rfl⟩) | (go_at_call 25; refine (Sub.call (unhide HZ) (unhide C3 _)).mono ?_; rintro r _ ⟨rfl, z2, rfl⟩))
    go_ret
    exact ⟨rfl, unhide HB _⟩
  obtain ⟨d4, hd4⟩ : ∃ d, d3 - (zc : Int) = d := ⟨_, rfl⟩
  rw [if_neg n4, hd4] at C3
  rw [hd4] at n4
  rw [if_neg (show ¬ (left - ((zs + za + zb + zc : Nat) : Int) < 0) by omega)]
  rw [show left - ((zs + za + zb + zc : Nat) : Int) = d4 by omega]
  clear hd2 hd3 hd4 g1 g2 g3
  go_enter Tryd.func11, Tryd.ntmps11
  go_wp2_with (first | (go_at_call_of 6 sf; refine (Sub.call (unhide HZ) (unhide C1 _)).mono ?_; rintro r _ ⟨rfl, z2, rfl⟩) | (go_at_call_of 6 df; refine (Sub.call (unhide HZ) (unhide C2 _)).mono ?_; rintro r _ ⟨rfl, z2, rfl⟩) | (go_at_call 25; refine (Sub.call (unhide HZ) (unhide C3 _)).mono ?_; rintro r _ ⟨rfl, z2, rfl⟩))
  go_ret
  exact ⟨rfl, unhide HB _⟩
set_option maxHeartbeats 8000000 in
theorem eqL_same (x : Ln) (p q : La) (w : World) (hp : RdL w x p) (hq : RdL w x q) (hz : SzL x) (hzl : (Ex.mk 0 0 E0 x.l).sz ≤ 1048576) : Calls Tryd.prog 15 #[.agg (x.cs p), .agg (x.cs q)] w fun r w' => r = .returned (.bool true) ∧ Below w.heap.size w w' := by
  have b1 := below_new w (.cells (x.cs p) 42)
  have b2 := below_new (w.alloc (.cells (x.cs p) 42)) (.cells (x.cs q) 42)
  have hbW := b1.trans (b2.mono b1.size)
  obtain ⟨W, hW⟩ : ∃ W, (w.alloc (.cells (x.cs p) 42)).alloc (.cells (x.cs q) 42) = W := ⟨_, rfl⟩
  have hpW := hp.later hbW
  have hqW := hq.later hbW
  have xl : w.heap.size + 1 < W.heap.size := by rw [← hW]; simp
  have xc : ∀ (i : Nat) (v : Value), (x.cs p)[i]? = some v → ∀ y : Sub W.heap.size W, y.w.cell? ⟨w.heap.size, i, none⟩ = some v := fun i v h y => (y.h.cell (p := ⟨w.heap.size, i, none⟩) (by show w.heap.size < W.heap.size; omega)).trans (by rw [← hW]; exact (b2.cell (p := ⟨w.heap.size, i, none⟩) (by simp)).trans (box17 w _ _ i v h))
  have xd : ∀ (i : Nat) (v : Value), (x.cs q)[i]? = some v → ∀ y : Sub W.heap.size W, y.w.cell? ⟨w.heap.size + 1, i, none⟩ = some v := fun i v h y => (y.h.cell (p := ⟨w.heap.size + 1, i, none⟩) xl).trans (by rw [← hW]; have := box17 (w.alloc (.cells (x.cs p) 42)) (x.cs q) 42 i v h; rw [show (w.alloc (.cells (x.cs p) 42)).heap.size = w.heap.size + 1 by simp] at this; exact this)
  rw [hW] at hbW hpW hqW
  obtain ⟨z, hz0⟩ : ∃ z : Sub W.heap.size W, (w.alloc (.cells (x.cs p) 42)).alloc (.cells (x.cs q) 42) = z.w := ⟨⟨W, Below.refl _ _⟩, hW⟩
  have ne := Sub.ne W.heap.size W
  have HZ := hide (Nat.le_refl W.heap.size)
  have HB := hide (fun y : Sub W.heap.size W => hbW.trans (y.h.mono hbW.size))
  obtain ⟨hza, hzb, hzc, hzd, hze⟩ := hz
  have C1 := hide (fun y : Sub W.heap.size W => eqA_same x.src p.b1 q.b1 p.c1 q.c1 y.w (hpW.a.later y.h) (hqW.a.later y.h) hzb)
  have C2 := hide (fun y : Sub W.heap.size W => eqA_same x.dst p.b2 q.b2 p.c2 q.c2 y.w (hpW.b.later y.h) (hqW.b.later y.h) hzc)
  have C3 := hide (fun y : Sub W.heap.size W => (show Calls Tryd.prog 33 #[.slice p.b3 x.l.length p.c3, .slice q.b3 x.l.length q.c3] y.w fun r w' => r = .returned (.bool true) ∧ Below y.w.heap.size y.w w' from eqXS_of ⟨0, 0, E0, x.l⟩ (fun i hi => eqX_same _) p.b3 q.b3 p.c3 q.c3 y.w (hpW.l.later y.h) (hqW.l.later y.h) hzl))
  have F0 : ∀ y : Sub W.heap.size W, y.w.cell? ⟨w.heap.size, 0, none⟩ = some (.int .i64 x.k) := xc 0 _ rfl
  have G0 : ∀ y : Sub W.heap.size W, y.w.cell? ⟨w.heap.size + 1, 0, none⟩ = some (.int .i64 x.k) := xd 0 _ rfl
  have F1 : ∀ y : Sub W.heap.size W, y.w.cell? ⟨w.heap.size, 1, none⟩ = some (.string x.s) := xc 1 _ rfl
  have G1 : ∀ y : Sub W.heap.size W, y.w.cell? ⟨w.heap.size + 1, 1, none⟩ = some (.string x.s) := xd 1 _ rfl
  have F2 : ∀ y : Sub W.heap.size W, y.w.cell? ⟨w.heap.size, 2, none⟩ = some (.int .i64 x.op) := xc 2 _ rfl
  have G2 : ∀ y : Sub W.heap.size W, y.w.cell? ⟨w.heap.size + 1, 2, none⟩ = some (.int .i64 x.op) := xd 2 _ rfl
  have F3 : ∀ y : Sub W.heap.size W, y.w.cell? ⟨w.heap.size, 3, none⟩ = some (.int .i64 x.src.f) := xc 3 _ rfl
  have G3 : ∀ y : Sub W.heap.size W, y.w.cell? ⟨w.heap.size + 1, 3, none⟩ = some (.int .i64 x.src.f) := xd 3 _ rfl
  have F4 : ∀ y : Sub W.heap.size W, y.w.cell? ⟨w.heap.size, 4, none⟩ = some (.int .i64 x.src.r) := xc 4 _ rfl
  have G4 : ∀ y : Sub W.heap.size W, y.w.cell? ⟨w.heap.size + 1, 4, none⟩ = some (.int .i64 x.src.r) := xd 4 _ rfl
  have F5 : ∀ y : Sub W.heap.size W, y.w.cell? ⟨w.heap.size, 5, none⟩ = some (.int .i64 x.src.e.k) := xc 5 _ rfl
  have G5 : ∀ y : Sub W.heap.size W, y.w.cell? ⟨w.heap.size + 1, 5, none⟩ = some (.int .i64 x.src.e.k) := xd 5 _ rfl
  have F6 : ∀ y : Sub W.heap.size W, y.w.cell? ⟨w.heap.size, 6, none⟩ = some (.int .i64 x.src.e.n) := xc 6 _ rfl
  have G6 : ∀ y : Sub W.heap.size W, y.w.cell? ⟨w.heap.size + 1, 6, none⟩ = some (.int .i64 x.src.e.n) := xd 6 _ rfl
  have F7 : ∀ y : Sub W.heap.size W, y.w.cell? ⟨w.heap.size, 7, none⟩ = some (.string x.src.e.s) := xc 7 _ rfl
  have G7 : ∀ y : Sub W.heap.size W, y.w.cell? ⟨w.heap.size + 1, 7, none⟩ = some (.string x.src.e.s) := xd 7 _ rfl
  have F8 : ∀ y : Sub W.heap.size W, y.w.cell? ⟨w.heap.size, 8, none⟩ = some (.slice p.b1 x.src.e.l.length p.c1) := xc 8 _ rfl
  have G8 : ∀ y : Sub W.heap.size W, y.w.cell? ⟨w.heap.size + 1, 8, none⟩ = some (.slice q.b1 x.src.e.l.length q.c1) := xd 8 _ rfl
  have F9 : ∀ y : Sub W.heap.size W, y.w.cell? ⟨w.heap.size, 9, none⟩ = some (.int .i64 x.dst.f) := xc 9 _ rfl
  have G9 : ∀ y : Sub W.heap.size W, y.w.cell? ⟨w.heap.size + 1, 9, none⟩ = some (.int .i64 x.dst.f) := xd 9 _ rfl
  have F10 : ∀ y : Sub W.heap.size W, y.w.cell? ⟨w.heap.size, 10, none⟩ = some (.int .i64 x.dst.r) := xc 10 _ rfl
  have G10 : ∀ y : Sub W.heap.size W, y.w.cell? ⟨w.heap.size + 1, 10, none⟩ = some (.int .i64 x.dst.r) := xd 10 _ rfl
  have F11 : ∀ y : Sub W.heap.size W, y.w.cell? ⟨w.heap.size, 11, none⟩ = some (.int .i64 x.dst.e.k) := xc 11 _ rfl
  have G11 : ∀ y : Sub W.heap.size W, y.w.cell? ⟨w.heap.size + 1, 11, none⟩ = some (.int .i64 x.dst.e.k) := xd 11 _ rfl
  have F12 : ∀ y : Sub W.heap.size W, y.w.cell? ⟨w.heap.size, 12, none⟩ = some (.int .i64 x.dst.e.n) := xc 12 _ rfl
  have G12 : ∀ y : Sub W.heap.size W, y.w.cell? ⟨w.heap.size + 1, 12, none⟩ = some (.int .i64 x.dst.e.n) := xd 12 _ rfl
  have F13 : ∀ y : Sub W.heap.size W, y.w.cell? ⟨w.heap.size, 13, none⟩ = some (.string x.dst.e.s) := xc 13 _ rfl
  have G13 : ∀ y : Sub W.heap.size W, y.w.cell? ⟨w.heap.size + 1, 13, none⟩ = some (.string x.dst.e.s) := xd 13 _ rfl
  have F14 : ∀ y : Sub W.heap.size W, y.w.cell? ⟨w.heap.size, 14, none⟩ = some (.slice p.b2 x.dst.e.l.length p.c2) := xc 14 _ rfl
  have G14 : ∀ y : Sub W.heap.size W, y.w.cell? ⟨w.heap.size + 1, 14, none⟩ = some (.slice q.b2 x.dst.e.l.length q.c2) := xd 14 _ rfl
  have F15 : ∀ y : Sub W.heap.size W, y.w.cell? ⟨w.heap.size, 15, none⟩ = some (.int .i64 x.n) := xc 15 _ rfl
  have G15 : ∀ y : Sub W.heap.size W, y.w.cell? ⟨w.heap.size + 1, 15, none⟩ = some (.int .i64 x.n) := xd 15 _ rfl
  have F16 : ∀ y : Sub W.heap.size W, y.w.cell? ⟨w.heap.size, 16, none⟩ = some (.slice p.b3 x.l.length p.c3) := xc 16 _ rfl
  have G16 : ∀ y : Sub W.heap.size W, y.w.cell? ⟨w.heap.size + 1, 16, none⟩ = some (.slice q.b3 x.l.length q.c3) := xd 16 _ rfl
  unfold Ag.cs at C1 C2
  unfold Ln.cs at hz0 ⊢
  clear hp hq hpW hqW xl hW xc xd hbW b1 b2 hza hzb hzc hzd hze hzl
  generalize x.src.f = sf at *
  generalize x.src.r = sr at *
  generalize x.src.e.k = sk at *
  generalize x.src.e.n = sn at *
  generalize x.src.e.s = ss at *
  generalize x.src.e.l.length = sl at *
  generalize x.dst.f = df at *
  generalize x.dst.r = dr at *
  generalize x.dst.e.k = dk at *
  generalize x.dst.e.n = dn at *
  generalize x.dst.e.s = ds at *
  generalize x.dst.e.l.length = dl at *
  generalize x.k = k at *
  generalize x.s = s at *
  generalize x.op = op at *
  generalize x.n = n at *
  generalize x.l.length = ll at *
  generalize p.b1 = b1 at *
  generalize p.c1 = c1 at *
  generalize p.b2 = b2 at *
  generalize p.c2 = c2 at *
  generalize p.b3 = b3 at *
  generalize p.c3 = c3 at *
  generalize q.b1 = qb1 at *
  generalize q.c1 = qc1 at *
  generalize q.b2 = qb2 at *
  generalize q.c2 = qc2 at *
  generalize q.b3 = qb3 at *
  generalize q.c3 = qc3 at *
  go_enter Tryd.func15, Tryd.ntmps15
  go_wp2_with (first | (go_at_call_of 10 sf; refine (Sub.call (unhide HZ) (unhide C1 _)).mono ?_; rintro r _ ⟨rfl, z2, rfl⟩) | (go_at_call_of 10 df; refine (Sub.call (unhide HZ) (unhide C2 _)).mono ?_; rintro r _ ⟨rfl, z2, rfl⟩) | (go_at_call 33; refine (Sub.call (unhide HZ) (unhide C3 _)).mono ?_; rintro r _ ⟨rfl, z2, rfl⟩))
  go_ret
  exact ⟨rfl, unhide HB _⟩
end Go.Proofs.YtmhcbehplhfgfaaDoor

namespace Go.Proofs.YtmhcbehplhfgfaaDoor
open Go.ChangeShapes Go.WideShapes Go.ChangeAt Go.RowKit
set_option linter.unusedVariables false
set_option maxRecDepth 8000

section
variable {H : Type} {enc : TypeId × Value → H} {W : World} {b0 base : Nat} {spare : TypeId → Bool} {held : Bool}
theorem trod_exs (fuel : Nat) (cs : List Value) (x : DataW H × List MemPlace) (hf : DataW.trod enc Tryd.prog W base spare held fuel 22 cs = some x) : ∃ (e : Ex) (b : Option Addr) (cap : Nat), cs = [.slice b e.l.length cap] ∧ RdX W 0 e b ∧ Fit e := by
  have hc : Tryd.prog.cellsOf 24 = 4 := by kernel_rfl
  rcases DataW.trod_slice Tryd.underlying22 hf with ⟨hcs, _⟩ | ⟨a, len, cap, elems, rest, q, hq, hcs, _, hb, hl, hm, hel, hx, _, _⟩
  · subst hcs
    exact ⟨⟨0, 0, E0, []⟩, none, 0, rfl, (RdX_eq _ _ _ _).2 (.inl rfl), (Fit_eq _).2 ⟨by decide, by simp, fun i hi => by simp at hi⟩⟩
  · subst hcs
    have each : ∀ i, i < len → ∃ t : Ex, (W.cell? (a.add (i * 4)) = some (.int .i64 t.k) ∧ W.cell? (a.add (i * 4 + 1)) = some (.int .i64 t.n) ∧ W.cell? (a.add (i * 4 + 2)) = some (.string t.s) ∧ ∃ c cap, W.cell? (a.add (i * 4 + 3)) = some (.slice c t.l.length cap) ∧ RdX W 0 t c) ∧ Fit t := fun i hi => by
      have h4 := hx i hi
      rw [List.getElem?_eq_getElem (by omega), Option.bind_eq_some_iff] at h4
      obtain ⟨cs', p1, p2⟩ := h4
      rw [hc] at p1
      obtain ⟨_, hlen', hcell⟩ := World.cells?_some p1
      obtain ⟨t, c, cap', hcs', hrd, hft⟩ := trod_ex _ cs' _ p2
      refine ⟨t, ⟨?_, ?_, ?_, c, cap', ?_, hrd⟩, hft⟩
      · have e := hcell 0 (by omega); rw [_root_.Go.Deep.add_add, hcs'] at e; simpa using e
      · have e := hcell 1 (by omega); rw [_root_.Go.Deep.add_add, hcs'] at e; simpa using e
      · have e := hcell 2 (by omega); rw [_root_.Go.Deep.add_add, hcs'] at e; simpa using e
      · have e := hcell 3 (by omega); rw [_root_.Go.Deep.add_add, hcs'] at e; simpa using e
    obtain ⟨T, hT⟩ := @_root_.Go.Deep.choose_lt Ex ⟨X0⟩ _ _ each
    have hL : ((List.range len).map T).length = len := by simp
    have hat : ∀ i, i < len → xAt ((List.range len).map T) i = T i := fun i hi => by
      unfold xAt
      rw [List.getD_eq_getElem?_getD, List.getElem?_map, List.getElem?_range hi]
      rfl
    refine ⟨⟨0, 0, E0, (List.range len).map T⟩, some a, cap, by simp [hL], (RdX_eq _ _ _ _).2 ?_, (Fit_eq _).2 ⟨show E0.size ≤ 9223372036854775807 by decide, ?_, fun i hi => ?_⟩⟩
    · by_cases h0 : len = 0
      · subst h0; exact .inl rfl
      · right
        obtain ⟨b, off, spot⟩ := a
        have h00 := (hT 0 (by omega)).1.1
        have hspot : spot = none := by simpa [Addr.add] using World.cell?_spot h00
        subst hspot
        have hadd : ∀ j, (⟨b, off, none⟩ : Addr).add j = ⟨b, off + j, none⟩ := fun j => by
          unfold Addr.add
          by_cases hj : j = 0
          · subst hj; simp
          · simp [hj]
        refine ⟨b, off, rfl, Nat.zero_le _, World.block_lt_of_cell? W _ h00, fun i hi => ?_⟩
        have hi : i < len := by simpa using hi
        show OneX W 0 b (off + i * 4) (xAt ((List.range len).map T) i)
        rw [hat i hi]
        have h3 := (hT i hi).1
        rw [hadd, hadd, hadd, hadd] at h3
        exact h3
    · show ((List.range len).map T).length ≤ _
      rw [hL]; unfold maxLen at hm; omega
    · have hi : i < len := by simpa using hi
      show Fit (xAt ((List.range len).map T) i)
      rw [hat i hi]
      exact (hT i hi).2
theorem trod_ag (fuel : Nat) (cs : List Value) (x : DataW H × List MemPlace) (h : DataW.trod enc Tryd.prog W base spare held fuel 26 cs = some x) : ∃ (a : Ag) (b : Option Addr) (cap : Nat), cs = [.int .i64 a.f, .int .i64 a.r, .int .i64 a.e.k, .int .i64 a.e.n, .string a.e.s, .slice b a.e.l.length cap] ∧ RdX W 0 a.e b ∧ Fit a.e := by
  obtain ⟨xs, n, hf, rfl, hl, hlen, hfs⟩ := DataW.trod_struct Tryd.underlying26 h
  have hc : Tryd.prog.cellsOf 26 = 6 := by kernel_rfl
  have hc4 : Tryd.prog.cellsOf 24 = 4 := by kernel_rfl
  have hc3 : Tryd.prog.cellsOf 3 = 1 := by kernel_rfl
  rw [hc] at hl
  match cs, hl with
  | [c0, c1, c2, c3, c4, c5], _ =>
    match xs, hlen with
    | [y0, y1, y2], _ =>
      obtain ⟨m, e0, _, w0⟩ := DataW.trod_int Tryd.underlying3 (hfs 0 _ rfl)
      obtain ⟨r, e1, _, w1⟩ := DataW.trod_int Tryd.underlying3 (hfs 1 _ rfl)
      obtain ⟨e, b, cap, e2, h1, h2⟩ := trod_ex _ _ _ (hfs 2 _ rfl)
      simp [hc3, hc4] at e0 e1 e2
      obtain ⟨q2, q3, q4, q5⟩ := e2
      subst e0 e1 q2 q3 q4 q5
      exact ⟨⟨m, r, e⟩, b, cap, rfl, h1, h2⟩
theorem open_ag {r : Reach} {v : Value} {d : DataW H} {p : List MemPlace} (hv : Value.okWide Tryd.prog W r b0 26 v) (h : DataW.Trod enc Tryd.prog W base spare held 26 v d p) : ∃ (a : Ag) (b : Option Addr) (cap : Nat), v = .agg (a.cs b cap) ∧ RdX W 0 a.e b ∧ Fit a.e := by
  obtain ⟨cs, rfl, hsz⟩ := okWide_struct Tryd.underlying26 hv
  obtain ⟨fuel, hf⟩ := h
  obtain ⟨a, b, cap, hcs, h1, h2⟩ := trod_ag _ _ _ hf
  refine ⟨a, b, cap, ?_, h1, h2⟩
  have : cs.toList = [.int .i64 a.f, .int .i64 a.r, .int .i64 a.e.k, .int .i64 a.e.n, .string a.e.s, .slice b a.e.l.length cap] := by simpa [Value.cells] using hcs
  unfold Ag.cs
  rw [← Array.toArray_toList (xs := cs), this]
theorem trod_ln (fuel : Nat) (cs : List Value) (x : DataW H × List MemPlace) (h : DataW.trod enc Tryd.prog W base spare held fuel 38 cs = some x) : ∃ (l : Ln) (p : La), cs = (l.cs p).toList ∧ RdL W l p ∧ FtL l := by
  obtain ⟨xs, n, hf, rfl, hl, hlen, hfs⟩ := DataW.trod_struct Tryd.underlying38 h
  have hc : Tryd.prog.cellsOf 38 = 17 := by kernel_rfl
  have hc6 : Tryd.prog.cellsOf 26 = 6 := by kernel_rfl
  have hc3 : Tryd.prog.cellsOf 3 = 1 := by kernel_rfl
  have hc9 : Tryd.prog.cellsOf 9 = 1 := by kernel_rfl
  have hcl : Tryd.prog.cellsOf 22 = 1 := by kernel_rfl
  rw [hc] at hl
  match cs, hl with
  | [c0, c1, c2, c3, c4, c5, c6, c7, c8, c9, c10, c11, c12, c13, c14, c15, c16], _ =>
    match xs, hlen with
    | [y0, y1, y2, y3, y4, y5, y6], _ =>
      obtain ⟨k, e0, _, w0⟩ := DataW.trod_int Tryd.underlying3 (hfs 0 _ rfl)
      obtain ⟨s, e1, _, w1⟩ := DataW.trod_string Tryd.underlying9 (hfs 1 _ rfl)
      obtain ⟨o, e2, _, w2⟩ := DataW.trod_int Tryd.underlying3 (hfs 2 _ rfl)
      obtain ⟨a, b1, q1, e3, ra, fa⟩ := trod_ag _ _ _ (hfs 3 _ rfl)
      obtain ⟨b, b2, q2, e4, rb, fb⟩ := trod_ag _ _ _ (hfs 4 _ rfl)
      obtain ⟨m, e5, _, w5⟩ := DataW.trod_int Tryd.underlying3 (hfs 5 _ rfl)
      obtain ⟨t, b3, q3, e6, rt, ft⟩ := trod_exs _ _ _ (hfs 6 _ rfl)
      simp [hc3, hc6, hc9, hcl] at e0 e1 e2 e3 e4 e5 e6
      obtain ⟨u3, u4, u5, u6, u7, u8⟩ := e3
      obtain ⟨v3, v4, v5, v6, v7, v8⟩ := e4
      subst e0 e1 e2 e5 e6 u3 u4 u5 u6 u7 u8 v3 v4 v5 v6 v7 v8
      have hs9 : s.size ≤ 9223372036854775807 := by have := w1; unfold maxLen at this; omega
      exact ⟨⟨k, s, o, a, b, m, t.l⟩, ⟨b1, q1, b2, q2, b3, q3⟩, rfl, ⟨ra, rb, (RdX_eq W 0 ⟨0, 0, E0, t.l⟩ b3).2 ((RdX_eq W 0 t b3).1 rt)⟩, ⟨hs9, fa, fb, fit_l ft⟩⟩
theorem open_ln {r : Reach} {v : Value} {d : DataW H} {p : List MemPlace} (hv : Value.okWide Tryd.prog W r b0 38 v) (h : DataW.Trod enc Tryd.prog W base spare held 38 v d p) : ∃ (l : Ln) (q : La), v = .agg (l.cs q) ∧ RdL W l q ∧ FtL l := by
  obtain ⟨cs, rfl, hsz⟩ := okWide_struct Tryd.underlying38 hv
  obtain ⟨fuel, hf⟩ := h
  obtain ⟨l, q, hcs, h1, h2⟩ := trod_ln _ _ _ hf
  refine ⟨l, q, ?_, h1, h2⟩
  have : cs.toList = (l.cs q).toList := by simpa [Value.cells] using hcs
  rw [← Array.toArray_toList (xs := cs), this, Array.toArray_toList]
end
end Go.Proofs.YtmhcbehplhfgfaaDoor
