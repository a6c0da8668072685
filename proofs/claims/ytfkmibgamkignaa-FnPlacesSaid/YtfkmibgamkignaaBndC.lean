/- Contracts over this seat's translation, laid together; conditions stand as hypotheses of each. -/
import Derived.Test.YtfkmibgamkignaaBndB
import Derived.Orders
import Derived.RegionTactic

namespace Go.Proofs.Ytfkmibgamkignaa
open Go.ChangeShapes Go.WideShapes Go.ChangeAt Go.RowKit
set_option linter.unusedVariables false
set_option maxRecDepth 8000
set_option linter.unusedSimpArgs false

/-- Is it an address? -/
def adB (a : Int) : Bool := inB a 0 510 && (a % 2 == 0)
theorem adB_t {a : Int} (h : adB a = true) : 0 ≤ a ∧ a ≤ 510 ∧ a % 2 = 0 := by
  unfold adB inB at h
  simp at h
  omega
theorem adB_f {a : Int} (h : a < 0 ∨ 511 ≤ a ∨ a % 2 ≠ 0) : adB a = false := by
  cases hb : adB a
  · rfl
  · have := adB_t hb; omega
theorem adB_i {a : Int} (h0 : 0 ≤ a) (h1 : a ≤ 510) (h2 : a % 2 = 0) : adB a = true := by
  unfold adB inB
  simp
  omega
/-- Has it a word there? -/
def Md.has (d : Md) (a : Int) : Bool := adB a && decide (a / 2 < (d.m.length : Int))
def Md.get (d : Md) (a : Int) : Int := if d.has a = true then nAt d.m (a / 2).toNat else 0
theorem has_t {d : Md} {a : Int} (h : d.has a = true) : adB a = true ∧ a / 2 < (d.m.length : Int) := by
  unfold Md.has at h
  simpa using h

set_option maxHeartbeats 1000000 in
theorem isAddr_any (a : Int) (w : World) : Calls Try.prog 49 #[.int .i64 a] w fun e w' => e = .returned (.bool (adB a)) ∧ w' = w := by
  by_cases h0 : 0 ≤ a
  · by_cases h1 : a < 512
    · cases h2 : (a % 2 == 0)
      · have F := hide (adB_f (a := a) (.inr (.inr (by simpa using h2))))
        go_enter Try.func49, Try.ntmps49
        go_wp2
        go_ret
        exact ⟨ret_bool (unhide F).symm, rfl⟩
      · have e2 : a % 2 = 0 := by simpa using h2
        have F := hide (adB_i h0 (by omega) e2)
        clear e2
        go_enter Try.func49, Try.ntmps49
        go_wp2
        go_ret
        exact ⟨ret_bool (unhide F).symm, rfl⟩
    · have F := hide (adB_f (a := a) (.inr (.inl (by omega))))
      go_enter Try.func49, Try.ntmps49
      go_wp2
      go_ret
      exact ⟨ret_bool (unhide F).symm, rfl⟩
  · have F := hide (adB_f (a := a) (.inl (by omega)))
    go_enter Try.func49, Try.ntmps49
    go_wp2
    go_ret
    exact ⟨ret_bool (unhide F).symm, rfl⟩

set_option maxHeartbeats 1000000 in
theorem has_any (x : Mv) (d : Md) (a : Int) (w : World) (hl : d.m.length = x.m.n) (hs : x.m.n ≤ 1048576) : Calls Try.prog 56 #[.agg x.cs, .int .i64 a] w fun e w' => e = .returned (.bool (d.has a)) ∧ Below w.heap.size w w' := by
  have HB := hide ((Below.refl w.heap.size w).alloc (Nat.le_refl _) (.cells x.cs 28))
  have c0 : x.cs[0]? = some (.slice x.m.a x.m.n x.m.c) := rfl
  have I := hide (fun w => isAddr_any a w)
  unfold Md.has
  rw [hl]
  have T := hide (adB_t (a := a))
  generalize adB a = q at I T ⊢
  cases q
  · go_enter Try.func56, Try.ntmps56
    go_wp2_with (go_at_call 49; refine (unhide I _).mono ?_; rintro e w' ⟨rfl, rfl⟩)
    go_ret
    exact ⟨rfl, unhide HB⟩
  · obtain ⟨t0, t1, _⟩ := unhide T (by trivial)
    go_enter Try.func56, Try.ntmps56
    go_wp2_with (go_at_call 49; refine (unhide I _).mono ?_; rintro e w' ⟨rfl, rfl⟩)
    go_ret
    exact ⟨rfl, unhide HB⟩

set_option maxHeartbeats 1000000 in
theorem readS_any (x : Mv) (d : Md) (a : Int) (w : World) (hs : x.small) (hr : RdM w x d) : Calls Try.prog 39 #[.agg x.cs, .int .i64 a] w fun e w' => e = .returned (.tuple #[.int .i64 (d.get a), .bool (d.has a)]) ∧ Below w.heap.size w w' := by
  have HB := hide ((Below.refl w.heap.size w).alloc (Nat.le_refl _) (.cells x.cs 28))
  have X := hide (hr.later (unhide HB))
  have c0 : x.cs[0]? = some (.slice x.m.a x.m.n x.m.c) := rfl
  have hl := hr.ml
  have hs0 := hs.1
  unfold Md.get
  have I := hide (fun w => in_any a 0 510 w)
  clear hr hs
  by_cases h0 : inB a 0 510 = true
  · have hb : 0 ≤ a ∧ a ≤ 510 := by unfold inB at h0; simpa using h0
    obtain ⟨b0, b1⟩ := hb
    rw [h0] at I
    by_cases h2 : a % 2 = 0
    · have e2 := hide h2
      have g2 : a % 2 ≤ 0 := by omega
      by_cases h3 : a / 2 < (x.m.n : Int)
      · have hh : d.has a = true := by unfold Md.has; rw [adB_i b0 b1 h2, hl]; simpa using h3
        rw [hh, if_pos rfl]
        obtain ⟨k, hk⟩ := Int.eq_ofNat_of_zero_le (show 0 ≤ a / 2 by omega)
        have hkl : k < x.m.n := by omega
        rcases (unhide X).m with h00 | ⟨b, off, ha, hbl, hc⟩
        · rw [h00] at hl; simp at hl; omega
        have hcx := hc k (by omega)
        rw [hk, show ((k : Int)).toNat = k by omega]
        rw [ha] at c0
        have HK := hide hk
        have HX := hide X
        clear h2 hl hh hc X ha
        go_enter Try.func39, Try.ntmps39
        go_wp2_with (go_at_call 59; refine (unhide I _).mono ?_; rintro e w' ⟨rfl, hw'⟩; rw [hw']; clear hw' w')
        go_ret2
        exact ⟨rfl, unhide HB⟩
      · have hh : d.has a = false := by unfold Md.has; rw [hl]; simp; intro _; omega
        rw [hh, if_neg (by simp)]
        clear h2 hl hh
        go_enter Try.func39, Try.ntmps39
        go_wp2_with (go_at_call 59; refine (unhide I _).mono ?_; rintro e w' ⟨rfl, hw'⟩; rw [hw']; clear hw' w')
        go_ret2
        exact ⟨rfl, unhide HB⟩
    · have hh : d.has a = false := by unfold Md.has; rw [adB_f (.inr (.inr h2))]; rfl
      rw [hh, if_neg (by simp)]
      have g2 : 0 < a % 2 := by omega
      clear hl hh
      go_enter Try.func39, Try.ntmps39
      go_wp2_with (go_at_call 59; refine (unhide I _).mono ?_; rintro e w' ⟨rfl, hw'⟩; rw [hw']; clear hw' w')
      go_ret2
      exact ⟨rfl, unhide HB⟩
  · have h0' : inB a 0 510 = false := by simpa using h0
    have hh : d.has a = false := by unfold Md.has adB; rw [h0']; rfl
    rw [hh, if_neg (by simp)]
    rw [h0'] at I
    clear hl hh h0 h0'
    go_enter Try.func39, Try.ntmps39
    go_wp2_with (go_at_call 59; refine (unhide I _).mono ?_; rintro e w' ⟨rfl, hw'⟩; rw [hw']; clear hw' w')
    go_ret2
    exact ⟨rfl, unhide HB⟩
end Go.Proofs.Ytfkmibgamkignaa

namespace Go.Proofs.Ytfkmibgamkignaa
open Go.ChangeShapes Go.WideShapes Go.ChangeAt Go.RowKit
set_option linter.unusedVariables false
set_option linter.unusedSimpArgs false

/-- Is there such a place. -/
def Md.ldB (d : Md) (r a : Int) : Bool := if r = -1 then d.has a else (inB r 0 ((d.r.length : Int) - 1) && (a == -1))
/-- What stands there. -/
def Md.ldV (d : Md) (r a : Int) : Int := if r = -1 then d.get a else if d.ldB r a = true then nAt d.r r.toNat else 0

/-- The boxes of a machine and a place. -/
structure Bp (w wr : World) (x : Mv) (r a : Int) : Prop where
  bx : wr.heap[w.heap.size]? = some (.cells x.cs 28 (0, 0))
  bp : wr.heap[w.heap.size + 1]? = some (.cells #[.int .i64 r, .int .i64 a] 44 (0, 0))
  bel : Below w.heap.size w wr
  sz : w.heap.size + 2 ≤ wr.heap.size
theorem bp_new (w : World) (x : Mv) (r a : Int) : Bp w ((w.alloc (.cells x.cs 28)).alloc (.cells #[.int .i64 r, .int .i64 a] 44)) x r a :=
  ⟨row_lat (heap_alloc_last w _) ((Below.refl _ _).alloc (Nat.le_refl _) _), by have := heap_alloc_last (w.alloc (.cells x.cs 28)) (.cells #[.int .i64 r, .int .i64 a] 44); simpa using this, ((Below.refl _ _).alloc (Nat.le_refl _) _).alloc (by simp) _, by simp⟩
theorem Bp.later {w wr w' : World} {x : Mv} {r a : Int} (h : Bp w wr x r a) (hb : Below wr.heap.size wr w') : Bp w w' x r a :=
  ⟨row_lat h.bx hb, row_lat h.bp hb, h.bel.trans (hb.mono (by have := h.sz; omega)), Nat.le_trans h.sz hb.size⟩
theorem Bp.r {w wr : World} {x : Mv} {r a : Int} (h : Bp w wr x r a) : wr.cell? ⟨w.heap.size + 1, 0, none⟩ = some (.int .i64 r) := (cell_of_row wr _ 0 _ 44 _ h.bp).trans rfl
theorem Bp.a {w wr : World} {x : Mv} {r a : Int} (h : Bp w wr x r a) : wr.cell? ⟨w.heap.size + 1, 1, none⟩ = some (.int .i64 a) := (cell_of_row wr _ 1 _ 44 _ h.bp).trans rfl

set_option maxHeartbeats 4000000 in
theorem loadS_any (x : Mv) (d : Md) (r a : Int) (w : World) (hs : x.small) (hr : RdM w x d) :
    Calls Try.prog 27 #[.agg x.cs, .agg #[.int .i64 r, .int .i64 a]] w fun e w' => e = .returned (.tuple #[.int .i64 (d.ldV r a), .bool (d.ldB r a)]) ∧ Below w.heap.size w w' := by
  have B := hide (bp_new w x r a)
  have X := hide (hr.later (unhide B).bel)
  have R := hide (fun w (h : RdM w x d) => readS_any x d a w hs h)
  by_cases h1 : r = -1
  · subst h1
    unfold Md.ldV Md.ldB
    rw [if_pos rfl, if_pos rfl]
    go_enter Try.func27, Try.ntmps27
    go_wp2_with (first | (refine wpList_load_row rfl 28 _ rfl w.heap.size rfl 28 x.cs (0, 0) _ (unhide B).bx Try.underlying28 rfl (by kernel_rfl) ?_) | (go_at_call 39; refine (unhide R _ (unhide X)).mono ?_; rintro e w' ⟨rfl, hb⟩; have BB := hide ((unhide B).later hb).bel; clear hb))
    go_ret2
    exact ⟨rfl, unhide BB⟩
  · have c1 : x.cs[1]? = some (.slice x.r.a x.r.n x.r.c) := rfl
    have I := hide (fun w => in_any r 0 ((x.r.n : Int) - 1) w)
    have hn := hs.2.1
    have hw1 : IntKind.i64.wrap ((x.r.n : Int) - 1) = (x.r.n : Int) - 1 := by rw [IntKind.wrap_i64]; omega
    unfold Md.ldV Md.ldB
    rw [if_neg h1, if_neg h1, hr.rl]
    obtain ⟨q, hq⟩ : ∃ q, inB r 0 ((x.r.n : Int) - 1) = q := ⟨_, rfl⟩
    rw [hq] at I ⊢
    cases q
    · clear hq hr hs R X
      go_enter Try.func27, Try.ntmps27
      go_wp2_with (go_at_call 59; refine (unhide I _).mono ?_; rintro e w' ⟨rfl, hw'⟩; rw [hw']; clear hw' w')
      go_ret2
      exact ⟨rfl, (unhide B).bel⟩
    · by_cases ha : a = -1
      · subst ha
        obtain ⟨r0, r1⟩ : 0 ≤ r ∧ r ≤ (x.r.n : Int) - 1 := by unfold inB at hq; simpa using hq
        obtain ⟨k, rfl⟩ := Int.eq_ofNat_of_zero_le r0
        have hkl : k < x.r.n := by omega
        have hrl := hr.rl
        rcases (unhide X).r with h00 | ⟨b, off, hra, hbl, hc⟩
        · rw [h00] at hrl; simp at hrl; omega
        have hcx := hc k (by omega)
        have hki : (k : Int) < (x.r.n : Int) := by omega
        rw [hra] at c1
        rw [show ((k : Int)).toNat = k by omega]
        clear hq hr hs R X hra hc hrl
        go_enter Try.func27, Try.ntmps27
        go_wp2_with (go_at_call 59; refine (unhide I _).mono ?_; rintro e w' ⟨rfl, hw'⟩; rw [hw']; clear hw' w')
        go_ret2
        exact ⟨rfl, (unhide B).bel⟩
      · rw [show (a == -1) = false by simpa using ha]
        clear hq hr hs R X
        go_enter Try.func27, Try.ntmps27
        go_wp2_with (go_at_call 59; refine (unhide I _).mono ?_; rintro e w' ⟨rfl, hw'⟩; rw [hw']; clear hw' w')
        go_ret2
        exact ⟨rfl, (unhide B).bel⟩
end Go.Proofs.Ytfkmibgamkignaa

namespace Go.Proofs.Ytfkmibgamkignaa
open Go.ChangeShapes Go.WideShapes Go.ChangeAt Go.RowKit
set_option linter.unusedVariables false
set_option maxRecDepth 8000
set_option linter.unusedSimpArgs false

theorem nAt_laid {ns mem : List Int} {k : Nat} (h : k < 256) (hk : k < ns.length) : nAt (laidM ns mem) k = nAt ns k := by
  unfold nAt laidM
  rw [List.getD_eq_getElem?_getD, List.getD_eq_getElem?_getD, List.getElem?_append_left (by rw [List.length_take]; omega), List.getElem?_take, if_pos h]

set_option maxHeartbeats 1000000 in
theorem readI_any (x : Mv) (d : Md) (a : Int) (w : World) (hs : x.small) (hz : x.nz) (hr : RdM w x d) : Calls Try.prog 17 #[.agg x.cs, .int .i64 a] w fun e w' => e = .returned (.tuple #[.int .i64 (d.get a), .bool (d.has a)]) ∧ Below w.heap.size w w' := by
  have HB := hide (below_new w (.cells x.cs 28))
  have X := hide (hr.later (unhide HB))
  have R0 := hide (heap_alloc_last w (.cells x.cs 28))
  have H := hide (has_any x d a (w.alloc (.cells x.cs 28)) hr.ml hs.1)
  have HT := hide (has_t (d := d) (a := a))
  have S := hide hs
  have NZ := hide hz
  unfold Md.get
  clear hr hs hz
  generalize d.has a = q at H HT ⊢
  go_enter Try.func17, Try.ntmps17
  go_wp2_with (refine wpList_load_row rfl 28 _ rfl w.heap.size rfl 28 x.cs (0, 0) _ (unhide R0) Try.underlying28 rfl (by kernel_rfl) ?_)
  refine (unhide H).mono ?_
  rintro e w1 ⟨rfl, hb⟩
  have X1 := hide ((unhide X).later hb)
  have R1 := hide (row_lat (unhide R0) hb)
  have B1 := hide ((unhide HB).trans (hb.mono (by have := (unhide HB).size; omega)))
  clear hb X R0 HB H
  cases q
  · go_wp2
    go_ret2
    exact ⟨rfl, unhide B1⟩
  obtain ⟨ta, tl⟩ := unhide HT (by trivial)
  obtain ⟨t0, t1, _⟩ := adB_t ta
  clear HT ta
  have M := hide (machineOf_any x d w1 (unhide S) (unhide NZ) (unhide X1))
  go_wp2_with (refine wpList_load_row rfl 28 _ rfl w.heap.size rfl 28 x.cs (0, 0) _ (unhide R1) Try.underlying28 rfl (by kernel_rfl) ?_)
  refine (unhide M).mono ?_
  rintro e w2 ⟨y, rfl, fy, oy, hb⟩
  have B2 := hide (((unhide B1).trans (hb.mono (by have := (unhide B1).size; omega))).alloc (by have := hb.size; have := (unhide B1).size; omega) (.cells (bigA (laidM d.m z256) y) 80))
  have W2 := hide (word_at w2.heap.size a (laidM d.m z256) y (w2.alloc (.cells (bigA (laidM d.m z256) y) 80)) t0 (by omega) (laidM_len z256_len) (heap_alloc_last w2 _))
  have E : nAt (laidM d.m z256) (a / 2).toNat = nAt d.m (a / 2).toNat := nAt_laid (by omega) (by omega)
  rw [E] at W2
  clear hb fy oy M B1 E
  go_wp2_with (first | (refine wpList_alloc60 rfl rfl ?_) | (refine wpList_store60 rfl _ _ rfl (laidM d.m z256) y (laidM_len z256_len) rfl rfl ?_))
  refine (unhide W2).mono ?_
  rintro e w' ⟨rfl, rfl⟩
  go_wp2
  go_ret2
  exact ⟨by simp, unhide B2⟩
end Go.Proofs.Ytfkmibgamkignaa

namespace Go.Proofs.Ytfkmibgamkignaa
open Go.ChangeShapes Go.WideShapes Go.ChangeAt Go.RowKit
set_option linter.unusedVariables false
set_option maxRecDepth 8000
set_option linter.unusedSimpArgs false

theorem bigA_set {mem : List Int} (y : Mv) (k : Nat) (v : Int) (hm : mem.length = 256) (hk : k < 256) : (bigA mem y).setIfInBounds k (.int .i64 v) = bigA (mem.set k v) y := by
  unfold bigA
  rw [List.setIfInBounds_toArray, List.set_append_left _ _ (by rw [cellsN_length]; omega)]
  congr 2
  unfold cellsN
  rw [List.map_set]

theorem quo2 {a : Int} {k : Nat} (h0 : 0 ≤ a) (h1 : a < 9223372036854775807) (hk : a / 2 = (k : Int)) : IntKind.i64.wrap (a.tdiv 2) = (k : Int) := by
  rw [Int.tdiv_eq_ediv_of_nonneg h0, IntKind.wrap_i64]
  omega

set_option maxHeartbeats 1000000 in
theorem setWord_any (g : Nat) (a n : Int) (mem : List Int) (y : Mv) (w : World) (h0 : 0 ≤ a) (h1 : a < 512) (hm : mem.length = 256) (hg : w.heap[g]? = some (.cells (bigA mem y) 80 (0, 0))) :
    Calls Try.prog 57 #[.pointer (some ⟨g, 0, none⟩), .int .i64 a, .int .i64 n] w fun e w' => e = .returned (.tuple #[]) ∧ w'.heap[g]? = some (.cells (bigA (mem.set (a / 2).toNat (n % 65536)) y) 80 (0, 0)) ∧ w.grownBy w' (some g) := by
  obtain ⟨k, hk⟩ := Int.eq_ofNat_of_zero_le (show 0 ≤ a / 2 by omega)
  have hk2 : k < 256 := by omega
  have hc : w.cell? ⟨g, k, none⟩ = some (.int .i64 (nAt mem k)) := (cell_of_row w g k _ 80 _ hg).trans (bigA_mem y hm hk2)
  have hf : w.frozen? ⟨g, k, none⟩ = false := by simp [World.frozen?, hg]
  rw [hk, show ((k : Int)).toNat = k by omega]
  have E1 := hide ((show (w.setCell ⟨g, k, none⟩ (.int .i64 (n % 65536))).heap[g]? = some (.cells (bigA (mem.set k (n % 65536)) y) 80 (0, 0)) by rw [setCell_eq_setRow w g k _ 80 (0, 0) _ hg, bigA_set y k _ hm hk2]; exact setRow_heap w g _ _ 80 _ hg))
  have E2 := hide (grownBy_set (w := w) (b := g) (o := k) (.int .i64 (n % 65536)))
  have WR := hide (fun w => wrapI_any n w)
  generalize n % 65536 = q at E1 E2 WR ⊢
  have CL := hide (fun w => cell_at g a w h0 h1)
  rw [hk, show ((k : Int)).toNat = k by omega] at CL
  clear hg hk
  go_enter Try.func57, Try.ntmps57
  go_wp2_with fail
  refine (unhide CL _).mono ?_
  rintro e w' ⟨rfl, rfl⟩
  go_wp2_with fail
  refine (unhide WR _).mono ?_
  rintro e w' ⟨rfl, rfl⟩
  go_wp2
  go_end0
  exact ⟨rfl, unhide E1, unhide E2⟩
end Go.Proofs.Ytfkmibgamkignaa

namespace Go.Proofs.Ytfkmibgamkignaa
open Go.ChangeShapes Go.WideShapes Go.ChangeAt Go.RowKit
set_option linter.unusedVariables false
set_option maxRecDepth 8000
set_option linter.unusedSimpArgs false

theorem big_cell {w : World} {g : Nat} {mem : List Int} {y : Mv} (h : w.heap[g]? = some (.cells (bigA mem y) 80 (0, 0))) (hm : mem.length = 256) (k : Nat) (v : Value) (hv : y.cs[k]? = some v) : w.cell? ⟨g, 256 + k, none⟩ = some v :=
  (cell_of_row w g _ _ 80 _ h).trans ((bigA_mach y hm).trans hv)
/-- One list written: the others stay. -/
theorem OwnM.putM {w w' : World} {B : Nat} {x : Mv} {d : Md} {ns : List Int} (h : OwnM w B x d) (hg : w.grownBy w' x.m.v.ownBlock) (hn : OwnN w' B x.m.v ns) : OwnM w' B x ⟨ns, d.r, d.i, d.o⟩ :=
  { h with
    m := hn
    r := h.r.keep fun q hv hq => hg.block q hq (fun e => h.mr q e.symm hv)
    i := h.i.keep fun q hv hq => hg.block q hq (fun e => h.mi q e.symm hv)
    o := h.o.keep fun q hv hq => hg.block q hq (fun e => h.mo q e.symm hv) }
theorem OwnM.rowN {w w2 : World} {B B' : Nat} {x : Mv} {d d' : Md} (h : OwnM w2 B x d) (h0 : OwnM w B' x d') (cs : Array Value) : OwnM (w2.setRow w.heap.size cs) B x d :=
  { h with
    m := h.m.keep fun q hv _ => setRow_other w2 _ q cs (by have := (h0.m.lt hv).2; omega)
    r := h.r.keep fun q hv _ => setRow_other w2 _ q cs (by have := (h0.r.lt hv).2; omega)
    i := h.i.keep fun q hv _ => setRow_other w2 _ q cs (by have := (h0.i.lt hv).2; omega)
    o := h.o.keep fun q hv _ => setRow_other w2 _ q cs (by have := (h0.o.lt hv).2; omega) }
def zC : Array Value := #[Value.slice none 0 0, Value.slice none 0 0, Value.bool false, Value.bool false, Value.bool false, Value.bool false, Value.slice none 0 0, Value.slice none 0 0, Value.int .i64 0]
theorem own_ne {w : World} {B g : Nat} {s : Sl} {ns : List Int} (h : OwnN w B s.v ns) (hg : g < B ∨ w.heap.size ≤ g) : some g ≠ s.v.ownBlock := fun e => by
  have := h.lt e.symm
  omega

set_option maxHeartbeats 2000000 in
theorem answer_any (g B : Nat) (mem : List Int) (y : Mv) (d : Md) (w : World) (hm : mem.length = 256) (hg : w.heap[g]? = some (.cells (bigA mem y) 80 (0, 0))) (ho : OwnM w B y d) (hB : some g ≠ y.m.v.ownBlock) :
    Calls Try.prog 54 #[.pointer (some ⟨g, 0, none⟩)] w fun e w' => e = .returned (.agg y.cs) ∧ OwnM w' B y ⟨mem.take d.m.length ++ d.m.drop 256, d.r, d.i, d.o⟩ ∧ w.grownBy w' y.m.v.ownBlock := by
  have b1 := (below_new w (.cells #[Value.slice none 0 0, Value.slice none 0 0, Value.bool false, Value.bool false, Value.bool false, Value.bool false, Value.slice none 0 0, Value.slice none 0 0, Value.int .i64 0] 28)).trans ((below_drew (w := w.alloc (.cells #[Value.slice none 0 0, Value.slice none 0 0, Value.bool false, Value.bool false, Value.bool false, Value.bool false, Value.slice none 0 0, Value.slice none 0 0, Value.int .i64 0] 28))).mono (below_new w (.cells #[Value.slice none 0 0, Value.slice none 0 0, Value.bool false, Value.bool false, Value.bool false, Value.bool false, Value.slice none 0 0, Value.slice none 0 0, Value.int .i64 0] 28)).size)
  have g1 := row_lat hg b1
  have r1 : (w.alloc (.cells #[Value.slice none 0 0, Value.slice none 0 0, Value.bool false, Value.bool false, Value.bool false, Value.bool false, Value.slice none 0 0, Value.slice none 0 0, Value.int .i64 0] 28)).drew.heap[w.heap.size]? = some (.cells #[Value.slice none 0 0, Value.slice none 0 0, Value.bool false, Value.bool false, Value.bool false, Value.bool false, Value.slice none 0 0, Value.slice none 0 0, Value.int .i64 0] 28 (0, 0)) := heap_alloc_last w _
  have o1 := ho.later b1
  obtain ⟨w2, k, hcp, hn, hgr⟩ := copy_out y.m d.m mem y g B (w.alloc (.cells #[Value.slice none 0 0, Value.slice none 0 0, Value.bool false, Value.bool false, Value.bool false, Value.bool false, Value.slice none 0 0, Value.slice none 0 0, Value.int .i64 0] 28)).drew g1 hm o1.m
  have O2 := hide (o1.putM hgr hn)
  have G2 := hide ((hgr.block g (row_lt g1) hB).trans g1)
  have R2 := hide ((hgr.block w.heap.size (row_lt r1) (own_ne ho.m (.inr (Nat.le_refl _)))).trans r1)
  have GR := hide (grownBy_trans (grownBy_below b1) hgr)
  have HO := hide ho
  have C1 := hide (big_cell g1 hm 0 _ rfl)
  have CP := hide hcp
  clear hcp hn hgr o1 r1 b1 ho hg
  go_enter Try.func54, Try.ntmps54
  go_wp2_with fail
  refine wp_region_held_drew (S := fun w' => w'.cell? ⟨g, 256, none⟩ = some (.slice y.m.a y.m.n y.m.c)) (by kernel_rfl) (unhide C1) (fun hS => ?_)
  have HS := hide hS
  clear hS
  refine wpAnyH_take (i := 0) (v := .pointer (some ⟨g, 0, none⟩)) rfl (by kernel_rfl) (by kernel_rfl) (by kernel_rfl) (fun _ _ _ h => h) (Or.inl ⟨by rfl, fun w hc => ?_⟩) (unhide HS) ?_
  · clear hc; go_simp
  go_simp
  refine wpAnyH_take (i := 1) (v := .pointer (some ⟨g, 0, none⟩)) rfl (by kernel_rfl) (by kernel_rfl) (by kernel_rfl) (fun _ _ _ h => h) (Or.inl ⟨by rfl, fun w hc => ?_⟩) (unhide HS) ?_
  · clear hc; go_simp
  go_simp
  refine wpAnyH_take (i := 2) (v := .pointer (some ⟨g, 256, none⟩)) rfl (by kernel_rfl) (by kernel_rfl) (by kernel_rfl) (fun _ _ _ h => h) (Or.inl ⟨by rfl, fun w hc => ?_⟩) (unhide HS) ?_
  · clear hc; go_simp
  go_simp
  refine wpAnyH_take (i := 3) (v := .pointer (some ⟨g, 256, none⟩)) rfl (by kernel_rfl) (by kernel_rfl) (by kernel_rfl) (fun _ _ _ h => h) (Or.inl ⟨by rfl, fun w hc => ?_⟩) (unhide HS) ?_
  · clear hc; go_simp
  go_simp
  refine wpAnyH_take (i := 4) (v := .slice y.m.a y.m.n y.m.c) rfl (by kernel_rfl) (by kernel_rfl) (by kernel_rfl) (fun _ _ _ h => h) (Or.inl ⟨by rfl, fun w hc => ?_⟩) (unhide HS) ?_
  · go_simp
  go_simp
  refine wpAnyH_take (i := 5) (v := .pointer (some ⟨g, 0, none⟩)) rfl (by kernel_rfl) (by kernel_rfl) (by kernel_rfl) (fun _ _ _ h => h) (Or.inl ⟨by rfl, fun w hc => ?_⟩) (unhide HS) ?_
  · clear hc; go_simp
  go_simp
  refine wpAnyH_take (i := 6) (v := .pointer (some ⟨g, 0, none⟩)) rfl (by kernel_rfl) (by kernel_rfl) (by kernel_rfl) (fun _ _ _ h => h) (Or.inl ⟨by rfl, fun w hc => ?_⟩) (unhide HS) ?_
  · clear hc; go_simp
  go_simp
  refine wpAnyH_take (i := 7) (v := .pointer (some ⟨g, 0, none⟩)) rfl (by kernel_rfl) (by kernel_rfl) (by kernel_rfl) (fun _ _ _ h => h) (Or.inl ⟨by rfl, fun w hc => ?_⟩) (unhide HS) ?_
  · clear hc; go_simp
  go_simp
  refine wpAnyH_take (i := 8) (v := .slice (some ⟨g, 0, none⟩) 256 256) rfl (by kernel_rfl) (by kernel_rfl) (by kernel_rfl) (fun _ _ _ h => h) (Or.inl ⟨by rfl, fun w hc => ?_⟩) (unhide HS) ?_
  · clear hc; go_simp
  go_simp
  refine wpAnyH_ready (rs := [9]) (by kernel_rfl) (by simp) ?_
  refine AllReadyH.cons rfl (fun K hK => ?_) AllReadyH.nil
  have hcp := unhide CP
  go_simp
  refine hK.out _ _ (big_cell (unhide G2) hm 0 _ rfl) (fun _ => ?_)
  clear hK K hcp CP HS C1
  refine wpAnyH_done (by kernel_rfl) ?_ _
  have c0 : w2.cell? ⟨g, 256, none⟩ = some (.slice y.m.a y.m.n y.m.c) := big_cell (unhide G2) hm 0 _ rfl
  have c1 : w2.cell? ⟨g, 257, none⟩ = some (.slice y.r.a y.r.n y.r.c) := big_cell (unhide G2) hm 1 _ rfl
  have c2 : w2.cell? ⟨g, 258, none⟩ = some (.bool y.n) := big_cell (unhide G2) hm 2 _ rfl
  have c3 : w2.cell? ⟨g, 259, none⟩ = some (.bool y.z) := big_cell (unhide G2) hm 3 _ rfl
  have c4 : w2.cell? ⟨g, 260, none⟩ = some (.bool y.v) := big_cell (unhide G2) hm 4 _ rfl
  have c5 : w2.cell? ⟨g, 261, none⟩ = some (.bool y.c) := big_cell (unhide G2) hm 5 _ rfl
  have c6 : w2.cell? ⟨g, 262, none⟩ = some (.slice y.i.a y.i.n y.i.c) := big_cell (unhide G2) hm 6 _ rfl
  have c7 : w2.cell? ⟨g, 263, none⟩ = some (.slice y.o.a y.o.n y.o.c) := big_cell (unhide G2) hm 7 _ rfl
  have c8 : w2.cell? ⟨g, 264, none⟩ = some (.int .i64 y.st) := big_cell (unhide G2) hm 8 _ rfl
  go_wp2_with (refine wpList_store_row rfl 28 _ _ rfl w.heap.size y.cs rfl rfl 28 zC (unhide R2) (by kernel_rfl) rfl (Mv.cs_one _) ?_)
  refine bodyPost_ret (results_cell_row (P := Try.prog) rfl _ _ w.heap.size 28 y.cs (0, 0) _ rfl (setRow_heap w2 _ _ _ 28 _ (unhide R2)) Try.underlying28 rfl (by kernel_rfl)) rfl ?_
  exact ⟨rfl, (unhide O2).rowN (unhide HO) _, grownBy_own (unhide GR) (grownBy_setRow _) (fun b e => by cases e; exact Nat.le_refl _)⟩
end Go.Proofs.Ytfkmibgamkignaa

namespace Go.Proofs.Ytfkmibgamkignaa
open Go.ChangeShapes Go.WideShapes Go.ChangeAt Go.RowKit
set_option linter.unusedVariables false
set_option maxRecDepth 8000
set_option linter.unusedSimpArgs false

theorem results_row2 {P : Program} {fn : Func} {p u : Tmp} {ty : TypeId} (h : fn.results = #[.cell p ty, .tmp u]) (tmps : Array Value) (w : World) (g : Nat) (t : TypeId) (cs : Array Value) (fr : Nat × Nat) (d : TypeDesc)
    (hp : tmps.getD p undef = .pointer (some ⟨g, 0, none⟩)) (hg : w.heap[g]? = some (.cells cs t fr))
    (hu : P.underlying ty = some d) (hd : (match d with | .struct _ | .array _ _ => true | _ => false) = true) (hi : (P.info? ty).map (·.size) = some cs.size) :
    (results fn tmps).run P w = .ok (.tuple #[.agg cs, tmps.getD u undef]) w := by
  have hp' : tmps[p]?.getD undef = .pointer (some ⟨g, 0, none⟩) := by simpa using hp
  simp [results, h, hp', asAddr, run_loadVar_row w g t ty cs fr d hg hu hd hi]

/-- What stands behind a write. -/
def Md.put (d : Md) (a n : Int) : Md := if d.has a = true then ⟨d.m.set (a / 2).toNat (n % 65536), d.r, d.i, d.o⟩ else d
theorem back_same (ns : List Int) : (laidM ns z256).take ns.length ++ ns.drop 256 = ns := by
  unfold laidM
  by_cases h : ns.length ≤ 256
  · rw [List.take_of_length_le h, List.drop_eq_nil_of_le h, List.append_nil, List.take_append_of_le_length (Nat.le_refl _), List.take_of_length_le (Nat.le_refl _)]
  · have hz : z256.drop ns.length = [] := List.drop_eq_nil_of_le (by rw [z256_len]; omega)
    rw [hz, List.append_nil, List.take_of_length_le (by rw [List.length_take]; omega), List.take_append_drop]
theorem back_set (ns : List Int) (k : Nat) (v : Int) (h : k < 256) (hk : k < ns.length) : ((laidM ns z256).set k v).take ns.length ++ ns.drop 256 = ns.set k v := by
  have hb := back_same ns
  rw [List.take_set, ← List.set_append_left _ _ (by rw [List.length_take, laidM_len z256_len]; omega), hb]
theorem Cc.pastR {w wr w' : World} {x : Mv} {row : Option Nat} (h : Cc w wr x) (hg : wr.grownBy w' row) (hr : ∀ g, row = some g → w.heap.size + 2 ≤ g) : Cc w w' x :=
  ⟨(hg.block _ (row_lt h.bx) (fun e => by have := hr _ e.symm; omega)).trans h.bx, (hg.block _ (row_lt h.re) (fun e => by have := hr _ e.symm; omega)).trans h.re, h.bel.grown hg h.bel.size (fun k e => by have := hr _ e; omega), Nat.le_trans h.sz hg.size⟩
/-- Rows that the machine's lists do not lie in may be written. -/
theorem OwnM.pastN {w w' w1 : World} {B B' : Nat} {x : Mv} {d d' : Md} (h : OwnM w B x d) (h0 : OwnM w1 B' x d') (hg : w.grownBy w' (some w1.heap.size)) : OwnM w' B x d :=
  { h with
    m := h.m.keep fun q hv hq => hg.block q hq (by have := (h0.m.lt hv).2; simp; omega)
    r := h.r.keep fun q hv hq => hg.block q hq (by have := (h0.r.lt hv).2; simp; omega)
    i := h.i.keep fun q hv hq => hg.block q hq (by have := (h0.i.lt hv).2; simp; omega)
    o := h.o.keep fun q hv hq => hg.block q hq (by have := (h0.o.lt hv).2; simp; omega) }

set_option maxHeartbeats 2000000 in
theorem writeI_any (x : Mv) (d : Md) (a n : Int) (w : World) (hs : x.small) (hz : x.nz) (hr : RdM w x d) : Calls Try.prog 16 #[.agg x.cs, .int .i64 a, .int .i64 n] w fun e w' => ∃ y : Mv, e = .returned (.tuple #[.agg y.cs, .bool (d.has a)]) ∧ y.fl = x.fl ∧ OwnM w' (w.heap.size + 2) y (d.put a n) ∧ Below w.heap.size w w' := by
  have C := hide (cc_new w x)
  have X := hide (hr.later (unhide C).bel)
  have M := hide (machineOf_any x d _ hs hz (unhide X))
  have HT := hide (has_t (d := d) (a := a))
  have S := hide hs
  have HL := hide hr.ml
  unfold Md.put
  obtain ⟨q, hq⟩ : ∃ q, d.has a = q := ⟨_, rfl⟩
  rw [hq] at HT ⊢
  have HQ := hide hq
  clear hr hs hz hq
  go_enter Try.func16, Try.ntmps16
  go_wp2_with (refine wpList_load_row rfl 28 _ rfl w.heap.size rfl 28 x.cs (0, 0) _ (unhide C).bx Try.underlying28 rfl (by kernel_rfl) ?_)
  refine (unhide M).mono ?_
  rintro e w1 ⟨y, rfl, fy, oy, hb⟩
  have FY := hide fy
  have O1 := hide (oy.base (C := w.heap.size + 2) (by have := (unhide C).sz; omega))
  have C1 := hide (((unhide C).later hb).later (below_new w1 (.cells (bigA (laidM d.m z256) y) 80)))
  have H1 := hide (has_any x d a (w1.alloc (.cells (bigA (laidM d.m z256) y) 80)) (unhide HL) (unhide S).1)
  rw [unhide HQ] at H1
  have G1 := hide (heap_alloc_last w1 (.cells (bigA (laidM d.m z256) y) 80))
  have Z1 := hide (Nat.le_trans (unhide C).sz hb.size)
  clear fy oy hb M C X
  go_wp2_with (first | (refine wpList_alloc60 rfl rfl ?_) | (refine wpList_store60 rfl _ _ rfl (laidM d.m z256) y (laidM_len z256_len) rfl rfl ?_) | (refine wpList_load_row rfl 28 _ rfl w.heap.size rfl 28 x.cs (0, 0) _ (unhide C1).bx Try.underlying28 rfl (by kernel_rfl) ?_))
  refine (unhide H1).mono ?_
  rintro e w2 ⟨rfl, hb⟩
  have C2 := hide ((unhide C1).later hb)
  have G2 := hide (row_lat (unhide G1) hb)
  have O2 := hide (((unhide O1).later (below_new w1 (.cells (bigA (laidM d.m z256) y) 80))).later hb)
  clear hb C1 G1 H1
  cases q
  · have A := hide (answer_any w1.heap.size (w.heap.size + 2) (laidM d.m z256) y d w2 (laidM_len z256_len) (unhide G2) (unhide O2) (own_ne (unhide O1).m (.inr (Nat.le_refl _))))
    go_wp2_with fail
    refine (unhide A).mono ?_
    rintro e w3 ⟨rfl, o3, g3⟩
    rw [back_same] at o3
    have C3 := hide ((unhide C2).pastR g3 (fun b e => ((unhide O2).m.lt e).1))
    have O3 := hide o3
    clear o3 g3 A
    go_wp2_with (refine wpList_store_row rfl 28 _ _ rfl (w.heap.size + 1) y.cs rfl rfl 28 zMv.cs (unhide C3).re (by kernel_rfl) rfl (Mv.cs_one _) ?_)
    refine bodyPost_ret (results_row2 (P := Try.prog) rfl _ _ (w.heap.size + 1) 28 y.cs (0, 0) _ rfl (setRow_heap w3 _ _ _ 28 _ (unhide C3).re) Try.underlying28 rfl (by kernel_rfl)) rfl ?_
    exact ⟨y, rfl, unhide FY, (unhide O3).row (by omega) _, below_setRow (unhide C3).bel (by omega) _⟩
  · obtain ⟨ta, tl⟩ := unhide HT (by trivial)
    obtain ⟨t0, t1, _⟩ := adB_t ta
    clear ta HT
    have W2 := hide (setWord_any w1.heap.size a n (laidM d.m z256) y w2 t0 (by omega) (laidM_len z256_len) (unhide G2))
    have TL := hide tl
    clear tl
    go_wp2_with fail
    refine (unhide W2).mono ?_
    rintro e w3 ⟨rfl, r3, g3⟩
    have G3 := hide r3
    have O3 := hide ((unhide O2).pastN (unhide O1) g3)
    have C3 := hide ((unhide C2).pastR g3 (fun b e => by cases e; exact unhide Z1))
    have A := hide (answer_any w1.heap.size (w.heap.size + 2) ((laidM d.m z256).set (a / 2).toNat (n % 65536)) y d w3 (by rw [List.length_set, laidM_len z256_len]) (unhide G3) (unhide O3) (own_ne (unhide O1).m (.inr (Nat.le_refl _))))
    rw [back_set d.m (a / 2).toNat (n % 65536) (by omega) (by have := unhide TL; omega)] at A
    clear r3 g3 W2 C2 O2 G2
    go_wp2_with fail
    refine (unhide A).mono ?_
    rintro e w4 ⟨rfl, o4, g4⟩
    have C4 := hide ((unhide C3).pastR g4 (fun b e => ((unhide O3).m.lt e).1))
    have O4 := hide o4
    clear o4 g4 A
    go_wp2_with (refine wpList_store_row rfl 28 _ _ rfl (w.heap.size + 1) y.cs rfl rfl 28 zMv.cs (unhide C4).re (by kernel_rfl) rfl (Mv.cs_one _) ?_)
    refine bodyPost_ret (results_row2 (P := Try.prog) rfl _ _ (w.heap.size + 1) 28 y.cs (0, 0) _ rfl (setRow_heap w4 _ _ _ 28 _ (unhide C4).re) Try.underlying28 rfl (by kernel_rfl)) rfl ?_
    exact ⟨y, rfl, unhide FY, (unhide O4).row (by omega) _, below_setRow (unhide C4).bel (by omega) _⟩
end Go.Proofs.Ytfkmibgamkignaa

namespace Go.Proofs.Ytfkmibgamkignaa
open Go.ChangeShapes Go.WideShapes Go.ChangeAt Go.RowKit
set_option linter.unusedVariables false
set_option maxRecDepth 8000
set_option linter.unusedSimpArgs false

theorem cm_copy0 (w : World) (x : Mv) : Cm w (((w.alloc (.cells x.cs 28)).alloc (.cells zMv.cs 28)).alloc (.cells x.cs 28)) 28 x x := by
  have z1 : (w.alloc (.cells x.cs 28)).heap.size = w.heap.size + 1 := by simp
  have z2 : ((w.alloc (.cells x.cs 28)).alloc (.cells zMv.cs 28)).heap.size = w.heap.size + 1 + 1 := by simp
  have a1 := row_lat (row_lat (heap_alloc_last w (.cells x.cs 28)) (below_new _ (.cells zMv.cs 28))) (below_new _ (.cells x.cs 28))
  have a2 := row_lat (heap_alloc_last (w.alloc (.cells x.cs 28)) (.cells zMv.cs 28)) (below_new _ (.cells x.cs 28))
  have a3 := heap_alloc_last ((w.alloc (.cells x.cs 28)).alloc (.cells zMv.cs 28)) (.cells x.cs 28)
  rw [z1] at a2
  rw [z2] at a3
  exact ⟨a1, a2, a3, (((Below.refl _ _).alloc (Nat.le_refl _) _).alloc (by omega) _).alloc (by omega) _, by simp⟩
theorem cm_copy (w : World) (x : Mv) : Cm w (((w.alloc (.cells x.cs 28)).alloc (.cells #[Value.slice none 0 0, Value.slice none 0 0, Value.bool false, Value.bool false, Value.bool false, Value.bool false, Value.slice none 0 0, Value.slice none 0 0, Value.int .i64 0] 28)).alloc (.cells x.cs 28)) 28 x x := cm_copy0 w x
theorem wpList_store_newG {P : Program} {ops : Array Oper} {rest : List Oper} {o : Oper} {a : Act} {w : World} {Q : Exit → Act → World → Prop} (hgd : o.guard = none) (ty : TypeId) (x y : Operand) (ho : o.op = .store ty x y)
    (cells : Array Value) (g : Nat) (hgz : w.heap.size = g) (hx : a.eval x = .pointer (some ⟨g, 0, none⟩)) (hy : a.eval y = .agg cells) (old : Array Value) (hi : (P.info? ty).map (·.size) = some cells.size)
    (hold : old.size = cells.size) (h1 : cells.all (·.oneCell') = true) (h : wpList P ops Q rest (a.put o.dst undef) (w.alloc (.cells cells ty))) : wpList P ops Q (o :: rest) a (w.alloc (.cells old ty)) := by
  subst hgz
  exact wpList_store_new hgd ty x y ho cells hx hy old hi hold h1 h
theorem Cm.past {w wr w' : World} {tb : TypeId} {x o : Mv} {row : Option Nat} (h : Cm w wr tb x o) (hg : wr.grownBy w' row) (hr : ∀ g, row = some g → w.heap.size + 3 ≤ g) : Cm w w' tb x o :=
  ⟨(hg.block _ (row_lt h.bx) (fun e => by have := hr _ e.symm; omega)).trans h.bx, (hg.block _ (row_lt h.re) (fun e => by have := hr _ e.symm; omega)).trans h.re, (hg.block _ (row_lt h.out) (fun e => by have := hr _ e.symm; omega)).trans h.out, h.bel.grown hg h.bel.size (fun k e => by have := hr _ e; omega), Nat.le_trans h.sz hg.size⟩
theorem RdN.pastR {w w' : World} {a : Option Addr} {ns : List Int} {row : Option Nat} (h : RdN w a ns) (hg : w.grownBy w' row) (hne : ∀ b, row = some b → ns = [] ∨ ∀ ad, a = some ad → ad.block ≠ b) : RdN w' a ns := by
  rcases h with h | ⟨c, off, rfl, hlt, hc⟩
  · exact .inl h
  · by_cases h0 : ns = []
    · exact .inl h0
    exact .inr ⟨c, off, rfl, Nat.lt_of_lt_of_le hlt hg.size, fun i hi => (World.cell?_of_block (w := w) (hg.block c hlt (fun e => by
      rcases hne c e.symm with h1 | h1
      · exact h0 h1
      · exact h1 _ rfl rfl))).trans (hc i hi)⟩
/-- What came in reads on while rows made behind it are written. -/
theorem RdM.pastR {w wr w' : World} {x : Mv} {d : Md} {row : Option Nat} (h : RdM wr x d) (hw : RdM w x d) (hg : wr.grownBy w' row) (hr : ∀ g, row = some g → w.heap.size ≤ g) : RdM w' x d := by
  have key : ∀ {a : Option Addr} {ns : List Int}, RdN w a ns → ∀ b, row = some b → ns = [] ∨ ∀ ad, a = some ad → ad.block ≠ b := fun hr' b e => by
    rcases hr' with h0 | ⟨b', off, rfl, hb', _⟩
    · exact .inl h0
    · exact .inr fun ad e' => by cases e'; have := hr b e; show b' ≠ b; omega
  exact ⟨h.m.pastR hg (key hw.m), h.r.pastR hg (key hw.r), h.i.pastR hg (key hw.i), h.o.pastR hg (key hw.o), h.ml, h.rl, h.il, h.ol⟩
/-- A list of no element, made for a copy. -/
theorem ownN_new (w : World) (B g : Nat) (hg : w.heap.size = g) (hB : B ≤ w.heap.size) : OwnN (w.alloc (.cells #[] 3)) B (.slice (some ⟨g, 0, none⟩) 0 0) [] := by
  subst hg
  exact (ownN_empty w).base hB

set_option maxHeartbeats 4000000 in
theorem copyS_any (x : Mv) (d : Md) (w : World) (hs : x.small) (hz : x.nz) (hr : RdM w x d) : Calls Try.prog 68 #[.agg x.cs] w fun e w' => ∃ y : Mv, e = .returned (.agg y.cs) ∧ y.fl = x.fl ∧ OwnM w' (w.heap.size + 3) y d ∧ Below w.heap.size w w' := by
  obtain ⟨s0, s1, s2, s3⟩ := hs
  have NZ := hide hz
  have C := hide (cm_copy w x)
  have HR := hide hr
  have R := hide (hr.later (unhide C).bel)
  have R0 : Hid (((w.alloc (.cells x.cs 28)).alloc (.cells #[Value.slice none 0 0, Value.slice none 0 0, Value.bool false, Value.bool false, Value.bool false, Value.bool false, Value.slice none 0 0, Value.slice none 0 0, Value.int .i64 0] 28)).heap[w.heap.size]? = some (.cells x.cs 28 (0, 0))) := hide (row_lat (heap_alloc_last w (.cells x.cs 28)) (below_new _ (.cells #[Value.slice none 0 0, Value.slice none 0 0, Value.bool false, Value.bool false, Value.bool false, Value.bool false, Value.slice none 0 0, Value.slice none 0 0, Value.int .i64 0] 28)))
  clear hr hz
  go_enter Try.func68, Try.ntmps68
  have E := hide (below_new (((w.alloc (.cells x.cs 28)).alloc (.cells #[Value.slice none 0 0, Value.slice none 0 0, Value.bool false, Value.bool false, Value.bool false, Value.bool false, Value.slice none 0 0, Value.slice none 0 0, Value.int .i64 0] 28)).alloc (.cells x.cs 28)) (.cells #[] 3))
  have SZ : Hid ((((w.alloc (.cells x.cs 28)).alloc (.cells #[Value.slice none 0 0, Value.slice none 0 0, Value.bool false, Value.bool false, Value.bool false, Value.bool false, Value.slice none 0 0, Value.slice none 0 0, Value.int .i64 0] 28)).alloc (.cells x.cs 28)).heap.size = w.heap.size + 1 + 1 + 1) := hide (by simp)
  have q0 := row_m ((unhide C).later (unhide E)).bx
  have STAGE0 := hide trivial
  go_wp2_with (first
    | (have hst := STAGE0; refine wpList_load_row rfl 28 _ rfl w.heap.size rfl 28 x.cs (0, 0) _ (unhide R0) Try.underlying28 rfl (by kernel_rfl) ?_)
    | (have hst := STAGE0; refine wpList_store_newG rfl 28 _ _ rfl x.cs (w.heap.size + 1 + 1) (by simp) rfl rfl _ (by kernel_rfl) rfl (Mv.cs_one _) ?_)
    | (at_builtin; have hst := STAGE0; clear hst STAGE0; go_must (
      refine wpList_app rfl _ _ rfl (w.heap.size + 1 + 1 + 1) (.slice (some ⟨w.heap.size + 1 + 1 + 1, 0, none⟩) 0 0) [] rfl (ownN_new _ _ _ (unhide SZ) (Nat.le_of_eq (unhide SZ).symm)) x.m d.m rfl ((unhide R).later (unhide E)).m (unhide R).ml (unhide NZ).1 (by simp; omega) (Nat.le_trans (Nat.le_of_eq (unhide SZ).symm) (unhide E).size) ?_
      intro v w0 ho hg
      rw [List.nil_append] at ho
      obtain ⟨a0, n0, c0, rfl⟩ : ∃ a n c, v = .slice a n c := (by obtain ⟨a, c, e, _⟩ := ho.rd; exact ⟨_, _, _, e⟩)
      have hgr := fun b (e : (Value.slice (some ⟨w.heap.size + 1 + 1 + 1, 0, none⟩) 0 0).ownBlock = some b) => (show w.heap.size + 3 ≤ b by simp [Value.ownBlock] at e; have := unhide SZ; have := (unhide C).sz; omega)
      have Cn := hide (((unhide C).later (unhide E)).past hg hgr)
      have Rn := hide (((unhide R).later (unhide E)).pastR (unhide HR) hg (fun b e => by have := hgr b e; omega))
      have o0 := row_m (unhide Cn).out
      have f0 := row_fz (unhide Cn).out 0
      have O0 := hide (OwnN.base ho (B' := w.heap.size + 3) (by have := unhide SZ; have := (unhide C).sz; omega))
      clear ho hg hgr C R E SZ q0
      have C := hide ((unhide Cn).put 0 (.slice a0 n0 c0) (⟨⟨a0, n0, c0⟩, x.r, x.n, x.z, x.v, x.c, x.i, x.o, x.st⟩ : Mv) rfl)
      have R := hide ((unhide Rn).setB (unhide HR) (by omega : w.heap.size ≤ w.heap.size + 1 + 1) 0 (.slice a0 n0 c0))
      have On := hide ((unhide O0).put (b := w.heap.size + 1 + 1) (j := 0) (u := .slice a0 n0 c0) (by omega))
      clear O0
      have O0 := hide (unhide On)
      clear On
      clear Cn Rn
      have E := hide (below_new (w0.setCell ⟨w.heap.size + 1 + 1, 0, none⟩ (.slice a0 n0 c0)) (.cells #[] 3))
      have SZ : Hid ((w0.setCell ⟨w.heap.size + 1 + 1, 0, none⟩ (.slice a0 n0 c0)).heap.size = w0.heap.size) := hide (by simp)
      have q1 := row_r ((unhide C).later (unhide E)).bx
      have STAGE1 := hide trivial
      skip))
    | (at_builtin; have hst := STAGE1; clear hst STAGE1; go_must (
      refine wpList_app rfl _ _ rfl (w0.heap.size) (.slice (some ⟨w0.heap.size, 0, none⟩) 0 0) [] rfl (ownN_new _ _ _ (unhide SZ) (Nat.le_of_eq (unhide SZ).symm)) x.r d.r rfl ((unhide R).later (unhide E)).r (unhide R).rl (unhide NZ).2.1 (by simp; omega) (Nat.le_trans (Nat.le_of_eq (unhide SZ).symm) (unhide E).size) ?_
      intro v w1 ho hg
      rw [List.nil_append] at ho
      obtain ⟨a1, n1, c1, rfl⟩ : ∃ a n c, v = .slice a n c := (by obtain ⟨a, c, e, _⟩ := ho.rd; exact ⟨_, _, _, e⟩)
      have hgr := fun b (e : (Value.slice (some ⟨w0.heap.size, 0, none⟩) 0 0).ownBlock = some b) => (show w.heap.size + 3 ≤ b by simp [Value.ownBlock] at e; have := unhide SZ; have := (unhide C).sz; omega)
      have Cn := hide (((unhide C).later (unhide E)).past hg hgr)
      have Rn := hide (((unhide R).later (unhide E)).pastR (unhide HR) hg (fun b e => by have := hgr b e; omega))
      have o1 := row_r (unhide Cn).out
      have f1 := row_fz (unhide Cn).out 1
      have O1 := hide (OwnN.base ho (B' := w.heap.size + 3) (by have := unhide SZ; have := (unhide C).sz; omega))
      have On := hide ((((unhide O0).later (unhide E)).keep (fun g hv hl => hg.block g hl (fun e => by have := ((unhide O0).lt hv).2; have := unhide SZ; simp [Value.ownBlock] at e; omega))))
      have A01 : Hid (Ap ⟨a0, n0, c0⟩ ⟨a1, n1, c1⟩) := hide (fun g e1 e2 => by
        have := ((unhide O0).lt e1).2
        have := (ho.lt e2).1
        have := unhide SZ
        omega)
      clear O0
      have O0 := hide (unhide On)
      clear On
      clear ho hg hgr C R E SZ q1
      have C := hide ((unhide Cn).put 1 (.slice a1 n1 c1) (⟨⟨a0, n0, c0⟩, ⟨a1, n1, c1⟩, x.n, x.z, x.v, x.c, x.i, x.o, x.st⟩ : Mv) rfl)
      have R := hide ((unhide Rn).setB (unhide HR) (by omega : w.heap.size ≤ w.heap.size + 1 + 1) 1 (.slice a1 n1 c1))
      have On := hide ((unhide O0).put (b := w.heap.size + 1 + 1) (j := 1) (u := .slice a1 n1 c1) (by omega))
      clear O0
      have O0 := hide (unhide On)
      clear On
      have On := hide ((unhide O1).put (b := w.heap.size + 1 + 1) (j := 1) (u := .slice a1 n1 c1) (by omega))
      clear O1
      have O1 := hide (unhide On)
      clear On
      clear Cn Rn
      have E := hide (below_new (w1.setCell ⟨w.heap.size + 1 + 1, 1, none⟩ (.slice a1 n1 c1)) (.cells #[] 3))
      have SZ : Hid ((w1.setCell ⟨w.heap.size + 1 + 1, 1, none⟩ (.slice a1 n1 c1)).heap.size = w1.heap.size) := hide (by simp)
      have q2 := row_i ((unhide C).later (unhide E)).bx
      have STAGE2 := hide trivial
      skip))
    | (at_builtin; have hst := STAGE2; clear hst STAGE2; go_must (
      refine wpList_app rfl _ _ rfl (w1.heap.size) (.slice (some ⟨w1.heap.size, 0, none⟩) 0 0) [] rfl (ownN_new _ _ _ (unhide SZ) (Nat.le_of_eq (unhide SZ).symm)) x.i d.i rfl ((unhide R).later (unhide E)).i (unhide R).il (unhide NZ).2.2.1 (by simp; omega) (Nat.le_trans (Nat.le_of_eq (unhide SZ).symm) (unhide E).size) ?_
      intro v w2 ho hg
      rw [List.nil_append] at ho
      obtain ⟨a2, n2, c2, rfl⟩ : ∃ a n c, v = .slice a n c := (by obtain ⟨a, c, e, _⟩ := ho.rd; exact ⟨_, _, _, e⟩)
      have hgr := fun b (e : (Value.slice (some ⟨w1.heap.size, 0, none⟩) 0 0).ownBlock = some b) => (show w.heap.size + 3 ≤ b by simp [Value.ownBlock] at e; have := unhide SZ; have := (unhide C).sz; omega)
      have Cn := hide (((unhide C).later (unhide E)).past hg hgr)
      have Rn := hide (((unhide R).later (unhide E)).pastR (unhide HR) hg (fun b e => by have := hgr b e; omega))
      have o6 := row_i (unhide Cn).out
      have f6 := row_fz (unhide Cn).out 6
      have O2 := hide (OwnN.base ho (B' := w.heap.size + 3) (by have := unhide SZ; have := (unhide C).sz; omega))
      have On := hide ((((unhide O0).later (unhide E)).keep (fun g hv hl => hg.block g hl (fun e => by have := ((unhide O0).lt hv).2; have := unhide SZ; simp [Value.ownBlock] at e; omega))))
      have A02 : Hid (Ap ⟨a0, n0, c0⟩ ⟨a2, n2, c2⟩) := hide (fun g e1 e2 => by
        have := ((unhide O0).lt e1).2
        have := (ho.lt e2).1
        have := unhide SZ
        omega)
      clear O0
      have O0 := hide (unhide On)
      clear On
      have On := hide ((((unhide O1).later (unhide E)).keep (fun g hv hl => hg.block g hl (fun e => by have := ((unhide O1).lt hv).2; have := unhide SZ; simp [Value.ownBlock] at e; omega))))
      have A12 : Hid (Ap ⟨a1, n1, c1⟩ ⟨a2, n2, c2⟩) := hide (fun g e1 e2 => by
        have := ((unhide O1).lt e1).2
        have := (ho.lt e2).1
        have := unhide SZ
        omega)
      clear O1
      have O1 := hide (unhide On)
      clear On
      clear ho hg hgr C R E SZ q2
      have C := hide ((unhide Cn).put 6 (.slice a2 n2 c2) (⟨⟨a0, n0, c0⟩, ⟨a1, n1, c1⟩, x.n, x.z, x.v, x.c, ⟨a2, n2, c2⟩, x.o, x.st⟩ : Mv) rfl)
      have R := hide ((unhide Rn).setB (unhide HR) (by omega : w.heap.size ≤ w.heap.size + 1 + 1) 6 (.slice a2 n2 c2))
      have On := hide ((unhide O0).put (b := w.heap.size + 1 + 1) (j := 6) (u := .slice a2 n2 c2) (by omega))
      clear O0
      have O0 := hide (unhide On)
      clear On
      have On := hide ((unhide O1).put (b := w.heap.size + 1 + 1) (j := 6) (u := .slice a2 n2 c2) (by omega))
      clear O1
      have O1 := hide (unhide On)
      clear On
      have On := hide ((unhide O2).put (b := w.heap.size + 1 + 1) (j := 6) (u := .slice a2 n2 c2) (by omega))
      clear O2
      have O2 := hide (unhide On)
      clear On
      clear Cn Rn
      have E := hide (below_new (w2.setCell ⟨w.heap.size + 1 + 1, 6, none⟩ (.slice a2 n2 c2)) (.cells #[] 3))
      have SZ : Hid ((w2.setCell ⟨w.heap.size + 1 + 1, 6, none⟩ (.slice a2 n2 c2)).heap.size = w2.heap.size) := hide (by simp)
      have q3 := row_o ((unhide C).later (unhide E)).bx
      have STAGE3 := hide trivial
      skip))
    | (at_builtin; have hst := STAGE3; clear hst STAGE3; go_must (
      refine wpList_app rfl _ _ rfl (w2.heap.size) (.slice (some ⟨w2.heap.size, 0, none⟩) 0 0) [] rfl (ownN_new _ _ _ (unhide SZ) (Nat.le_of_eq (unhide SZ).symm)) x.o d.o rfl ((unhide R).later (unhide E)).o (unhide R).ol (unhide NZ).2.2.2 (by simp; omega) (Nat.le_trans (Nat.le_of_eq (unhide SZ).symm) (unhide E).size) ?_
      intro v w3 ho hg
      rw [List.nil_append] at ho
      obtain ⟨a3, n3, c3, rfl⟩ : ∃ a n c, v = .slice a n c := (by obtain ⟨a, c, e, _⟩ := ho.rd; exact ⟨_, _, _, e⟩)
      have hgr := fun b (e : (Value.slice (some ⟨w2.heap.size, 0, none⟩) 0 0).ownBlock = some b) => (show w.heap.size + 3 ≤ b by simp [Value.ownBlock] at e; have := unhide SZ; have := (unhide C).sz; omega)
      have Cn := hide (((unhide C).later (unhide E)).past hg hgr)
      have Rn := hide (((unhide R).later (unhide E)).pastR (unhide HR) hg (fun b e => by have := hgr b e; omega))
      have o7 := row_o (unhide Cn).out
      have f7 := row_fz (unhide Cn).out 7
      have O3 := hide (OwnN.base ho (B' := w.heap.size + 3) (by have := unhide SZ; have := (unhide C).sz; omega))
      have On := hide ((((unhide O0).later (unhide E)).keep (fun g hv hl => hg.block g hl (fun e => by have := ((unhide O0).lt hv).2; have := unhide SZ; simp [Value.ownBlock] at e; omega))))
      have A03 : Hid (Ap ⟨a0, n0, c0⟩ ⟨a3, n3, c3⟩) := hide (fun g e1 e2 => by
        have := ((unhide O0).lt e1).2
        have := (ho.lt e2).1
        have := unhide SZ
        omega)
      clear O0
      have O0 := hide (unhide On)
      clear On
      have On := hide ((((unhide O1).later (unhide E)).keep (fun g hv hl => hg.block g hl (fun e => by have := ((unhide O1).lt hv).2; have := unhide SZ; simp [Value.ownBlock] at e; omega))))
      have A13 : Hid (Ap ⟨a1, n1, c1⟩ ⟨a3, n3, c3⟩) := hide (fun g e1 e2 => by
        have := ((unhide O1).lt e1).2
        have := (ho.lt e2).1
        have := unhide SZ
        omega)
      clear O1
      have O1 := hide (unhide On)
      clear On
      have On := hide ((((unhide O2).later (unhide E)).keep (fun g hv hl => hg.block g hl (fun e => by have := ((unhide O2).lt hv).2; have := unhide SZ; simp [Value.ownBlock] at e; omega))))
      have A23 : Hid (Ap ⟨a2, n2, c2⟩ ⟨a3, n3, c3⟩) := hide (fun g e1 e2 => by
        have := ((unhide O2).lt e1).2
        have := (ho.lt e2).1
        have := unhide SZ
        omega)
      clear O2
      have O2 := hide (unhide On)
      clear On
      clear ho hg hgr C R E SZ q3
      have C := hide ((unhide Cn).put 7 (.slice a3 n3 c3) (⟨⟨a0, n0, c0⟩, ⟨a1, n1, c1⟩, x.n, x.z, x.v, x.c, ⟨a2, n2, c2⟩, ⟨a3, n3, c3⟩, x.st⟩ : Mv) rfl)
      have R := hide ((unhide Rn).setB (unhide HR) (by omega : w.heap.size ≤ w.heap.size + 1 + 1) 7 (.slice a3 n3 c3))
      have On := hide ((unhide O0).put (b := w.heap.size + 1 + 1) (j := 7) (u := .slice a3 n3 c3) (by omega))
      clear O0
      have O0 := hide (unhide On)
      clear On
      have On := hide ((unhide O1).put (b := w.heap.size + 1 + 1) (j := 7) (u := .slice a3 n3 c3) (by omega))
      clear O1
      have O1 := hide (unhide On)
      clear On
      have On := hide ((unhide O2).put (b := w.heap.size + 1 + 1) (j := 7) (u := .slice a3 n3 c3) (by omega))
      clear O2
      have O2 := hide (unhide On)
      clear On
      have On := hide ((unhide O3).put (b := w.heap.size + 1 + 1) (j := 7) (u := .slice a3 n3 c3) (by omega))
      clear O3
      have O3 := hide (unhide On)
      clear On
      clear Cn Rn
      skip))
    | (refine wpList_load_row rfl 28 _ rfl (w.heap.size + 1 + 1) rfl 28 (Mv.cs (⟨⟨a0, n0, c0⟩, ⟨a1, n1, c1⟩, x.n, x.z, x.v, x.c, ⟨a2, n2, c2⟩, ⟨a3, n3, c3⟩, x.st⟩ : Mv)) (0, 0) _ (unhide C).out Try.underlying28 rfl (by kernel_rfl) ?_)
    | (refine wpList_store_row rfl 28 _ _ rfl (w.heap.size + 1) (Mv.cs (⟨⟨a0, n0, c0⟩, ⟨a1, n1, c1⟩, x.n, x.z, x.v, x.c, ⟨a2, n2, c2⟩, ⟨a3, n3, c3⟩, x.st⟩ : Mv)) rfl rfl 28 zMv.cs (unhide C).re (by kernel_rfl) rfl (Mv.cs_one _) ?_))
  refine bodyPost_ret (results_cell_row (P := Try.prog) rfl _ _ (w.heap.size + 1) 28 (Mv.cs (⟨⟨a0, n0, c0⟩, ⟨a1, n1, c1⟩, x.n, x.z, x.v, x.c, ⟨a2, n2, c2⟩, ⟨a3, n3, c3⟩, x.st⟩ : Mv)) (0, 0) _ rfl (unhide C).done.re Try.underlying28 rfl (by kernel_rfl)) rfl ?_
  exact ⟨(⟨⟨a0, n0, c0⟩, ⟨a1, n1, c1⟩, x.n, x.z, x.v, x.c, ⟨a2, n2, c2⟩, ⟨a3, n3, c3⟩, x.st⟩ : Mv), rfl, rfl, ⟨(unhide O0).row (by omega) _, (unhide O1).row (by omega) _, (unhide O2).row (by omega) _, (unhide O3).row (by omega) _, unhide A01, unhide A02, unhide A03, unhide A12, unhide A13, unhide A23⟩, (unhide C).done.bel⟩
end Go.Proofs.Ytfkmibgamkignaa

namespace Go.Proofs.Ytfkmibgamkignaa
open Go.ChangeShapes Go.WideShapes Go.ChangeAt Go.RowKit
set_option linter.unusedVariables false
set_option maxRecDepth 8000
set_option linter.unusedSimpArgs false

/-- One number of an owned list written. -/
theorem OwnN.set {w : World} {B b n cap : Nat} {ns : List Int} (h : OwnN w B (.slice (some ⟨b, 0, none⟩) n cap) ns) (k : Nat) (v : Int) (hk : k < ns.length) :
    OwnN (w.setCell ⟨b, k, none⟩ (.int .i64 v)) B (.slice (some ⟨b, 0, none⟩) n cap) (ns.set k v) ∧ w.grownBy (w.setCell ⟨b, k, none⟩ (.int .i64 v)) (some b) := by
  have hl : ns.length = n := by obtain ⟨a, c, e, _⟩ := h.rd; simp at e; omega
  subst hl
  have st := World.ownsRow.stored h k (.int .i64 v)
  refine ⟨?_, st.2⟩
  have e : cellsN (ns.set k v) = (cellsN ns).set k (.int .i64 v) := by unfold cellsN; rw [List.map_set]
  unfold OwnN
  rw [List.length_set, e]
  exact st.1
theorem OwnN.cellAt {w : World} {B b n cap : Nat} {ns : List Int} (h : OwnN w B (.slice (some ⟨b, 0, none⟩) n cap) ns) (k : Nat) (hk : k < ns.length) : w.cell? ⟨b, k, none⟩ = some (.int .i64 (nAt ns k)) ∧ w.frozen? ⟨b, k, none⟩ = false := by
  have hl : ns.length = n := by obtain ⟨a, c, e, _⟩ := h.rd; simp at e; omega
  subst hl
  refine ⟨?_, World.ownsRow.frozenAt h k⟩
  rw [World.ownsRow.cellAt h k (by omega)]
  simp only [cellsN, List.getElem?_map, List.getElem?_eq_getElem hk, Option.map_some, nAt, List.getD_eq_getElem?_getD, Option.getD_some]

set_option maxHeartbeats 2000000 in
theorem writeS_any (x : Mv) (d : Md) (a n : Int) (w : World) (hs : x.small) (hz : x.nz) (hr : RdM w x d) : Calls Try.prog 41 #[.agg x.cs, .int .i64 a, .int .i64 n] w fun e w' => ∃ y : Mv, e = .returned (.tuple #[.agg y.cs, .bool (d.has a)]) ∧ y.fl = x.fl ∧ OwnM w' (w.heap.size + 2) y (d.put a n) ∧ Below w.heap.size w w' := by
  have C := hide (cc_new w x)
  have X := hide (hr.later (unhide C).bel)
  have M := hide (copyS_any x d _ hs hz (unhide X))
  have HT := hide (has_t (d := d) (a := a))
  have S := hide hs
  unfold Md.put
  obtain ⟨q, hq⟩ : ∃ q, d.has a = q := ⟨_, rfl⟩
  rw [hq] at HT ⊢
  have HQ := hide hq
  clear hr hs hz hq
  go_enter Try.func41, Try.ntmps41
  go_wp2_with (refine wpList_load_row rfl 28 _ rfl w.heap.size rfl 28 x.cs (0, 0) _ (unhide C).bx Try.underlying28 rfl (by kernel_rfl) ?_)
  refine (unhide M).mono ?_
  rintro e w1 ⟨y, rfl, fy, oy, hb⟩
  have FY := hide fy
  have O1 := hide (oy.base (C := w.heap.size + 2) (by have := (unhide C).sz; omega))
  have C1 := hide (((unhide C).later hb).later (below_new w1 (.cells y.cs 28)))
  have X1 := hide (((unhide X).later hb).later (below_new w1 (.cells y.cs 28)))
  have H1 := hide (readS_any x d a (w1.alloc (.cells y.cs 28)) (unhide S) (unhide X1))
  rw [unhide HQ] at H1
  have G1 := hide (heap_alloc_last w1 (.cells y.cs 28))
  have Z1 := hide (Nat.le_trans (unhide C).sz hb.size)
  clear fy oy hb M C X
  go_wp2_with (first | (refine wpList_store_new rfl 28 _ _ rfl y.cs rfl rfl _ (by kernel_rfl) rfl (Mv.cs_one _) ?_) | (refine wpList_load_row rfl 28 _ rfl w.heap.size rfl 28 x.cs (0, 0) _ (unhide C1).bx Try.underlying28 rfl (by kernel_rfl) ?_))
  refine (unhide H1).mono ?_
  rintro e w2 ⟨rfl, hb⟩
  have C2 := hide ((unhide C1).later hb)
  have G2 := hide (row_lat (unhide G1) hb)
  have O2 := hide (((unhide O1).later (below_new w1 (.cells y.cs 28))).later hb)
  clear hb C1 G1 H1 X1
  cases q
  · go_wp2_with (first | (refine wpList_load_row rfl 28 _ rfl w1.heap.size rfl 28 y.cs (0, 0) _ (unhide G2) Try.underlying28 rfl (by kernel_rfl) ?_) | (refine wpList_store_row rfl 28 _ _ rfl (w.heap.size + 1) y.cs rfl rfl 28 zMv.cs (unhide C2).re (by kernel_rfl) rfl (Mv.cs_one _) ?_))
    refine bodyPost_ret (results_row2 (P := Try.prog) rfl _ _ (w.heap.size + 1) 28 y.cs (0, 0) _ rfl (setRow_heap w2 _ _ _ 28 _ (unhide C2).re) Try.underlying28 rfl (by kernel_rfl)) rfl ?_
    exact ⟨y, rfl, unhide FY, (unhide O2).row (by omega) _, below_setRow (unhide C2).bel (by omega) _⟩
  · obtain ⟨ta, tl⟩ := unhide HT (by trivial)
    obtain ⟨t0, t1, _⟩ := adB_t ta
    obtain ⟨k, hk⟩ := Int.eq_ofNat_of_zero_le (show 0 ≤ a / 2 by omega)
    have hkl : k < d.m.length := by omega
    have hml := (unhide O2).m.len
    obtain ⟨gm, hgm⟩ : ∃ gm, y.m.a = some ⟨gm, 0, none⟩ := by
      rcases (unhide O2).m.form with ⟨_, h0⟩ | ⟨g, cap, e, _⟩
      · rw [h0] at hkl; simp at hkl
      · unfold Sl.v at e; simp at e; exact ⟨g, e.1⟩
    have hmv : y.m.v = .slice (some ⟨gm, 0, none⟩) y.m.n y.m.c := by unfold Sl.v; rw [hgm]
    have o2 := (unhide O2).m
    rw [hmv] at o2
    have o2d := o2.later (below_drew (w := w2))
    have cA := hide (o2d.cellAt k hkl)
    have sA := o2d.set k (n % 65536) hkl
    have gA : w2.drew.grownBy (w2.drew.setCell ⟨gm, k, none⟩ (.int .i64 (n % 65536))) y.m.v.ownBlock := by rw [hmv]; exact sA.2
    have O3 := hide (((unhide O2).later (below_drew (w := w2))).putM gA (by rw [hmv]; exact sA.1))
    have gmB := (o2.lt (g := gm) rfl).1
    have gm1 : gm < w1.heap.size := by
      have := (unhide O1).m
      rw [hmv] at this
      exact (this.lt (g := gm) rfl).2
    have C3 := hide (((unhide C2).later (below_drew (w := w2))).pastR sA.2 (fun b e => by cases e; exact gmB))
    have G3 := hide ((sA.2.block w1.heap.size (row_lt (row_lat (unhide G2) (below_drew (w := w2)))) (by simp; omega)).trans (row_lat (unhide G2) (below_drew (w := w2))))
    have D0 : Hid (w2.drew.cell? ⟨w1.heap.size, 0, none⟩ = some (.slice (some ⟨gm, 0, none⟩) y.m.n y.m.c)) := hide (by rw [← hgm]; exact row_m (row_lat (unhide G2) (below_drew (w := w2))))
    have HKK := hide (show (a / 2).toNat = k by omega)
    have GM := hide hgm
    have HQ2 := hide (quo2 t0 (by omega) hk)
    have WR := hide (fun w => wrapS_any n w)
    have kn : (k : Int) < (y.m.n : Int) := by omega
    have kn0 : k < y.m.n := by omega
    obtain ⟨q, hq⟩ : ∃ q, n % 65536 = q := ⟨_, rfl⟩
    rw [hq] at O3 C3 G3 WR
    have HQQ := hide hq
    clear hq sA gA o2 o2d hmv hml ta HT C2 O2 G2 HQ tl hk hgm gmB gm1 hkl O1
    go_wp2_with fail
    refine wp_region_held_drew (S := fun w' => w'.cell? ⟨w1.heap.size, 0, none⟩ = some (.slice (some ⟨gm, 0, none⟩) y.m.n y.m.c)) (by kernel_rfl) (unhide D0) (fun hS => ?_)
    have HS := hide hS
    clear hS
    refine wpAnyH_take (i := 0) (v := .pointer (some ⟨w1.heap.size, 0, none⟩)) rfl (by kernel_rfl) (by kernel_rfl) (by kernel_rfl) (fun _ _ _ h => h) (Or.inl ⟨by rfl, fun w hc => ?_⟩) (unhide HS) ?_
    · clear hc; go_simp
    go_simp
    refine wpAnyH_take (i := 1) (v := .slice (some ⟨gm, 0, none⟩) y.m.n y.m.c) rfl (by kernel_rfl) (by kernel_rfl) (by kernel_rfl) (fun _ _ _ h => h) (Or.inl ⟨by rfl, fun w hc => ?_⟩) (unhide HS) ?_
    · go_simp
    go_simp
    refine wpAnyH_take (i := 2) (v := .int .i64 a) rfl (by kernel_rfl) (by kernel_rfl) (by kernel_rfl) (fun _ _ _ h => h) (Or.inl ⟨by rfl, fun w hc => ?_⟩) (unhide HS) ?_
    · clear hc; go_simp
    go_simp
    refine wpAnyH_take (i := 3) (v := .int .i64 (k : Int)) rfl (by kernel_rfl) (by kernel_rfl) (by kernel_rfl) (fun _ _ _ h => h) (Or.inl ⟨by rfl, fun w hc => ?_⟩) (unhide HS) ?_
    · clear hc; have hq2 := unhide HQ2; go_simp
    go_simp
    refine wpAnyH_take (i := 4) (v := .int .i64 n) rfl (by kernel_rfl) (by kernel_rfl) (by kernel_rfl) (fun _ _ _ h => h) (Or.inl ⟨by rfl, fun w hc => ?_⟩) (unhide HS) ?_
    · clear hc; go_simp
    go_simp
    refine wpAnyH_ready (rs := [5]) (by kernel_rfl) (by simp) ?_
    refine AllReadyH.cons rfl (fun K hK => ?_) AllReadyH.nil
    go_simp
    refine (unhide WR _).mono ?_
    rintro e w' ⟨rfl, hw'⟩
    rw [hw']
    clear hw' w'
    refine hK.out _ _ (unhide D0) (fun _ => ?_)
    clear hK K
    refine wpAnyH_take (i := 6) (v := .pointer (some ⟨gm, k, none⟩)) rfl (by kernel_rfl) (by kernel_rfl) (by kernel_rfl) (fun _ _ _ h => h) (Or.inl ⟨by rfl, fun w hc => ?_⟩) (unhide HS) ?_
    · clear hc; go_simp
    go_simp
    refine wpAnyH_ready (rs := [7]) (by kernel_rfl) (by simp) ?_
    refine AllReadyH.cons rfl (fun K hK => ?_) AllReadyH.nil
    obtain ⟨cA1, cA2⟩ := unhide cA
    go_simp
    refine hK.out _ _ ((row_m (unhide G3)).trans (by rw [unhide GM])) (fun _ => ?_)
    clear hK K
    refine wpAnyH_done (by kernel_rfl) ?_ _
    go_wp2_with (first | (refine wpList_load_row rfl 28 _ rfl w1.heap.size rfl 28 y.cs (0, 0) _ (unhide G3) Try.underlying28 rfl (by kernel_rfl) ?_) | (refine wpList_store_row rfl 28 _ _ rfl (w.heap.size + 1) y.cs rfl rfl 28 zMv.cs (unhide C3).re (by kernel_rfl) rfl (Mv.cs_one _) ?_))
    refine bodyPost_ret (results_row2 (P := Try.prog) rfl _ _ (w.heap.size + 1) 28 y.cs (0, 0) _ rfl (setRow_heap _ _ _ _ 28 _ (unhide C3).re) Try.underlying28 rfl (by kernel_rfl)) rfl ?_
    refine ⟨y, rfl, unhide FY, ?_, below_setRow (unhide C3).bel (by omega) _⟩
    rw [unhide HKK, unhide HQQ]
    exact (unhide O3).row (by omega) _
end Go.Proofs.Ytfkmibgamkignaa

namespace Go.Proofs.Ytfkmibgamkignaa
open Go.ChangeShapes Go.WideShapes Go.ChangeAt Go.RowKit
set_option linter.unusedVariables false
set_option maxRecDepth 8000
set_option linter.unusedSimpArgs false

set_option maxHeartbeats 400000 in
theorem markL_any (b len cap k0 : Nat) (xs : List Int) (B : Nat) (w : World) (hl : xs.length = len) (hm : len ≤ 1099511627776) (hk0 : k0 ≤ 8388608) (hown : OwnN w B (.slice (some ⟨b, 0, none⟩) len cap) xs) :
    Calls Try.prog 35 #[.slice (some ⟨b, 0, none⟩) len cap, .int .i64 k0] w fun e w' => e = .returned (.int .i64 ((k0 : Int) + len)) ∧ OwnN w' B (.slice (some ⟨b, 0, none⟩) len cap) (markN k0 len) ∧ w.grownBy w' (some b) := by
  go_enter Try.func35, Try.ntmps35
  go_wp2
  go_loopw [1, 5] (fun kk i wr => ∃ k : Nat, k ≤ len ∧ i = .int .i64 k ∧ kk = .int .i64 ((k0 : Int) + k) ∧ wr.ownsRow B 3 1 (.slice (some ⟨b, 0, none⟩) len cap) len (cellsN (markN k0 k ++ xs.drop k)) ∧ w.grownBy wr (some b)) (fun _ i _ => len - (intOf i).toNat)
  case atStart => exact ⟨0, Nat.zero_le _, rfl, by simp, by simpa [markN, hl, OwnN] using hown, World.grownBy.refl _ _⟩
  case round =>
    clear hown
    obtain ⟨k, hk, rfl, rfl, hown, hg⟩ := hrel
    by_cases hlt : k < len
    · have hfz := hown.frozenAt k
      obtain ⟨u, hcx⟩ : ∃ u, wr.cell? ⟨b, k, none⟩ = some u := by
        rw [hown.cellAt k (by omega)]
        exact ⟨_, List.getElem?_eq_getElem (by rw [cellsN_length, List.length_append, markN_length, List.length_drop]; omega)⟩
      have st := hown.stored k (.int .i64 ((k0 : Int) + k))
      rw [mark_step k0 k xs (by omega)] at st
      have st1 := hide st.1
      have st2 := hide (grownBy_trans hg st.2)
      clear hown st hg
      go_wp2
      go_roundw
      case rel => exact ⟨k + 1, by omega, by go_num, by go_num, unhide st1, unhide st2⟩
      case measure => simp [intOf]; omega
    · go_wp2
      go_ret
      obtain rfl : k = len := by omega
      refine ⟨rfl, ?_, hg⟩
      unfold OwnN
      rw [markN_length]
      rw [List.drop_eq_nil_of_le (by omega), List.append_nil] at hown
      exact hown

set_option maxHeartbeats 400000 in
theorem heldL_any (a : Option Addr) (len cap k0 : Nat) (w : World) (hm : len ≤ 1099511627776) (hk0 : k0 ≤ 8388608) (hr : RdN w a (markN k0 len)) :
    Calls Try.prog 76 #[.slice a len cap, .int .i64 k0] w fun e w' => e = .returned (.int .i64 ((k0 : Int) + len)) ∧ w' = w := by
  go_enter Try.func76, Try.ntmps76
  go_wp2
  go_loop [1, 5] (fun kk i => ∃ k : Nat, k ≤ len ∧ i = .int .i64 k ∧ kk = .int .i64 ((k0 : Int) + k)) (fun _ i => len - (intOf i).toNat)
  case atStart => exact ⟨0, Nat.zero_le _, rfl, by simp⟩
  case round =>
    obtain ⟨k, hk, rfl, rfl⟩ := hrel
    by_cases hlt : k < len
    · rcases hr with h0 | ⟨b, off, rfl, hb, hc⟩
      · have := markN_length k0 len; rw [h0] at this; simp at this; omega
      have hcx := hc k (by rw [markN_length]; exact hlt)
      rw [markN_at k0 len k hlt] at hcx
      clear hc
      go_wp2
      go_round
      case rel => exact ⟨k + 1, by omega, by go_num, by go_num⟩
      case measure => simp [intOf]; omega
    · go_wp2
      go_ret
      obtain rfl : k = len := by omega
      exact ⟨rfl, rfl⟩

theorem markL_none (k0 : Nat) (w : World) (hk0 : k0 ≤ 8388608) : Calls Try.prog 35 #[.slice none 0 0, .int .i64 k0] w fun e w' => e = .returned (.int .i64 (k0 : Int)) ∧ w' = w := by
  go_enter Try.func35, Try.ntmps35
  go_wp2
  go_loop [1, 5] (fun kk i => kk = .int .i64 k0 ∧ i = .int .i64 0) (fun _ _ => 0)
  case atStart => exact ⟨rfl, rfl⟩
  case round =>
    obtain ⟨rfl, rfl⟩ := hrel
    go_wp2
    go_ret
    exact ⟨rfl, rfl⟩

theorem markL_own (s : Sl) (ns : List Int) (B k0 : Nat) (w : World) (hm : ns.length ≤ 1048576) (hk : k0 ≤ 8388608) (h : OwnN w B s.v ns) :
    Calls Try.prog 35 #[.slice s.a s.n s.c, .int .i64 (k0 : Int)] w fun e w' => e = .returned (.int .i64 ((k0 : Int) + ns.length)) ∧ OwnN w' B s.v (markN k0 ns.length) ∧ w.grownBy w' s.v.ownBlock := by
  obtain ⟨sa, sn, sc⟩ := s
  rcases h.form with ⟨e, rfl⟩ | ⟨g, cap, e, hg, hlt, hc, hm2⟩
  · unfold Sl.v at e
    simp at e
    obtain ⟨rfl, rfl, rfl⟩ := e
    exact (markL_none k0 w (by omega)).mono fun e w' ⟨he, hw⟩ => by subst hw; exact ⟨by simpa using he, ownN_none _ _, World.grownBy.refl _ _⟩
  · unfold Sl.v at e h ⊢
    simp at e
    obtain ⟨rfl, rfl, rfl⟩ := e
    exact (markL_any g ns.length sc k0 ns B w rfl (by omega) (by omega) h).mono fun e w' ⟨he, ho, hg⟩ => ⟨he, ho, hg⟩

/-- What is written where a machine is marked from k on. -/
def Md.marks (d : Md) : Md := ⟨markN 1 d.m.length, markN (1 + d.m.length) d.r.length, markN (1 + d.m.length + d.r.length) d.i.length, markN (1 + d.m.length + d.r.length + d.i.length) d.o.length⟩
def Md.tot (d : Md) : Int := (((1 + d.m.length + d.r.length + d.i.length : Nat) : Int)) + (d.o.length : Int)
def Md.small (d : Md) : Prop := d.m.length ≤ 1048576 ∧ d.r.length ≤ 1048576 ∧ d.i.length ≤ 1048576 ∧ d.o.length ≤ 1048576
theorem Md.tot_pos (d : Md) : 0 < d.tot := by unfold Md.tot; omega
/-- The blocks that a machine's lists lie in. -/
def Mv.at (x : Mv) (b : Nat) : Prop := x.m.v.ownBlock = some b ∨ x.r.v.ownBlock = some b ∨ x.i.v.ownBlock = some b ∨ x.o.v.ownBlock = some b
/-- Nothing has turned but what lies in the machine's lists. -/
structure Tch (w w' : World) (x : Mv) : Prop where
  os : w'.os = w.os
  tape : w'.tape = w.tape
  output : w'.output = w.output
  size : w.heap.size ≤ w'.heap.size
  block : ∀ k, k < w.heap.size → ¬ x.at k → w'.heap[k]? = w.heap[k]?
section
variable {w w' w1 : World} {B : Nat} {x y : Mv} {d : Md} {s : Sl} {row : Option Nat}
theorem OwnM.lo (h : OwnM w B x d) {b : Nat} (hb : x.at b) : B ≤ b ∧ b < w.heap.size := by
  rcases hb with hb | hb | hb | hb
  · exact h.m.lt hb
  · exact h.r.lt hb
  · exact h.i.lt hb
  · exact h.o.lt hb
theorem Tch.below (h : Below w.heap.size w w') : Tch w w' x := ⟨h.os, h.tape, h.output, h.size, fun k hk _ => h.block k hk⟩
theorem Tch.grown (h : Tch w w1 x) (hg : w1.grownBy w' row) (hr : ∀ b, row = some b → x.at b) : Tch w w' x :=
  ⟨hg.os.trans h.os, hg.tape.trans h.tape, hg.output.trans h.output, Nat.le_trans h.size hg.size, fun k hk hn => (hg.block k (Nat.lt_of_lt_of_le hk h.size) (fun e => hn (hr k e.symm))).trans (h.block k hk hn)⟩
theorem Tch.toBelow {w0 : World} {C : Nat} (t : Tch w w' x) (h : Below C w0 w) (hC : C ≤ w.heap.size) (hb : ∀ b, x.at b → C ≤ b) : Below C w0 w' :=
  h.trans ⟨t.os, t.tape, t.output, t.size, fun k hk => t.block k (by omega) (fun e => by have := hb k e; omega)⟩
theorem OwnM.keepH (h : OwnM w B x d) (hs : ∀ g, x.at g → g < w.heap.size → w'.heap[g]? = w.heap[g]?) : OwnM w' B x d :=
  { h with m := h.m.keep fun g hv hg => hs g (.inl hv) hg, r := h.r.keep fun g hv hg => hs g (.inr (.inl hv)) hg, i := h.i.keep fun g hv hg => hs g (.inr (.inr (.inl hv))) hg, o := h.o.keep fun g hv hg => hs g (.inr (.inr (.inr hv))) hg }
theorem OwnM.tch (h : OwnM w B y d) (t : Tch w w' x) (hap : ∀ b, y.at b → x.at b → False) : OwnM w' B y d := h.keepH fun g hg hl => t.block g hl (fun e => hap g hg e)
theorem row_tch {g : Nat} {o : Obj} (h : w.heap[g]? = some o) (t : Tch w w' x) (hn : ¬ x.at g) : w'.heap[g]? = some o := (t.block g (row_lt h) hn).trans h
theorem RdM.tch {z : Mv} {e : Md} {W : World} (h : RdM w z e) (hW : RdM W z e) (t : Tch w w' x) (hx : ∀ b, x.at b → W.heap.size ≤ b) : RdM w' z e := by
  have key : ∀ {a : Option Addr} {ns : List Int}, RdN w a ns → RdN W a ns → RdN w' a ns := fun hr hq => by
    rcases hr with h0 | ⟨b, off, rfl, hb, hc⟩
    · exact .inl h0
    · rcases hq with h0 | ⟨b', off', e', hb', _⟩
      · exact .inl h0
      · cases e'
        exact .inr ⟨b, off, rfl, Nat.lt_of_lt_of_le hb t.size, fun i hi => (World.cell?_of_block (w := w) (t.block b hb (fun e => by have := hx b e; omega))).trans (hc i hi)⟩
  exact ⟨key h.m hW.m, key h.r hW.r, key h.i hW.i, key h.o hW.o, h.ml, h.rl, h.il, h.ol⟩
end

set_option maxHeartbeats 2000000 in
theorem markM_any (x : Mv) (d : Md) (B : Nat) (w : World) (hs : d.small) (ho : OwnM w B x d) : Calls Try.prog 36 #[.agg x.cs, .int .i64 1] w fun e w' => e = .returned (.int .i64 d.tot) ∧ OwnM w' B x d.marks ∧ Tch w w' x := by
  obtain ⟨s0, s1, s2, s3⟩ := hs
  have b0 := below_new w (.cells x.cs 28)
  have R0 := hide (heap_alloc_last w (.cells x.cs 28))
  have NB : Hid (¬ x.at w.heap.size) := hide (fun e => by have := (ho.lo e).2; omega)
  have T0 := hide (Tch.below (x := x) b0)
  have O := hide (ho.later b0)
  have q0 : x.cs[0]? = some (.slice x.m.a x.m.n x.m.c) := rfl
  have M := hide (markL_own x.m d.m B 1 (w.alloc (.cells x.cs 28)) s0 (by omega) (unhide O).m)
  clear ho b0
  go_enter Try.func36, Try.ntmps36
  go_wp2_with fail
  refine (unhide M).mono ?_
  rintro e w1 ⟨rfl, om, gm⟩
  have R1 := hide ((gm.block w.heap.size (row_lt (unhide R0)) (fun e => unhide NB (.inl e.symm))).trans (unhide R0))
  have T1 := hide ((unhide T0).grown gm (fun b e => .inl e))
  have OM := hide om
  have OR := hide ((unhide O).r.keep fun g hv hl => gm.block g hl (fun e => (unhide O).mr g e.symm hv))
  have OI := hide ((unhide O).i.keep fun g hv hl => gm.block g hl (fun e => (unhide O).mi g e.symm hv))
  have OO := hide ((unhide O).o.keep fun g hv hl => gm.block g hl (fun e => (unhide O).mo g e.symm hv))
  clear om gm M q0 R0 T0
  have q1 := row_r (unhide R1)
  have M := hide (markL_own x.r d.r B (1 + d.m.length) w1 s1 (by omega) (unhide OR))
  go_wp2_with fail
  refine (unhide M).mono ?_
  rintro e w2 ⟨rfl, om, gm⟩
  have R2 := hide ((gm.block w.heap.size (row_lt (unhide R1)) (fun e => unhide NB (.inr (.inl e.symm)))).trans (unhide R1))
  have T2 := hide ((unhide T1).grown gm (fun b e => .inr (.inl e)))
  have PM := hide ((unhide OM).keep fun g hv hl => gm.block g hl (fun e => (unhide O).mr g hv e.symm))
  have PR := hide om
  have PI := hide ((unhide OI).keep fun g hv hl => gm.block g hl (fun e => (unhide O).ri g e.symm hv))
  have PO := hide ((unhide OO).keep fun g hv hl => gm.block g hl (fun e => (unhide O).ro g e.symm hv))
  clear om gm M q1 R1 T1 OM OR OI OO
  have q6 := row_i (unhide R2)
  have M := hide (markL_own x.i d.i B (1 + d.m.length + d.r.length) w2 s2 (by omega) (unhide PI))
  go_wp2_with fail
  refine (unhide M).mono ?_
  rintro e w3 ⟨rfl, om, gm⟩
  have R3 := hide ((gm.block w.heap.size (row_lt (unhide R2)) (fun e => unhide NB (.inr (.inr (.inl e.symm))))).trans (unhide R2))
  have T3 := hide ((unhide T2).grown gm (fun b e => .inr (.inr (.inl e))))
  have OM := hide ((unhide PM).keep fun g hv hl => gm.block g hl (fun e => (unhide O).mi g hv e.symm))
  have OR := hide ((unhide PR).keep fun g hv hl => gm.block g hl (fun e => (unhide O).ri g hv e.symm))
  have OI := hide om
  have OO := hide ((unhide PO).keep fun g hv hl => gm.block g hl (fun e => (unhide O).io g e.symm hv))
  clear om gm M q6 R2 T2 PM PR PI PO
  have q7 := row_o (unhide R3)
  have M := hide (markL_own x.o d.o B (1 + d.m.length + d.r.length + d.i.length) w3 s3 (by omega) (unhide OO))
  go_wp2_with fail
  refine (unhide M).mono ?_
  rintro e w4 ⟨rfl, om, gm⟩
  have T4 := hide ((unhide T3).grown gm (fun b e => .inr (.inr (.inr e))))
  have PM := hide ((unhide OM).keep fun g hv hl => gm.block g hl (fun e => (unhide O).mo g hv e.symm))
  have PR := hide ((unhide OR).keep fun g hv hl => gm.block g hl (fun e => (unhide O).ro g hv e.symm))
  have PI := hide ((unhide OI).keep fun g hv hl => gm.block g hl (fun e => (unhide O).io g hv e.symm))
  have PO := hide om
  clear om gm M q7 R3 T3 OM OR OI OO
  go_wp2
  go_ret
  exact ⟨by unfold Md.tot; rfl, { (unhide O) with m := unhide PM, r := unhide PR, i := unhide PI, o := unhide PO }, unhide T4⟩

set_option maxHeartbeats 2000000 in
theorem heldM_any (x : Mv) (d : Md) (w : World) (hs : d.small) (hr : RdM w x d.marks) : Calls Try.prog 37 #[.agg x.cs, .int .i64 1] w fun e w' => e = .returned (.int .i64 d.tot) ∧ Below w.heap.size w w' := by
  obtain ⟨s0, s1, s2, s3⟩ := hs
  have HB := hide (below_new w (.cells x.cs 28))
  have R := hide (hr.later (unhide HB))
  have e0 : x.m.n = d.m.length := by rw [← hr.ml]; exact markN_length _ _
  have e1 : x.r.n = d.r.length := by rw [← hr.rl]; exact markN_length _ _
  have e2 : x.i.n = d.i.length := by rw [← hr.il]; exact markN_length _ _
  have e3 : x.o.n = d.o.length := by rw [← hr.ol]; exact markN_length _ _
  have q0 : x.cs[0]? = some (.slice x.m.a d.m.length x.m.c) := by rw [← e0]; rfl
  have q1 : x.cs[1]? = some (.slice x.r.a d.r.length x.r.c) := by rw [← e1]; rfl
  have q6 : x.cs[6]? = some (.slice x.i.a d.i.length x.i.c) := by rw [← e2]; rfl
  have q7 : x.cs[7]? = some (.slice x.o.a d.o.length x.o.c) := by rw [← e3]; rfl
  have M0 := hide (heldL_any x.m.a d.m.length x.m.c 1 _ (by omega) (by omega) (unhide R).m)
  have M1 := hide (heldL_any x.r.a d.r.length x.r.c (1 + d.m.length) _ (by omega) (by omega) (unhide R).r)
  have M2 := hide (heldL_any x.i.a d.i.length x.i.c (1 + d.m.length + d.r.length) _ (by omega) (by omega) (unhide R).i)
  have M3 := hide (heldL_any x.o.a d.o.length x.o.c (1 + d.m.length + d.r.length + d.i.length) _ (by omega) (by omega) (unhide R).o)
  clear hr R e0 e1 e2 e3
  go_enter Try.func37, Try.ntmps37
  go_wp2_with fail
  refine (unhide M0).mono ?_
  rintro e w' ⟨rfl, rfl⟩
  go_wp2_with fail
  refine (unhide M1).mono ?_
  rintro e w' ⟨rfl, rfl⟩
  go_wp2_with fail
  refine (unhide M2).mono ?_
  rintro e w' ⟨rfl, rfl⟩
  go_wp2_with fail
  refine (unhide M3).mono ?_
  rintro e w' ⟨rfl, rfl⟩
  go_wp2
  go_ret
  exact ⟨by unfold Md.tot; rfl, unhide HB⟩
end Go.Proofs.Ytfkmibgamkignaa

namespace Go.Proofs.Ytfkmibgamkignaa
open Go.ChangeShapes Go.WideShapes Go.ChangeAt Go.RowKit
set_option linter.unusedVariables false
set_option maxRecDepth 8000
set_option linter.unusedSimpArgs false

theorem Lw.tch {W w w' : World} {x y : Mv} {e : Md} (h : Lw W w x e) (hW : RdM W x e) (t : Tch w w' y) (hy : ∀ b, y.at b → W.heap.size < b) : Lw W w' x e :=
  ⟨row_tch h.bx t (fun e => by have := hy _ e; omega), h.rd.tch hW t (fun b e => Nat.le_of_lt (hy b e)), t.toBelow h.bel (Nat.le_of_lt h.lt) (fun b e => Nat.le_of_lt (hy b e))⟩
theorem small_md {w : World} {x : Mv} {d : Md} (h : RdM w x d) (hs : x.small) : d.small := ⟨by rw [h.ml]; exact hs.1, by rw [h.rl]; exact hs.2.1, by rw [h.il]; exact hs.2.2.1, by rw [h.ol]; exact hs.2.2.2⟩
theorem small_mv {w : World} {x : Mv} {d : Md} (h : RdM w x d) (hs : d.small) : x.small := ⟨by rw [← h.ml]; exact hs.1, by rw [← h.rl]; exact hs.2.1, by rw [← h.il]; exact hs.2.2.1, by rw [← h.ol]; exact hs.2.2.2⟩
theorem small_put {d : Md} (h : d.small) (a n : Int) : (d.put a n).small := by
  unfold Md.put
  split
  · exact ⟨by simpa using h.1, h.2.1, h.2.2.1, h.2.2.2⟩
  · exact h
theorem alloc_size (w : World) (o : Obj) : (w.alloc o).heap.size = w.heap.size + 1 := by simp
end Go.Proofs.Ytfkmibgamkignaa

namespace Go.Proofs.Ytfkmibgamkignaa

theorem countP_one (p p' : Nat → Bool) (i : Nat) (hp : p i = true) (hi : p' i = false) (hj : ∀ j, j ≠ i → p' j = p j) : ∀ l : List Nat, l.Nodup → i ∈ l → l.countP p' + 1 = l.countP p
  | [], _, h => by cases h
  | b :: l, hn, h => by
    rw [List.nodup_cons] at hn
    by_cases hb : b = i
    · subst hb
      have e : l.countP p' = l.countP p := List.countP_congr fun j hjl => by
        have : j ≠ b := fun e => hn.1 (e ▸ hjl)
        rw [hj j this]
      rw [List.countP_cons, List.countP_cons, hp, hi, e]
      simp
    · have ih := countP_one p p' i hp hi hj l hn.2 (by rcases List.mem_cons.1 h with h | h; exact absurd h.symm hb; exact h)
      rw [List.countP_cons, List.countP_cons, hj b hb]
      omega

theorem getD_set (listed : Array Bool) (i : Nat) (hi : i < listed.size) : (fun j => (listed.setIfInBounds i true).getD j false) = fun j => if j = i then true else listed.getD j false := by
  funext j
  by_cases h : j = i
  · subst h; simp [hi]
  · simp only [Array.getD_eq_getD_getElem?, if_neg h]
    rw [Array.getElem?_setIfInBounds_ne (fun e => h e.symm)]

section
variable {P : Program} {ops : Array Oper} {Q : Exit → Act → World → Prop}
theorem wpAny_inv (I : (Nat → Bool) → Act → World → Prop)
    (hstep : ∀ (i : Nat) (o : Oper), ops[i]? = some o → ∀ (f : Nat → Bool) (a : Act) (w : World), I f a w → f i = false → (∀ e ∈ o.after, Region.binds .any e = true → f e.on = true) →
      ∀ K : Act → World → Prop, (∀ a' w', I (fun j => if j = i then true else f j) a' w' → K a' w') → if Region.wanted o (yielded ops a.tmps) = true then Oper.wp P o a w K Q else K (a.put o.dst undef) w)
    (hdone : ∀ (f : Nat → Bool) (a : Act) (w : World), I f a w → (∀ i, i < ops.size → f i = true) → Q .normal a w)
    (hac : ∀ (i : Nat) (o : Oper), ops[i]? = some o → ∀ e ∈ o.after, e.on < i) :
    ∀ (fuel : Nat) (listed : Array Bool) (a : Act) (w : World), listed.size = ops.size → (List.range ops.size).countP (fun j => !listed.getD j false) ≤ fuel → I (fun j => listed.getD j false) a w → wpAny P .any ops Q fuel listed a w := by
  have hnil : ∀ (listed : Array Bool), listed.size = ops.size → Region.ready .any ops listed = [] → ∀ i, i < ops.size → listed.getD i false = true := by
    intro listed hsz hr i
    induction i using Nat.strongRecOn with
    | ind i ih =>
      intro hi
      cases hb : listed.getD i false with
      | true => rfl
      | false =>
        have hm : i ∈ Region.ready .any ops listed := mem_ready.2 ⟨by
          have hi' : i < listed.size := by omega
          simpa [hi'] using hb, ops[i], by simp [hi], fun e he _ => ih e.on (hac i _ (by simp [hi]) e he) (Nat.lt_trans (hac i _ (by simp [hi]) e he) hi)⟩
        rw [hr] at hm
        cases hm
  intro fuel
  induction fuel with
  | zero =>
    intro listed a w hsz hc hI
    have hall : ∀ i, i < ops.size → listed.getD i false = true := fun i hi => by
      have h0 : (List.range ops.size).countP (fun j => !listed.getD j false) = 0 := by omega
      rw [List.countP_eq_zero] at h0
      have := h0 i (List.mem_range.2 hi)
      simpa using this
    refine ⟨?_, hdone _ a w hI hall⟩
    apply List.eq_nil_iff_forall_not_mem.2
    intro i hi
    obtain ⟨h1, o, ho, _⟩ := mem_ready.1 hi
    have hi' := (Array.getElem?_eq_some_iff.1 ho).1
    have := hall i hi'
    have hi'' : i < listed.size := by omega
    simp [hi''] at this h1
    rw [this] at h1
    cases h1
  | succ fuel ih =>
    intro listed a w hsz hc hI
    refine ⟨fun hr => hdone _ a w hI (hnil listed hsz hr), fun i hi => ?_⟩
    obtain ⟨h1, o, ho, hd⟩ := mem_ready.1 hi
    have hi' := (Array.getElem?_eq_some_iff.1 ho).1
    have hi'' : i < listed.size := by omega
    have hf : listed.getD i false = false := by simpa [hi''] using h1
    refine wpOp_step ho fun K hK => ?_
    refine hstep i o ho _ a w hI hf (fun e he hb => hd e he hb) K fun a' w' hI' => hK a' w' ?_
    refine ih _ a' w' (by simpa using hsz) ?_ (by rw [getD_set listed i hi'']; exact hI')
    have := countP_one (fun j => !listed.getD j false) (fun j => !(listed.setIfInBounds i true).getD j false) i (by simp [hf]) (by
      have := congrFun (getD_set listed i hi'') i
      simp only [if_true] at this
      rw [this]; rfl) (fun j hj => by
      have := congrFun (getD_set listed i hi'') j
      simp only [if_neg hj] at this
      rw [this]) (List.range ops.size) List.nodup_range (List.mem_range.2 hi')
    omega
/-- Each operation waits for earlier ones alone. -/
def waitsB (ops : Array Oper) : Bool := (List.range ops.size).all fun i => ((ops[i]?).map fun o => o.after.all fun e => decide (e.on < i)).getD true
theorem waits_of (h : waitsB ops = true) : ∀ (i : Nat) (o : Oper), ops[i]? = some o → ∀ e ∈ o.after, e.on < i := by
  intro i o ho e he
  unfold waitsB at h
  rw [List.all_eq_true] at h
  have := h i (List.mem_range.2 (Array.getElem?_eq_some_iff.1 ho).1)
  rw [ho] at this
  simp only [Option.map_some, Option.getD_some] at this
  have := Array.all_eq_true_iff_forall_mem.1 this e he
  simpa using this
/-- The whole region: what holds of it at its beginning, behind each operation, and what that gives at its end. -/
theorem wp_region_inv {id : Nat} {a : Act} {w : World} (I : (Nat → Bool) → Act → World → Prop) (hm : P.follows .mixedOrders = true) (h0 : I (fun _ => false) a w.drew)
    (hac : waitsB ops = true)
    (hstep : ∀ (i : Nat) (o : Oper), ops[i]? = some o → ∀ (f : Nat → Bool) (a : Act) (w : World), I f a w → f i = false → (∀ e ∈ o.after, Region.binds .any e = true → f e.on = true) →
      ∀ K : Act → World → Prop, (∀ a' w', I (fun j => if j = i then true else f j) a' w' → K a' w') → if Region.wanted o (yielded ops a.tmps) = true then Oper.wp P o a w K Q else K (a.put o.dst undef) w)
    (hdone : ∀ (f : Nat → Bool) (a : Act) (w : World), I f a w → (∀ i, i < ops.size → f i = true) → Q .normal a w) : (Code.region id ops true).wp P Q a w := by
  refine wp_region_any hm ?_
  refine wpAny_inv I hstep hdone (waits_of hac) ops.size _ a _ (by simp) ?_ ?_
  · exact Nat.le_trans (List.countP_le_length) (by simp)
  · have e : (fun j => (Array.replicate ops.size false).getD j false) = fun _ => false := by
      funext j
      simp only [Array.getD_eq_getD_getElem?]
      by_cases hj : j < ops.size
      · rw [Array.getElem?_eq_getElem (by simpa using hj)]; simp
      · rw [Array.getElem?_eq_none (by simpa using hj)]; rfl
    rw [e]
    exact h0
end
end Go.Proofs.Ytfkmibgamkignaa
