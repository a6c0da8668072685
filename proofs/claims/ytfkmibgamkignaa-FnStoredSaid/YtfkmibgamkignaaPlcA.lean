/- What stands in a place: the model's answer; over this seat's translation; conditions stand as hypotheses of each. -/
import Derived.Test.YtfkmibgamkignaaMacI
namespace Go.Proofs.Ytfkmibgamkignaa
open Go.ChangeShapes Go.WideShapes Go.ChangeAt Go.RowKit
set_option linter.unusedVariables false
set_option linter.unusedSimpArgs false

/-- Is there such a place. -/
def Md.ldB (d : Md) (r a : Int) : Bool := if r = -1 then d.has a else (inB r 0 ((d.r.length : Int) - 1) && (a == -1))
/-- What stands there. -/
def Md.ldV (d : Md) (r a : Int) : Int := if r = -1 then d.get a else if d.ldB r a = true then nAt d.r r.toNat else 0

/-- The boxes of a machine and a place. -/
structure Bp (w wr : World) (x : Mv) (r a : Int) : Prop where
  bx : wr.heap[w.heap.size]? = some (.cells x.cs 28 (0, 0))
  bp : wr.heap[w.heap.size + 1]? = some (.cells #[.int .i64 r, .int .i64 a] 44 (0, 0))
  bel : Below w.heap.size w wr
  sz : w.heap.size + 2 ≤ wr.heap.size
theorem bp_new (w : World) (x : Mv) (r a : Int) : Bp w ((w.alloc (.cells x.cs 28)).alloc (.cells #[.int .i64 r, .int .i64 a] 44)) x r a :=
  ⟨row_lat (heap_alloc_last w _) ((Below.refl _ _).alloc (Nat.le_refl _) _), by have := heap_alloc_last (w.alloc (.cells x.cs 28)) (.cells #[.int .i64 r, .int .i64 a] 44); simpa using this, ((Below.refl _ _).alloc (Nat.le_refl _) _).alloc (by simp) _, by simp⟩
theorem Bp.later {w wr w' : World} {x : Mv} {r a : Int} (h : Bp w wr x r a) (hb : Below wr.heap.size wr w') : Bp w w' x r a :=
  ⟨row_lat h.bx hb, row_lat h.bp hb, h.bel.trans (hb.mono (by have := h.sz; omega)), Nat.le_trans h.sz hb.size⟩
theorem Bp.r {w wr : World} {x : Mv} {r a : Int} (h : Bp w wr x r a) : wr.cell? ⟨w.heap.size + 1, 0, none⟩ = some (.int .i64 r) := (cell_of_row wr _ 0 _ 44 _ h.bp).trans rfl
theorem Bp.a {w wr : World} {x : Mv} {r a : Int} (h : Bp w wr x r a) : wr.cell? ⟨w.heap.size + 1, 1, none⟩ = some (.int .i64 a) := (cell_of_row wr _ 1 _ 44 _ h.bp).trans rfl

set_option maxHeartbeats 4000000 in
theorem loadS_any (x : Mv) (d : Md) (r a : Int) (w : World) (hs : x.small) (hr : RdM w x d) :
    Calls Try.prog 27 #[.agg x.cs, .agg #[.int .i64 r, .int .i64 a]] w fun e w' => e = .returned (.tuple #[.int .i64 (d.ldV r a), .bool (d.ldB r a)]) ∧ Below w.heap.size w w' := by
  have B := hide (bp_new w x r a)
  have X := hide (hr.later (unhide B).bel)
  have R := hide (fun w (h : RdM w x d) => readS_any x d a w hs h)
  by_cases h1 : r = -1
  · subst h1
    unfold Md.ldV Md.ldB
    rw [if_pos rfl, if_pos rfl]
    go_enter Try.func27, Try.ntmps27
    go_wp2_with (first | (refine wpList_load_row rfl 28 _ rfl w.heap.size rfl 28 x.cs (0, 0) _ (unhide B).bx Try.underlying28 rfl (by kernel_rfl) ?_) | (go_at_call 39; refine (unhide R _ (unhide X)).mono ?_; rintro e w' ⟨rfl, hb⟩; have BB := hide ((unhide B).later hb).bel; clear hb))
    go_ret2
    exact ⟨rfl, unhide BB⟩
  · have c1 : x.cs[1]? = some (.slice x.r.a x.r.n x.r.c) := rfl
    have I := hide (fun w => in_any r 0 ((x.r.n : Int) - 1) w)
    have hn := hs.2.1
    have hw1 : IntKind.i64.wrap ((x.r.n : Int) - 1) = (x.r.n : Int) - 1 := by rw [IntKind.wrap_i64]; omega
    unfold Md.ldV Md.ldB
    rw [if_neg h1, if_neg h1, hr.rl]
    obtain ⟨q, hq⟩ : ∃ q, inB r 0 ((x.r.n : Int) - 1) = q := ⟨_, rfl⟩
    rw [hq] at I ⊢
    cases q
    · clear hq hr hs R X
      go_enter Try.func27, Try.ntmps27
      go_wp2_with (go_at_call 59; refine (unhide I _).mono ?_; rintro e w' ⟨rfl, hw'⟩; rw [hw']; clear hw' w')
      go_ret2
      exact ⟨rfl, (unhide B).bel⟩
    · by_cases ha : a = -1
      · subst ha
        obtain ⟨r0, r1⟩ : 0 ≤ r ∧ r ≤ (x.r.n : Int) - 1 := by unfold inB at hq; simpa using hq
        obtain ⟨k, rfl⟩ := Int.eq_ofNat_of_zero_le r0
        have hkl : k < x.r.n := by omega
        have hrl := hr.rl
        rcases (unhide X).r with h00 | ⟨b, off, hra, hbl, hc⟩
        · rw [h00] at hrl; simp at hrl; omega
        have hcx := hc k (by omega)
        have hki : (k : Int) < (x.r.n : Int) := by omega
        rw [hra] at c1
        rw [show ((k : Int)).toNat = k by omega]
        clear hq hr hs R X hra hc hrl
        go_enter Try.func27, Try.ntmps27
        go_wp2_with (go_at_call 59; refine (unhide I _).mono ?_; rintro e w' ⟨rfl, hw'⟩; rw [hw']; clear hw' w')
        go_ret2
        exact ⟨rfl, (unhide B).bel⟩
      · rw [show (a == -1) = false by simpa using ha]
        clear hq hr hs R X
        go_enter Try.func27, Try.ntmps27
        go_wp2_with (go_at_call 59; refine (unhide I _).mono ?_; rintro e w' ⟨rfl, hw'⟩; rw [hw']; clear hw' w')
        go_ret2
        exact ⟨rfl, (unhide B).bel⟩
end Go.Proofs.Ytfkmibgamkignaa
