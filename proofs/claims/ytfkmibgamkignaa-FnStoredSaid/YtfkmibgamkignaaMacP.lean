/- Marks in a machine, and whether they hold; over this seat's translation; conditions stand as hypotheses of each. -/
import Derived.Test.YtfkmibgamkignaaMacO
namespace Go.Proofs.Ytfkmibgamkignaa
open Go.ChangeShapes Go.WideShapes Go.ChangeAt Go.RowKit
set_option linter.unusedVariables false
set_option maxRecDepth 8000
set_option linter.unusedSimpArgs false

set_option maxHeartbeats 400000 in
theorem markL_any (b len cap k0 : Nat) (xs : List Int) (B : Nat) (w : World) (hl : xs.length = len) (hm : len ≤ 1099511627776) (hk0 : k0 ≤ 8388608) (hown : OwnN w B (.slice (some ⟨b, 0, none⟩) len cap) xs) :
    Calls Try.prog 35 #[.slice (some ⟨b, 0, none⟩) len cap, .int .i64 k0] w fun e w' => e = .returned (.int .i64 ((k0 : Int) + len)) ∧ OwnN w' B (.slice (some ⟨b, 0, none⟩) len cap) (markN k0 len) ∧ w.grownBy w' (some b) := by
  go_enter Try.func35, Try.ntmps35
  go_wp2
  go_loopw [1, 5] (fun kk i wr => ∃ k : Nat, k ≤ len ∧ i = .int .i64 k ∧ kk = .int .i64 ((k0 : Int) + k) ∧ wr.ownsRow B 3 1 (.slice (some ⟨b, 0, none⟩) len cap) len (cellsN (markN k0 k ++ xs.drop k)) ∧ w.grownBy wr (some b)) (fun _ i _ => len - (intOf i).toNat)
  case atStart => exact ⟨0, Nat.zero_le _, rfl, by simp, by simpa [markN, hl, OwnN] using hown, World.grownBy.refl _ _⟩
  case round =>
    clear hown
    obtain ⟨k, hk, rfl, rfl, hown, hg⟩ := hrel
    by_cases hlt : k < len
    · have hfz := hown.frozenAt k
      obtain ⟨u, hcx⟩ : ∃ u, wr.cell? ⟨b, k, none⟩ = some u := by
        rw [hown.cellAt k (by omega)]
        exact ⟨_, List.getElem?_eq_getElem (by rw [cellsN_length, List.length_append, markN_length, List.length_drop]; omega)⟩
      have st := hown.stored k (.int .i64 ((k0 : Int) + k))
      rw [mark_step k0 k xs (by omega)] at st
      have st1 := hide st.1
      have st2 := hide (grownBy_trans hg st.2)
      clear hown st hg
      go_wp2
      go_roundw
      case rel => exact ⟨k + 1, by omega, by go_num, by go_num, unhide st1, unhide st2⟩
      case measure => simp [intOf]; omega
    · go_wp2
      go_ret
      obtain rfl : k = len := by omega
      refine ⟨rfl, ?_, hg⟩
      unfold OwnN
      rw [markN_length]
      rw [List.drop_eq_nil_of_le (by omega), List.append_nil] at hown
      exact hown

set_option maxHeartbeats 400000 in
theorem heldL_any (a : Option Addr) (len cap k0 : Nat) (w : World) (hm : len ≤ 1099511627776) (hk0 : k0 ≤ 8388608) (hr : RdN w a (markN k0 len)) :
    Calls Try.prog 76 #[.slice a len cap, .int .i64 k0] w fun e w' => e = .returned (.int .i64 ((k0 : Int) + len)) ∧ w' = w := by
  go_enter Try.func76, Try.ntmps76
  go_wp2
  go_loop [1, 5] (fun kk i => ∃ k : Nat, k ≤ len ∧ i = .int .i64 k ∧ kk = .int .i64 ((k0 : Int) + k)) (fun _ i => len - (intOf i).toNat)
  case atStart => exact ⟨0, Nat.zero_le _, rfl, by simp⟩
  case round =>
    obtain ⟨k, hk, rfl, rfl⟩ := hrel
    by_cases hlt : k < len
    · rcases hr with h0 | ⟨b, off, rfl, hb, hc⟩
      · have := markN_length k0 len; rw [h0] at this; simp at this; omega
      have hcx := hc k (by rw [markN_length]; exact hlt)
      rw [markN_at k0 len k hlt] at hcx
      clear hc
      go_wp2
      go_round
      case rel => exact ⟨k + 1, by omega, by go_num, by go_num⟩
      case measure => simp [intOf]; omega
    · go_wp2
      go_ret
      obtain rfl : k = len := by omega
      exact ⟨rfl, rfl⟩

theorem markL_none (k0 : Nat) (w : World) (hk0 : k0 ≤ 8388608) : Calls Try.prog 35 #[.slice none 0 0, .int .i64 k0] w fun e w' => e = .returned (.int .i64 (k0 : Int)) ∧ w' = w := by
  go_enter Try.func35, Try.ntmps35
  go_wp2
  go_loop [1, 5] (fun kk i => kk = .int .i64 k0 ∧ i = .int .i64 0) (fun _ _ => 0)
  case atStart => exact ⟨rfl, rfl⟩
  case round =>
    obtain ⟨rfl, rfl⟩ := hrel
    go_wp2
    go_ret
    exact ⟨rfl, rfl⟩

theorem markL_own (s : Sl) (ns : List Int) (B k0 : Nat) (w : World) (hm : ns.length ≤ 1048576) (hk : k0 ≤ 8388608) (h : OwnN w B s.v ns) :
    Calls Try.prog 35 #[.slice s.a s.n s.c, .int .i64 (k0 : Int)] w fun e w' => e = .returned (.int .i64 ((k0 : Int) + ns.length)) ∧ OwnN w' B s.v (markN k0 ns.length) ∧ w.grownBy w' s.v.ownBlock := by
  obtain ⟨sa, sn, sc⟩ := s
  rcases h.form with ⟨e, rfl⟩ | ⟨g, cap, e, hg, hlt, hc, hm2⟩
  · unfold Sl.v at e
    simp at e
    obtain ⟨rfl, rfl, rfl⟩ := e
    exact (markL_none k0 w (by omega)).mono fun e w' ⟨he, hw⟩ => by subst hw; exact ⟨by simpa using he, ownN_none _ _, World.grownBy.refl _ _⟩
  · unfold Sl.v at e h ⊢
    simp at e
    obtain ⟨rfl, rfl, rfl⟩ := e
    exact (markL_any g ns.length sc k0 ns B w rfl (by omega) (by omega) h).mono fun e w' ⟨he, ho, hg⟩ => ⟨he, ho, hg⟩

/-- What is written where a machine is marked from k on. -/
def Md.marks (d : Md) : Md := ⟨markN 1 d.m.length, markN (1 + d.m.length) d.r.length, markN (1 + d.m.length + d.r.length) d.i.length, markN (1 + d.m.length + d.r.length + d.i.length) d.o.length⟩
def Md.tot (d : Md) : Int := (((1 + d.m.length + d.r.length + d.i.length : Nat) : Int)) + (d.o.length : Int)
def Md.small (d : Md) : Prop := d.m.length ≤ 1048576 ∧ d.r.length ≤ 1048576 ∧ d.i.length ≤ 1048576 ∧ d.o.length ≤ 1048576
theorem Md.tot_pos (d : Md) : 0 < d.tot := by unfold Md.tot; omega
/-- The blocks that a machine's lists lie in. -/
def Mv.at (x : Mv) (b : Nat) : Prop := x.m.v.ownBlock = some b ∨ x.r.v.ownBlock = some b ∨ x.i.v.ownBlock = some b ∨ x.o.v.ownBlock = some b
/-- Nothing has turned but what lies in the machine's lists. -/
structure Tch (w w' : World) (x : Mv) : Prop where
  os : w'.os = w.os
  tape : w'.tape = w.tape
  output : w'.output = w.output
  size : w.heap.size ≤ w'.heap.size
  block : ∀ k, k < w.heap.size → ¬ x.at k → w'.heap[k]? = w.heap[k]?
section
variable {w w' w1 : World} {B : Nat} {x y : Mv} {d : Md} {s : Sl} {row : Option Nat}
theorem OwnM.lo (h : OwnM w B x d) {b : Nat} (hb : x.at b) : B ≤ b ∧ b < w.heap.size := by
  rcases hb with hb | hb | hb | hb
  · exact h.m.lt hb
  · exact h.r.lt hb
  · exact h.i.lt hb
  · exact h.o.lt hb
theorem Tch.below (h : Below w.heap.size w w') : Tch w w' x := ⟨h.os, h.tape, h.output, h.size, fun k hk _ => h.block k hk⟩
theorem Tch.grown (h : Tch w w1 x) (hg : w1.grownBy w' row) (hr : ∀ b, row = some b → x.at b) : Tch w w' x :=
  ⟨hg.os.trans h.os, hg.tape.trans h.tape, hg.output.trans h.output, Nat.le_trans h.size hg.size, fun k hk hn => (hg.block k (Nat.lt_of_lt_of_le hk h.size) (fun e => hn (hr k e.symm))).trans (h.block k hk hn)⟩
theorem Tch.toBelow {w0 : World} {C : Nat} (t : Tch w w' x) (h : Below C w0 w) (hC : C ≤ w.heap.size) (hb : ∀ b, x.at b → C ≤ b) : Below C w0 w' :=
  h.trans ⟨t.os, t.tape, t.output, t.size, fun k hk => t.block k (by omega) (fun e => by have := hb k e; omega)⟩
theorem OwnM.keepH (h : OwnM w B x d) (hs : ∀ g, x.at g → g < w.heap.size → w'.heap[g]? = w.heap[g]?) : OwnM w' B x d :=
  { h with m := h.m.keep fun g hv hg => hs g (.inl hv) hg, r := h.r.keep fun g hv hg => hs g (.inr (.inl hv)) hg, i := h.i.keep fun g hv hg => hs g (.inr (.inr (.inl hv))) hg, o := h.o.keep fun g hv hg => hs g (.inr (.inr (.inr hv))) hg }
theorem OwnM.tch (h : OwnM w B y d) (t : Tch w w' x) (hap : ∀ b, y.at b → x.at b → False) : OwnM w' B y d := h.keepH fun g hg hl => t.block g hl (fun e => hap g hg e)
theorem row_tch {g : Nat} {o : Obj} (h : w.heap[g]? = some o) (t : Tch w w' x) (hn : ¬ x.at g) : w'.heap[g]? = some o := (t.block g (row_lt h) hn).trans h
theorem RdM.tch {z : Mv} {e : Md} {W : World} (h : RdM w z e) (hW : RdM W z e) (t : Tch w w' x) (hx : ∀ b, x.at b → W.heap.size ≤ b) : RdM w' z e := by
  have key : ∀ {a : Option Addr} {ns : List Int}, RdN w a ns → RdN W a ns → RdN w' a ns := fun hr hq => by
    rcases hr with h0 | ⟨b, off, rfl, hb, hc⟩
    · exact .inl h0
    · rcases hq with h0 | ⟨b', off', e', hb', _⟩
      · exact .inl h0
      · cases e'
        exact .inr ⟨b, off, rfl, Nat.lt_of_lt_of_le hb t.size, fun i hi => (World.cell?_of_block (w := w) (t.block b hb (fun e => by have := hx b e; omega))).trans (hc i hi)⟩
  exact ⟨key h.m hW.m, key h.r hW.r, key h.i hW.i, key h.o hW.o, h.ml, h.rl, h.il, h.ol⟩
end

set_option maxHeartbeats 2000000 in
theorem markM_any (x : Mv) (d : Md) (B : Nat) (w : World) (hs : d.small) (ho : OwnM w B x d) : Calls Try.prog 36 #[.agg x.cs, .int .i64 1] w fun e w' => e = .returned (.int .i64 d.tot) ∧ OwnM w' B x d.marks ∧ Tch w w' x := by
  obtain ⟨s0, s1, s2, s3⟩ := hs
  have b0 := below_new w (.cells x.cs 28)
  have R0 := hide (heap_alloc_last w (.cells x.cs 28))
  have NB : Hid (¬ x.at w.heap.size) := hide (fun e => by have := (ho.lo e).2; omega)
  have T0 := hide (Tch.below (x := x) b0)
  have O := hide (ho.later b0)
  have q0 : x.cs[0]? = some (.slice x.m.a x.m.n x.m.c) := rfl
  have M := hide (markL_own x.m d.m B 1 (w.alloc (.cells x.cs 28)) s0 (by omega) (unhide O).m)
  clear ho b0
  go_enter Try.func36, Try.ntmps36
  go_wp2_with fail
  refine (unhide M).mono ?_
  rintro e w1 ⟨rfl, om, gm⟩
  have R1 := hide ((gm.block w.heap.size (row_lt (unhide R0)) (fun e => unhide NB (.inl e.symm))).trans (unhide R0))
  have T1 := hide ((unhide T0).grown gm (fun b e => .inl e))
  have OM := hide om
  have OR := hide ((unhide O).r.keep fun g hv hl => gm.block g hl (fun e => (unhide O).mr g e.symm hv))
  have OI := hide ((unhide O).i.keep fun g hv hl => gm.block g hl (fun e => (unhide O).mi g e.symm hv))
  have OO := hide ((unhide O).o.keep fun g hv hl => gm.block g hl (fun e => (unhide O).mo g e.symm hv))
  clear om gm M q0 R0 T0
  have q1 := row_r (unhide R1)
  have M := hide (markL_own x.r d.r B (1 + d.m.length) w1 s1 (by omega) (unhide OR))
  go_wp2_with fail
  refine (unhide M).mono ?_
  rintro e w2 ⟨rfl, om, gm⟩
  have R2 := hide ((gm.block w.heap.size (row_lt (unhide R1)) (fun e => unhide NB (.inr (.inl e.symm)))).trans (unhide R1))
  have T2 := hide ((unhide T1).grown gm (fun b e => .inr (.inl e)))
  have PM := hide ((unhide OM).keep fun g hv hl => gm.block g hl (fun e => (unhide O).mr g hv e.symm))
  have PR := hide om
  have PI := hide ((unhide OI).keep fun g hv hl => gm.block g hl (fun e => (unhide O).ri g e.symm hv))
  have PO := hide ((unhide OO).keep fun g hv hl => gm.block g hl (fun e => (unhide O).ro g e.symm hv))
  clear om gm M q1 R1 T1 OM OR OI OO
  have q6 := row_i (unhide R2)
  have M := hide (markL_own x.i d.i B (1 + d.m.length + d.r.length) w2 s2 (by omega) (unhide PI))
  go_wp2_with fail
  refine (unhide M).mono ?_
  rintro e w3 ⟨rfl, om, gm⟩
  have R3 := hide ((gm.block w.heap.size (row_lt (unhide R2)) (fun e => unhide NB (.inr (.inr (.inl e.symm))))).trans (unhide R2))
  have T3 := hide ((unhide T2).grown gm (fun b e => .inr (.inr (.inl e))))
  have OM := hide ((unhide PM).keep fun g hv hl => gm.block g hl (fun e => (unhide O).mi g hv e.symm))
  have OR := hide ((unhide PR).keep fun g hv hl => gm.block g hl (fun e => (unhide O).ri g hv e.symm))
  have OI := hide om
  have OO := hide ((unhide PO).keep fun g hv hl => gm.block g hl (fun e => (unhide O).io g e.symm hv))
  clear om gm M q6 R2 T2 PM PR PI PO
  have q7 := row_o (unhide R3)
  have M := hide (markL_own x.o d.o B (1 + d.m.length + d.r.length + d.i.length) w3 s3 (by omega) (unhide OO))
  go_wp2_with fail
  refine (unhide M).mono ?_
  rintro e w4 ⟨rfl, om, gm⟩
  have T4 := hide ((unhide T3).grown gm (fun b e => .inr (.inr (.inr e))))
  have PM := hide ((unhide OM).keep fun g hv hl => gm.block g hl (fun e => (unhide O).mo g hv e.symm))
  have PR := hide ((unhide OR).keep fun g hv hl => gm.block g hl (fun e => (unhide O).ro g hv e.symm))
  have PI := hide ((unhide OI).keep fun g hv hl => gm.block g hl (fun e => (unhide O).io g hv e.symm))
  have PO := hide om
  clear om gm M q7 R3 T3 OM OR OI OO
  go_wp2
  go_ret
  exact ⟨by unfold Md.tot; rfl, { (unhide O) with m := unhide PM, r := unhide PR, i := unhide PI, o := unhide PO }, unhide T4⟩

set_option maxHeartbeats 2000000 in
theorem heldM_any (x : Mv) (d : Md) (w : World) (hs : d.small) (hr : RdM w x d.marks) : Calls Try.prog 37 #[.agg x.cs, .int .i64 1] w fun e w' => e = .returned (.int .i64 d.tot) ∧ Below w.heap.size w w' := by
  obtain ⟨s0, s1, s2, s3⟩ := hs
  have HB := hide (below_new w (.cells x.cs 28))
  have R := hide (hr.later (unhide HB))
  have e0 : x.m.n = d.m.length := by rw [← hr.ml]; exact markN_length _ _
  have e1 : x.r.n = d.r.length := by rw [← hr.rl]; exact markN_length _ _
  have e2 : x.i.n = d.i.length := by rw [← hr.il]; exact markN_length _ _
  have e3 : x.o.n = d.o.length := by rw [← hr.ol]; exact markN_length _ _
  have q0 : x.cs[0]? = some (.slice x.m.a d.m.length x.m.c) := by rw [← e0]; rfl
  have q1 : x.cs[1]? = some (.slice x.r.a d.r.length x.r.c) := by rw [← e1]; rfl
  have q6 : x.cs[6]? = some (.slice x.i.a d.i.length x.i.c) := by rw [← e2]; rfl
  have q7 : x.cs[7]? = some (.slice x.o.a d.o.length x.o.c) := by rw [← e3]; rfl
  have M0 := hide (heldL_any x.m.a d.m.length x.m.c 1 _ (by omega) (by omega) (unhide R).m)
  have M1 := hide (heldL_any x.r.a d.r.length x.r.c (1 + d.m.length) _ (by omega) (by omega) (unhide R).r)
  have M2 := hide (heldL_any x.i.a d.i.length x.i.c (1 + d.m.length + d.r.length) _ (by omega) (by omega) (unhide R).i)
  have M3 := hide (heldL_any x.o.a d.o.length x.o.c (1 + d.m.length + d.r.length + d.i.length) _ (by omega) (by omega) (unhide R).o)
  clear hr R e0 e1 e2 e3
  go_enter Try.func37, Try.ntmps37
  go_wp2_with fail
  refine (unhide M0).mono ?_
  rintro e w' ⟨rfl, rfl⟩
  go_wp2_with fail
  refine (unhide M1).mono ?_
  rintro e w' ⟨rfl, rfl⟩
  go_wp2_with fail
  refine (unhide M2).mono ?_
  rintro e w' ⟨rfl, rfl⟩
  go_wp2_with fail
  refine (unhide M3).mono ?_
  rintro e w' ⟨rfl, rfl⟩
  go_wp2
  go_ret
  exact ⟨by unfold Md.tot; rfl, unhide HB⟩
end Go.Proofs.Ytfkmibgamkignaa
