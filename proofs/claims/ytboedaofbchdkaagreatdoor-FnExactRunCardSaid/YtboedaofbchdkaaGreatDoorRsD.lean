/- Contracts over this seat's translation, laid together; conditions stand as hypotheses of each. -/
import Derived.Test.YtboedaofbchdkaaGreatDoorRsC
import Derived.Maps.AppendAt
import Derived.Orders
import Derived.RegionTactic
namespace Go.Proofs.YtboedaofbchdkaaGreatDoor
open Go.ChangeShapes Go.WideShapes Go.ChangeAt Go.RowKit
set_option maxHeartbeats 16000000
set_option linter.unusedVariables false
set_option maxRecDepth 8000
set_option linter.unusedSimpArgs false
section
theorem markL_any (b len cap k0 : Nat) (xs : List Int) (B : Nat) (w : World) (hl : xs.length = len) (hm : len ≤ 1099511627776) (hk0 : k0 ≤ 8388608) (hown : OwnN w B (.slice (some ⟨b, 0, none⟩) len cap) xs) :
  Calls Tryz.prog 19 #[.slice (some ⟨b, 0, none⟩) len cap, .int .i64 k0] w fun e w' => e = .returned (.int .i64 ((k0 : Int) + len)) ∧ OwnN w' B (.slice (some ⟨b, 0, none⟩) len cap) (markN k0 len) ∧ w.grownBy w' (some b) := by
 go_enter Tryz.func19, Tryz.ntmps19
 go_wp2
 go_loopw [1, 5] (fun kk i wr => ∃ k : Nat, k ≤ len ∧ i = .int .i64 k ∧ kk = .int .i64 ((k0 : Int) + k) ∧ wr.ownsRow B 3 1 (.slice (some ⟨b, 0, none⟩) len cap) len (cellsN (markN k0 k ++ xs.drop k)) ∧ w.grownBy wr (some b)) (fun _ i _ => len - (intOf i).toNat)
 case atStart => exact ⟨0, Nat.zero_le _, rfl, by simp, by simpa [markN, hl, OwnN] using hown, World.grownBy.refl _ _⟩
 case round =>
  clear hown
  obtain ⟨k, hk, rfl, rfl, hown, hg⟩ := hrel
  by_cases hlt : k < len
  ·
   have hfz := hown.frozenAt k
   obtain ⟨u, hcx⟩ : ∃ u, wr.cell? ⟨b, k, none⟩ = some u := by
    rw [hown.cellAt k (by omega)]
    exact ⟨_, List.getElem?_eq_getElem (by rw [cellsN_length, List.length_append, markN_length, List.length_drop]; omega)⟩
   have st := hown.stored k (.int .i64 ((k0 : Int) + k))
   rw [mark_step k0 k xs (by omega)] at st
   have st1 := hide st.1
   have st2 := hide (grownBy_trans hg st.2)
   clear hown st hg
   go_wp2
   go_roundw
   case rel => exact ⟨k + 1, by omega, by go_num, by go_num, uh st1, uh st2⟩
   case measure => simp [intOf]; omega
  ·
   go_wp2
   go_ret
   obtain rfl : k = len := by omega
   refine ⟨rfl, ?_, hg⟩
   unfold OwnN
   rw [markN_length]
   rw [List.drop_eq_nil_of_le (by omega), List.append_nil] at hown
   exact hown
theorem heldL_any (a : Option Addr) (len cap k0 : Nat) (w : World) (hm : len ≤ 1099511627776) (hk0 : k0 ≤ 8388608) (hr : RdN w a (markN k0 len)) :
  Calls Tryz.prog 20 #[.slice a len cap, .int .i64 k0] w fun e w' => e = .returned (.int .i64 ((k0 : Int) + len)) ∧ w' = w := by
 go_enter Tryz.func20, Tryz.ntmps20
 go_wp2
 go_loop [1, 5] (fun kk i => ∃ k : Nat, k ≤ len ∧ i = .int .i64 k ∧ kk = .int .i64 ((k0 : Int) + k)) (fun _ i => len - (intOf i).toNat)
 case atStart => exact ⟨0, Nat.zero_le _, rfl, by simp⟩
 case round =>
  obtain ⟨k, hk, rfl, rfl⟩ := hrel
  by_cases hlt : k < len
  ·
   rcases hr with h0 | ⟨b, off, rfl, hb, hc⟩
   · have := markN_length k0 len; rw [h0] at this; simp at this; omega
   have hcx := hc k (by rw [markN_length]; exact hlt)
   rw [markN_at k0 len k hlt] at hcx
   clear hc
   go_wp2
   go_round
   case rel => exact ⟨k + 1, by omega, by go_num, by go_num⟩
   case measure => simp [intOf]; omega
  ·
   go_wp2
   go_ret
   obtain rfl : k = len := by omega
   exact ⟨rfl, rfl⟩
theorem markL_none (k0 : Nat) (w : World) (hk0 : k0 ≤ 8388608) : Calls Tryz.prog 19 #[.slice none 0 0, .int .i64 k0] w fun e w' => e = .returned (.int .i64 (k0 : Int)) ∧ w' = w := by
 go_enter Tryz.func19, Tryz.ntmps19
 go_wp2
 go_loop [1, 5] (fun kk i => kk = .int .i64 k0 ∧ i = .int .i64 0) (fun _ _ => 0)
 case atStart => exact ⟨rfl, rfl⟩
 case round =>
  obtain ⟨rfl, rfl⟩ := hrel
  go_wp2
  go_ret
  exact ⟨rfl, rfl⟩
theorem markL_own (s : Sl) (ns : List Int) (B k0 : Nat) (w : World) (hm : ns.length ≤ 1048576) (hk : k0 ≤ 8388608) (h : OwnN w B s.v ns) :
  Calls Tryz.prog 19 #[.slice s.a s.n s.c, .int .i64 (k0 : Int)] w fun e w' => e = .returned (.int .i64 ((k0 : Int) + ns.length)) ∧ OwnN w' B s.v (markN k0 ns.length) ∧ w.grownBy w' s.v.ownBlock := by
 obtain ⟨sa, sn, sc⟩ := s
 rcases h.form with ⟨e, rfl⟩ | ⟨g, cap, e, hg, hlt, hc, hm2⟩
 ·
  unfold Sl.v at e
  simp at e
  obtain ⟨rfl, rfl, rfl⟩ := e
  exact (markL_none k0 w (by omega)).mono fun e w' ⟨he, hw⟩ => by subst hw; exact ⟨by simpa using he, ownN_none _ _, World.grownBy.refl _ _⟩
 ·
  unfold Sl.v at e h ⊢
  simp at e
  obtain ⟨rfl, rfl, rfl⟩ := e
  exact (markL_any g ns.length sc k0 ns B w rfl (by omega) (by omega) h).mono fun e w' ⟨he, ho, hg⟩ => ⟨he, ho, hg⟩
def Md.marks (d : Md) : Md := ⟨markN 1 d.m.length, markN (1 + d.m.length) d.r.length, markN (1 + d.m.length + d.r.length) d.i.length, markN (1 + d.m.length + d.r.length + d.i.length) d.o.length⟩
def Md.tot (d : Md) : Int := (((1 + d.m.length + d.r.length + d.i.length : Nat) : Int)) + (d.o.length : Int)
def Md.small (d : Md) : Prop := d.m.length ≤ 1048576 ∧ d.r.length ≤ 1048576 ∧ d.i.length ≤ 1048576 ∧ d.o.length ≤ 1048576
theorem Md.tot_pos (d : Md) : 0 < d.tot := by unfold Md.tot; omega
def Mv.at (x : Mv) (b : Nat) : Prop := x.m.v.ownBlock = some b ∨ x.r.v.ownBlock = some b ∨ x.i.v.ownBlock = some b ∨ x.o.v.ownBlock = some b
structure Tch (w w' : World) (x : Mv) : Prop where
 os : w'.os = w.os
 tape : w'.tape = w.tape
 output : w'.output = w.output
 size : w.heap.size ≤ w'.heap.size
 block : ∀ k, k < w.heap.size → ¬ x.at k → w'.heap[k]? = w.heap[k]?
section
variable {w w' w1 : World} {B : Nat} {x y : Mv} {d : Md} {s : Sl} {row : Option Nat}
theorem OwnM.lo (h : OwnM w B x d) {b : Nat} (hb : x.at b) : B ≤ b ∧ b < w.heap.size := by
 rcases hb with hb | hb | hb | hb
 · exact h.m.lt hb
 · exact h.r.lt hb
 · exact h.i.lt hb
 · exact h.o.lt hb
theorem Tch.below (h : Below w.heap.size w w') : Tch w w' x := ⟨h.os, h.tape, h.output, h.size, fun k hk _ => h.block k hk⟩
theorem Tch.grown (h : Tch w w1 x) (hg : w1.grownBy w' row) (hr : ∀ b, row = some b → x.at b) : Tch w w' x :=
 ⟨hg.os.trans h.os, hg.tape.trans h.tape, hg.output.trans h.output, Nat.le_trans h.size hg.size, fun k hk hn => (hg.block k (Nat.lt_of_lt_of_le hk h.size) (fun e => hn (hr k e.symm))).trans (h.block k hk hn)⟩
theorem Tch.toBelow {w0 : World} {C : Nat} (t : Tch w w' x) (h : Below C w0 w) (hC : C ≤ w.heap.size) (hb : ∀ b, x.at b → C ≤ b) : Below C w0 w' :=
 h.trans ⟨t.os, t.tape, t.output, t.size, fun k hk => t.block k (by omega) (fun e => by have := hb k e; omega)⟩
theorem OwnM.keepH (h : OwnM w B x d) (hs : ∀ g, x.at g → g < w.heap.size → w'.heap[g]? = w.heap[g]?) : OwnM w' B x d :=
 { h with m := h.m.keep fun g hv hg => hs g (.inl hv) hg, r := h.r.keep fun g hv hg => hs g (.inr (.inl hv)) hg, i := h.i.keep fun g hv hg => hs g (.inr (.inr (.inl hv))) hg, o := h.o.keep fun g hv hg => hs g (.inr (.inr (.inr hv))) hg }
theorem OwnM.tch (h : OwnM w B y d) (t : Tch w w' x) (hap : ∀ b, y.at b → x.at b → False) : OwnM w' B y d := h.keepH fun g hg hl => t.block g hl (fun e => hap g hg e)
theorem row_tch {g : Nat} {o : Obj} (h : w.heap[g]? = some o) (t : Tch w w' x) (hn : ¬ x.at g) : w'.heap[g]? = some o := (t.block g (row_lt h) hn).trans h
theorem RdM.tch {z : Mv} {e : Md} {W : World} (h : RdM w z e) (hW : RdM W z e) (t : Tch w w' x) (hx : ∀ b, x.at b → W.heap.size ≤ b) : RdM w' z e := by
 have key : ∀ {a : Option Addr} {ns : List Int}, RdN w a ns → RdN W a ns → RdN w' a ns := fun hr hq => by
  rcases hr with h0 | ⟨b, off, rfl, hb, hc⟩
  · exact .inl h0
  ·
   rcases hq with h0 | ⟨b', off', e', hb', _⟩
   · exact .inl h0
   ·
    cases e'
    exact .inr ⟨b, off, rfl, Nat.lt_of_lt_of_le hb t.size, fun i hi => (World.cell?_of_block (w := w) (t.block b hb (fun e => by have := hx b e; omega))).trans (hc i hi)⟩
 exact ⟨key h.m hW.m, key h.r hW.r, key h.i hW.i, key h.o hW.o, h.ml, h.rl, h.il, h.ol⟩
end
theorem markM_any (x : Mv) (d : Md) (B : Nat) (w : World) (hs : d.small) (ho : OwnM w B x d) : Calls Tryz.prog 9 #[.agg x.cs, .int .i64 1] w fun e w' => e = .returned (.int .i64 d.tot) ∧ OwnM w' B x d.marks ∧ Tch w w' x := by
 obtain ⟨s0, s1, s2, s3⟩ := hs
 have b0 := below_new w (.cells x.cs 26)
 have R0 := hide (heap_alloc_last w (.cells x.cs 26))
 have NB : Hid (¬ x.at w.heap.size) := hide (fun e => by have := (ho.lo e).2; omega)
 have T0 := hide (Tch.below (x := x) b0)
 have O := hide (ho.later b0)
 have q0 : x.cs[0]? = some (.slice x.m.a x.m.n x.m.c) := rfl
 have M := hide (markL_own x.m d.m B 1 (w.alloc (.cells x.cs 26)) s0 (by omega) (uh O).m)
 clear ho b0
 go_enter Tryz.func9, Tryz.ntmps9
 go_wp2_with fail
 refine (uh M).mono ?_
 rintro e w1 ⟨rfl, om, gm⟩
 have R1 := hide ((gm.block w.heap.size (row_lt (uh R0)) (fun e => uh NB (.inl e.symm))).trans (uh R0))
 have T1 := hide ((uh T0).grown gm (fun b e => .inl e))
 have OM := hide om
 have OR := hide ((uh O).r.keep fun g hv hl => gm.block g hl (fun e => (uh O).mr g e.symm hv))
 have OI := hide ((uh O).i.keep fun g hv hl => gm.block g hl (fun e => (uh O).mi g e.symm hv))
 have OO := hide ((uh O).o.keep fun g hv hl => gm.block g hl (fun e => (uh O).mo g e.symm hv))
 clear om gm M q0 R0 T0
 have q1 := row_r (uh R1)
 have M := hide (markL_own x.r d.r B (1 + d.m.length) w1 s1 (by omega) (uh OR))
 go_wp2_with fail
 refine (uh M).mono ?_
 rintro e w2 ⟨rfl, om, gm⟩
 have R2 := hide ((gm.block w.heap.size (row_lt (uh R1)) (fun e => uh NB (.inr (.inl e.symm)))).trans (uh R1))
 have T2 := hide ((uh T1).grown gm (fun b e => .inr (.inl e)))
 have PM := hide ((uh OM).keep fun g hv hl => gm.block g hl (fun e => (uh O).mr g hv e.symm))
 have PR := hide om
 have PI := hide ((uh OI).keep fun g hv hl => gm.block g hl (fun e => (uh O).ri g e.symm hv))
 have PO := hide ((uh OO).keep fun g hv hl => gm.block g hl (fun e => (uh O).ro g e.symm hv))
 clear om gm M q1 R1 T1 OM OR OI OO
 have q6 := row_i (uh R2)
 have M := hide (markL_own x.i d.i B (1 + d.m.length + d.r.length) w2 s2 (by omega) (uh PI))
 go_wp2_with fail
 refine (uh M).mono ?_
 rintro e w3 ⟨rfl, om, gm⟩
 have R3 := hide ((gm.block w.heap.size (row_lt (uh R2)) (fun e => uh NB (.inr (.inr (.inl e.symm))))).trans (uh R2))
 have T3 := hide ((uh T2).grown gm (fun b e => .inr (.inr (.inl e))))
 have OM := hide ((uh PM).keep fun g hv hl => gm.block g hl (fun e => (uh O).mi g hv e.symm))
 have OR := hide ((uh PR).keep fun g hv hl => gm.block g hl (fun e => (uh O).ri g hv e.symm))
 have OI := hide om
 have OO := hide ((uh PO).keep fun g hv hl => gm.block g hl (fun e => (uh O).io g e.symm hv))
 clear om gm M q6 R2 T2 PM PR PI PO
 have q7 := row_o (uh R3)
 have M := hide (markL_own x.o d.o B (1 + d.m.length + d.r.length + d.i.length) w3 s3 (by omega) (uh OO))
 go_wp2_with fail
 refine (uh M).mono ?_
 rintro e w4 ⟨rfl, om, gm⟩
 have T4 := hide ((uh T3).grown gm (fun b e => .inr (.inr (.inr e))))
 have PM := hide ((uh OM).keep fun g hv hl => gm.block g hl (fun e => (uh O).mo g hv e.symm))
 have PR := hide ((uh OR).keep fun g hv hl => gm.block g hl (fun e => (uh O).ro g hv e.symm))
 have PI := hide ((uh OI).keep fun g hv hl => gm.block g hl (fun e => (uh O).io g hv e.symm))
 have PO := hide om
 clear om gm M q7 R3 T3 OM OR OI OO
 go_wp2
 go_ret
 exact ⟨by unfold Md.tot; rfl, { (uh O) with m := uh PM, r := uh PR, i := uh PI, o := uh PO }, uh T4⟩
theorem heldM_any (x : Mv) (d : Md) (w : World) (hs : d.small) (hr : RdM w x d.marks) : Calls Tryz.prog 10 #[.agg x.cs, .int .i64 1] w fun e w' => e = .returned (.int .i64 d.tot) ∧ Below w.heap.size w w' := by
 obtain ⟨s0, s1, s2, s3⟩ := hs
 have HB := hide (below_new w (.cells x.cs 26))
 have R := hide (hr.later (uh HB))
 have e0 : x.m.n = d.m.length := by rw [← hr.ml]; exact markN_length _ _
 have e1 : x.r.n = d.r.length := by rw [← hr.rl]; exact markN_length _ _
 have e2 : x.i.n = d.i.length := by rw [← hr.il]; exact markN_length _ _
 have e3 : x.o.n = d.o.length := by rw [← hr.ol]; exact markN_length _ _
 have q0 : x.cs[0]? = some (.slice x.m.a d.m.length x.m.c) := by rw [← e0]; rfl
 have q1 : x.cs[1]? = some (.slice x.r.a d.r.length x.r.c) := by rw [← e1]; rfl
 have q6 : x.cs[6]? = some (.slice x.i.a d.i.length x.i.c) := by rw [← e2]; rfl
 have q7 : x.cs[7]? = some (.slice x.o.a d.o.length x.o.c) := by rw [← e3]; rfl
 have M0 := hide (heldL_any x.m.a d.m.length x.m.c 1 _ (by omega) (by omega) (uh R).m)
 have M1 := hide (heldL_any x.r.a d.r.length x.r.c (1 + d.m.length) _ (by omega) (by omega) (uh R).r)
 have M2 := hide (heldL_any x.i.a d.i.length x.i.c (1 + d.m.length + d.r.length) _ (by omega) (by omega) (uh R).i)
 have M3 := hide (heldL_any x.o.a d.o.length x.o.c (1 + d.m.length + d.r.length + d.i.length) _ (by omega) (by omega) (uh R).o)
 clear hr R e0 e1 e2 e3
 go_enter Tryz.func10, Tryz.ntmps10
 go_wp2_with fail
 refine (uh M0).mono ?_
 rintro e w' ⟨rfl, rfl⟩
 go_wp2_with fail
 refine (uh M1).mono ?_
 rintro e w' ⟨rfl, rfl⟩
 go_wp2_with fail
 refine (uh M2).mono ?_
 rintro e w' ⟨rfl, rfl⟩
 go_wp2_with fail
 refine (uh M3).mono ?_
 rintro e w' ⟨rfl, rfl⟩
 go_wp2
 go_ret
 exact ⟨by unfold Md.tot; rfl, uh HB⟩
end
theorem Lw.tch {W w w' : World} {x y : Mv} {e : Md} (h : Lw W w x e) (hW : RdM W x e) (t : Tch w w' y) (hy : ∀ b, y.at b → W.heap.size < b) : Lw W w' x e :=
 ⟨row_tch h.bx t (fun e => by have := hy _ e; omega), h.rd.tch hW t (fun b e => Nat.le_of_lt (hy b e)), t.toBelow h.bel (Nat.le_of_lt h.lt) (fun b e => Nat.le_of_lt (hy b e))⟩
theorem small_md {w : World} {x : Mv} {d : Md} (h : RdM w x d) (hs : x.small) : d.small := ⟨by rw [h.ml]; exact hs.1, by rw [h.rl]; exact hs.2.1, by rw [h.il]; exact hs.2.2.1, by rw [h.ol]; exact hs.2.2.2⟩
theorem small_mv {w : World} {x : Mv} {d : Md} (h : RdM w x d) (hs : d.small) : x.small := ⟨by rw [← h.ml]; exact hs.1, by rw [← h.rl]; exact hs.2.1, by rw [← h.il]; exact hs.2.2.1, by rw [← h.ol]; exact hs.2.2.2⟩
theorem alloc_size (w : World) (o : Obj) : (w.alloc o).heap.size = w.heap.size + 1 := by simp
def over (ns : List Int) (k : Nat) (im : List Int) : List Int := ns.take k ++ (im ++ ns.drop (k + im.length))
theorem inB_t (x a b : Int) (h : a ≤ x ∧ x ≤ b) : inB x a b = true := by simp [inB, h]
theorem inB_b {x a b : Int} (h : inB x a b = true) : a ≤ x ∧ x ≤ b := by unfold inB at h; simpa using h
section
def zA (n : Nat) : Array Value := (cellsN (List.replicate n 0)).toArray
theorem zA_size (n : Nat) : (zA n).size = n := by simp [zA, cellsN]
section
variable {o : Oper} {a : Act} {w : World} {K : Act → World → Prop} {Q : Exit → Act → World → Prop}
theorem wp_app (p q : Operand) (ho : o.op = .call { callee := .builtin .append, args := #[p, q], argTypes := #[22, 22] })
  (B : Nat) (v : Value) (xs : List Int) (hs : a.eval p = v) (hown : OwnN w B v xs) (s : Sl) (ns : List Int) (hx : a.eval q = .slice s.a s.n s.c) (hr : RdN w s.a ns) (hl : ns.length = s.n) (hz : s.nz) (hm : xs.length + s.n ≤ 4194304) (hB : B ≤ w.heap.size)
  (h : ∀ v' w', OwnN w' B v' (xs ++ ns) → w.grownBy w' v.ownBlock → (v'.ownBlock = v.ownBlock ∨ v'.ownBlock = some w.heap.size) → K (a.put o.dst v') w') : o.wp Tryz.prog a w K Q := by
 obtain ⟨i0, hi, hz0, hz1, hz2⟩ := info_parts info3
 obtain ⟨sa, sn, sc⟩ := s
 simp only at hx hr hl hm
 cases sa with
 | none =>
  have h0 : ns = [] := by
   rcases hr with h0 | ⟨_, _, e, _⟩
   · exact h0
   · cases e
  subst h0
  have hn : sn = 0 := by simp at hl; omega
  have hc : sc = 0 := hz rfl
  subst hn hc
  have hrun := run_append_owned_none (P := Tryz.prog) (w := w) B 22 o.type 3 i0 1 Tryz.underlying22 hi v xs.length (cellsN xs) hown
  have hk := h v w (by rw [List.append_nil]; exact hown) (World.grownBy.refl _ _) (.inl rfl)
  unfold Oper.wp
  simp [execOp, ho, resolve, invoke, builtin, hs, hx, hrun, Result.andThen]
  exact hk
 | some ad =>
  obtain ⟨v', w', hr', h2, h3, _, h5⟩ := run_append_own_at (P := Tryz.prog) w B 22 o.type 3 i0 (.int .i64 0) 1 8 Tryz.underlying22 hi hz0 hz1 hz2 rfl (by decide) v xs.length (cellsN xs) hown ad sn sc (cellsN ns) (by rw [cellsN_length]; omega) (rdN_cells hr) (cellsN_one _) (by unfold maxLen; omega) (by omega) hB
  unfold Oper.wp execOp
  simp only [ho, resolve, invoke, builtin, Sem.run_bind, Sem.run_pure, Result.andThen_ok, List.map_toArray, List.map_cons, List.map_nil, hs, hx, hr']
  refine h v' w' ?_ h3 h5
  unfold OwnN
  rw [cellsN_append, List.length_append, hl]
  exact h2
end
theorem own_made {w : World} {g n B : Nat} (h : w.heap[g]? = some (.cells (zA n) 3 (0, 0))) (hB : B ≤ g) (hn : n ≤ 1048576) : OwnN w B (.slice (some ⟨g, 0, none⟩) n n) (List.replicate n 0) := by
 unfold OwnN
 rw [List.length_replicate]
 refine ⟨by rw [cellsN_length, List.length_replicate]; omega, .inr ⟨g, n, zA n, rfl, hB, h, Nat.le_refl _, by unfold maxLen; omega, by rw [zA_size]; omega, ?_⟩⟩
 unfold zA
 rw [List.toList_toArray, List.take_of_length_le (by rw [cellsN_length, List.length_replicate]; omega)]
end
section
theorem no {p : Prop} (h : false = true) : p := by cases h
theorem OwnM.putR {w w' : World} {B : Nat} {x : Mv} {d : Md} {ns : List Int} (h : OwnM w B x d) (hg : w.grownBy w' x.r.v.ownBlock) (hn : OwnN w' B x.r.v ns) : OwnM w' B x ⟨d.m, ns, d.i, d.o⟩ :=
 { h with
   r := hn
   m := h.m.keep fun q hv hq => hg.block q hq (fun e => h.mr q hv e.symm)
   i := h.i.keep fun q hv hq => hg.block q hq (fun e => h.ri q e.symm hv)
   o := h.o.keep fun q hv hq => hg.block q hq (fun e => h.ro q e.symm hv) }
section
variable {w w' : World} {ins : Sl} {nn : List Int} {f : Nat → Bool} {v9 v48 v49 v50 v51 v52 v53 : Value}
end
end
section
def Md.stD (d : Md) (r a n : Int) : Md := if r = -1 then d.put a n else if d.ldB r a = true then ⟨d.m, d.r.set r.toNat (n % 65536), d.i, d.o⟩ else d
structure Bs (w wr : World) (x : Mv) (r a : Int) : Prop where
 bx : wr.heap[w.heap.size]? = some (.cells x.cs 26 (0, 0))
 bp : wr.heap[w.heap.size + 1]? = some (.cells #[.int .i64 r, .int .i64 a] 57 (0, 0))
 re : wr.heap[w.heap.size + 1 + 1]? = some (.cells zMv.cs 26 (0, 0))
 bel : Below w.heap.size w wr
 sz : w.heap.size + 3 ≤ wr.heap.size
theorem bs_new (w : World) (x : Mv) (r a : Int) : Bs w (((w.alloc (.cells x.cs 26)).alloc (.cells #[.int .i64 r, .int .i64 a] 57)).alloc (.cells zMv.cs 26)) x r a :=
 ⟨row_lat (bp_new w x r a).bx (below_new _ _), row_lat (bp_new w x r a).bp (below_new _ _), by have := heap_alloc_last ((w.alloc (.cells x.cs 26)).alloc (.cells #[.int .i64 r, .int .i64 a] 57)) (.cells zMv.cs 26); simpa using this, (bp_new w x r a).bel.alloc (by simp; omega) _, by simp⟩
section
variable {w wr w' : World} {x : Mv} {r a : Int}
theorem Bs.later (h : Bs w wr x r a) (hb : Below wr.heap.size wr w') : Bs w w' x r a :=
 ⟨row_lat h.bx hb, row_lat h.bp hb, row_lat h.re hb, h.bel.trans (hb.mono (by have := h.sz; omega)), Nat.le_trans h.sz hb.size⟩
theorem Bs.cr (h : Bs w wr x r a) : wr.cell? ⟨w.heap.size + 1, 0, none⟩ = some (.int .i64 r) := (cell_of_row wr _ 0 _ 57 _ h.bp).trans rfl
theorem Bs.ca (h : Bs w wr x r a) : wr.cell? ⟨w.heap.size + 1, 1, none⟩ = some (.int .i64 a) := (cell_of_row wr _ 1 _ 57 _ h.bp).trans rfl
theorem Bs.past (h : Bs w wr x r a) {o : Option Nat} (hg : wr.grownBy w' o) (ho : ∀ b, o = some b → w.heap.size + 3 ≤ b) : Bs w w' x r a :=
 ⟨(hg.block _ (row_lt h.bx) (fun e => by have := ho _ e.symm; omega)).trans h.bx, (hg.block _ (row_lt h.bp) (fun e => by have := ho _ e.symm; omega)).trans h.bp, (hg.block _ (row_lt h.re) (fun e => by have := ho _ e.symm; omega)).trans h.re, h.bel.grown hg h.bel.size (fun k e => by have := ho _ e; omega), Nat.le_trans h.sz hg.size⟩
end
theorem sl_formP {w : World} {B : Nat} {s : Sl} {ns : List Int} (h : OwnN w B s.v ns) (h0 : 0 < ns.length) : ∃ g c, s = ⟨some ⟨g, 0, none⟩, ns.length, c⟩ := by
 obtain ⟨sa, sn, sc⟩ := s
 rcases h.form with ⟨_, e0⟩ | ⟨g, cap, e, _⟩
 · rw [e0] at h0; simp at h0
 ·
  unfold Sl.v at e
  simp at e
  exact ⟨g, cap, by rw [e.1, e.2.1, e.2.2]⟩
theorem own_setR {w : World} {B gr n c : Nat} {y : Mv} {d : Md} (O : OwnM w B y d) (e : y.r = ⟨some ⟨gr, 0, none⟩, n, c⟩) (k : Nat) (v : Int) (hk : k < d.r.length) :
  OwnM (w.setCell ⟨gr, k, none⟩ (.int .i64 v)) B y ⟨d.m, d.r.set k v, d.i, d.o⟩ ∧ w.grownBy (w.setCell ⟨gr, k, none⟩ (.int .i64 v)) (some gr) ∧ B ≤ gr ∧ gr < w.heap.size ∧ w.cell? ⟨gr, k, none⟩ = some (.int .i64 (nAt d.r k)) ∧ w.frozen? ⟨gr, k, none⟩ = false := by
 have ev : y.r.v = .slice (some ⟨gr, 0, none⟩) n c := by rw [e]; rfl
 have o := O.r
 rw [ev] at o
 obtain ⟨c1, c2⟩ := o.cellAt k hk
 have st := o.set k v hk
 have lt := o.lt (g := gr) rfl
 exact ⟨O.putR (by rw [ev]; exact st.2) (by rw [ev]; exact st.1), st.2, lt.1, lt.2, c1, c2⟩
theorem own_rlt {w : World} {B gr n c : Nat} {y : Mv} {d : Md} (O : OwnM w B y d) (e : y.r = ⟨some ⟨gr, 0, none⟩, n, c⟩) : gr < w.heap.size := by
 have ev : y.r.v = .slice (some ⟨gr, 0, none⟩) n c := by rw [e]; rfl
 have o := O.r
 rw [ev] at o
 exact (o.lt (g := gr) rfl).2
theorem row_past {w w' : World} {g gr : Nat} {o : Obj} (h : w.heap[g]? = some o) (hg : w.grownBy w' (some gr)) (hne : gr ≠ g) : w'.heap[g]? = some o := (hg.block g (row_lt h) (fun e => hne (by cases e; rfl))).trans h
theorem storeS_any (x : Mv) (d : Md) (r a n : Int) (w : World) (hs : x.small) (hz : x.nz) (hr : RdM w x d) :
  Calls Tryz.prog 60 #[.agg x.cs, .agg #[.int .i64 r, .int .i64 a], .int .i64 n] w fun e w' => ∃ y : Mv, e = .returned (.tuple #[.agg y.cs, .bool (d.ldB r a)]) ∧ y.fl = x.fl ∧ OwnM w' (w.heap.size + 2) y (d.stD r a n) ∧ Below w.heap.size w w' := by
 have B := hide (bs_new w x r a)
 have X := hide (hr.later (uh B).bel)
 by_cases h1 : r = -1
 ·
  subst h1
  have R := hide (writeS_any x d a n _ hs hz (uh X))
  unfold Md.stD Md.ldB
  rw [if_pos rfl, if_pos rfl]
  clear hr hs hz X
  go_enter Tryz.func60, Tryz.ntmps60
  go_wp2_with (first | (refine wpList_load_row rfl 26 _ rfl w.heap.size rfl 26 x.cs (0, 0) _ (uh B).bx Tryz.underlying26 rfl (by kernel_rfl) ?_))
  refine (uh R).mono ?_
  rintro e w1 ⟨y, rfl, fy, oy, hb⟩
  have FY := hide fy
  have O1 := hide (oy.base (C := w.heap.size + 3) (by have := (uh B).sz; omega))
  have B1 := hide ((uh B).later hb)
  clear fy oy hb R B
  go_wp2_with (first | (refine wpList_store_row rfl 26 _ _ rfl (w.heap.size + 1 + 1) y.cs rfl rfl 26 zMv.cs (uh B1).re (by kernel_rfl) rfl (Mv.cs_one _) ?_))
  refine bodyPost_ret (results_row2 (P := Tryz.prog) rfl _ _ (w.heap.size + 1 + 1) 26 y.cs (0, 0) _ rfl (setRow_heap _ _ _ _ 26 _ (uh B1).re) Tryz.underlying26 rfl (by kernel_rfl)) rfl ?_
  exact ⟨y, rfl, uh FY, ((uh O1).row (by omega) _).base (by omega), below_setRow (uh B1).bel (by omega) _⟩
 ·
  have c1 : x.cs[1]? = some (.slice x.r.a x.r.n x.r.c) := rfl
  have I := hide (fun w => in_any r 0 ((x.r.n : Int) - 1) w)
  have hn := hs.2.1
  have hw1 : IntKind.i64.wrap ((x.r.n : Int) - 1) = (x.r.n : Int) - 1 := by rw [IntKind.wrap_i64]; omega
  have M := hide (copyS_any x d _ hs hz (uh X))
  unfold Md.stD Md.ldB
  rw [if_neg h1, if_neg h1]
  have HRL := hide hr.rl
  rw [hr.rl]
  obtain ⟨q, hq⟩ : ∃ q, inB r 0 ((x.r.n : Int) - 1) = q := ⟨_, rfl⟩
  rw [hq] at I ⊢
  have HQ := hide hq
  obtain ⟨bb, hbb⟩ : ∃ b, (a == -1) = b := ⟨_, rfl⟩
  rw [hbb]
  have HBB := hide hbb
  clear hr hs hz X hq hbb
  go_enter Tryz.func60, Tryz.ntmps60
  go_wp2_with (refine wpList_load_row rfl 26 _ rfl w.heap.size rfl 26 x.cs (0, 0) _ (uh B).bx Tryz.underlying26 rfl (by kernel_rfl) ?_)
  refine (uh M).mono ?_
  rintro e w1 ⟨y, rfl, fy, oy, hb⟩
  have FY := hide fy
  have O1 := hide ((oy.base (C := w.heap.size + 3) (by have := (uh B).sz; omega)).later (below_new w1 (.cells y.cs 26)))
  have O0 := hide oy
  have B1 := hide (((uh B).later hb).later (below_new w1 (.cells y.cs 26)))
  have G1 := hide (heap_alloc_last w1 (.cells y.cs 26))
  have Z1 := hide (((uh B).later hb).sz)
  clear fy oy hb M B
  have b0 := (uh B1).cr
  have b1 := (uh B1).ca
  have b2 := row_r (uh B1).bx
  cases q
  ·
   go_wp2_with (first | (refine wpList_store_new rfl 26 _ _ rfl y.cs rfl rfl _ (by kernel_rfl) rfl (Mv.cs_one _) ?_) | (go_at_call 13; refine (uh I _).mono ?_; rintro e w' ⟨rfl, hw'⟩; rw [hw']; clear hw' w') | (refine wpList_load_row rfl 26 _ rfl w1.heap.size rfl 26 y.cs (0, 0) _ (uh G1) Tryz.underlying26 rfl (by kernel_rfl) ?_) | (refine wpList_store_row rfl 26 _ _ rfl (w.heap.size + 1 + 1) y.cs rfl rfl 26 zMv.cs (uh B1).re (by kernel_rfl) rfl (Mv.cs_one _) ?_))
   refine bodyPost_ret (results_row2 (P := Tryz.prog) rfl _ _ (w.heap.size + 1 + 1) 26 y.cs (0, 0) _ rfl (setRow_heap _ _ _ _ 26 _ (uh B1).re) Tryz.underlying26 rfl (by kernel_rfl)) rfl ?_
   exact ⟨y, rfl, uh FY, ((uh O1).row (by omega) _).base (by omega), below_setRow (uh B1).bel (by omega) _⟩
  ·
   cases bb
   rotate_left
   ·
    obtain rfl : a = -1 := by simpa using uh HBB
    go_wp2_with (first | (refine wpList_store_new rfl 26 _ _ rfl y.cs rfl rfl _ (by kernel_rfl) rfl (Mv.cs_one _) ?_) | (go_at_call 13; refine (uh I _).mono ?_; rintro e w' ⟨rfl, hw'⟩; rw [hw']; clear hw' w'))
    obtain ⟨r0, r1⟩ : 0 ≤ r ∧ r ≤ (x.r.n : Int) - 1 := by have := uh HQ; unfold inB at this; simpa using this
    obtain ⟨k, rfl⟩ := Int.eq_ofNat_of_zero_le r0
    have hkl : k < d.r.length := by have := uh HRL; omega
    obtain ⟨gr, rc, er⟩ := sl_formP (uh O1).r (by omega)
    have glt := own_rlt (uh O0) er
    have gne : gr ≠ w1.heap.size := by omega
    clear b0 b1 b2
    generalize hwz : w1.alloc (Obj.cells y.cs 26) = wz at O1 B1 G1 ⊢
    clear hwz
    obtain ⟨o3, g3, gb, gl, cA1, cA2⟩ := own_setR ((uh O1).later (below_drew (w := wz))) er k (n % 65536) hkl
    have O3 := hide o3
    have B3 := hide (((uh B1).later below_drew).past g3 (fun b e => by cases e; omega))
    have G3 := hide (row_past (row_lat (uh G1) below_drew) g3 (by omega))
    have D0 : Hid (wz.drew.cell? ⟨w1.heap.size, 1, none⟩ = some (.slice (some ⟨gr, 0, none⟩) d.r.length rc) ∧ wz.drew.cell? ⟨w.heap.size + 1, 0, none⟩ = some (.int .i64 (k : Int))) := hide ⟨by rw [row_r (row_lat (uh G1) below_drew), er], ((uh B1).later below_drew).cr⟩
    have C12 := hide (And.intro cA1 cA2)
    have ER := hide er
    have WR := hide (fun w => wrapS_any n w)
    obtain ⟨q, hq⟩ : ∃ q, n % 65536 = q := ⟨_, rfl⟩
    rw [hq] at O3 B3 G3 WR
    have HQQ := hide hq
    have hki : (k : Int) < (d.r.length : Int) := by omega
    clear hq o3 g3 gb gl cA1 cA2 er O1 G1 B1 O0 HQ c1 I glt gne
    refine wp_region_held_drew (S := fun v => v.cell? ⟨w1.heap.size, 1, none⟩ = some (.slice (some ⟨gr, 0, none⟩) d.r.length rc) ∧ v.cell? ⟨w.heap.size + 1, 0, none⟩ = some (.int .i64 (k : Int))) (by kernel_rfl) (uh D0) (fun hS => ?_)
    have HS := hide hS
    clear hS
    refine tkB 0 (.pointer (some ⟨w1.heap.size, 1, none⟩)) rfl (uh HS) ?_
    go_simp
    refine tkA 1 (.slice (some ⟨gr, 0, none⟩) d.r.length rc) rfl (.inl ⟨by rfl, fun w hc => ?_⟩) (uh HS) ?_
    · have h1 := hc.1; clear hc; go_simp
    go_simp
    refine tkB 2 (.pointer (some ⟨w.heap.size + 1, 0, none⟩)) rfl (uh HS) ?_
    go_simp
    refine tkA 3 (.int .i64 (k : Int)) rfl (.inl ⟨by rfl, fun w hc => ?_⟩) (uh HS) ?_
    · have h1 := hc.2; clear hc; go_simp
    go_simp
    refine tkB 4 (.int .i64 n) rfl (uh HS) ?_
    go_simp
    refine wpAnyH_ready (rs := [5]) (by kernel_rfl) (by simp) ?_
    refine AllReadyH.cons rfl (fun K2 hK => ?_) AllReadyH.nil
    go_simp
    refine (uh WR _).mono ?_
    rintro e w' ⟨rfl, hw'⟩
    rw [hw']
    clear hw' w'
    refine hK.out _ _ (uh D0) (fun hS => ?_)
    clear HS
    have HS := hide hS
    clear hS hK K2
    refine tkB 6 (.pointer (some ⟨gr, k, none⟩)) rfl (uh HS) ?_
    go_simp
    refine wpAnyH_ready (rs := [7]) (by kernel_rfl) (by simp) ?_
    refine AllReadyH.cons rfl (fun K2 hK => ?_) AllReadyH.nil
    obtain ⟨cA1, cA2⟩ := uh C12
    go_simp
    refine hK.out _ _ (⟨(row_r (uh G3)).trans (by rw [uh ER]), (uh B3).cr⟩) (fun hS => ?_)
    clear HS
    have HS := hide hS
    clear hS hK K2
    refine wpAnyH_done (by kernel_rfl) ?_ _
    go_wp2_with (first | (refine wpList_load_row rfl 26 _ rfl w1.heap.size rfl 26 y.cs (0, 0) _ (uh G3) Tryz.underlying26 rfl (by kernel_rfl) ?_) | (refine wpList_store_row rfl 26 _ _ rfl (w.heap.size + 1 + 1) y.cs rfl rfl 26 zMv.cs (uh B3).re (by kernel_rfl) rfl (Mv.cs_one _) ?_))
    refine bodyPost_ret (results_row2 (P := Tryz.prog) rfl _ _ (w.heap.size + 1 + 1) 26 y.cs (0, 0) _ rfl (setRow_heap _ _ _ _ 26 _ (uh B3).re) Tryz.underlying26 rfl (by kernel_rfl)) rfl ?_
    refine ⟨y, rfl, uh FY, ?_, below_setRow (uh B3).bel (by omega) _⟩
    show OwnM _ _ _ ⟨d.m, d.r.set ((k : Int)).toNat (n % 65536), d.i, d.o⟩
    rw [show ((k : Int)).toNat = k by omega, uh HQQ]
    exact ((uh O3).row (by omega) _).base (by omega)
   ·
    have ha : ¬ a = -1 := by simpa using uh HBB
    go_wp2_with (first | (refine wpList_store_new rfl 26 _ _ rfl y.cs rfl rfl _ (by kernel_rfl) rfl (Mv.cs_one _) ?_) | (go_at_call 13; refine (uh I _).mono ?_; rintro e w' ⟨rfl, hw'⟩; rw [hw']; clear hw' w') | (refine wpList_load_row rfl 26 _ rfl w1.heap.size rfl 26 y.cs (0, 0) _ (uh G1) Tryz.underlying26 rfl (by kernel_rfl) ?_) | (refine wpList_store_row rfl 26 _ _ rfl (w.heap.size + 1 + 1) y.cs rfl rfl 26 zMv.cs (uh B1).re (by kernel_rfl) rfl (Mv.cs_one _) ?_))
    refine bodyPost_ret (results_row2 (P := Tryz.prog) rfl _ _ (w.heap.size + 1 + 1) 26 y.cs (0, 0) _ rfl (setRow_heap _ _ _ _ 26 _ (uh B1).re) Tryz.underlying26 rfl (by kernel_rfl)) rfl ?_
    exact ⟨y, rfl, uh FY, ((uh O1).row (by omega) _).base (by omega), below_setRow (uh B1).bel (by omega) _⟩
end
section
def Md.reg (d : Md) (k : Nat) (v : Int) : Md := ⟨d.m, d.r.set k v, d.i, d.o⟩
def Md.fet (d : Md) : Md := if d.has (nAt d.r 7) = true then d.reg 7 ((nAt d.r 7 + 2) % 65536) else d
structure Pm (w : World) (g B gr rc : Nat) (x : Mv) (d : Md) : Prop where
 row : w.heap[g]? = some (.cells x.cs 26 (0, 0))
 own : OwnM w B x d
 er : x.r = ⟨some ⟨gr, 0, none⟩, d.r.length, rc⟩
 ne : gr ≠ g
section
variable {w w' : World} {g B gr rc : Nat} {x : Mv} {d : Md}
theorem Pm.later (h : Pm w g B gr rc x d) (hb : Below w.heap.size w w') : Pm w' g B gr rc x d := ⟨row_lat h.row hb, h.own.later hb, h.er, h.ne⟩
theorem Pm.set (h : Pm w g B gr rc x d) (k : Nat) (v : Int) (hk : k < d.r.length) : Pm (w.setCell ⟨gr, k, none⟩ (.int .i64 v)) g B gr rc x (d.reg k v) ∧ w.grownBy (w.setCell ⟨gr, k, none⟩ (.int .i64 v)) (some gr) ∧ w.cell? ⟨gr, k, none⟩ = some (.int .i64 (nAt d.r k)) ∧ w.frozen? ⟨gr, k, none⟩ = false := by
 obtain ⟨o3, g3, _, _, c1, c2⟩ := own_setR h.own h.er k v hk
 exact ⟨⟨row_past h.row g3 h.ne, o3, by rw [h.er]; unfold Md.reg; simp, h.ne⟩, g3, c1, c2⟩
theorem Pm.cell (h : Pm w g B gr rc x d) (k : Nat) (hk : k < d.r.length) : w.cell? ⟨gr, k, none⟩ = some (.int .i64 (nAt d.r k)) := (h.set k 0 hk).2.2.1
theorem Pm.r (h : Pm w g B gr rc x d) : w.cell? ⟨g, 1, none⟩ = some (.slice (some ⟨gr, 0, none⟩) d.r.length rc) := by rw [row_r h.row, h.er]
end
theorem fetchS_any (g B gr rc : Nat) (x : Mv) (d : Md) (w : World) (hs : x.small) (P : Pm w g B gr rc x d) (h8 : d.r.length = 8) (w0 : 0 ≤ nAt d.r 7) (w1 : nAt d.r 7 ≤ 65535) :
  Calls Tryz.prog 59 #[.pointer (some ⟨g, 0, none⟩)] w fun e w' => e = .returned (.tuple #[.int .i64 (d.get (nAt d.r 7)), .bool (d.has (nAt d.r 7))]) ∧ Pm w' g B gr rc x d.fet ∧ w.grownBy w' (some gr) := by
 have PM := hide P
 have R := hide (fun w (h : RdM w x d) => readS_any x d (nAt d.r 7) w hs h)
 have H8 := hide h8
 obtain ⟨v7, hv7⟩ : ∃ v, nAt d.r 7 = v := ⟨_, rfl⟩
 have HV := hide hv7
 unfold Md.fet
 rw [hv7] at w0 w1 R ⊢
 have CC := hide (fun v (h : Pm v g B gr rc x d) => (show v.cell? ⟨g, 1, none⟩ = some (.slice (some ⟨gr, 0, none⟩) 8 rc) ∧ v.cell? ⟨gr, 7, none⟩ = some (.int .i64 v7) by rw [h.r, h.cell 7 (by omega), hv7, h8]; exact ⟨rfl, rfl⟩))
 obtain ⟨q, hq⟩ : ∃ q, d.has v7 = q := ⟨_, rfl⟩
 obtain ⟨u, hu⟩ : ∃ u, d.get v7 = u := ⟨_, rfl⟩
 have hu0 : q = false → u = 0 := fun e => by rw [← hu]; unfold Md.get; rw [hq, e]; rfl
 have HU0 := hide hu0
 rw [hq, hu] at R
 rw [hq, hu]
 clear P hs h8 hv7 hq hu hu0
 go_enter Tryz.func59, Tryz.ntmps59
 go_wp2_with fail
 refine wp_region_held_drew (S := fun v => Pm v g B gr rc x d) (by kernel_rfl) ((uh PM).later below_drew) (fun hS => ?_)
 have HS := hide hS
 clear hS
 refine tkB 0 (.pointer (some ⟨g, 0, none⟩)) rfl (uh HS) ?_
 go_simp
 refine tkB 1 (.pointer (some ⟨g, 0, none⟩)) rfl (uh HS) ?_
 go_simp
 refine tkA 2 (.agg x.cs) rfl (yields_load rfl 26 _ rfl g rfl 26 x.cs _ (fun w h => h.row) Tryz.underlying26 rfl (by kernel_rfl)) (uh HS) ?_
 go_simp
 refine tkB 3 (.pointer (some ⟨g, 0, none⟩)) rfl (uh HS) ?_
 go_simp
 refine tkB 4 (.pointer (some ⟨g, 0, none⟩)) rfl (uh HS) ?_
 go_simp
 refine tkB 5 (.pointer (some ⟨g, 1, none⟩)) rfl (uh HS) ?_
 go_simp
 refine tkA 6 (.slice (some ⟨gr, 0, none⟩) 8 rc) rfl (.inl ⟨by rfl, fun w hc => ?_⟩) (uh HS) ?_
 · obtain ⟨h1, h2⟩ := uh CC _ hc; clear hc; go_simp
 go_simp
 refine tkB 7 (.pointer (some ⟨gr, 7, none⟩)) rfl (uh HS) ?_
 go_simp
 refine tkA 8 (.int .i64 v7) rfl (.inl ⟨by rfl, fun w hc => ?_⟩) (uh HS) ?_
 · obtain ⟨h1, h2⟩ := uh CC _ hc; clear hc; go_simp
 go_simp
 refine wpAnyH_ready (rs := [9]) (by kernel_rfl) (by simp) ?_
 refine AllReadyH.cons rfl (fun K2 hK => ?_) AllReadyH.nil
 go_simp
 refine (uh R _ (uh HS).own.rd).mono ?_
 rintro e w2 ⟨rfl, hb⟩
 have GW := hide ((show w.grownBy w.drew (some gr) from ⟨rfl, rfl, rfl, Nat.le_refl _, fun _ _ _ => rfl⟩).trans ⟨hb.os, hb.tape, hb.output, hb.size, fun k hk _ => hb.block k hk⟩)
 refine hK.out _ _ ((uh HS).later hb) (fun hS => ?_)
 clear HS
 have HS := hide hS
 clear hS hK K2
 clear hb R PM
 refine tkB 10 (.tuple #[.int .i64 u, .bool q]) rfl (uh HS) ?_
 go_simp
 refine tkB 11 (.int .i64 u) rfl (uh HS) ?_
 go_simp
 refine tkB 12 (.bool q) rfl (uh HS) ?_
 go_simp
 refine tkB 13 (.int .i64 u) rfl (uh HS) ?_
 go_simp
 refine tkB 14 (.bool q) rfl (uh HS) ?_
 go_simp
 refine wpAnyH_done (by kernel_rfl) ?_ _
 have PM := hide (uh HS)
 clear HS
 cases q
 ·
  obtain rfl := uh HU0 (by trivial)
  go_wp2_with fail
  go_ret2
  exact ⟨rfl, uh PM, uh GW⟩
 ·
  go_wp2_with fail
  obtain ⟨c1, c2⟩ := uh CC _ ((uh PM).later (below_drew (w := w2)))
  obtain ⟨p3, g3, -, c3⟩ := ((uh PM).later (below_drew (w := w2))).set 7 ((v7 + 2) % 65536) (by have := uh H8; omega)
  have P3 := hide p3
  have G3 := hide ((uh GW).trans ((show w2.grownBy w2.drew (some gr) from ⟨rfl, rfl, rfl, Nat.le_refl _, fun _ _ _ => rfl⟩).trans g3))
  have C1 := hide c1
  have C2 := hide (And.intro c2 c3)
  have E3 := hide (show (w2.drew.setCell ⟨gr, 7, none⟩ (.int .i64 ((v7 + 2) % 65536))).cell? ⟨g, 1, none⟩ = some (Value.slice (some ⟨gr, 0, none⟩) 8 rc) by have := p3.r; unfold Md.reg at this; rw [List.length_set, uh H8] at this; exact this)
  have WR := hide (fun w => wrapS_any (v7 + 2) w)
  have HW := hide (show IntKind.i64.wrap (v7 + 2) = v7 + 2 by rw [IntKind.wrap_i64]; omega)
  obtain ⟨t, ht⟩ : ∃ t, (v7 + 2) % 65536 = t := ⟨_, rfl⟩
  rw [ht] at P3 G3 E3 WR
  have HT := hide ht
  clear ht p3 g3 c1 c2 c3 GW PM CC
  refine wp_region_held_drew (S := fun v => v.cell? ⟨g, 1, none⟩ = some (.slice (some ⟨gr, 0, none⟩) 8 rc)) (by kernel_rfl) (uh C1) (fun hS => ?_)
  have HS := hide hS
  clear hS
  refine tkB 0 (.pointer (some ⟨g, 0, none⟩)) rfl (uh HS) ?_
  go_simp
  refine tkB 1 (.pointer (some ⟨g, 0, none⟩)) rfl (uh HS) ?_
  go_simp
  refine tkB 2 (.pointer (some ⟨g, 1, none⟩)) rfl (uh HS) ?_
  go_simp
  refine tkA 3 (.slice (some ⟨gr, 0, none⟩) 8 rc) rfl (.inl ⟨by rfl, fun w hc => ?_⟩) (uh HS) ?_
  · go_simp
  go_simp
  refine tkB 4 (.pointer (some ⟨g, 0, none⟩)) rfl (uh HS) ?_
  go_simp
  refine tkB 5 (.pointer (some ⟨g, 0, none⟩)) rfl (uh HS) ?_
  go_simp
  refine tkB 6 (.pointer (some ⟨g, 1, none⟩)) rfl (uh HS) ?_
  go_simp
  refine tkA 7 (.slice (some ⟨gr, 0, none⟩) 8 rc) rfl (.inl ⟨by rfl, fun w hc => ?_⟩) (uh HS) ?_
  · go_simp
  go_simp
  refine tkB 8 (.pointer (some ⟨gr, 7, none⟩)) rfl (uh HS) ?_
  go_simp
  refine wpAnyH_ready (rs := [9]) (by kernel_rfl) (by simp) ?_
  refine AllReadyH.cons rfl (fun K2 hK => ?_) AllReadyH.nil
  obtain ⟨c2, c3⟩ := uh C2
  go_simp
  clear c2 c3
  refine hK.out _ _ (uh C1) (fun hS => ?_)
  clear HS
  have HS := hide hS
  clear hS hK K2
  refine tkA 10 (.int .i64 (v7 + 2)) rfl (.inl ⟨by rfl, fun w hc => ?_⟩) (uh HS) ?_
  · clear hc; have hw := uh HW; go_simp
  go_simp
  refine wpAnyH_ready (rs := [11]) (by kernel_rfl) (by simp) ?_
  refine AllReadyH.cons rfl (fun K2 hK => ?_) AllReadyH.nil
  go_simp
  refine (uh WR _).mono ?_
  rintro e w' ⟨rfl, hw'⟩
  rw [hw']
  clear hw' w'
  refine hK.out _ _ (uh C1) (fun hS => ?_)
  clear HS
  have HS := hide hS
  clear hS hK K2
  refine tkB 12 (.pointer (some ⟨gr, 7, none⟩)) rfl (uh HS) ?_
  go_simp
  refine wpAnyH_ready (rs := [13]) (by kernel_rfl) (by simp) ?_
  refine AllReadyH.cons rfl (fun K2 hK => ?_) AllReadyH.nil
  obtain ⟨c2, c3⟩ := uh C2
  go_simp
  clear c2 c3
  refine hK.out _ _ (uh E3) (fun hS => ?_)
  clear HS
  have HS := hide hS
  clear hS hK K2
  refine wpAnyH_done (by kernel_rfl) ?_ _
  clear HS
  go_wp2_with fail
  go_ret2
  refine ⟨rfl, ?_, uh G3⟩
  show Pm _ _ _ _ _ _ (d.reg 7 ((v7 + 2) % 65536))
  rw [uh HT]
  exact uh P3
end
end Go.Proofs.YtboedaofbchdkaaGreatDoor
