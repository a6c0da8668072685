/- Words in lists, the program's and the model's; the laws' comparison of two machines; over this seat's translation; conditions stand as hypotheses of each. -/
import Derived.Test.YtboedaofbchdkaaDoorMacB
namespace Go.Proofs.YtboedaofbchdkaaDoor
open Go.ChangeShapes Go.WideShapes Go.ChangeAt Go.RowKit
set_option linter.unusedVariables false
set_option maxRecDepth 8000
set_option linter.unusedSimpArgs false

theorem i64_and65535 (n : Int) : bits .and .i64 n 65535 = n % 65536 := by
  have h127 : (BitVec.ofInt 64 65535).toNat = 2 ^ 16 - 1 := by decide
  have key : (BitVec.ofInt 64 n &&& BitVec.ofInt 64 65535).toNat = (n % ((2 ^ 64 : Nat) : Int)).toNat % 2 ^ 16 := by
    rw [BitVec.toNat_and, BitVec.toNat_ofInt, h127, Nat.and_two_pow_sub_one_eq_mod]
  show IntKind.i64.wrap ((BitVec.ofInt 64 n &&& BitVec.ofInt 64 65535).toNat : Nat) = n % 65536
  rw [key, IntKind.wrap_i64]
  omega
theorem ret_int {k : IntKind} {a b : Int} (h : a = b) : Ending.returned (.int k a) = .returned (.int k b) := by rw [h]
theorem ret_bool {a b : Bool} (h : a = b) : Ending.returned (.bool a) = .returned (.bool b) := by rw [h]
theorem wrapI_any (n : Int) (w : World) : Calls Tryd.prog 48 #[.int .i64 n] w fun e w' => e = .returned (.int .i64 (n % 65536)) ∧ w' = w := by
  go_enter Tryd.func48, Tryd.ntmps48
  go_wp2
  go_ret
  exact ⟨ret_int (i64_and65535 n), rfl⟩
theorem wrapS_any (n : Int) (w : World) : Calls Tryd.prog 54 #[.int .i64 n] w fun e w' => e = .returned (.int .i64 (n % 65536)) ∧ w' = w := by
  go_enter Tryd.func54, Tryd.ntmps54
  go_wp2
  go_ret
  exact ⟨ret_int (i64_and65535 n), rfl⟩
theorem isWord_eq (n : Int) : (n == n % 65536) = inB n 0 65535 := by
  unfold inB
  rw [Bool.eq_iff_iff]
  simp
  omega
theorem isWord_any (n : Int) (w : World) : Calls Tryd.prog 24 #[.int .i64 n] w fun e w' => e = .returned (.bool (inB n 0 65535)) ∧ w' = w := by
  rw [← isWord_eq]
  obtain ⟨q, hq⟩ : ∃ q, n % 65536 = q := ⟨_, rfl⟩
  have W := hide (fun w => hq ▸ wrapI_any n w)
  rw [hq]
  clear hq
  go_enter Tryd.func24, Tryd.ntmps24
  go_wp2_with (go_at_call 48; refine (unhide W _).mono ?_; rintro e w' ⟨rfl, rfl⟩)
  go_ret
  exact ⟨rfl, rfl⟩

/-- Are these words? -/
def wdB (ns : List Int) : Bool := ns.all fun x => inB x 0 65535
theorem wdB_snoc (ns : List Int) (k : Nat) (h : k < ns.length) : wdB (ns.take (k + 1)) = (wdB (ns.take k) && inB (nAt ns k) 0 65535) := by
  rw [take_nAt ns k h]; simp [wdB]
theorem wdB_no (ns : List Int) (k : Nat) (h : k < ns.length) (hb : inB (nAt ns k) 0 65535 = false) : wdB ns = false := by
  unfold wdB
  rw [List.all_eq_false]
  refine ⟨nAt ns k, ?_, by simp [hb]⟩
  unfold nAt
  rw [List.getD_eq_getElem?_getD, List.getElem?_eq_getElem h]
  exact List.getElem_mem _
theorem wdB_at {ns : List Int} (h : wdB ns = true) {k : Nat} (hk : k < ns.length) : 0 ≤ nAt ns k ∧ nAt ns k ≤ 65535 := by
  cases hb : inB (nAt ns k) 0 65535
  · rw [wdB_no ns k hk hb] at h; cases h
  · unfold inB at hb; simp at hb; exact hb

set_option maxHeartbeats 400000 in
theorem wordsI_any (a : Option Addr) (len cap : Nat) (ns : List Int) (w : World) (hl : ns.length = len) (hm : len ≤ 1099511627776) (hr : RdN w a ns) :
    Calls Tryd.prog 23 #[.slice a len cap] w fun e w' => e = .returned (.bool (wdB ns)) ∧ w' = w := by
  go_enter Tryd.func23, Tryd.ntmps23
  go_wp2
  go_loop [4, 7] (fun _ i => ∃ k : Nat, k ≤ len ∧ wdB (ns.take k) = true ∧ i = .int .i64 k) (fun _ i => len - (intOf i).toNat)
  case atStart => exact ⟨0, Nat.zero_le _, rfl, rfl⟩
  case round =>
    obtain ⟨k, hk, hw, rfl⟩ := hrel
    by_cases hlt : k < len
    · rcases hr with rfl | ⟨b, off, rfl, hb, hc⟩
      · simp at hl; omega
      have hcx := hc k (by omega)
      have HW := hide (wdB_snoc ns k (by omega))
      have HN := hide (wdB_no ns k (by omega))
      have HK := hide hw
      clear hc hw
      generalize nAt ns k = x at hcx HW HN ⊢
      have I1 := hide (fun w => isWord_any x w)
      obtain ⟨q, hq⟩ : ∃ q, inB x 0 65535 = q := ⟨_, rfl⟩
      rw [hq] at HW HN I1
      clear hq
      cases q
      · go_wp2_with (go_at_call 24; refine (unhide I1 _).mono ?_; rintro e w' ⟨rfl, hw'⟩; rw [hw']; clear hw' w')
        go_ret
        exact ⟨ret_bool (unhide HN (by trivial)).symm, rfl⟩
      · go_wp2_with (go_at_call 24; refine (unhide I1 _).mono ?_; rintro e w' ⟨rfl, hw'⟩; rw [hw']; clear hw' w')
        go_round
        case rel => exact ⟨k + 1, by omega, by rw [unhide HW, unhide HK]; rfl, by go_num⟩
        case measure => simp [intOf]; omega
    · have HK := hide hw
      clear hw
      go_wp2
      go_ret
      have := unhide HK
      rw [List.take_of_length_le (by omega)] at this
      exact ⟨ret_bool this.symm, rfl⟩

/-- Two machines in boxes. -/
structure Tw (w wr : World) (x y : Mv) : Prop where
  bx : wr.heap[w.heap.size]? = some (.cells x.cs 32 (0, 0))
  by' : wr.heap[w.heap.size + 1]? = some (.cells y.cs 32 (0, 0))
  bel : Below w.heap.size w wr
theorem Tw.later {w wr w' : World} {x y : Mv} (h : Tw w wr x y) (hb : Below wr.heap.size wr w') : Tw w w' x y :=
  ⟨row_lat h.bx hb, row_lat h.by' hb, h.bel.trans (hb.mono (by have := h.bel.size; omega))⟩
theorem tw_new (w : World) (x y : Mv) : Tw w ((w.alloc (.cells x.cs 32)).alloc (.cells y.cs 32)) x y := by
  have z1 : (w.alloc (.cells x.cs 32)).heap.size = w.heap.size + 1 := by simp
  have a1 := row_lat (heap_alloc_last w (.cells x.cs 32)) ((Below.refl _ _).alloc (Nat.le_refl _) (.cells y.cs 32))
  have a2 := heap_alloc_last (w.alloc (.cells x.cs 32)) (.cells y.cs 32)
  rw [z1] at a2
  exact ⟨a1, a2, ((Below.refl _ _).alloc (Nat.le_refl _) _).alloc (by omega) _⟩

set_option maxHeartbeats 2000000 in
theorem eqM_any (x y : Mv) (d : Md) (w : World) (hf : y.fl = x.fl) (hs : x.small) (hx : RdM w x d) (hy : RdM w y d) : Calls Tryd.prog 17 #[.agg x.cs, .agg y.cs] w fun e w' => e = .returned (.bool true) ∧ Below w.heap.size w w' := by
  have T := hide (tw_new w x y)
  have X := hide (hx.later (unhide T).bel)
  have Y := hide (hy.later (unhide T).bel)
  have p0 : x.cs[0]? = some (.slice x.m.a x.m.n x.m.c) := rfl
  have q0 : y.cs[0]? = some (.slice y.m.a x.m.n y.m.c) := by rw [← hx.ml, hy.ml]; rfl
  have E := hide (eqIntS_same x.m.a y.m.a x.m.n x.m.c y.m.c d.m _ hx.ml (by have := hs.1; omega) (unhide X).m (unhide Y).m)
  have F := hide hf
  have S := hide hs
  clear hf hs hx hy
  go_enter Tryd.func17, Tryd.ntmps17
  go_wp2_with fail
  refine (unhide E).mono ?_
  rintro e w1 ⟨rfl, hb⟩
  have T1 := hide ((unhide T).later hb)
  have X1 := hide ((unhide X).later hb)
  have Y1 := hide ((unhide Y).later hb)
  clear hb T X Y E p0 q0
  have p0 := row_r (unhide T1).bx
  have q0 : w1.cell? ⟨w.heap.size + 1, 1, none⟩ = some (.slice y.r.a x.r.n y.r.c) := by rw [← (unhide X1).rl, (unhide Y1).rl]; exact row_r (unhide T1).by'
  have E := hide (eqIntS_same x.r.a y.r.a x.r.n x.r.c y.r.c d.r _ (unhide X1).rl (by have := (unhide S).2.1; omega) (unhide X1).r (unhide Y1).r)
  go_wp2_with fail
  refine (unhide E).mono ?_
  rintro e w2 ⟨rfl, hb⟩
  have T := hide ((unhide T1).later hb)
  have X := hide ((unhide X1).later hb)
  have Y := hide ((unhide Y1).later hb)
  clear hb T1 X1 Y1 E p0 q0
  have p2 := row_n (unhide T).bx
  have q2 := (row_n (unhide T).by').trans (by rw [fl_n (unhide F)])
  have p3 := row_z (unhide T).bx
  have q3 := (row_z (unhide T).by').trans (by rw [fl_z (unhide F)])
  have p4 := row_v (unhide T).bx
  have q4 := (row_v (unhide T).by').trans (by rw [fl_v (unhide F)])
  have p5 := row_c (unhide T).bx
  have q5 := (row_c (unhide T).by').trans (by rw [fl_c (unhide F)])
  have p0 := row_i (unhide T).bx
  have q0 : w2.cell? ⟨w.heap.size + 1, 6, none⟩ = some (.slice y.i.a x.i.n y.i.c) := by rw [← (unhide X).il, (unhide Y).il]; exact row_i (unhide T).by'
  have E := hide (eqIntS_same x.i.a y.i.a x.i.n x.i.c y.i.c d.i _ (unhide X).il (by have := (unhide S).2.2.1; omega) (unhide X).i (unhide Y).i)
  go_wp2_with fail
  refine (unhide E).mono ?_
  rintro e w3 ⟨rfl, hb⟩
  have T1 := hide ((unhide T).later hb)
  have X1 := hide ((unhide X).later hb)
  have Y1 := hide ((unhide Y).later hb)
  clear hb T X Y E p0 q0 p2 q2 p3 q3 p4 q4 p5 q5
  have p0 := row_o (unhide T1).bx
  have q0 : w3.cell? ⟨w.heap.size + 1, 7, none⟩ = some (.slice y.o.a x.o.n y.o.c) := by rw [← (unhide X1).ol, (unhide Y1).ol]; exact row_o (unhide T1).by'
  have E := hide (eqIntS_same x.o.a y.o.a x.o.n x.o.c y.o.c d.o _ (unhide X1).ol (by have := (unhide S).2.2.2; omega) (unhide X1).o (unhide Y1).o)
  go_wp2_with fail
  refine (unhide E).mono ?_
  rintro e w4 ⟨rfl, hb⟩
  have T := hide ((unhide T1).later hb)
  clear hb T1 X1 Y1 E p0 q0
  have p8 := row_st (unhide T).bx
  have q8 := (row_st (unhide T).by').trans (by rw [fl_st (unhide F)])
  go_wp2
  go_ret
  exact ⟨rfl, (unhide T).bel⟩
end Go.Proofs.YtboedaofbchdkaaDoor
