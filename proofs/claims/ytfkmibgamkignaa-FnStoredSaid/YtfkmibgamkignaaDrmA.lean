/- The law's helpers on its bytes, and what a new machine is drawn of; over this seat's translation; conditions stand as hypotheses of each. -/
import Derived.Test.YtfkmibgamkignaaLawC
import Derived.Test.YtfkmibgamkignaaDrwE
namespace Go.Proofs.Ytfkmibgamkignaa
open Go.ChangeShapes Go.WideShapes Go.ChangeAt Go.RowKit
set_option linter.unusedVariables false
set_option maxRecDepth 8000
set_option linter.unusedSimpArgs false

/-- The byte at a place, or what stands for one. -/
def atV (xs : List UInt8) (i : Nat) : Int := if i < xs.length then bAt xs i else ((i : Int) * 31 + (xs.length : Int) * 7) % 256
theorem atV_bd (xs : List UInt8) (i : Nat) : 0 ≤ atV xs i ∧ atV xs i ≤ 255 := by
  unfold atV
  split
  · exact bAt_bd xs i
  · omega
set_option maxHeartbeats 400000 in
theorem at_any (a : Option Addr) (len cap i : Nat) (xs : List UInt8) (w : World) (hi : i ≤ 10) (hl : xs.length = len) (hm : len ≤ 1048576) (hr : Rd w a xs) : Calls Try.prog 15 #[.slice a len cap, .int .i64 (i : Int)] w fun e w' => e = .returned (.int .i64 (atV xs i)) ∧ w' = w := by
  unfold atV
  rw [hl]
  by_cases h : i < len
  · rw [if_pos h]
    rcases hr with rfl | ⟨b, off, rfl, hb, hc⟩
    · simp at hl; omega
    have hcx := hc i (by omega)
    have hbd := bAt_bd xs i
    clear hc
    go_enter Try.func15, Try.ntmps15
    go_wp2
    go_ret
    exact ⟨rfl, rfl⟩
  · rw [if_neg h]
    go_enter Try.func15, Try.ntmps15
    go_wp2
    go_ret
    exact ⟨rfl, rfl⟩

theorem big_free (a : Option Addr) (len cap : Nat) (w : World) (hm : len ≤ 9223372036854775807) : Calls Try.prog 11 #[.slice a len cap] w fun e w' => e = .returned (.bool (decide ((1048576 : Int) < (len : Int)))) ∧ w' = w := big_any a len cap w hm

/-- A number drawn of a literal list: which one, and nothing old has turned but the cursor. -/
theorem own_lit1 (w : World) (x : Int) : OwnN (w.alloc (.cells #[.int .i64 x] 3)) w.heap.size (.slice (some ⟨w.heap.size, 0, none⟩) 1 1) [x] := own_one w x

theorem results_tmp4 {P : Program} {fn : Func} {t u v x : Tmp} (h : fn.results = #[.tmp t, .tmp u, .tmp v, .tmp x]) (tmps : Array Value) (w : World) : (results fn tmps).run P w = .ok (.tuple #[tmps.getD t undef, tmps.getD u undef, tmps.getD v undef, tmps.getD x undef]) w := by
  simp [results, h]

set_option maxHeartbeats 4000000 in
theorem drawNew_any (a : Option Addr) (len cap : Nat) (xs : List UInt8) (w : World) (hl : xs.length = len) (hm : len ≤ 1048576) (hr : Rd w a xs) :
    Calls Try.prog 12 #[.slice a len cap] w fun e w' => ∃ (s t : Sl) (ni nn : List Int) (p q : Int), e = .returned (.tuple #[.slice s.a s.n s.c, .int .i64 p, .int .i64 q, .slice t.a t.n t.c]) ∧ OwnN w' w.heap.size s.v ni ∧ OwnN w' w.heap.size t.v nn ∧ ni.length ≤ 300 ∧ nn.length ≤ 300 ∧ Below w.heap.size w w' := by
  have P0 := hide (new_any a len cap xs w hl hm hr)
  clear hr
  go_enter Try.func12, Try.ntmps12
  go_wp2_with fail
  refine (unhide P0).mono ?_
  rintro e w1 ⟨rfl, hc1, hb1⟩
  have s1 := hc1.lt
  have CD := hide hc1.code
  have P1 := hide (wordsD_any _ a len cap xs 6 (by omega) w1 hc1)
  have B1 := hide hb1
  clear hc1 hb1 P0
  go_wp2_with fail
  refine (unhide P1).mono ?_
  rintro e w2 ⟨v, ni, rfl, hne, own2, hwd, hln, hc2, hg2⟩
  have s2 := hg2.size
  obtain ⟨sa, sn, sc, rfl⟩ : ∃ a n c, v = .slice a n c := by obtain ⟨a, c, e, _⟩ := own2.rd; exact ⟨_, _, _, e⟩
  have B2 := hide (below_of_new (unhide B1) hg2)
  have O2 := hide (show OwnN w2 w1.heap.size (Sl.mk sa sn sc).v ni from own2)
  have P2 := hide (below_any _ a len cap xs 8 w2 (by omega) hc2)
  clear hc2 hg2 P1 own2 B1 hne hwd
  go_wp2_with fail
  refine (unhide P2).mono ?_
  rintro e w3 ⟨y, hy0, hy1, rfl, hc3, hg3⟩
  have O3 := hide ((unhide O2).past hg3 (fun e => by have := ((unhide O2).lt e).1; omega))
  have B3 := hide (below_of_new (unhide B2) hg3)
  have s3 := hg3.size
  have C3 := hide hc3
  clear hc3 hg3 P2 O2 B2 hy0 hy1
  by_cases h0 : y = 0
  · have q0 : (y == 0) = true := eqB_t _ _ h0
    clear h0
    have K1 := hide (cell_one_new w3 (Value.int .i64 (-1)) 3)
    have A3 := hide ((Below.refl w3.heap.size w3).alloc (Nat.le_refl _) (.cells #[.int .i64 (-1)] 3))
    go_wp2_with (at_builtin; go_must (refine wpList_app rfl _ _ rfl w1.heap.size (.slice sa sn sc) ni rfl ((unhide O3).later (unhide A3)) ⟨some ⟨w3.heap.size, 0, none⟩, 1, 1⟩ [-1] rfl (OwnN.rd1 (own_one w3 (-1))) rfl (fun e => by cases e) (by simp only; omega) (by have := (unhide A3).size; omega) ?_; intro v8 w8 hown hgrow; obtain ⟨ta, tn, tc, rfl⟩ : ∃ a n c, v8 = .slice a n c := (by obtain ⟨a, c, e, _⟩ := hown.rd; exact ⟨_, _, _, e⟩); have HOWN := hide hown; have HGROW := hide hgrow; clear hown hgrow))
    have hgrow := unhide HGROW
    have hgo : ∀ q, (Value.slice sa sn sc).ownBlock = some q → w1.heap.size ≤ q := fun q e => ((unhide O3).lt e).1
    have O := hide (show OwnN w8 w1.heap.size (Sl.mk ta tn tc).v (ni ++ [-1]) from unhide HOWN)
    have C := hide (((unhide C3).later (unhide A3)).past hgrow s1 (unhide CD) hgo)
    have B := hide (((unhide B3).trans ((unhide A3).mono (by have := (unhide B3).size; omega))).grown hgrow (by have := (unhide B3).size; have := (unhide A3).size; omega) (fun q e => by have := hgo q e; omega))
    clear HOWN HGROW hgrow hgo O3 B3 C3 A3 K1
    have P := hide (int_lit _ a len cap xs w8 (unhide C) [0, 4, 64, 3, -2, 510, 512] 7 rfl (by omega) (by omega) w8.heap.size rfl _ rfl)
    go_wp2_with fail
    refine (unhide P).mono ?_
    rintro e u0 ⟨j, hj, rfl, hc, hg⟩
    generalize nAt [0, 4, 64, 3, -2, 510, 512] j = x0
    have AL := (Below.refl w8.heap.size w8).alloc (Nat.le_refl _) (.cells (([0, 4, 64, 3, -2, 510, 512] : List Int).map (Value.int .i64)).toArray 3)
    have On := hide (((unhide O).later AL).past hg (fun e => by have := ((unhide O).lt e).1; omega))
    have Bn := hide (below_of_new ((unhide B).trans (AL.mono (unhide B).size)) hg)
    clear O B C P
    have O := hide (unhide On)
    have B := hide (unhide Bn)
    have C := hide hc
    clear On Bn hc hg AL hj
    have P := hide (int_lit _ a len cap xs u0 (unhide C) [0, 64, 65535, 65536, -1] 5 rfl (by omega) (by omega) u0.heap.size rfl _ rfl)
    go_wp2_with fail
    refine (unhide P).mono ?_
    rintro e u1 ⟨j, hj, rfl, hc, hg⟩
    generalize nAt [0, 64, 65535, 65536, -1] j = x1
    have AL := (Below.refl u0.heap.size u0).alloc (Nat.le_refl _) (.cells (([0, 64, 65535, 65536, -1] : List Int).map (Value.int .i64)).toArray 3)
    have On := hide (((unhide O).later AL).past hg (fun e => by have := ((unhide O).lt e).1; omega))
    have Bn := hide (below_of_new ((unhide B).trans (AL.mono (unhide B).size)) hg)
    clear O B C P
    have O := hide (unhide On)
    have B := hide (unhide Bn)
    have C := hide hc
    clear On Bn hc hg AL hj
    have P := hide (int_lit _ a len cap xs u1 (unhide C) [1, 65535, 65536] 3 rfl (by omega) (by omega) u1.heap.size rfl _ rfl)
    go_wp2_with fail
    refine (unhide P).mono ?_
    rintro e u2 ⟨j, hj, rfl, hc, hg⟩
    generalize nAt [1, 65535, 65536] j = x2
    have AL := (Below.refl u1.heap.size u1).alloc (Nat.le_refl _) (.cells (([1, 65535, 65536] : List Int).map (Value.int .i64)).toArray 3)
    have On := hide (((unhide O).later AL).past hg (fun e => by have := ((unhide O).lt e).1; omega))
    have Bn := hide (below_of_new ((unhide B).trans (AL.mono (unhide B).size)) hg)
    clear O B C P
    have O := hide (unhide On)
    have B := hide (unhide Bn)
    have C := hide hc
    clear On Bn hc hg AL hj
    have AL := (Below.refl u2.heap.size u2).alloc (Nat.le_refl _) (.cells #[.int .i64 x2] 3)
    have On := hide ((unhide O).later AL)
    have Bn := hide ((unhide B).trans (AL.mono (unhide B).size))
    have ON := hide (OwnN.base (own_one u2 x2) (B' := w.heap.size) (unhide B).size)
    clear AL
    go_wp2
    refine bodyPost_ret (results_tmp4 rfl _ _) rfl ?_
    exact ⟨⟨ta, tn, tc⟩, ⟨some ⟨u2.heap.size, 0, none⟩, 1, 1⟩, ni ++ [-1], [x2], x0, x1, rfl, (unhide On).base (by omega), unhide ON, by simp; omega, by simp, unhide Bn⟩
  have q0 : (y == 0) = false := eqB_f _ _ h0
  by_cases h1 : y = 1
  · have q1 : (y == 1) = true := eqB_t _ _ h1
    clear h0 h1
    have P := hide (below_any _ a len cap xs 4 w3 (by omega) (unhide C3))
    go_wp2_with fail
    refine (unhide P).mono ?_
    rintro e w4 ⟨z, hz0, hz1, rfl, hc, hg⟩
    obtain ⟨z0, z1⟩ := hz0 (by omega)
    have B4 := hide (below_of_new (unhide B3) hg)
    have C4 := hide hc
    have s4 := hg.size
    obtain ⟨zn, rfl⟩ := Int.eq_ofNat_of_zero_le z0
    clear hc hg P O3 B3 C3 hz0 hz1
    have hmk := run_make_row' (P := Try.prog) 24 3 (.int .i64 0) 8 Try.underlying24 info3 rfl .i64 .i64 (254 + zn) (by omega) (by omega)
    have hma : madeCells #[Value.int .i64 0] (254 + zn) = zA (254 + zn) := by
      obtain rfl | rfl | rfl | rfl : zn = 0 ∨ zn = 1 ∨ zn = 2 ∨ zn = 3 := by omega
      all_goals kernel_rfl
    rw [hma] at hmk
    rw [show ((254 + zn : Nat) : Int) = 254 + (zn : Int) by omega] at hmk
    have AL := (Below.refl w4.heap.size w4).alloc (Nat.le_refl _) (.cells (zA (254 + zn)) 3)
    have O := hide (own_made (B := w1.heap.size) (n := 254 + zn) (heap_alloc_last w4 (.cells (zA (254 + zn)) 3)) (by omega) (by omega))
    have C := hide ((unhide C4).later AL)
    have B := hide ((unhide B4).trans (AL.mono (unhide B4).size))
    clear AL B4 C4 hma
    have P := hide (int_lit _ a len cap xs (w4.alloc (.cells (zA (254 + zn)) 3)) (unhide C) [0, 4, 64, 3, -2, 510, 512] 7 rfl (by omega) (by omega) (w4.heap.size + 1) (by simp) _ rfl)
    go_wp2_with fail
    refine (unhide P).mono ?_
    rintro e u0 ⟨j, hj, rfl, hc, hg⟩
    generalize nAt [0, 4, 64, 3, -2, 510, 512] j = x0
    have AL := (Below.refl (w4.alloc (.cells (zA (254 + zn)) 3)).heap.size (w4.alloc (.cells (zA (254 + zn)) 3))).alloc (Nat.le_refl _) (.cells (([0, 4, 64, 3, -2, 510, 512] : List Int).map (Value.int .i64)).toArray 3)
    have On := hide (((unhide O).later AL).past hg (fun e => by have := ((unhide O).lt e).1; omega))
    have Bn := hide (below_of_new ((unhide B).trans (AL.mono (unhide B).size)) hg)
    clear O B C P
    have O := hide (unhide On)
    have B := hide (unhide Bn)
    have C := hide hc
    clear On Bn hc hg AL hj
    have P := hide (int_lit _ a len cap xs u0 (unhide C) [0, 64, 65535, 65536, -1] 5 rfl (by omega) (by omega) u0.heap.size rfl _ rfl)
    go_wp2_with fail
    refine (unhide P).mono ?_
    rintro e u1 ⟨j, hj, rfl, hc, hg⟩
    generalize nAt [0, 64, 65535, 65536, -1] j = x1
    have AL := (Below.refl u0.heap.size u0).alloc (Nat.le_refl _) (.cells (([0, 64, 65535, 65536, -1] : List Int).map (Value.int .i64)).toArray 3)
    have On := hide (((unhide O).later AL).past hg (fun e => by have := ((unhide O).lt e).1; omega))
    have Bn := hide (below_of_new ((unhide B).trans (AL.mono (unhide B).size)) hg)
    clear O B C P
    have O := hide (unhide On)
    have B := hide (unhide Bn)
    have C := hide hc
    clear On Bn hc hg AL hj
    have P := hide (int_lit _ a len cap xs u1 (unhide C) [1, 65535, 65536] 3 rfl (by omega) (by omega) u1.heap.size rfl _ rfl)
    go_wp2_with fail
    refine (unhide P).mono ?_
    rintro e u2 ⟨j, hj, rfl, hc, hg⟩
    generalize nAt [1, 65535, 65536] j = x2
    have AL := (Below.refl u1.heap.size u1).alloc (Nat.le_refl _) (.cells (([1, 65535, 65536] : List Int).map (Value.int .i64)).toArray 3)
    have On := hide (((unhide O).later AL).past hg (fun e => by have := ((unhide O).lt e).1; omega))
    have Bn := hide (below_of_new ((unhide B).trans (AL.mono (unhide B).size)) hg)
    clear O B C P
    have O := hide (unhide On)
    have B := hide (unhide Bn)
    have C := hide hc
    clear On Bn hc hg AL hj
    have AL := (Below.refl u2.heap.size u2).alloc (Nat.le_refl _) (.cells #[.int .i64 x2] 3)
    have On := hide ((unhide O).later AL)
    have Bn := hide ((unhide B).trans (AL.mono (unhide B).size))
    have ON := hide (OwnN.base (own_one u2 x2) (B' := w.heap.size) (unhide B).size)
    clear AL
    go_wp2
    refine bodyPost_ret (results_tmp4 rfl _ _) rfl ?_
    exact ⟨⟨some ⟨w4.heap.size, 0, none⟩, 254 + zn, 254 + zn⟩, ⟨some ⟨u2.heap.size, 0, none⟩, 1, 1⟩, List.replicate (254 + zn) 0, [x2], x0, x1, rfl, (unhide On).base (by omega), unhide ON, by rw [List.length_replicate]; omega, by simp, unhide Bn⟩
  · have q1 : (y == 1) = false := eqB_f _ _ h1
    clear h0 h1
    have O := hide (unhide O3)
    have C := hide (unhide C3)
    have B := hide (unhide B3)
    clear O3 C3 B3
    have P := hide (int_lit _ a len cap xs w3 (unhide C) [0, 4, 64, 3, -2, 510, 512] 7 rfl (by omega) (by omega) w3.heap.size rfl _ rfl)
    go_wp2_with fail
    refine (unhide P).mono ?_
    rintro e u0 ⟨j, hj, rfl, hc, hg⟩
    generalize nAt [0, 4, 64, 3, -2, 510, 512] j = x0
    have AL := (Below.refl w3.heap.size w3).alloc (Nat.le_refl _) (.cells (([0, 4, 64, 3, -2, 510, 512] : List Int).map (Value.int .i64)).toArray 3)
    have On := hide (((unhide O).later AL).past hg (fun e => by have := ((unhide O).lt e).1; omega))
    have Bn := hide (below_of_new ((unhide B).trans (AL.mono (unhide B).size)) hg)
    clear O B C P
    have O := hide (unhide On)
    have B := hide (unhide Bn)
    have C := hide hc
    clear On Bn hc hg AL hj
    have P := hide (int_lit _ a len cap xs u0 (unhide C) [0, 64, 65535, 65536, -1] 5 rfl (by omega) (by omega) u0.heap.size rfl _ rfl)
    go_wp2_with fail
    refine (unhide P).mono ?_
    rintro e u1 ⟨j, hj, rfl, hc, hg⟩
    generalize nAt [0, 64, 65535, 65536, -1] j = x1
    have AL := (Below.refl u0.heap.size u0).alloc (Nat.le_refl _) (.cells (([0, 64, 65535, 65536, -1] : List Int).map (Value.int .i64)).toArray 3)
    have On := hide (((unhide O).later AL).past hg (fun e => by have := ((unhide O).lt e).1; omega))
    have Bn := hide (below_of_new ((unhide B).trans (AL.mono (unhide B).size)) hg)
    clear O B C P
    have O := hide (unhide On)
    have B := hide (unhide Bn)
    have C := hide hc
    clear On Bn hc hg AL hj
    have P := hide (int_lit _ a len cap xs u1 (unhide C) [1, 65535, 65536] 3 rfl (by omega) (by omega) u1.heap.size rfl _ rfl)
    go_wp2_with fail
    refine (unhide P).mono ?_
    rintro e u2 ⟨j, hj, rfl, hc, hg⟩
    generalize nAt [1, 65535, 65536] j = x2
    have AL := (Below.refl u1.heap.size u1).alloc (Nat.le_refl _) (.cells (([1, 65535, 65536] : List Int).map (Value.int .i64)).toArray 3)
    have On := hide (((unhide O).later AL).past hg (fun e => by have := ((unhide O).lt e).1; omega))
    have Bn := hide (below_of_new ((unhide B).trans (AL.mono (unhide B).size)) hg)
    clear O B C P
    have O := hide (unhide On)
    have B := hide (unhide Bn)
    have C := hide hc
    clear On Bn hc hg AL hj
    have AL := (Below.refl u2.heap.size u2).alloc (Nat.le_refl _) (.cells #[.int .i64 x2] 3)
    have On := hide ((unhide O).later AL)
    have Bn := hide ((unhide B).trans (AL.mono (unhide B).size))
    have ON := hide (OwnN.base (own_one u2 x2) (B' := w.heap.size) (unhide B).size)
    clear AL
    go_wp2
    refine bodyPost_ret (results_tmp4 rfl _ _) rfl ?_
    exact ⟨⟨sa, sn, sc⟩, ⟨some ⟨u2.heap.size, 0, none⟩, 1, 1⟩, ni, [x2], x0, x1, rfl, (unhide On).base (by omega), unhide ON, by omega, by simp, unhide Bn⟩
end Go.Proofs.Ytfkmibgamkignaa
