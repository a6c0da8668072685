/- For every slice of bytes: tokens drawn of it whose line is read come back; of a drawn line all tokens are right, are as the model reads them, and are read again; a drawn token, bent or not, is right just as the model has it: the law FnLexed returns true at every argument (of more than 1048576 bytes it answers true with no call of the program); the tables and sentinels that the card lists are as the text of the program and of the library lays them. -/
import Derived.Test.YthgbpofcfmnpdaaDoorRows
import Derived.Test.YthgbpofcfmnpdaaDoorLxG
import Derived.Test.YthgbpofcfmnpdaaDoorLyE
import Derived.Test.YthgbpofcfmnpdaaDoorTie
import Derived.Test.YthgbpofcfmnpdaaDoorCards
import Derived.SevenTiedAt
import Derived.Lay
import Derived.MakeChecks
import Derived.OpenVars
import Derived.WalkKit
import Derived.ProofKit
import Derived.OpenShut
import Derived.ShutString
import Derived.ChangeOld
import Derived.Below
import Derived.LaidMore
namespace Go.Proofs.YthgbpofcfmnpdaaDoor.fnLexed
open Go.ChangeShapes Go.WideShapes Go.ChangeAt Go.RowKit
open Go.ChangeMaps (open_string shut_string)
set_option linter.unusedVariables false
set_option maxRecDepth 8000

theorem sameT_rd (a b : Option Addr) (c d : Nat) (ts : List Tk) (w : World) (hm : ts.length ≤ 800) (h : RdT w a ts) (k : RdT w b ts) : Calls Tryd.prog 16 #[.slice a ts.length c, .slice b ts.length d] w fun e w' => e = .returned (.bool true) ∧ Below w.heap.size w w' :=
  sameToks_same a b ts.length c d ts w rfl (by omega) h k
set_option maxHeartbeats 8000000 in
theorem walk (a : Option Addr) (len cap : Nat) (zs : List Int) (w : World) (hrow : IsRow .u8 w a len cap zs) (he : Env w) : Calls Tryd.prog 3 #[.slice a len cap] w fun e w' => e = .returned (.bool true) ∧ Below w.heap.size w w' := by
  obtain ⟨xs, hl, hlc, hcm, hr⟩ := rd_of_row hrow
  clear hrow
  have hlm : len ≤ 9223372036854775807 := by unfold maxLen at hcm; omega
  have EV := hide (fun wr (h : Below w.heap.size w wr) => he.later h)
  have RX := hide (fun wr (h : Below w.heap.size w wr) => hr.later h)
  clear he hr
  by_cases hbig : (1048576 : Int) < (len : Int)
  · have hb1 : decide ((1048576 : Int) < (len : Int)) = true := decide_eq_true hbig
    have BG := hide (big_any a len cap w hlm)
    rw [hb1] at BG
    go_enter Tryd.func3, Tryd.ntmps3
    go_wp2_with (first | (go_at_call 9; refine (unhide BG).mono ?_; rintro e w' ⟨rfl, hw'⟩; rw [hw']; clear hw' w'))
    go_ret
    exact ⟨rfl, Below.refl _ _⟩
  · have hb1 : decide ((1048576 : Int) < (len : Int)) = false := decide_eq_false hbig
    have hm : len ≤ 1048576 := by omega
    have BG := hide (big_any a len cap w hlm)
    rw [hb1] at BG
    have D1 := hide (drawLineOf_any a len cap xs w hl hm (unhide RX w (Below.refl _ _)))
    go_enter Tryd.func3, Tryd.ntmps3
    go_wp2_with (first | (go_at_call 9; refine (unhide BG).mono ?_; rintro e w' ⟨rfl, hw'⟩; rw [hw']; clear hw' w'))
    refine (unhide D1).mono ?_
    rintro e w1 ⟨ts, v, hok, h100, rfl, o1, hb1'⟩
    obtain ⟨a1, c1, rfl, r1⟩ := o1.rd
    have B1 := hide hb1'
    have R1 := hide r1
    have h8 : ts.length ≤ 800 := by omega
    have SM := hide (line_small hok h8)
    have LL := hide (lex_line ts hok h8)
    have LI := hide (lineI_any a1 ts.length c1 ts w1 rfl (unhide SM).2 r1 (unhide EV w1 hb1').db)
    have LX := hide (fun wr (h : Env wr) => lexI_any (strOf (lineOf ts)) wr (unhide SM).1 h)
    rw [unhide LL] at LX
    simp only at LX
    generalize strOf (lineOf ts) = SL at *
    clear o1 hb1' r1 D1 BG hok h100 hb1 SM LL
    go_wp2_with fail
    refine (unhide LI).mono ?_
    rintro e w2 ⟨rfl, hb2⟩
    have B2 := hide ((unhide B1).trans (hb2.mono (unhide B1).size))
    have R2 := hide ((unhide R1).later hb2)
    have X2 := hide (unhide LX w2 (unhide EV w2 (unhide B2)))
    clear hb2 B1 R1 LI LX
    go_wp2_with fail
    refine (unhide X2).mono ?_
    rintro e w3 ⟨v3, rfl, o3, hb3⟩
    obtain ⟨a3, c3, rfl, r3⟩ := o3.rd
    have B3 := hide ((unhide B2).trans (hb3.mono (unhide B2).size))
    have R3 := hide ((unhide R2).later hb3)
    have Q3 := hide r3
    have D3 := hide (drawLex_any a len cap xs w3 hl hm (unhide RX w3 (unhide B3)))
    clear hb3 o3 r3 B2 R2 X2
    go_wp2_with fail
    refine (unhide D3).mono ?_
    rintro e w4 ⟨s, hz, rfl, hb4⟩
    have B4 := hide ((unhide B3).trans (hb4.mono (unhide B3).size))
    have R4 := hide ((unhide R3).later hb4)
    have Q4 := hide ((unhide Q3).later hb4)
    have LI := hide (lexI_any s w4 hz (unhide EV w4 (unhide B4)))
    have LS := hide (fun wr => lexS_any s wr hz)
    have L8 := hide (lex_len s)
    have LO := hide (lex_ok s)
    generalize lexR s 0 [] = R at *
    obtain ⟨ys, b⟩ := R
    simp only at LI LS L8 LO
    clear hb4 B3 R3 Q3 D3
    go_wp2_with fail
    refine (unhide LI).mono ?_
    rintro e w5 ⟨v5, rfl, o5, hb5⟩
    obtain ⟨a5, c5, rfl, r5⟩ := o5.rd
    have B5 := hide ((unhide B4).trans (hb5.mono (unhide B4).size))
    have R5 := hide ((unhide R4).later hb5)
    have Q5 := hide ((unhide Q4).later hb5)
    have Y5 := hide r5
    clear hb5 o5 r5 B4 R4 Q4 LI
    go_wp2_with fail
    refine (unhide LS w5).mono ?_
    rintro e w6 ⟨v6, rfl, o6, hb6⟩
    obtain ⟨a6, c6, rfl, r6⟩ := o6.rd
    have B6 := hide ((unhide B5).trans (hb6.mono (unhide B5).size))
    have R6 := hide ((unhide R5).later hb6)
    have Q6 := hide ((unhide Q5).later hb6)
    have Y6 := hide ((unhide Y5).later hb6)
    have W6 := hide r6
    have D6 := hide (drawTokenOk_any a len cap xs w6 hl hm (unhide RX w6 (unhide B6)))
    clear hb6 o6 r6 B5 R5 Q5 Y5 LS
    go_wp2_with fail
    refine (unhide D6).mono ?_
    rintro e w7 ⟨T, hT, rfl, hb7⟩
    have A7 := hide (below_new w7 (.cells T.cs 31))
    have B7 := hide (((unhide B6).trans (hb7.mono (unhide B6).size)).trans ((unhide A7).mono (by have := (unhide B6).size; have := hb7.size; omega)))
    have R7 := hide (((unhide R6).later hb7).later (unhide A7))
    have Q7 := hide (((unhide Q6).later hb7).later (unhide A7))
    have Y7 := hide (((unhide Y6).later hb7).later (unhide A7))
    have W7 := hide (((unhide W6).later hb7).later (unhide A7))
    have X7 := hide (heap_alloc_new w7 (.cells T.cs 31))
    have E7 := hide (unhide EV _ (unhide B7))
    have TI := hide (fun wr (h : TabK wr) => tokI_any T wr hT h)
    have TS := hide (fun wr => tokS_any T wr hT)
    generalize T.ok = q at *
    obtain ⟨tk, tn, tx⟩ := T
    unfold Tk.v Tk.cs at *
    simp only at TI TS ⊢
    clear hb7 A7 B6 R6 Q6 Y6 W6 D6 hT
    have LB := hide (line_small (unhide LO) (unhide L8))
    have LL := hide (lex_line ys (unhide LO) (unhide L8))
    go_wp2_with fail
    generalize w7.alloc (Obj.cells #[.int .i64 tk, .int .i64 tn, .string tx] 31) = wc at *
    have hg7 := (Array.getElem?_eq_some_iff.1 (unhide X7)).1
    generalize w7.heap.size = g at *
    have ne := Sub.ne wc.heap.size wc
    have HZ := hide (Nat.le_refl wc.heap.size)
    have d0 : ∀ y : Sub wc.heap.size wc, y.w.cell? ⟨g, 0, none⟩ = some (.int .i64 tk) := fun y => (y.h.cell (p := ⟨g, 0, none⟩) hg7).trans (tri_cells (t := ⟨tk, tn, tx⟩) (unhide X7)).1
    have d1 : ∀ y : Sub wc.heap.size wc, y.w.cell? ⟨g, 1, none⟩ = some (.int .i64 tn) := fun y => (y.h.cell (p := ⟨g, 1, none⟩) hg7).trans (tri_cells (t := ⟨tk, tn, tx⟩) (unhide X7)).2.1
    have d2 : ∀ y : Sub wc.heap.size wc, y.w.cell? ⟨g, 2, none⟩ = some (.string tx) := fun y => (y.h.cell (p := ⟨g, 2, none⟩) hg7).trans (tri_cells (t := ⟨tk, tn, tx⟩) (unhide X7)).2.2
    have TI' := hide (fun y : Sub wc.heap.size wc => unhide TI y.w ((unhide E7).tab.next y.h))
    have SA := hide (fun y : Sub wc.heap.size wc => sameT_rd a3 a1 c3 c1 ts y.w h8 ((unhide Q7).later y.h) ((unhide R7).later y.h))
    have SB := hide (fun y : Sub wc.heap.size wc => sameT_rd a5 a6 c5 c6 ys y.w (unhide L8) ((unhide Y7).later y.h) ((unhide W7).later y.h))
    clear TI X7 R7 Q7 W7
    have LX := hide (fun wr (h : Env wr) => lexI_any (strOf (lineOf ys)) wr (unhide LB).1 h)
    rw [unhide LL] at LX
    simp only at LX
    have LN := hide (fun wr (h : RdT wr a5 ys) (hb : Below w.heap.size w wr) => lineI_any a5 ys.length c5 ys wr rfl (unhide LB).2 h (unhide EV wr hb).db)
    have TK := hide (fun wr k (hk : k < ys.length) (hb : Below w.heap.size w wr) => tokI_any (tAt ys k) wr (by have := ok_size ((unhide LO).at hk); omega) (unhide EV wr hb).tab)
    have OKK := hide (fun k (hk : k < ys.length) => (unhide LO).at hk)
    generalize strOf (lineOf ys) = SY at *
    have n8 := unhide L8
    clear LL LB RX
    cases b <;> cases q
    all_goals
      refine wp_region_sub (⟨wc, Below.refl _ _⟩ : Sub wc.heap.size wc) (by kernel_rfl) (by kernel_rfl) ?_
      repeat (go_big_quiet_step (first | (go_at_call_of 16 a3; exact Sub.call (unhide HZ) (unhide SA _)) | (go_at_call_of 16 a5; exact Sub.call (unhide HZ) (unhide SB _)) | (go_at_call 17; exact Sub.call (unhide HZ) (unhide TI' _)) | (go_at_call 18; exact Sub.call (unhide HZ) (unhide TS _))))
      refine wpQuiet_nil ?_
      intro y
      have B8 := hide ((unhide B7).trans (y.h.mono (unhide B7).size))
      have Y8 := hide ((unhide Y7).later y.h)
      clear SA SB TI' TS d0 d1 d2 HZ ne E7 B7 Y7
      obtain ⟨wy, hy⟩ := y
      simp only at B8 Y8 ⊢
      clear hy
      go_wp2
      go_loopw [12] (fun i wr => ∃ k : Nat, k ≤ ys.length ∧ i = .int .i64 k ∧ Below w.heap.size w wr ∧ RdT wr a5 ys) (fun i _ => ys.length - (intOf i).toNat)
      case atStart => exact ⟨0, Nat.zero_le _, rfl, unhide B8, unhide Y8⟩
      case round =>
        clear B8 Y8
        obtain ⟨k, hk, rfl, hb, hy⟩ := hrel
        have HB := hide hb
        have HY := hide hy
        by_cases hlt : k < ys.length
        · rcases hy with h0 | ⟨p, po, rfl, hp, hpc⟩
          · rw [h0] at hlt; simp at hlt
          obtain ⟨e0, e1, e2⟩ := hpc k hlt
          have T1 := hide (unhide TK wr k hlt hb)
          rw [unhide OKK k hlt] at T1
          unfold Tk.v Tk.cs at T1
          generalize (tAt ys k).s = ss at *
          generalize (tAt ys k).k = kk at *
          generalize (tAt ys k).n = nn at *
          clear hpc hb
          go_wp2_with (first | (go_at_call 17; refine (unhide T1).mono ?_; rintro e w9 ⟨rfl, hb9⟩))
          go_roundw
          case rel => exact ⟨k + 1, by omega, by go_num, (unhide HB).trans (hb9.mono (unhide HB).size), (unhide HY).later hb9⟩
          case measure => simp [intOf]; omega
        · have L1 := hide (unhide LN wr hy hb)
          clear hb hy
          go_wp2_with fail
          refine (unhide L1).mono ?_
          rintro e w9 ⟨rfl, hb9⟩
          have B9 := hide ((unhide HB).trans (hb9.mono (unhide HB).size))
          have Y9 := hide ((unhide HY).later hb9)
          have X9 := hide (unhide LX w9 (unhide EV w9 (unhide B9)))
          clear hb9 L1 HB HY
          go_wp2_with fail
          refine (unhide X9).mono ?_
          rintro e w10 ⟨v10, rfl, o10, hb10⟩
          obtain ⟨a10, c10, rfl, r10⟩ := o10.rd
          have B10 := hide ((unhide B9).trans (hb10.mono (unhide B9).size))
          have S10 := hide (sameT_rd a10 a5 c10 c5 ys w10 n8 r10 ((unhide Y9).later hb10))
          clear o10 hb10 r10 X9 B9 Y9
          go_wp2_with (first | (go_at_call 16; refine (unhide S10).mono ?_; rintro e w11 ⟨rfl, hb11⟩))
          go_ret
          exact ⟨rfl, (unhide B10).trans (hb11.mono (unhide B10).size)⟩

theorem door_met (os : Os) (args : Array Value) : laidMetH Tryd.prog Rows.fnLexedRow.laid ((World.doorLaid Tryd.prog 400 os).forCall (fun _ _ => 0) ⟨#[], args, []⟩).memory :=
  laidMetH_of_parts3 (fuel := 8) (laidMet_of_run' 8 (by kernel_rfl) (by kernel_rfl)) (by kernel_rfl) (by kernel_rfl)
set_option maxRecDepth 100000 in
theorem lifted (os : Os) (started : os.Started) (H : Type) (enc : TypeId × Value → H) :
    ReturnsInHanded {} Tryd.checked os 3 .any (fun w args => (Rows.fnLexedSpec.pre enc Tryd.prog Tryd.f3 [] false w args ∧ laidMetH Tryd.prog Rows.fnLexedRow.laid w) ∧ sizedMet enc Tryd.prog Tryd.f3 (OpenSpec.ofChange Rows.fnLexedSpec) false w args)
      (Rows.fnLexedSpec.post enc Tryd.prog Tryd.f3 false true false false) := by
  refine returnsInHanded_of_change_and (C := Tryd.checked) (X := fun w _ => laidMetH Tryd.prog Rows.fnLexedRow.laid w) (fun _ _ _ hh h => h.of_heap hh) own started (by kernel_rfl) Tryd.func3
    (ChangeSpec.witness_shaped (enc := enc) (C := Tryd.checked) (os := os) (X := fun w _ => laidMetH Tryd.prog Rows.fnLexedRow.laid w) false (World.doorLaid Tryd.prog 400 os) #[.slice none 0 0] 8 rfl (World.shaped_of_RefB (by kernel_rfl) (by kernel_rfl)) (by kernel_rfl) (by kernel_rfl) (by kernel_rfl) (door_met os _)) ?_
  intro W base args ds gs before hval0 hW _ _ hL _
  have hval : ∀ (j : Nat) t v, Tryd.f3.params[j]? = some t → args[j]? = some v → Value.okWide Tryd.prog W .any base t v := hval0
  have hW' := hW
  obtain ⟨p, q, hA0, hV, rfl, hfz, hnd⟩ := hW
  have hA : DataW.TrodAll enc Tryd.prog W 0 (fun _ => true) true Tryd.f3.params.toList args.toList ds p := hA0
  rw [Tryd.params3] at hA hval
  obtain ⟨v0, vs0, d0, ds0, p0, q0, hargs, rfl, rfl, h0, r0⟩ := trodAll_cons hA
  obtain ⟨rfl, rfl, rfl⟩ := trodAll_nil r0
  obtain rfl : args = #[v0] := by cases args; simp_all
  have kV := hV
  obtain ⟨gv, tv, cv, fv, dv, pv, gu, tu, cu, fu, du, pu, rfl, _⟩ := trodVars_two hV
  have k0 := h0
  have lt0 : ∀ x ∈ p0, x.block < W.heap.size := by obtain ⟨m, hm⟩ := k0; exact DataW.trod_lt m _ _ _ hm
  obtain ⟨a0, len0, cap0, rfl⟩ := okWide_slice Tryd.underlying22 (hval 0 22 v0 rfl rfl)
  obtain ⟨z0, w0⟩ : ∃ zs, IsRow .u8 W a0 len0 cap0 zs := by
    obtain ⟨fuel, hf⟩ := h0
    rcases open_ints Tryd.underlying22 Tryd.underlying5 (by kernel_rfl) hf with ⟨hcs, _⟩ | ⟨x, l, c, zs, hcs, _, hl, hm, hz, _, hcell, hwz⟩
    · simp [Value.cells] at hcs
      obtain ⟨rfl, rfl, rfl⟩ := hcs
      exact ⟨[], .inl ⟨rfl, rfl, rfl, rfl⟩⟩
    · simp [Value.cells] at hcs
      obtain ⟨rfl, rfl, rfl⟩ := hcs
      exact ⟨zs, .inr ⟨_, rfl, hl, hm, by simpa using hz, hcell, hwz⟩⟩
  clear hA0 hval0
  refine (walk a0 len0 cap0 z0 W w0 (env_of hL)).mono fun e W' ⟨he, bel⟩ => ?_
  subst he
  exact ⟨_, rfl, _, _, _, [], _, _, hW', trodAll_mk1 (shut_bool Tryd.underlying4 _), (trodAll_cons_mk (Below.trod laidOut (by kernel_rfl) (of_decide_eq_true (by kernel_rfl)) k0 bel lt0) trodAll_mk0), bel.trodVars laidOut (by kernel_rfl) kV, bel.frame _, fun h => by cases h⟩

theorem proved : Rows.FnLexedSaid :=
  OpenClaim.holds_of_wide 3 Tryd.f3 rfl rfl rfl rfl rfl rfl rfl ⟨rfl, rfl, rfl, rfl, rfl⟩ rfl rfl rfl rfl rfl (by kernel_rfl) Tryd.func3 (by kernel_rfl)
    (of_decide_eq_true (by kernel_rfl)) (by unfold Func.isWrapper; first | (rw [if_pos (by decide +kernel)]; kernel_rfl) | (rw [if_neg (by decide +kernel)]; exact ⟨rfl, rfl⟩))
    (fun os started H enc _ => lifted os started H enc)
end Go.Proofs.YthgbpofcfmnpdaaDoor.fnLexed

namespace Go.Proofs.YthgbpofcfmnpdaaDoor
theorem fnLexed_holds : Rows.FnLexedCardSaid :=
  Claim7.holds_tied_plain_at .later [] [.data, .data, .data, .sentinel, .sentinel, .data, .data] true (true, "024b85a724a0c90bbfcec3145dcc3ce4cc6fd38289db879db2e1c102559e5034") true
    fnLexed.proved (fun _ h => by cases h) (by kernel_rfl) (fun _ h => by cases h) fnLexed_row_tie rfl ⟨rfl, rfl⟩ (by kernel_rfl) rfl
    (fun f fn hf hfn => by
      obtain rfl : f = 3 := Option.some.inj ((show Tryd.prog.funcNamed "loop.example/g00329/laws.FnLexed" = some 3 by kernel_rfl).symm.trans hf) |>.symm
      obtain rfl : fn = Tryd.f3 := (Option.some.inj (Tryd.func3.symm.trans hfn)).symm
      exact ⟨by kernel_rfl, fun j t ht => by
        rw [Tryd.params3] at ht
        have hm : t ∈ [22] := by simpa using Array.mem_of_getElem? ht
        have hall : ([22].all fun u => !Tryd.prog.wantsStandIn u) = true := by kernel_rfl
        exact (show Tryd.prog.wantsStandIn t = false by simpa using List.all_eq_true.1 hall t hm)⟩)
    (by kernel_rfl)
#print axioms fnLexed_holds
end Go.Proofs.YthgbpofcfmnpdaaDoor
