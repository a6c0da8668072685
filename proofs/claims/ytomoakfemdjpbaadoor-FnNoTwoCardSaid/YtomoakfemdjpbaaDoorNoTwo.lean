/- For every slice of bytes: a drawn instruction that is right comes back of its words, whatever stands behind them, and with its last word cut off it does not: the law FnNoTwo returns true at every argument; the table that the card lists is as the program's text lays it. -/
import Derived.Test.YtomoakfemdjpbaaDoorRows
import Derived.Test.YtomoakfemdjpbaaDoorLaid
import Derived.Test.YtomoakfemdjpbaaDoorDrwF
import Derived.Test.YtomoakfemdjpbaaDoorBack
import Derived.Test.YtomoakfemdjpbaaDoorMarks
import Derived.Test.YtomoakfemdjpbaaDoorTie
import Derived.Test.YtomoakfemdjpbaaDoorCards
import Derived.SevenTiedAt
import Derived.Lay
import Derived.MakeChecks
import Derived.OpenVars
import Derived.WalkKit
import Derived.ProofKit
import Derived.OpenShut
import Derived.ShutString
import Derived.ChangeOld
import Derived.Below
namespace Go.Proofs.YtomoakfemdjpbaaDoor.fnNoTwo
open Go.ChangeShapes Go.WideShapes Go.ChangeAt Go.RowKit
open Go.ChangeMaps (open_string shut_string)
set_option linter.unusedVariables false

theorem cells_new (w : World) (L : List Int) : ∀ j u, (cellsN L)[j]? = some u → (w.alloc (.cells (L.map (Value.int .i64)).toArray 3)).cell? ((⟨w.heap.size, 0, none⟩ : Addr).add j) = some u := by
  intro j u hj
  have hadd : (⟨w.heap.size, 0, none⟩ : Addr).add j = ⟨w.heap.size, j, none⟩ := by unfold Addr.add; split <;> simp_all
  rw [hadd, World.cell?_alloc_at _ _ _ _ rfl, List.getElem?_toArray]
  exact hj
theorem decV_enc (i : Is) (h : i.ok = true) (t : List Int) : decV (i.enc ++ t) 0 = .tuple #[i.v, .int .i64 (i.enc.length : Int), .bool true] := by
  obtain ⟨h1, h2, h3⟩ := dec_enc i h t
  rw [← decV_yes h1, h2, ← h3]
  simp
theorem decV_cut (i : Is) (h : i.ok = true) : decV i.enc.dropLast 0 = noV := (decV_no (dec_cut i h)).symm
set_option maxHeartbeats 4000000 in
theorem walk (a0 : Option Addr) (len0 cap0 : Nat) (z0 : List Int) (w : World) (w0 : IsRow .u8 w a0 len0 cap0 z0) (ht : Tab w) :
    Calls Tryd.prog 4 #[.slice a0 len0 cap0] w fun e w' => e = .returned (.bool true) ∧ Below w.heap.size w w' := by
  obtain ⟨xs, hl, hlc, hm, hr⟩ := rd_of_row w0
  obtain ⟨i0, hi, hz0, hz1, hz2⟩ := info_parts info3
  unfold maxLen at hm
  clear w0
  by_cases hbig : 1048576 < len0
  · go_enter Tryd.func4, Tryd.ntmps4
    go_wp2_with fail
    refine (big_any a0 len0 cap0 w (by omega)).mono ?_
    rintro e w' ⟨he, hw'⟩
    rw [show decide ((1048576 : Int) < (len0 : Int)) = true by simp; omega] at he
    rw [hw', he]
    clear hw' he w'
    go_wp2
    go_ret
    exact ⟨rfl, Below.refl _ _⟩
  · have HTB := hide ht
    clear ht
    go_enter Tryd.func4, Tryd.ntmps4
    go_wp2_with fail
    refine (big_any a0 len0 cap0 w (by omega)).mono ?_
    rintro e w' ⟨he, hw'⟩
    rw [show decide ((1048576 : Int) < (len0 : Int)) = false by simp; omega] at he
    rw [hw', he]
    clear hw' he w'
    go_wp2_with fail
    refine (drawCode_any a0 len0 cap0 xs w hl (by omega) hr).mono ?_
    rintro e w1 ⟨vx, i, hok, rfl, hb1⟩
    have hlen := enc_len3 i
    have hpos := enc_pos hok
    have V1 := hide (decV_enc i hok [5, 6])
    have V2 := hide (decV_cut i hok)
    have WD := hide (enc_wd i)
    have EI := hide (fun (w : World) (t : Tab w) => encI_any i w t)
    obtain ⟨op, ⟨sm, sr, sx⟩, ⟨dm, dr, dx⟩, n⟩ := i
    have B1 := hide hb1
    have HE := hide (show (w1.alloc (Obj.cells #[.int .i64 op, .int .i64 sm, .int .i64 sr, .int .i64 sx, .int .i64 dm, .int .i64 dr, .int .i64 dx, .int .i64 n] 27)).heap.size = w1.heap.size + 1 by simp)
    have HI := hide (fun (w' : World) (h : Below (w1.heap.size + 1) (w1.alloc (Obj.cells #[.int .i64 op, .int .i64 sm, .int .i64 sr, .int .i64 sx, .int .i64 dm, .int .i64 dr, .int .i64 dx, .int .i64 n] 27)) w') => box_below w1 _ w' h)
    have HW := hide (fun (w' : World) (h : Below (w1.heap.size + 1) (w1.alloc (Obj.cells #[.int .i64 op, .int .i64 sm, .int .i64 sr, .int .i64 sx, .int .i64 dm, .int .i64 dr, .int .i64 dx, .int .i64 n] 27)) w') => (unhide B1).trans ((box_below w1 _ w' h).mono (unhide B1).size))
    have HC := hide (fun (w' : World) (h : Below (w1.heap.size + 1) (w1.alloc (Obj.cells #[.int .i64 op, .int .i64 sm, .int .i64 sr, .int .i64 sx, .int .i64 dm, .int .i64 dr, .int .i64 dx, .int .i64 n] 27)) w') => box_cells w1 #[.int .i64 op, .int .i64 sm, .int .i64 sr, .int .i64 sx, .int .i64 dm, .int .i64 dr, .int .i64 dx, .int .i64 n] 27 w' h)
    have s1 := hb1.size
    have S0 := hide (Below.refl (w1.heap.size + 1) (w1.alloc (Obj.cells #[.int .i64 op, .int .i64 sm, .int .i64 sr, .int .i64 sx, .int .i64 dm, .int .i64 dr, .int .i64 dx, .int .i64 n] 27)))
    clear hb1 hok
    generalize Is.enc ⟨op, ⟨sm, sr, sx⟩, ⟨dm, dr, dx⟩, n⟩ = es at hlen hpos V1 V2 WD EI
    unfold Is.v at EI V1 ⊢
    simp only at EI V1 ⊢
    go_wp2_with fail
    refine (unhide EI _ ((unhide HTB).later (unhide HW _ (unhide S0)))).mono ?_
    rintro e w2 ⟨v2, rfl, hne, own2, hb2⟩
    have s2 := hb2.size
    rw [unhide HE] at hb2 s2 own2
    have S2 := hide hb2
    rcases own2.form with ⟨e, _⟩ | ⟨g, vc, rfl, hgb, hgl, hvc, hvm⟩
    · exact absurd e hne
    have O2 := hide own2
    clear own2 hb2 hne S0 EI
    have hlp : (0 : Int) < (es.length : Int) := by omega
    have hln : ¬ (es.length : Int) = 0 := by omega
    have K2 := hide (World.ownsRow.cells (World.ownsRow.alloc (unhide O2) (Obj.cells #[] 3)) rfl)
    have A2 := hide ((unhide S2).alloc (by omega) (Obj.cells #[] 3))
    have OE := hide (ownN_empty w2)
    go_wp2_with (at_builtin; first
      | (refine wpList_append_own _ rfl (.tmp 25) (.tmp 26) 29 rfl w2.heap.size 3 i0 (.int .i64 0) 1 8 Tryd.underlying29 hi hz0 hz1 hz2 rfl (by decide) (.slice (some ⟨w2.heap.size, 0, none⟩) 0 0) 0 [] rfl (unhide OE) ⟨g, 0, none⟩ es.length vc (cellsN es) rfl (by rw [cellsN_length]; omega) (unhide K2) (cellsN_one _) (by unfold maxLen; omega) (by omega) (by simp) ?_
         intro v3 w3 hown hgrow hnil
         have hown2 : OwnN w3 w2.heap.size v3 es := by unfold OwnN; simpa using hown
         rcases hown2.form with ⟨e, _⟩ | ⟨g3, vc3, rfl, hg3, hl3, hv3, _⟩
         · exact absurd (hnil.1 e).1 (by simp)
         have O3 := hide hown2
         have G3 := hide hgrow
         have s3 := hl3
         clear hown hgrow hnil hown2)
      | (refine wpList_append_own _ rfl (.tmp 27) (.tmp 28) 29 rfl w2.heap.size 3 i0 (.int .i64 0) 1 8 Tryd.underlying29 hi hz0 hz1 hz2 rfl (by decide) (.slice (some ⟨g3, 0, none⟩) es.length vc3) es.length (cellsN es) rfl (World.ownsRow.alloc (unhide O3) _) ⟨w3.heap.size, 0, none⟩ 2 2 (cellsN [5, 6]) rfl rfl (cells_new w3 [5, 6]) (cellsN_one _) (by unfold maxLen; omega) (by omega) (by simp; omega) ?_
         intro v4 w4 hown hgrow hnil
         have O4 := hide (show OwnN w4 w2.heap.size v4 (es ++ [5, 6]) by unfold OwnN; rw [cellsN_append, List.length_append]; exact hown)
         have G4 := hide hgrow
         clear hown hgrow hnil))
    have g3' := unhide G3
    have g4' := unhide G4
    have z3 : (w2.alloc (Obj.cells #[] 3)).heap.size = w2.heap.size + 1 := by simp
    have z4 : (w3.alloc (Obj.cells #[.int .i64 5, .int .i64 6] 3)).heap.size = w3.heap.size + 1 := by simp
    have t3 := g3'.size
    have t4 := g4'.size
    rw [z3] at t3
    rw [z4] at t4
    have P2 : Below w2.heap.size w2 w4 := ((((Below.refl w2.heap.size w2).alloc (Nat.le_refl _) (Obj.cells #[] 3)).grown g3' (by rw [z3]; omega) (fun k e => by
      have : w2.heap.size = k := by simpa [Value.ownBlock] using e
      omega)).alloc (by omega) (Obj.cells #[.int .i64 5, .int .i64 6] 3)).grown g4' (by rw [z4]; omega) (fun k e => by
      have : g3 = k := by simpa [Value.ownBlock] using e
      omega)
    have S4 := hide ((unhide S2).trans (P2.mono (by omega)))
    have L4 := hide ((unhide O2).later P2)
    have D4 := hide (decI_own v4 (es ++ [5, 6]) _ 0 w4 ((unhide HTB).later (unhide HW _ (unhide S4))) (by simp; omega) (((unhide WD).app (ms := [5, 6]) (fun z hz => by simp at hz; omega)).bds) (unhide O4))
    rw [unhide V1] at D4
    have s4 : w2.heap.size ≤ w4.heap.size := P2.size
    clear g3' g4' z3 z4 t3 t4 P2 G3 G4 O3 O4 OE A2 K2 O2 S2 V1 hg3 hl3 hv3 s3
    refine (unhide D4).mono ?_
    rintro e w5 ⟨rfl, hb5⟩
    have s5 := hb5.size
    have S5 := hide ((unhide S4).trans (hb5.mono (by omega)))
    have L5 := hide ((unhide L4).later hb5)
    have E5 := hide (show (w5.alloc (Obj.cells #[.int .i64 op, .int .i64 sm, .int .i64 sr, .int .i64 sx, .int .i64 dm, .int .i64 dr, .int .i64 dx, .int .i64 n] 27)).heap.size = w5.heap.size + 1 by simp)
    have C5 := hide (fun w' h => box_cells w5 #[.int .i64 op, .int .i64 sm, .int .i64 sr, .int .i64 sx, .int .i64 dm, .int .i64 dr, .int .i64 dx, .int .i64 n] 27 w' h)
    have T5 := hide ((unhide HTB).later (unhide HW _ ((unhide S5).alloc (by omega) (Obj.cells #[.int .i64 op, .int .i64 sm, .int .i64 sr, .int .i64 sx, .int .i64 dm, .int .i64 dr, .int .i64 dx, .int .i64 n] 27))))
    clear hb5 D4 S4 L4
    obtain ⟨m, hmm⟩ : ∃ m, es.length = m + 1 := ⟨es.length - 1, by omega⟩
    have LC := hide (OwnN.cut (show OwnN (w5.alloc (Obj.cells #[.int .i64 op, .int .i64 sm, .int .i64 sr, .int .i64 sx, .int .i64 dm, .int .i64 dr, .int .i64 dx, .int .i64 n] 27)) _ (.slice (some ⟨g, 0, none⟩) (m + 1) vc) es by rw [← hmm]; exact World.ownsRow.alloc (unhide L5) _))
    have WC := hide (show Bds es.dropLast from (Wd.bds (fun z hz => unhide WD z (List.mem_of_mem_take (by rw [List.dropLast_eq_take] at hz; exact hz)))))
    have D5 := hide (decI_own _ es.dropLast _ 0 (w5.alloc (Obj.cells #[.int .i64 op, .int .i64 sm, .int .i64 sr, .int .i64 sx, .int .i64 dm, .int .i64 dr, .int .i64 dx, .int .i64 n] 27)) (unhide T5) (by simp; omega) (unhide WC) (unhide LC))
    rw [unhide V2] at D5
    unfold noV isZ zO Is.v at D5
    simp only at D5
    rw [hmm] at hvc hlen ⊢
    clear LC WC L5 T5 V2 hlp hln hpos hmm WD
    have hpm : (0 : Int) < (m : Int) + 1 := by omega
    go_wp2_with fail
    refine (unhide D5).mono ?_
    rintro e w6 ⟨rfl, hb6⟩
    have s6 := hb6.size
    have B6 := hide ((unhide S5).trans ((((Below.refl w5.heap.size w5).alloc (Nat.le_refl _) (Obj.cells #[.int .i64 op, .int .i64 sm, .int .i64 sr, .int .i64 sx, .int .i64 dm, .int .i64 dr, .int .i64 dx, .int .i64 n] 27)).trans (hb6.mono (by simp))).mono (by omega)))
    rw [unhide E5] at hb6 s6
    have CX := unhide HC w6 (unhide B6)
    have CY := unhide C5 w6 hb6
    have x0 : ∀ o, (w6.alloc o).cell? ⟨w1.heap.size, 0, none⟩ = some (.int .i64 op) := fun o => alloc_cell (CX 0 _ rfl) o
    have y0 : ∀ o, (w6.alloc o).cell? ⟨w5.heap.size, 0, none⟩ = some (.int .i64 op) := fun o => alloc_cell (CY 0 _ rfl) o
    have x1 : ∀ o, (w6.alloc o).cell? ⟨w1.heap.size, 1, none⟩ = some (.int .i64 sm) := fun o => alloc_cell (CX 1 _ rfl) o
    have y1 : ∀ o, (w6.alloc o).cell? ⟨w5.heap.size, 1, none⟩ = some (.int .i64 sm) := fun o => alloc_cell (CY 1 _ rfl) o
    have x2 : ∀ o, (w6.alloc o).cell? ⟨w1.heap.size, 2, none⟩ = some (.int .i64 sr) := fun o => alloc_cell (CX 2 _ rfl) o
    have y2 : ∀ o, (w6.alloc o).cell? ⟨w5.heap.size, 2, none⟩ = some (.int .i64 sr) := fun o => alloc_cell (CY 2 _ rfl) o
    have x3 : ∀ o, (w6.alloc o).cell? ⟨w1.heap.size, 3, none⟩ = some (.int .i64 sx) := fun o => alloc_cell (CX 3 _ rfl) o
    have y3 : ∀ o, (w6.alloc o).cell? ⟨w5.heap.size, 3, none⟩ = some (.int .i64 sx) := fun o => alloc_cell (CY 3 _ rfl) o
    have x4 : ∀ o, (w6.alloc o).cell? ⟨w1.heap.size, 4, none⟩ = some (.int .i64 dm) := fun o => alloc_cell (CX 4 _ rfl) o
    have y4 : ∀ o, (w6.alloc o).cell? ⟨w5.heap.size, 4, none⟩ = some (.int .i64 dm) := fun o => alloc_cell (CY 4 _ rfl) o
    have x5 : ∀ o, (w6.alloc o).cell? ⟨w1.heap.size, 5, none⟩ = some (.int .i64 dr) := fun o => alloc_cell (CX 5 _ rfl) o
    have y5 : ∀ o, (w6.alloc o).cell? ⟨w5.heap.size, 5, none⟩ = some (.int .i64 dr) := fun o => alloc_cell (CY 5 _ rfl) o
    have x6 : ∀ o, (w6.alloc o).cell? ⟨w1.heap.size, 6, none⟩ = some (.int .i64 dx) := fun o => alloc_cell (CX 6 _ rfl) o
    have y6 : ∀ o, (w6.alloc o).cell? ⟨w5.heap.size, 6, none⟩ = some (.int .i64 dx) := fun o => alloc_cell (CY 6 _ rfl) o
    have x7 : ∀ o, (w6.alloc o).cell? ⟨w1.heap.size, 7, none⟩ = some (.int .i64 n) := fun o => alloc_cell (CX 7 _ rfl) o
    have y7 : ∀ o, (w6.alloc o).cell? ⟨w5.heap.size, 7, none⟩ = some (.int .i64 n) := fun o => alloc_cell (CY 7 _ rfl) o
    have BF := hide (fun o => unhide HW _ ((unhide B6).alloc (by omega) o))
    clear CX CY hb6 D5 S5 C5 B6
    go_wp2
    go_ret
    exact ⟨rfl, unhide BF _⟩

set_option maxRecDepth 100000 in
theorem lifted (os : Os) (started : os.Started) (H : Type) (enc : TypeId × Value → H) :
    ReturnsInHanded {} Tryd.checked os 4 .any (fun w args => (Rows.fnNoTwoSpec.pre enc Tryd.prog Tryd.f4 [] false w args ∧ laidMetH Tryd.prog Rows.fnNoTwoRow.laid w) ∧ sizedMet enc Tryd.prog Tryd.f4 (OpenSpec.ofChange Rows.fnNoTwoSpec) false w args)
      (Rows.fnNoTwoSpec.post enc Tryd.prog Tryd.f4 false true false false) := by
  refine returnsInHanded_of_change_and (C := Tryd.checked) (X := fun w _ => laidMetH Tryd.prog Rows.fnNoTwoRow.laid w) (fun _ _ _ hh h => h.of_heap hh) own started (by kernel_rfl) Tryd.func4
    (ChangeSpec.witness_shaped (enc := enc) (C := Tryd.checked) (os := os) (X := fun w _ => laidMetH Tryd.prog Rows.fnNoTwoRow.laid w) false (World.laidAll Tryd.prog os Rows.fnNoTwoRow.laid) #[.slice none 0 0] 8 (World.laidAll_os _ _ _)
      (World.shaped_of_ZipB (by kernel_rfl) (by kernel_rfl)) (by kernel_rfl) (by kernel_rfl) (by kernel_rfl)
      (by rw [MakeChecks.laidMetH_plain _ _ _ (by kernel_rfl)]; exact laidMet_laidAll _ (by kernel_rfl) (by kernel_rfl))) ?_
  intro W base args ds gs before hval0 hW _ _ hL _
  have hval : ∀ (j : Nat) t v, Tryd.f4.params[j]? = some t → args[j]? = some v → Value.okWide Tryd.prog W .any base t v := hval0
  have hW' := hW
  obtain ⟨p, q, hA0, hV, rfl, hfz, hnd⟩ := hW
  have hA : DataW.TrodAll enc Tryd.prog W 0 (fun _ => true) true Tryd.f4.params.toList args.toList ds p := hA0
  rw [Tryd.params4] at hA hval
  obtain ⟨v0, vs0, d0, ds0, p0, q0, hargs, rfl, rfl, h0, r0⟩ := trodAll_cons hA
  obtain ⟨rfl, rfl, rfl⟩ := trodAll_nil r0
  obtain rfl : args = #[v0] := by cases args; simp_all
  have kV := hV
  obtain ⟨gv, tv, cv, fv, dv, pv, rfl, _⟩ := trodVars_one hV
  have k0 := h0
  have lt0 : ∀ x ∈ p0, x.block < W.heap.size := by obtain ⟨m, hm⟩ := k0; exact DataW.trod_lt m _ _ _ hm
  obtain ⟨a0, len0, cap0, rfl⟩ := okWide_slice Tryd.underlying22 (hval 0 22 v0 rfl rfl)
  obtain ⟨z0, w0⟩ : ∃ zs, IsRow .u8 W a0 len0 cap0 zs := by
    obtain ⟨fuel, hf⟩ := h0
    rcases open_ints Tryd.underlying22 Tryd.underlying5 (by kernel_rfl) hf with ⟨hcs, _⟩ | ⟨x, l, c, zs, hcs, _, hl, hm, hz, _, hcell, hwz⟩
    · simp [Value.cells] at hcs
      obtain ⟨rfl, rfl, rfl⟩ := hcs
      exact ⟨[], .inl ⟨rfl, rfl, rfl, rfl⟩⟩
    · simp [Value.cells] at hcs
      obtain ⟨rfl, rfl, rfl⟩ := hcs
      exact ⟨zs, .inr ⟨_, rfl, hl, hm, by simpa using hz, hcell, hwz⟩⟩
  clear hA0 hval0
  refine (walk a0 len0 cap0 z0 W w0 (tab_of_laid hL)).mono fun e W' ⟨he, bel⟩ => ?_
  subst he
  exact ⟨_, rfl, _, _, _, [], _, _, hW', trodAll_mk1 (shut_bool Tryd.underlying4 _), (trodAll_cons_mk (Below.trod laidOut (by kernel_rfl) (of_decide_eq_true (by kernel_rfl)) k0 bel lt0) trodAll_mk0), bel.trodVars laidOut (by kernel_rfl) kV, bel.frame _, fun h => by cases h⟩

theorem proved : Rows.FnNoTwoSaid :=
  OpenClaim.holds_of_wide 4 Tryd.f4 rfl rfl rfl rfl rfl rfl rfl ⟨rfl, rfl, rfl, rfl, rfl⟩ rfl rfl rfl rfl rfl (by kernel_rfl) Tryd.func4 (by kernel_rfl)
    (of_decide_eq_true (by kernel_rfl)) (by unfold Func.isWrapper; first | (rw [if_pos (by decide +kernel)]; kernel_rfl) | (rw [if_neg (by decide +kernel)]; exact ⟨rfl, rfl⟩))
    (fun os started H enc _ => lifted os started H enc)
end Go.Proofs.YtomoakfemdjpbaaDoor.fnNoTwo

namespace Go.Proofs.YtomoakfemdjpbaaDoor
theorem fnNoTwo_holds : Rows.FnNoTwoCardSaid :=
  Claim7.holds_tied_plain_at .later [] [.data] true (true, "9746663066c250d338f27c0162c702558549db257cec92d0bdd35661a76f4db4") false
    fnNoTwo.proved (fun _ h => by cases h) (by kernel_rfl) (fun _ h => by cases h) fnNoTwo_row_tie rfl ⟨rfl, rfl⟩ (by kernel_rfl) rfl
    (fun f fn hf hfn => by
      obtain rfl : f = 4 := Option.some.inj ((show Tryd.prog.funcNamed "loop.example/g00329/laws.FnNoTwo" = some 4 by kernel_rfl).symm.trans hf) |>.symm
      obtain rfl : fn = Tryd.f4 := (Option.some.inj (Tryd.func4.symm.trans hfn)).symm
      exact ⟨by kernel_rfl, fun j t ht => by
        rw [Tryd.params4] at ht
        have hm : t ∈ [22] := by simpa using Array.mem_of_getElem? ht
        have hall : ([22].all fun u => !Tryd.prog.wantsStandIn u) = true := by kernel_rfl
        exact (show Tryd.prog.wantsStandIn t = false by simpa using List.all_eq_true.1 hall t hm)⟩)
    (by kernel_rfl)
#print axioms fnNoTwo_holds
end Go.Proofs.YtomoakfemdjpbaaDoor
