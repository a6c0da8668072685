/- For every slice of bytes: a drawn instruction that is right comes back of its words, which are as many as it has; what is read of drawn words has just these words: the law FnCodes returns true at every argument; the table that the card lists is as the program's text lays it. -/
import Derived.Test.YtomoakfemdjpbaaDoorRows
import Derived.Test.YtomoakfemdjpbaaDoorLaid
import Derived.Test.YtomoakfemdjpbaaDoorDrwF
import Derived.Test.YtomoakfemdjpbaaDoorBack
import Derived.Test.YtomoakfemdjpbaaDoorMarks
import Derived.Deep.CutRange
import Derived.Deep.RegionWith
import Derived.Test.YtomoakfemdjpbaaDoorTie
import Derived.Test.YtomoakfemdjpbaaDoorCards
import Derived.SevenTiedAt
import Derived.Lay
import Derived.MakeChecks
import Derived.OpenVars
import Derived.WalkKit
import Derived.ProofKit
import Derived.OpenShut
import Derived.ShutString
import Derived.ChangeOld
import Derived.Below
namespace Go.Proofs.YtomoakfemdjpbaaDoor.fnCodes
open Go.ChangeShapes Go.WideShapes Go.ChangeAt Go.RowKit
open Go.ChangeMaps (open_string shut_string)
set_option linter.unusedVariables false

theorem decV_enc (i : Is) (h : i.ok = true) (t : List Int) : decV (i.enc ++ t) 0 = .tuple #[i.v, .int .i64 (i.enc.length : Int), .bool true] := by
  obtain ⟨h1, h2, h3⟩ := dec_enc i h t
  rw [← decV_yes h1, h2, ← h3]
  simp
theorem below_drew (w : World) : Below w.heap.size w w.drew := ⟨rfl, rfl, rfl, Nat.le_refl _, fun _ _ => rfl⟩
theorem RdN.sub {w : World} {b p m : Nat} {ns : List Int} (h : RdN w (some ⟨b, 0, none⟩) ns) (hp : p + m ≤ ns.length) : RdN w (some ⟨b, p, none⟩) ((ns.drop p).take m) := by
  rcases h with h0 | ⟨b', off, e, hlt, hc⟩
  · subst h0
    left
    simp at hp
    simp
  · simp at e
    obtain ⟨rfl, rfl⟩ := e
    refine .inr ⟨b, p, rfl, hlt, fun i hi => ?_⟩
    have hi' : i < m := by simp at hi; omega
    have := hc (p + i) (by omega)
    rw [Nat.zero_add] at this
    rw [this]
    unfold nAt
    rw [List.getD_eq_getElem?_getD, List.getD_eq_getElem?_getD, List.getElem?_take, if_pos hi', List.getElem?_drop]
set_option maxHeartbeats 8000000 in
set_option maxRecDepth 100000 in
theorem walk (a0 : Option Addr) (len0 cap0 : Nat) (z0 : List Int) (w : World) (w0 : IsRow .u8 w a0 len0 cap0 z0) (ht : Tab w) :
    Calls Tryd.prog 3 #[.slice a0 len0 cap0] w fun e w' => e = .returned (.bool true) ∧ Below w.heap.size w w' := by
  obtain ⟨xs, hl, hlc, hm, hr⟩ := rd_of_row w0
  unfold maxLen at hm
  clear w0
  by_cases hbig : 1048576 < len0
  · go_enter Tryd.func3, Tryd.ntmps3
    go_wp2_with fail
    refine (big_any a0 len0 cap0 w (by omega)).mono ?_
    rintro e w' ⟨he, hw'⟩
    rw [show decide ((1048576 : Int) < (len0 : Int)) = true by simp; omega] at he
    rw [hw', he]
    clear hw' he w'
    go_wp2
    go_ret
    exact ⟨rfl, Below.refl _ _⟩
  · have HTB := hide ht
    clear ht
    go_enter Tryd.func3, Tryd.ntmps3
    go_wp2_with fail
    refine (big_any a0 len0 cap0 w (by omega)).mono ?_
    rintro e w' ⟨he, hw'⟩
    rw [show decide ((1048576 : Int) < (len0 : Int)) = false by simp; omega] at he
    rw [hw', he]
    clear hw' he w'
    go_wp2_with fail
    refine (drawEnc_any a0 len0 cap0 xs w hl (by omega) hr).mono ?_
    rintro e w1 ⟨i, rfl, hb1⟩
    have hlen := enc_len3 i
    have EI := hide (fun (w : World) (t : Tab w) => encI_any i w t)
    have IS := hide (fun (w : World) => insOk_any i w)
    have II := hide (fun (w : World) => insOkI_any i w)
    have WI := hide (fun (w : World) => wordsI_any i w)
    have WD := hide (enc_wd i)
    have VE := hide (fun (h : i.ok = true) => decV_enc i h [])
    have EN := hide (show i.ok = false → i.enc = [] from fun h => by unfold Is.enc; rw [h]; rfl)
    have WO := hide (show i.ok = true → i.words = (i.enc.length : Int) from fun h => by rw [words_ok h, enc_length h]; simp)
    obtain ⟨op, ⟨sm, sr, sx⟩, ⟨dm, dr, dx⟩, n⟩ := i
    have B1 := hide hb1
    have HE := hide (show (w1.alloc (Obj.cells #[.int .i64 op, .int .i64 sm, .int .i64 sr, .int .i64 sx, .int .i64 dm, .int .i64 dr, .int .i64 dx, .int .i64 n] 27)).heap.size = w1.heap.size + 1 by simp)
    have HW := hide (fun (w' : World) (h : Below (w1.heap.size + 1) (w1.alloc (Obj.cells #[.int .i64 op, .int .i64 sm, .int .i64 sr, .int .i64 sx, .int .i64 dm, .int .i64 dr, .int .i64 dx, .int .i64 n] 27)) w') => (unhide B1).trans ((box_below w1 _ w' h).mono (unhide B1).size))
    have HC := hide (fun (w' : World) (h : Below (w1.heap.size + 1) (w1.alloc (Obj.cells #[.int .i64 op, .int .i64 sm, .int .i64 sr, .int .i64 sx, .int .i64 dm, .int .i64 dr, .int .i64 dx, .int .i64 n] 27)) w') => box_cells w1 #[.int .i64 op, .int .i64 sm, .int .i64 sr, .int .i64 sx, .int .i64 dm, .int .i64 dr, .int .i64 dx, .int .i64 n] 27 w' h)
    have s1 := hb1.size
    have S0 := hide (Below.refl (w1.heap.size + 1) (w1.alloc (Obj.cells #[.int .i64 op, .int .i64 sm, .int .i64 sr, .int .i64 sx, .int .i64 dm, .int .i64 dr, .int .i64 dx, .int .i64 n] 27)))
    clear hb1
    generalize Is.enc ⟨op, ⟨sm, sr, sx⟩, ⟨dm, dr, dx⟩, n⟩ = es at hlen EI WD VE EN WO
    generalize Is.ok ⟨op, ⟨sm, sr, sx⟩, ⟨dm, dr, dx⟩, n⟩ = ok at IS II VE EN WO
    generalize Is.words ⟨op, ⟨sm, sr, sx⟩, ⟨dm, dr, dx⟩, n⟩ = wds at WI WO
    unfold Is.v at EI IS II WI VE ⊢
    simp only at EI IS II WI VE ⊢
    go_wp2_with fail
    refine (unhide EI _ ((unhide HTB).later (unhide HW _ (unhide S0)))).mono ?_
    rintro e w2 ⟨v2, rfl, hne, own2, hb2⟩
    have s2 := hb2.size
    rw [unhide HE] at hb2 s2 own2
    have S2 := hide hb2
    rcases own2.form with ⟨e, _⟩ | ⟨g, vc, rfl, hgb, hgl, hvc, hvm⟩
    · exact absurd e hne
    have O2 := hide own2
    clear own2 hb2 hne S0 EI
    go_wp2_with fail
    refine (drawDec_any a0 len0 cap0 xs w2 hl (by omega) (hr.later (unhide HW _ (unhide S2)))).mono ?_
    rintro e w3 ⟨v3, ns, j, rfl, own3, hlg, hnl, hjb, hb3⟩
    have s3 := hb3.size
    have S3 := hide ((unhide S2).trans (hb3.mono (by omega)))
    have O2' := hide ((unhide O2).later hb3)
    obtain ⟨a3, cap3, hv3, hc3, _, _⟩ := own3.rd
    subst hv3
    have QI := hide (decI_own _ ns _ j w3 ((unhide HTB).later (unhide HW _ (unhide S3))) (by omega) hlg.bds own3)
    have O3 := hide own3
    have VD := hide (enc_dec ns j.toNat)
    clear own3 hb3 S2 O2 hlg
    have JN := hide (show decOk ns j = true → j = (j.toNat : Int) from fun h => by
      cases e : decIn ns j
      · rw [decOk_out e] at h; cases h
      · unfold decIn inB at e
        simp at e
        omega)
    have YV : ∃ y : Is, decIs ns j = y ∧ (decOk ns j = true → y = decX ns j) := ⟨_, rfl, fun h => by unfold decIs; rw [if_pos h]⟩
    obtain ⟨y, hy, hyx⟩ := YV
    have NV : ∃ q : Int, decN ns j = q ∧ (decOk ns j = true → q = 1 + ((dOp (nAt ns j.toNat)).need : Int)) := ⟨_, rfl, fun h => by unfold decN; rw [if_pos h]⟩
    obtain ⟨q, hq, hqn⟩ := NV
    have QS := hide (fun (w : World) (h : OwnN w w2.heap.size (.slice a3 ns.length cap3) ns) => decS_own _ ns _ j w (by omega) h)
    unfold decV at QI QS
    rw [hy, hq] at QI QS
    obtain ⟨K, hK⟩ : ∃ K, decOk ns j = K := ⟨_, rfl⟩
    rw [hK] at QI QS hyx hqn JN
    have FA := hide (show K = true → y.ok = true ∧ y.words = q ∧ 0 ≤ j ∧ j + q ≤ ns.length ∧ 0 ≤ q ∧ y.enc = (ns.drop j.toNat).take q.toNat from fun h => by
      have hj := unhide JN h
      have hv := unhide VD (by rw [← hj, hK, h])
      rw [← hj] at hv
      rw [hyx h, hqn h]
      exact ⟨hv.1, hv.2.1, by omega, by omega, by omega, by rw [hv.2.2.2]; congr 1⟩)
    have YI := hide (fun (w : World) => insOkI_any y w)
    have YW := hide (fun (w : World) => wordsI_any y w)
    have YE := hide (fun (w : World) (t : Tab w) => encI_any y w t)
    have QP := hide (show K = true → 1 ≤ q from fun h => by rw [hqn h]; omega)
    clear hy hyx hq hqn hK VD JN
    generalize hyo : y.ok = yo at YI FA
    generalize hyw : y.words = yw at YW FA
    have hye3 := enc_len3 y
    generalize hye : y.enc = ye at YE FA hye3
    obtain ⟨yop, ⟨ysm, ysr, ysx⟩, ⟨ydm, ydr, ydx⟩, yn⟩ := y
    unfold Is.v at QI QS YI YW YE
    simp only at QI QS YI YW YE
    clear hyo hyw hye
    go_wp2_with fail
    refine (unhide QI).mono ?_
    rintro e w4 ⟨rfl, hb4⟩
    have s4 := hb4.size
    have S4 := hide ((unhide S3).trans (hb4.mono (by omega)))
    have C4 := hide (fun w' h => box_cells w4 #[.int .i64 yop, .int .i64 ysm, .int .i64 ysr, .int .i64 ysx, .int .i64 ydm, .int .i64 ydr, .int .i64 ydx, .int .i64 yn] 27 w' h)
    have E4 := hide (show (w4.alloc (Obj.cells #[.int .i64 yop, .int .i64 ysm, .int .i64 ysr, .int .i64 ysx, .int .i64 ydm, .int .i64 ydr, .int .i64 ydx, .int .i64 yn] 27)).heap.size = w4.heap.size + 1 by simp)
    have O4 := hide (World.ownsRow.alloc ((unhide O3).later hb4) (Obj.cells #[.int .i64 yop, .int .i64 ysm, .int .i64 ysr, .int .i64 ysx, .int .i64 ydm, .int .i64 ydr, .int .i64 ydx, .int .i64 yn] 27))
    have O24 := hide (World.ownsRow.alloc ((unhide O2').later hb4) (Obj.cells #[.int .i64 yop, .int .i64 ysm, .int .i64 ysr, .int .i64 ysx, .int .i64 ydm, .int .i64 ydr, .int .i64 ydx, .int .i64 yn] 27))
    have R4 := hide ((unhide S4).alloc (by omega) (Obj.cells #[.int .i64 yop, .int .i64 ysm, .int .i64 ysr, .int .i64 ysx, .int .i64 ydm, .int .i64 ydr, .int .i64 ydx, .int .i64 yn] 27))
    clear hb4 S3 O3 O2' QI
    go_wp2_with fail
    refine (unhide QS _ (unhide O4)).mono ?_
    rintro e w5 ⟨rfl, hb5⟩
    have s5 := hb5.size
    have S5 := hide ((unhide R4).trans (hb5.mono (by rw [unhide E4]; omega)))
    have D5 := hide (show Below (w4.heap.size + 1) (w4.alloc (Obj.cells #[.int .i64 yop, .int .i64 ysm, .int .i64 ysr, .int .i64 ysx, .int .i64 ydm, .int .i64 ydr, .int .i64 ydx, .int .i64 yn] 27)) w5 by rw [unhide E4] at hb5; exact hb5)
    have O5 := hide (show OwnN w5 _ (.slice a3 ns.length cap3) ns from OwnN.later (unhide O4) hb5)
    have O25 := hide (show OwnN w5 _ (.slice (some ⟨g, 0, none⟩) es.length vc) es from OwnN.later (unhide O24) hb5)
    rw [unhide E4] at s5
    obtain ⟨B0, hB0⟩ : ∃ b, w5.heap.size + 1 = b := ⟨_, rfl⟩
    obtain ⟨W0, hW0⟩ : ∃ W, w5.alloc (Obj.cells #[.int .i64 yop, .int .i64 ysm, .int .i64 ysr, .int .i64 ysx, .int .i64 ydm, .int .i64 ydr, .int .i64 ydx, .int .i64 yn] 27) = W := ⟨_, rfl⟩
    have HZ := hide (show B0 ≤ W0.heap.size by rw [← hB0, ← hW0]; simp)
    have BB := hide (fun (z : Sub B0 W0) => box_below w5 (Obj.cells #[.int .i64 yop, .int .i64 ysm, .int .i64 ysr, .int .i64 ysx, .int .i64 ydm, .int .i64 ydr, .int .i64 ydx, .int .i64 yn] 27) z.w (by rw [hB0, hW0]; exact z.h))
    have ne := Sub.ne B0 W0
    have CY := hide (fun (z : Sub B0 W0) => unhide C4 z.w ((unhide D5).trans ((unhide BB z).mono (by omega))))
    have CX := hide (fun (z : Sub B0 W0) => unhide HC z.w ((unhide S5).trans ((unhide BB z).mono (by omega))))
    have TZ := hide (fun (z : Sub B0 W0) => (unhide HTB).later (unhide HW _ ((unhide S5).trans ((unhide BB z).mono (by omega)))))
    have BZ := hide (fun (z : Sub B0 W0) => unhide HW _ ((unhide S5).trans ((unhide BB z).mono (by omega))))
    have OZ := hide (fun (z : Sub B0 W0) => (unhide O5).later (unhide BB z))
    have O2Z := hide (fun (z : Sub B0 W0) => (unhide O25).later (unhide BB z))
    have SZ := hide (fun (z : Sub B0 W0) => (show B0 ≤ z.w.heap.size from Nat.le_trans (unhide HZ) z.h.size))
    have GO := hide (fun (z : Sub B0 W0) (w' : World) (hb : Below z.w.heap.size z.w w') => (⟨⟨w', z.h.trans (hb.mono (unhide SZ z))⟩, rfl⟩ : ∃ z' : Sub B0 W0, w' = z'.w))
    have y0 : ∀ z : Sub B0 W0, z.w.cell? ⟨w4.heap.size, 0, none⟩ = some (.int .i64 yop) := fun z => unhide CY z 0 _ rfl
    have x0 : ∀ z : Sub B0 W0, z.w.cell? ⟨w1.heap.size, 0, none⟩ = some (.int .i64 op) := fun z => unhide CX z 0 _ rfl
    have y1 : ∀ z : Sub B0 W0, z.w.cell? ⟨w4.heap.size, 1, none⟩ = some (.int .i64 ysm) := fun z => unhide CY z 1 _ rfl
    have x1 : ∀ z : Sub B0 W0, z.w.cell? ⟨w1.heap.size, 1, none⟩ = some (.int .i64 sm) := fun z => unhide CX z 1 _ rfl
    have y2 : ∀ z : Sub B0 W0, z.w.cell? ⟨w4.heap.size, 2, none⟩ = some (.int .i64 ysr) := fun z => unhide CY z 2 _ rfl
    have x2 : ∀ z : Sub B0 W0, z.w.cell? ⟨w1.heap.size, 2, none⟩ = some (.int .i64 sr) := fun z => unhide CX z 2 _ rfl
    have y3 : ∀ z : Sub B0 W0, z.w.cell? ⟨w4.heap.size, 3, none⟩ = some (.int .i64 ysx) := fun z => unhide CY z 3 _ rfl
    have x3 : ∀ z : Sub B0 W0, z.w.cell? ⟨w1.heap.size, 3, none⟩ = some (.int .i64 sx) := fun z => unhide CX z 3 _ rfl
    have y4 : ∀ z : Sub B0 W0, z.w.cell? ⟨w4.heap.size, 4, none⟩ = some (.int .i64 ydm) := fun z => unhide CY z 4 _ rfl
    have x4 : ∀ z : Sub B0 W0, z.w.cell? ⟨w1.heap.size, 4, none⟩ = some (.int .i64 dm) := fun z => unhide CX z 4 _ rfl
    have y5 : ∀ z : Sub B0 W0, z.w.cell? ⟨w4.heap.size, 5, none⟩ = some (.int .i64 ydr) := fun z => unhide CY z 5 _ rfl
    have x5 : ∀ z : Sub B0 W0, z.w.cell? ⟨w1.heap.size, 5, none⟩ = some (.int .i64 dr) := fun z => unhide CX z 5 _ rfl
    have y6 : ∀ z : Sub B0 W0, z.w.cell? ⟨w4.heap.size, 6, none⟩ = some (.int .i64 ydx) := fun z => unhide CY z 6 _ rfl
    have x6 : ∀ z : Sub B0 W0, z.w.cell? ⟨w1.heap.size, 6, none⟩ = some (.int .i64 dx) := fun z => unhide CX z 6 _ rfl
    have y7 : ∀ z : Sub B0 W0, z.w.cell? ⟨w4.heap.size, 7, none⟩ = some (.int .i64 yn) := fun z => unhide CY z 7 _ rfl
    have x7 : ∀ z : Sub B0 W0, z.w.cell? ⟨w1.heap.size, 7, none⟩ = some (.int .i64 n) := fun z => unhide CX z 7 _ rfl
    have GD := hide (fun (z : Sub B0 W0) (w' : World) (hb : Below z.w.drew.heap.size z.w.drew w') => (⟨⟨w', z.h.drew.trans (hb.mono (unhide SZ z))⟩, rfl⟩ : ∃ z' : Sub B0 W0, w' = z'.w))
    have GA := hide (fun (z : Sub B0 W0) (w' : World) (o : Obj) (hb : Below (z.w.alloc o).heap.size (z.w.alloc o) w') => (⟨⟨w', (z.h.alloc (unhide SZ z) o).trans (hb.mono (by have := unhide SZ z; simp; omega))⟩, rfl⟩ : ∃ z' : Sub B0 W0, w' = z'.w))
    clear hb5 O4 O24 R4 C4 HC S4 QS
    go_upto_region 8 with fail
    try rw [hW0]
    go_cut [69] from 41 (fun v69 wx => v69 = .bool false ∧ ∃ z : Sub B0 W0, wx = z.w)
    case first =>
      cases K
      · refine wp_region_sub (⟨W0, Below.refl _ _⟩ : Sub B0 W0) (by kernel_rfl) (by kernel_rfl) ?_
        repeat (go_big_quiet_step (fail))
        refine wpQuiet_nil ?_
        intro z
        go_wp2_with fail
        go_meet
        exact ⟨rfl, z, rfl⟩
      · obtain ⟨f1, f2, f3, f4, f5, f6⟩ := unhide FA rfl
        obtain ⟨z5, hz5⟩ : ∃ z : Sub B0 W0, W0 = z.w := ⟨⟨W0, Below.refl _ _⟩, rfl⟩
        rw [hz5]
        clear hz5 FA
        obtain ⟨p, rfl⟩ := Int.eq_ofNat_of_zero_le f3
        obtain ⟨m, rfl⟩ := Int.eq_ofNat_of_zero_le f5
        subst f1
        rw [f2] at YW
        rw [Int.toNat_natCast, Int.toNat_natCast] at f6
        have hm1 : 1 ≤ m := by have := unhide QP rfl; omega
        have hyl : ye.length = m := by rw [f6, List.length_take, List.length_drop]; omega
        rcases (unhide OZ z5).form with ⟨e, h0⟩ | ⟨b3, c3, e, _, _, hc3b, _⟩
        · rw [h0] at f4; simp at f4; omega
        simp at e
        obtain ⟨rfl, rfl⟩ := e
        have SI := hide (fun (z : Sub B0 W0) (g8 vc8 B : Nat) (h : OwnN z.w B (.slice (some ⟨g8, 0, none⟩) m vc8) ye) (c2 : Nat) => sameInts_any (some ⟨g8, 0, none⟩) (some ⟨b3, p, none⟩) m vc8 c2 ye z.w hyl (by omega) h.rd1 (by rw [f6]; exact RdN.sub ((unhide OZ z).rd1) (by omega)))
        have YF := hide (show ∀ (z : Sub B0 W0) (w8 : World) (v8 : Value) (B : Nat), v8 ≠ .slice none 0 0 → OwnN w8 B v8 ye → ∃ g8 vc8, v8 = .slice (some ⟨g8, 0, none⟩) m vc8 from fun z w8 v8 B h1 h2 => by
          rcases h2.form with ⟨e, _⟩ | ⟨g8, vc8, e, _⟩
          · exact absurd e h1
          · rw [hyl] at e; exact ⟨g8, vc8, e⟩)
        have k1 : ¬ cap3 = p := by omega
        have k2 : p + m ≤ cap3 := by omega
        have k3 : IntKind.i64.wrap ((p : Int) + (m : Int)) = (p : Int) + (m : Int) := by rw [IntKind.wrap_i64]; omega
        have k4 : ((p : Int) + (m : Int)).toNat = p + m := by omega
        have k5 : (p : Int) + (m : Int) ≤ (cap3 : Int) := by omega
        have k6 : (0 : Int) ≤ (p : Int) + (m : Int) := by omega
        have k7 : (p : Int) ≤ (p : Int) + (m : Int) := by omega
        have k8 : p + m - p = m := by omega
        clear f2 f3 f5 f6 hyl hye3 QP x0 x1 x2 x3 x4 x5 x6 x7 IS II WI WD VE EN WO B1 HE HW S5 D5 O5 O25 CY CX BZ OZ O2Z E4 HTB hr hl hlc hm hbig s1 s2 s3 s4 s5 hgb hgl hvc hvm hlen hnl hjb hc3 hc3b HZ SZ
        clear hB0 hW0 BB
        refine wp_region_any (by kernel_rfl) ?_
        change wpAny _ _ _ _ _ _ _ (World.drew _)
        refine wpAny_take (i := 0) (v := .bool true) rfl (by kernel_rfl) (by kernel_rfl) (by kernel_rfl) (fun _ _ _ h => h) (Or.inl ⟨by rfl, fun w => ?_⟩) ?_
        · go_simp
        go_simp
        refine wpAny_take (i := 1) (v := .bool true) rfl (by kernel_rfl) (by kernel_rfl) (by kernel_rfl) (fun _ _ _ h => h) (Or.inl ⟨by rfl, fun w => ?_⟩) ?_
        · go_simp
        go_simp
        refine wpAny_take (i := 2) (v := .bool false) rfl (by kernel_rfl) (by kernel_rfl) (by kernel_rfl) (fun _ _ _ h => h) (Or.inl ⟨by rfl, fun w => ?_⟩) ?_
        · go_simp
        go_simp
        refine wpAny_take (i := 3) (v := .bool false) rfl (by kernel_rfl) (by kernel_rfl) (by kernel_rfl) (fun _ _ _ h => h) (Or.inl ⟨by rfl, fun w => ?_⟩) ?_
        · go_simp
        go_simp
        refine wpAny_take (i := 4) (v := .bool true) rfl (by kernel_rfl) (by kernel_rfl) (by kernel_rfl) (fun _ _ _ h => h) (Or.inl ⟨by rfl, fun w => ?_⟩) ?_
        · go_simp
        go_simp
        refine wpAny_take (i := 5) (v := .bool true) rfl (by kernel_rfl) (by kernel_rfl) (by kernel_rfl) (fun _ _ _ h => h) (Or.inl ⟨by rfl, fun w => ?_⟩) ?_
        · go_simp
        go_simp
        refine wpAny_ready (rs := [6]) (by kernel_rfl) (by simp) ?_
        refine AllReady.cons rfl (fun K hK => ?_) AllReady.nil
        go_simp
        refine hK _ _ ?_
        clear hK K
        refine wpAny_ready (rs := [7]) (by kernel_rfl) (by simp) ?_
        refine AllReady.cons rfl (fun K hK => ?_) AllReady.nil
        go_simp
        go_wp2_with (go_at_call 13; refine (unhide YI _).mono ?_; rintro e w6 ⟨rfl, hb6⟩; obtain ⟨z6, rfl⟩ := unhide GD z5 w6 hb6; clear hb6)
        try (refine hK _ _ ?_; clear hK K)
        refine wpAny_take (i := 8) (v := .bool false) rfl (by kernel_rfl) (by kernel_rfl) (by kernel_rfl) (fun _ _ _ h => h) (Or.inl ⟨by rfl, fun w => ?_⟩) ?_
        · go_simp
        go_simp
        refine wpAny_take (i := 9) (v := .bool false) rfl (by kernel_rfl) (by kernel_rfl) (by kernel_rfl) (fun _ _ _ h => h) (Or.inl ⟨by rfl, fun w => ?_⟩) ?_
        · go_simp
        go_simp
        refine wpAny_take (i := 12) (v := .int .i64 (m : Int)) rfl (by kernel_rfl) (by kernel_rfl) (by kernel_rfl) (fun _ _ _ h => h) (Or.inl ⟨by rfl, fun w => ?_⟩) ?_
        · go_simp
        go_simp
        refine wpAny_ready (rs := [10]) (by kernel_rfl) (by simp) ?_
        refine AllReady.cons rfl (fun K hK => ?_) AllReady.nil
        go_simp
        refine hK _ _ ?_
        clear hK K
        refine wpAny_ready (rs := [11]) (by kernel_rfl) (by simp) ?_
        refine AllReady.cons rfl (fun K hK => ?_) AllReady.nil
        go_simp
        go_wp2_with (go_at_call 14; refine (unhide YW _).mono ?_; rintro e w7 ⟨rfl, hb7⟩; obtain ⟨z7, rfl⟩ := unhide GO z6 w7 hb7; clear hb7)
        try (refine hK _ _ ?_; clear hK K)
        refine wpAny_take (i := 13) (v := .bool false) rfl (by kernel_rfl) (by kernel_rfl) (by kernel_rfl) (fun _ _ _ h => h) (Or.inl ⟨by rfl, fun w => ?_⟩) ?_
        · go_simp
        go_simp
        refine wpAny_take (i := 14) (v := .bool false) rfl (by kernel_rfl) (by kernel_rfl) (by kernel_rfl) (fun _ _ _ h => h) (Or.inl ⟨by rfl, fun w => ?_⟩) ?_
        · go_simp
        go_simp
        refine wpAny_take (i := 15) (v := .bool false) rfl (by kernel_rfl) (by kernel_rfl) (by kernel_rfl) (fun _ _ _ h => h) (Or.inl ⟨by rfl, fun w => ?_⟩) ?_
        · go_simp
        go_simp
        refine wpAny_take (i := 18) (v := .slice (some ⟨b3, 0, none⟩) ns.length cap3) rfl (by kernel_rfl) (by kernel_rfl) (by kernel_rfl) (fun _ _ _ h => h) (Or.inl ⟨by rfl, fun w => ?_⟩) ?_
        · go_simp
        go_simp
        refine wpAny_take (i := 19) (v := .int .i64 (p : Int)) rfl (by kernel_rfl) (by kernel_rfl) (by kernel_rfl) (fun _ _ _ h => h) (Or.inl ⟨by rfl, fun w => ?_⟩) ?_
        · go_simp
        go_simp
        refine wpAny_take (i := 20) (v := .int .i64 (p : Int)) rfl (by kernel_rfl) (by kernel_rfl) (by kernel_rfl) (fun _ _ _ h => h) (Or.inl ⟨by rfl, fun w => ?_⟩) ?_
        · go_simp
        go_simp
        refine wpAny_take (i := 21) (v := .int .i64 (m : Int)) rfl (by kernel_rfl) (by kernel_rfl) (by kernel_rfl) (fun _ _ _ h => h) (Or.inl ⟨by rfl, fun w => ?_⟩) ?_
        · go_simp
        go_simp
        refine wpAny_take (i := 22) (v := .int .i64 ((p : Int) + (m : Int))) rfl (by kernel_rfl) (by kernel_rfl) (by kernel_rfl) (fun _ _ _ h => h) (Or.inl ⟨by rfl, fun w => ?_⟩) ?_
        · go_simp
        go_simp
        refine wpAny_take (i := 23) (v := .slice (some ⟨b3, p, none⟩) m (cap3 - p)) rfl (by kernel_rfl) (by kernel_rfl) (by kernel_rfl) (fun _ _ _ h => h) (Or.inl ⟨by rfl, fun w => ?_⟩) ?_
        · go_simp
        go_simp
        refine wpAny_ready (rs := [16]) (by kernel_rfl) (by simp) ?_
        refine AllReady.cons rfl (fun K hK => ?_) AllReady.nil
        go_simp
        refine hK _ _ ?_
        clear hK K
        refine wpAny_ready (rs := [17]) (by kernel_rfl) (by simp) ?_
        refine AllReady.cons rfl (fun K hK => ?_) AllReady.nil
        go_simp
        go_wp2_with (go_at_call 9; refine (unhide YE _ (unhide TZ z7)).mono ?_; rintro e w8 ⟨v8, rfl, hne8, own8, hb8⟩; obtain ⟨z8, rfl⟩ := unhide GO z7 w8 hb8; obtain ⟨g8, vc8, rfl⟩ := unhide YF z8 _ _ _ hne8 own8; have O8 := hide own8; clear hb8 own8 hne8)
        try (refine hK _ _ ?_; clear hK K)
        refine wpAny_ready (rs := [24]) (by kernel_rfl) (by simp) ?_
        refine AllReady.cons rfl (fun K hK => ?_) AllReady.nil
        go_simp
        go_wp2_with (go_at_call 15; refine (unhide SI z8 g8 vc8 _ (unhide O8) _).mono ?_; rintro e w9 ⟨rfl, hb9⟩; obtain ⟨z9, rfl⟩ := unhide GO z8 w9 hb9; clear hb9)
        try (refine hK _ _ ?_; clear hK K)
        refine wpAny_take (i := 25) (v := .bool false) rfl (by kernel_rfl) (by kernel_rfl) (by kernel_rfl) (fun _ _ _ h => h) (Or.inl ⟨by rfl, fun w => ?_⟩) ?_
        · go_simp
        go_simp
        refine wpAny_take (i := 26) (v := .bool false) rfl (by kernel_rfl) (by kernel_rfl) (by kernel_rfl) (fun _ _ _ h => h) (Or.inl ⟨by rfl, fun w => ?_⟩) ?_
        · go_simp
        go_simp
        refine wpAny_take (i := 27) (v := .bool false) rfl (by kernel_rfl) (by kernel_rfl) (by kernel_rfl) (fun _ _ _ h => h) (Or.inl ⟨by rfl, fun w => ?_⟩) ?_
        · go_simp
        go_simp
        refine wpAny_take (i := 28) (v := .bool false) rfl (by kernel_rfl) (by kernel_rfl) (by kernel_rfl) (fun _ _ _ h => h) (Or.inl ⟨by rfl, fun w => ?_⟩) ?_
        · go_simp
        go_simp
        refine wpAny_done (by kernel_rfl) ?_ _
        all_goals go_wp2_with fail
        all_goals go_meet
        all_goals exact ⟨rfl, _, rfl⟩
    case rest =>
      obtain ⟨rfl, z, rfl⟩ := hcut
      go_wp2_with fail
      refine (Sub.call (unhide HZ) (unhide IS _)).mono ?_
      rintro e _ ⟨rfl, z1, rfl⟩
      cases ok
      · have hes := unhide EN rfl
        subst hes
        go_wp2_with fail
        refine (Sub.call (unhide HZ) (unhide II _)).mono ?_
        rintro e _ ⟨rfl, z2, rfl⟩
        go_wp2
        go_ret
        exact ⟨rfl, unhide BZ z2⟩
      · have hww := unhide WO rfl
        have hvv := unhide VE rfl
        rw [List.append_nil] at hvv
        have DZ := hide (fun (z : Sub B0 W0) => decI_own _ es _ 0 z.w (unhide TZ z) (by omega) (unhide WD).bds (unhide O2Z z))
        rw [hvv] at DZ
        subst hww
        clear hvv
        go_wp2_with fail
        refine (Sub.call (unhide HZ) (unhide DZ _)).mono ?_
        rintro e _ ⟨rfl, z2, rfl⟩
        have xo0 : ∀ o, (z2.w.alloc o).cell? ⟨w1.heap.size, 0, none⟩ = some (.int .i64 op) := fun o => alloc_cell (x0 z2) o
        have xo1 : ∀ o, (z2.w.alloc o).cell? ⟨w1.heap.size, 1, none⟩ = some (.int .i64 sm) := fun o => alloc_cell (x1 z2) o
        have xo2 : ∀ o, (z2.w.alloc o).cell? ⟨w1.heap.size, 2, none⟩ = some (.int .i64 sr) := fun o => alloc_cell (x2 z2) o
        have xo3 : ∀ o, (z2.w.alloc o).cell? ⟨w1.heap.size, 3, none⟩ = some (.int .i64 sx) := fun o => alloc_cell (x3 z2) o
        have xo4 : ∀ o, (z2.w.alloc o).cell? ⟨w1.heap.size, 4, none⟩ = some (.int .i64 dm) := fun o => alloc_cell (x4 z2) o
        have xo5 : ∀ o, (z2.w.alloc o).cell? ⟨w1.heap.size, 5, none⟩ = some (.int .i64 dr) := fun o => alloc_cell (x5 z2) o
        have xo6 : ∀ o, (z2.w.alloc o).cell? ⟨w1.heap.size, 6, none⟩ = some (.int .i64 dx) := fun o => alloc_cell (x6 z2) o
        have xo7 : ∀ o, (z2.w.alloc o).cell? ⟨w1.heap.size, 7, none⟩ = some (.int .i64 n) := fun o => alloc_cell (x7 z2) o
        go_wp2_with fail
        refine (unhide WI _).mono ?_
        rintro e w8 ⟨rfl, hb8⟩
        obtain ⟨z3, rfl⟩ := unhide GA z2 w8 _ hb8
        go_wp2_with fail
        refine (Sub.call (unhide HZ) (unhide II _)).mono ?_
        rintro e _ ⟨rfl, z4, rfl⟩
        go_wp2
        go_ret
        exact ⟨rfl, unhide BZ z4⟩

set_option maxRecDepth 100000 in
theorem lifted (os : Os) (started : os.Started) (H : Type) (enc : TypeId × Value → H) :
    ReturnsInHanded {} Tryd.checked os 3 .any (fun w args => (Rows.fnCodesSpec.pre enc Tryd.prog Tryd.f3 [] false w args ∧ laidMetH Tryd.prog Rows.fnCodesRow.laid w) ∧ sizedMet enc Tryd.prog Tryd.f3 (OpenSpec.ofChange Rows.fnCodesSpec) false w args)
      (Rows.fnCodesSpec.post enc Tryd.prog Tryd.f3 false true false false) := by
  refine returnsInHanded_of_change_and (C := Tryd.checked) (X := fun w _ => laidMetH Tryd.prog Rows.fnCodesRow.laid w) (fun _ _ _ hh h => h.of_heap hh) own started (by kernel_rfl) Tryd.func3
    (ChangeSpec.witness_shaped (enc := enc) (C := Tryd.checked) (os := os) (X := fun w _ => laidMetH Tryd.prog Rows.fnCodesRow.laid w) false (World.laidAll Tryd.prog os Rows.fnCodesRow.laid) #[.slice none 0 0] 8 (World.laidAll_os _ _ _)
      (World.shaped_of_ZipB (by kernel_rfl) (by kernel_rfl)) (by kernel_rfl) (by kernel_rfl) (by kernel_rfl)
      (by rw [MakeChecks.laidMetH_plain _ _ _ (by kernel_rfl)]; exact laidMet_laidAll _ (by kernel_rfl) (by kernel_rfl))) ?_
  intro W base args ds gs before hval0 hW _ _ hL _
  have hval : ∀ (j : Nat) t v, Tryd.f3.params[j]? = some t → args[j]? = some v → Value.okWide Tryd.prog W .any base t v := hval0
  have hW' := hW
  obtain ⟨p, q, hA0, hV, rfl, hfz, hnd⟩ := hW
  have hA : DataW.TrodAll enc Tryd.prog W 0 (fun _ => true) true Tryd.f3.params.toList args.toList ds p := hA0
  rw [Tryd.params3] at hA hval
  obtain ⟨v0, vs0, d0, ds0, p0, q0, hargs, rfl, rfl, h0, r0⟩ := trodAll_cons hA
  obtain ⟨rfl, rfl, rfl⟩ := trodAll_nil r0
  obtain rfl : args = #[v0] := by cases args; simp_all
  have kV := hV
  obtain ⟨gv, tv, cv, fv, dv, pv, rfl, _⟩ := trodVars_one hV
  have k0 := h0
  have lt0 : ∀ x ∈ p0, x.block < W.heap.size := by obtain ⟨m, hm⟩ := k0; exact DataW.trod_lt m _ _ _ hm
  obtain ⟨a0, len0, cap0, rfl⟩ := okWide_slice Tryd.underlying22 (hval 0 22 v0 rfl rfl)
  obtain ⟨z0, w0⟩ : ∃ zs, IsRow .u8 W a0 len0 cap0 zs := by
    obtain ⟨fuel, hf⟩ := h0
    rcases open_ints Tryd.underlying22 Tryd.underlying5 (by kernel_rfl) hf with ⟨hcs, _⟩ | ⟨x, l, c, zs, hcs, _, hl, hm, hz, _, hcell, hwz⟩
    · simp [Value.cells] at hcs
      obtain ⟨rfl, rfl, rfl⟩ := hcs
      exact ⟨[], .inl ⟨rfl, rfl, rfl, rfl⟩⟩
    · simp [Value.cells] at hcs
      obtain ⟨rfl, rfl, rfl⟩ := hcs
      exact ⟨zs, .inr ⟨_, rfl, hl, hm, by simpa using hz, hcell, hwz⟩⟩
  clear hA0 hval0
  refine (walk a0 len0 cap0 z0 W w0 (tab_of_laid hL)).mono fun e W' ⟨he, bel⟩ => ?_
  subst he
  exact ⟨_, rfl, _, _, _, [], _, _, hW', trodAll_mk1 (shut_bool Tryd.underlying4 _), (trodAll_cons_mk (Below.trod laidOut (by kernel_rfl) (of_decide_eq_true (by kernel_rfl)) k0 bel lt0) trodAll_mk0), bel.trodVars laidOut (by kernel_rfl) kV, bel.frame _, fun h => by cases h⟩

theorem proved : Rows.FnCodesSaid :=
  OpenClaim.holds_of_wide 3 Tryd.f3 rfl rfl rfl rfl rfl rfl rfl ⟨rfl, rfl, rfl, rfl, rfl⟩ rfl rfl rfl rfl rfl (by kernel_rfl) Tryd.func3 (by kernel_rfl)
    (of_decide_eq_true (by kernel_rfl)) (by unfold Func.isWrapper; first | (rw [if_pos (by decide +kernel)]; kernel_rfl) | (rw [if_neg (by decide +kernel)]; exact ⟨rfl, rfl⟩))
    (fun os started H enc _ => lifted os started H enc)
end Go.Proofs.YtomoakfemdjpbaaDoor.fnCodes

namespace Go.Proofs.YtomoakfemdjpbaaDoor
theorem fnCodes_holds : Rows.FnCodesCardSaid :=
  Claim7.holds_tied_plain_at .later [] [.data] true (true, "9746663066c250d338f27c0162c702558549db257cec92d0bdd35661a76f4db4") false
    fnCodes.proved (fun _ h => by cases h) (by kernel_rfl) (fun _ h => by cases h) fnCodes_row_tie rfl ⟨rfl, rfl⟩ (by kernel_rfl) rfl
    (fun f fn hf hfn => by
      obtain rfl : f = 3 := Option.some.inj ((show Tryd.prog.funcNamed "loop.example/g00329/laws.FnCodes" = some 3 by kernel_rfl).symm.trans hf) |>.symm
      obtain rfl : fn = Tryd.f3 := (Option.some.inj (Tryd.func3.symm.trans hfn)).symm
      exact ⟨by kernel_rfl, fun j t ht => by
        rw [Tryd.params3] at ht
        have hm : t ∈ [22] := by simpa using Array.mem_of_getElem? ht
        have hall : ([22].all fun u => !Tryd.prog.wantsStandIn u) = true := by kernel_rfl
        exact (show Tryd.prog.wantsStandIn t = false by simpa using List.all_eq_true.1 hall t hm)⟩)
    (by kernel_rfl)
#print axioms fnCodes_holds
end Go.Proofs.YtomoakfemdjpbaaDoor
