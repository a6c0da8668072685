/- For all bytes that terms and texts are drawn of: a drawn term that is plain comes back of its text, one that is not has none; what is read of a drawn text is plain, and its text has the same tokens; the model reads what the program reads: the law FnExprs returns true at every argument (where there are more than 1048576 bytes it answers true with no call of the program); the tables and sentinels that the card lists are as the text of the program and of the library lays them. -/
import Derived.Test.YthgbpofcfmnpdaaGreatDoorRows
import Derived.Test.YthgbpofcfmnpdaaGreatDoorTyD
import Derived.Test.YthgbpofcfmnpdaaGreatDoorTyI
import Derived.Test.YthgbpofcfmnpdaaGreatDoorTyJ
import Derived.Lib.SmallJoins
import Derived.Test.YthgbpofcfmnpdaaGreatDoorTie
import Derived.Test.YthgbpofcfmnpdaaGreatDoorCards
import Derived.SevenTiedAt
import Derived.Lay
import Derived.MakeChecks
import Derived.OpenVars
import Derived.WalkKit
import Derived.ProofKit
import Derived.OpenShut
import Derived.ShutString
import Derived.ChangeOld
import Derived.Below
import Derived.LaidMore
namespace Go.Proofs.YthgbpofcfmnpdaaGreatDoor.fnExprs
open Go.ChangeShapes Go.WideShapes Go.ChangeAt Go.RowKit
open Go.ChangeMaps (open_string shut_string)
set_option linter.unusedVariables false
set_option maxRecDepth 8000

set_option maxHeartbeats 16000000 in
theorem walk (a : Option Addr) (len cap : Nat) (zs : List Int) (w : World) (hrow : IsRow .u8 w a len cap zs) (he : EnvX w) : Calls Tryz.prog 3 #[.slice a len cap] w fun e w' => e = .returned (.bool true) ∧ Below w.heap.size w w' := by
  obtain ⟨xs, hl, hlc, hcm, hr⟩ := rd_of_row hrow
  clear hrow
  have hlm : len ≤ 9223372036854775807 := by unfold maxLen at hcm; omega
  have EV := hide (fun wr (h : Below w.heap.size w wr) => he.next h)
  have RX := hide (fun wr (h : Below w.heap.size w wr) => hr.later h)
  clear he hr
  by_cases hbig : (1048576 : Int) < (len : Int)
  · have hb1 : decide ((1048576 : Int) < (len : Int)) = true := decide_eq_true hbig
    have BG := hide (big_any a len cap w hlm)
    rw [hb1] at BG
    go_enter Tryz.func3, Tryz.ntmps3
    go_wp2_with (first | (go_at_call 5; refine (unhide BG).mono ?_; rintro e w' ⟨rfl, hw'⟩; rw [hw']; clear hw' w'))
    go_ret
    exact ⟨rfl, Below.refl _ _⟩
  have hb1 : decide ((1048576 : Int) < (len : Int)) = false := decide_eq_false hbig
  have hm : len ≤ 1048576 := by omega
  have BG := hide (big_any a len cap w hlm)
  rw [hb1] at BG
  have D1 := hide (drawText_any a len cap xs w hl hm (unhide RX w (Below.refl _ _)))
  have D2 := hide (fun wr h => drawParse_any a len cap xs wr hl hm (unhide RX wr h))
  have TI := hide (fun (x : Ex) (c : Option Addr) (cp : Nat) wr (h : Below w.heap.size w wr) (hr : RdX wr 0 x c) (hz : x.sz ≤ 1048576) => textI_any x c cp wr hr hz (unhide EV wr h).x)
  have PI := hide (fun (s : ByteArray) wr (h : Below w.heap.size w wr) (hz : s.size ≤ 1048576) => parseI_any s wr hz (unhide EV wr h).env (unhide EV wr h).x.g)
  have PS := hide (fun (s : ByteArray) wr (hz : s.size ≤ 1048576) => parseS_any s wr hz (by have := lex_len s; omega))
  have LI := hide (fun (s : ByteArray) wr (h : Below w.heap.size w wr) (hz : s.size ≤ 1048576) => lexI_any s wr hz (unhide EV wr h).env)
  have NI := hide (fun (x : Ex) (c : Option Addr) (cp : Nat) wr (h : Below w.heap.size w wr) (hr : RdX wr 0 x c) (hz : x.sz ≤ 1048576) => plainI_any x c cp wr hr hz (unhide EV wr h).x.k)
  have OI := hide (fun (x : Ex) (c : Option Addr) (cp : Nat) wr (h : Below w.heap.size w wr) (hr : RdX wr 0 x c) (hz : x.sz ≤ 1048576) => okI_any x c cp wr hr hz (unhide EV wr h).x.k)
  clear RX EV hl
  unfold Ex.cs at TI NI OI
  go_enter Tryz.func3, Tryz.ntmps3
  go_wp2_with (first | (go_at_call 5; refine (unhide BG).mono ?_; rintro e w' ⟨rfl, hw'⟩; rw [hw']; clear hw' w'))
  refine (unhide D1).mono ?_
  rintro e w1 ⟨x, c, cp, rfl, hsx, hnx, hb1'⟩
  have B1 := hide hb1'
  have X1 := hide hnx.half
  clear hnx hb1' D1 BG hb1
  unfold Ex.cs
  have hb2 := below_new w1 (.cells #[.int .i64 x.k, .int .i64 x.n, .string x.s, .slice c x.l.length cp] 26)
  have GX2 := hide (show (w1.alloc (.cells #[.int .i64 x.k, .int .i64 x.n, .string x.s, .slice c x.l.length cp] 26)).heap[w1.heap.size]? = some (.cells #[.int .i64 x.k, .int .i64 x.n, .string x.s, .slice c x.l.length cp] 26 (0, 0)) from Array.getElem?_push_size)
  have B2 := hide ((unhide B1).trans (hb2.mono (unhide B1).size))
  have X2 := hide ((unhide X1).later hb2)
  clear hb2 B1 X1
  go_wp2_with (first | (refine wpList_load_row rfl 26 _ rfl w1.heap.size rfl 26 #[.int .i64 x.k, .int .i64 x.n, .string x.s, .slice c x.l.length cp] (0, 0) _ (unhide GX2) Tryz.underlying26 rfl (by kernel_rfl) ?_))
  generalize w1.alloc (.cells #[.int .i64 x.k, .int .i64 x.n, .string x.s, .slice c x.l.length cp] 26) = w2 at *
  generalize w1.heap.size = g0 at *
  refine (unhide TI x c cp w2 (unhide B2) (unhide X2).rd (by omega)).mono ?_
  rintro r w3 ⟨rfl, hb3⟩
  have B3 := hide ((unhide B2).trans (hb3.mono (unhide B2).size))
  have GX3 := hide (row_keep (unhide GX2) hb3)
  have X3 := hide ((unhide X2).later hb3)
  clear hb3 B2 GX2 X2
  have D3 := hide (unhide D2 w3 (unhide B3))
  clear D2
  go_wp2_with fail
  refine (unhide D3).mono ?_
  rintro r w4 ⟨t, hzt, rfl, hb4⟩
  clear D3
  have B4 := hide ((unhide B3).trans (hb4.mono (unhide B3).size))
  have GX4 := hide (row_keep (unhide GX3) hb4)
  have X4 := hide ((unhide X3).later hb4)
  clear hb4 B3 GX3 X3
  cases hpt : parseE t with
  | none =>
    have P4 := hide ((unhide PI t w4 (unhide B4) hzt).mono (fun r w' h => PaR.no hpt h))
    have S4 := hide (fun wr => (unhide PS t wr hzt).mono (fun r w' h => PaR.no hpt h))
    go_wp2_with fail
    refine (unhide P4).mono ?_
    rintro r w5 ⟨rfl, hb5⟩
    clear P4
    have B5 := hide ((unhide B4).trans (hb5.mono (unhide B4).size))
    have GX5 := hide (row_keep (unhide GX4) hb5)
    have X5 := hide ((unhide X4).later hb5)
    clear hb5 B4 GX4 X4
    have hb6 := below_new w5 (.cells #[.int .i64 0, .int .i64 0, .string ⟨#[]⟩, .slice none 0 0] 26)
    have GY6 := hide (show (w5.alloc (.cells #[.int .i64 0, .int .i64 0, .string ⟨#[]⟩, .slice none 0 0] 26)).heap[w5.heap.size]? = some (.cells #[.int .i64 0, .int .i64 0, .string ⟨#[]⟩, .slice none 0 0] 26 (0, 0)) from Array.getElem?_push_size)
    have B6 := hide ((unhide B5).trans (hb6.mono (unhide B5).size))
    have GX6 := hide (row_keep (unhide GX5) hb6)
    have X6 := hide ((unhide X5).later hb6)
    clear hb6 B5 GX5 X5
    go_wp2_with fail
    generalize w5.alloc (.cells #[.int .i64 0, .int .i64 0, .string ⟨#[]⟩, .slice none 0 0] 26) = w6 at *
    generalize w5.heap.size = g1 at *
    refine (unhide S4 w6).mono ?_
    rintro r w7 ⟨rfl, hb7⟩
    clear S4
    have B7 := hide ((unhide B6).trans (hb7.mono (unhide B6).size))
    have GX7 := hide (row_keep (unhide GX6) hb7)
    have GY7 := hide (row_keep (unhide GY6) hb7)
    have X7 := hide ((unhide X6).later hb7)
    clear hb7 B6 GX6 GY6 X6
    have hb8 := below_new w7 (.cells #[.int .i64 0, .int .i64 0, .string ⟨#[]⟩, .slice none 0 0] 26)
    have GZ8 := hide (show (w7.alloc (.cells #[.int .i64 0, .int .i64 0, .string ⟨#[]⟩, .slice none 0 0] 26)).heap[w7.heap.size]? = some (.cells #[.int .i64 0, .int .i64 0, .string ⟨#[]⟩, .slice none 0 0] 26 (0, 0)) from Array.getElem?_push_size)
    have B8 := hide ((unhide B7).trans (hb8.mono (unhide B7).size))
    have GX8 := hide (row_keep (unhide GX7) hb8)
    have GY8 := hide (row_keep (unhide GY7) hb8)
    have X8 := hide ((unhide X7).later hb8)
    clear hb8 B7 GX7 GY7 X7
    have yc := Lib.cell_of_heap (unhide GY8) 0
    go_wp2_with (first | (refine wpList_load_row rfl 26 _ rfl g0 rfl 26 #[.int .i64 x.k, .int .i64 x.n, .string x.s, .slice c x.l.length cp] (0, 0) _ (unhide GX8) Tryz.underlying26 rfl (by kernel_rfl) ?_))
    generalize w7.alloc (.cells #[.int .i64 0, .int .i64 0, .string ⟨#[]⟩, .slice none 0 0] 26) = w8 at *
    generalize w7.heap.size = g2 at *
    clear yc
    have PO := hide (plainS_any x c cp w8 (unhide X8).rd (by omega))
    unfold Ex.cs at PO
    cases hq : okF 6 true x with
    | false =>
      rw [hq] at PO
      have ht0 : textE x = ⟨#[]⟩ := by unfold textE; rw [hq]; rfl
      refine (unhide PO).mono ?_
      rintro r w9 ⟨rfl, hb9⟩
      have B9 := hide ((unhide B8).trans (hb9.mono (unhide B8).size))
      have GX9 := hide (row_keep (unhide GX8) hb9)
      have GY9 := hide (row_keep (unhide GY8) hb9)
      have GZ9 := hide (row_keep (unhide GZ8) hb9)
      have X9 := hide ((unhide X8).later hb9)
      clear hb9 B8 GX8 GY8 GZ8 X8
      have xc0 := Lib.cell_of_heap (unhide GX9) 0
      have xc1 := Lib.cell_of_heap (unhide GX9) 1
      have xc2 := Lib.cell_of_heap (unhide GX9) 2
      have xc3 := Lib.cell_of_heap (unhide GX9) 3
      have NX := hide (unhide NI x c cp w9 (unhide B9) (unhide X9).rd (by omega))
      rw [hq] at NX
      rw [ht0]
      clear PO hq ht0
      go_wp2_with fail
      refine (unhide NX).mono ?_
      rintro r w10 ⟨rfl, hb10⟩
      clear xc0 xc1 xc2 xc3
      have B10 := hide ((unhide B9).trans (hb10.mono (unhide B9).size))
      have GX10 := hide (row_keep (unhide GX9) hb10)
      have GY10 := hide (row_keep (unhide GY9) hb10)
      have GZ10 := hide (row_keep (unhide GZ9) hb10)
      have X10 := hide ((unhide X9).later hb10)
      clear hb10 B9 GX9 GY9 GZ9 X9
      go_wp2
      go_ret
      exact ⟨rfl, unhide B10⟩
    | true =>
      rw [hq] at PO
      have PE := parseE_text hq
      have TS := text_small x
      have OK := plain_ok 6 x hq
      refine (unhide PO).mono ?_
      rintro r w9 ⟨rfl, hb9⟩
      have B9 := hide ((unhide B8).trans (hb9.mono (unhide B8).size))
      have GX9 := hide (row_keep (unhide GX8) hb9)
      have GY9 := hide (row_keep (unhide GY8) hb9)
      have GZ9 := hide (row_keep (unhide GZ8) hb9)
      have X9 := hide ((unhide X8).later hb9)
      clear hb9 B8 GX8 GY8 GZ8 X8
      have PX := hide ((unhide PI (textE x) w9 (unhide B9) (by omega)).mono (fun r w' h => PaR.yes PE h))
      clear PO PE
      unfold Ex.cs at PX
      go_wp2_with fail
      refine (unhide PX).mono ?_
      rintro r w10 ⟨f, fp, rfl, hnf, hb10⟩
      have XF10 := hide hnf.half
      clear hnf PX
      have B10 := hide ((unhide B9).trans (hb10.mono (unhide B9).size))
      have GX10 := hide (row_keep (unhide GX9) hb10)
      have GY10 := hide (row_keep (unhide GY9) hb10)
      have GZ10 := hide (row_keep (unhide GZ9) hb10)
      have X10 := hide ((unhide X9).later hb10)
      clear hb10 B9 GX9 GY9 GZ9 X9
      have hb11 := below_new w10 (.cells #[.int .i64 x.k, .int .i64 x.n, .string x.s, .slice f x.l.length fp] 26)
      have GF11 := hide (show (w10.alloc (.cells #[.int .i64 x.k, .int .i64 x.n, .string x.s, .slice f x.l.length fp] 26)).heap[w10.heap.size]? = some (.cells #[.int .i64 x.k, .int .i64 x.n, .string x.s, .slice f x.l.length fp] 26 (0, 0)) from Array.getElem?_push_size)
      have B11 := hide ((unhide B10).trans (hb11.mono (unhide B10).size))
      have GX11 := hide (row_keep (unhide GX10) hb11)
      have GY11 := hide (row_keep (unhide GY10) hb11)
      have GZ11 := hide (row_keep (unhide GZ10) hb11)
      have X11 := hide ((unhide X10).later hb11)
      have XF11 := hide ((unhide XF10).later hb11)
      clear hb11 B10 GX10 GY10 GZ10 X10 XF10
      have xc0 := Lib.cell_of_heap (unhide GX11) 0
      have xc1 := Lib.cell_of_heap (unhide GX11) 1
      have xc2 := Lib.cell_of_heap (unhide GX11) 2
      have xc3 := Lib.cell_of_heap (unhide GX11) 3
      have fc0 := Lib.cell_of_heap (unhide GF11) 0
      have fc1 := Lib.cell_of_heap (unhide GF11) 1
      have fc2 := Lib.cell_of_heap (unhide GF11) 2
      have fc3 := Lib.cell_of_heap (unhide GF11) 3
      have SX := hide (sameI_any x x f c fp cp (w10.alloc (.cells #[.int .i64 x.k, .int .i64 x.n, .string x.s, .slice f x.l.length fp] 26)) ((unhide XF11).imp fun F h => h.1) ((unhide X11).imp fun F h => h.1) (by omega))
      rw [sameX_self] at SX
      unfold Ex.cs at SX
      go_wp2_with fail
      generalize w10.alloc (.cells #[.int .i64 x.k, .int .i64 x.n, .string x.s, .slice f x.l.length fp] 26) = w11 at *
      generalize w10.heap.size = g9 at *
      refine (unhide SX).mono ?_
      rintro r w12 ⟨rfl, hb12⟩
      clear xc0 xc1 xc2 xc3 fc0 fc1 fc2 fc3 SX
      have B12 := hide ((unhide B11).trans (hb12.mono (unhide B11).size))
      have GX12 := hide (row_keep (unhide GX11) hb12)
      have GY12 := hide (row_keep (unhide GY11) hb12)
      have GZ12 := hide (row_keep (unhide GZ11) hb12)
      have GF12 := hide (row_keep (unhide GF11) hb12)
      have X12 := hide ((unhide X11).later hb12)
      have XF12 := hide ((unhide XF11).later hb12)
      clear hb12 B11 GX11 GY11 GZ11 GF11 X11 XF11
      have xc0 := Lib.cell_of_heap (unhide GX12) 0
      have xc1 := Lib.cell_of_heap (unhide GX12) 1
      have xc2 := Lib.cell_of_heap (unhide GX12) 2
      have xc3 := Lib.cell_of_heap (unhide GX12) 3
      have NX := hide (unhide NI x c cp w12 (unhide B12) (unhide X12).rd (by omega))
      rw [hq] at NX
      go_wp2_with fail
      refine (unhide NX).mono ?_
      rintro r w13 ⟨rfl, hb13⟩
      clear xc0 xc1 xc2 xc3 NX
      have B13 := hide ((unhide B12).trans (hb13.mono (unhide B12).size))
      have GX13 := hide (row_keep (unhide GX12) hb13)
      have GY13 := hide (row_keep (unhide GY12) hb13)
      have GZ13 := hide (row_keep (unhide GZ12) hb13)
      have GF13 := hide (row_keep (unhide GF12) hb13)
      have X13 := hide ((unhide X12).later hb13)
      have XF13 := hide ((unhide XF12).later hb13)
      clear hb13 B12 GX12 GY12 GZ12 GF12 X12 XF12
      have xc0 := Lib.cell_of_heap (unhide GX13) 0
      have xc1 := Lib.cell_of_heap (unhide GX13) 1
      have xc2 := Lib.cell_of_heap (unhide GX13) 2
      have xc3 := Lib.cell_of_heap (unhide GX13) 3
      have OX := hide (unhide OI x c cp w13 (unhide B13) (unhide X13).rd (by omega))
      rw [OK] at OX
      go_wp2_with fail
      refine (unhide OX).mono ?_
      rintro r w14 ⟨rfl, hb14⟩
      clear xc0 xc1 xc2 xc3 OX
      have B14 := hide ((unhide B13).trans (hb14.mono (unhide B13).size))
      have GX14 := hide (row_keep (unhide GX13) hb14)
      have GY14 := hide (row_keep (unhide GY13) hb14)
      have GZ14 := hide (row_keep (unhide GZ13) hb14)
      have GF14 := hide (row_keep (unhide GF13) hb14)
      have X14 := hide ((unhide X13).later hb14)
      have XF14 := hide ((unhide XF13).later hb14)
      clear hb14 B13 GX13 GY13 GZ13 GF13 X13 XF13
      go_wp2
      go_ret
      exact ⟨rfl, unhide B14⟩
  | some y =>
    have P4 := hide ((unhide PI t w4 (unhide B4) hzt).mono (fun r w' h => PaR.yes hpt h))
    have S4 := hide (fun wr => (unhide PS t wr hzt).mono (fun r w' h => PaR.yes hpt h))
    unfold Ex.cs at P4 S4
    obtain ⟨hoky, hlx⟩ := parseE_some hpt
    have hlt := lex_text hoky
    have hty := text_small y
    have hsy := plain_small hoky
    have htl := (toks_ok 6 y hoky).2
    have hmx := mxT_le 6 (by omega)
    go_wp2_with fail
    refine (unhide P4).mono ?_
    rintro r w5 ⟨d, dp, rfl, hny, hb5⟩
    have Y5 := hide hny.half
    clear P4 hny
    have B5 := hide ((unhide B4).trans (hb5.mono (unhide B4).size))
    have GX5 := hide (row_keep (unhide GX4) hb5)
    have X5 := hide ((unhide X4).later hb5)
    clear hb5 B4 GX4 X4
    have hb6 := below_new w5 (.cells #[.int .i64 y.k, .int .i64 y.n, .string y.s, .slice d y.l.length dp] 26)
    have GY6 := hide (show (w5.alloc (.cells #[.int .i64 y.k, .int .i64 y.n, .string y.s, .slice d y.l.length dp] 26)).heap[w5.heap.size]? = some (.cells #[.int .i64 y.k, .int .i64 y.n, .string y.s, .slice d y.l.length dp] 26 (0, 0)) from Array.getElem?_push_size)
    have B6 := hide ((unhide B5).trans (hb6.mono (unhide B5).size))
    have GX6 := hide (row_keep (unhide GX5) hb6)
    have X6 := hide ((unhide X5).later hb6)
    have Y6 := hide ((unhide Y5).later hb6)
    clear hb6 B5 GX5 X5 Y5
    go_wp2_with fail
    generalize w5.alloc (.cells #[.int .i64 y.k, .int .i64 y.n, .string y.s, .slice d y.l.length dp] 26) = w6 at *
    generalize w5.heap.size = g1 at *
    refine (unhide S4 w6).mono ?_
    rintro r w7 ⟨f, fp, rfl, hnf, hb7⟩
    clear S4 hnf
    have B7 := hide ((unhide B6).trans (hb7.mono (unhide B6).size))
    have GX7 := hide (row_keep (unhide GX6) hb7)
    have GY7 := hide (row_keep (unhide GY6) hb7)
    have X7 := hide ((unhide X6).later hb7)
    have Y7 := hide ((unhide Y6).later hb7)
    clear hb7 B6 GX6 GY6 X6 Y6
    have hb8 := below_new w7 (.cells #[.int .i64 y.k, .int .i64 y.n, .string y.s, .slice f y.l.length fp] 26)
    have GZ8 := hide (show (w7.alloc (.cells #[.int .i64 y.k, .int .i64 y.n, .string y.s, .slice f y.l.length fp] 26)).heap[w7.heap.size]? = some (.cells #[.int .i64 y.k, .int .i64 y.n, .string y.s, .slice f y.l.length fp] 26 (0, 0)) from Array.getElem?_push_size)
    have B8 := hide ((unhide B7).trans (hb8.mono (unhide B7).size))
    have GX8 := hide (row_keep (unhide GX7) hb8)
    have GY8 := hide (row_keep (unhide GY7) hb8)
    have X8 := hide ((unhide X7).later hb8)
    have Y8 := hide ((unhide Y7).later hb8)
    clear hb8 B7 GX7 GY7 X7 Y7
    have L8 := hide (unhide LI t (w7.alloc (.cells #[.int .i64 y.k, .int .i64 y.n, .string y.s, .slice f y.l.length fp] 26)) (unhide B8) hzt)
    rw [hlx] at L8
    go_wp2_with fail
    generalize w7.alloc (.cells #[.int .i64 y.k, .int .i64 y.n, .string y.s, .slice f y.l.length fp] 26) = w8 at *
    generalize w7.heap.size = g2 at *
    refine (unhide L8).mono ?_
    rintro r w9 ⟨v, rfl, hov, hb9⟩
    have OV9 := hide hov
    clear hov L8
    have B9 := hide ((unhide B8).trans (hb9.mono (unhide B8).size))
    have GX9 := hide (row_keep (unhide GX8) hb9)
    have GY9 := hide (row_keep (unhide GY8) hb9)
    have GZ9 := hide (row_keep (unhide GZ8) hb9)
    have X9 := hide ((unhide X8).later hb9)
    have Y9 := hide ((unhide Y8).later hb9)
    clear hb9 B8 GX8 GY8 GZ8 X8 Y8
    have T9 := hide (unhide TI y d dp w9 (unhide B9) (unhide Y9).rd (by omega))
    go_wp2_with (first | (refine wpList_load_row rfl 26 _ rfl g1 rfl 26 #[.int .i64 y.k, .int .i64 y.n, .string y.s, .slice d y.l.length dp] (0, 0) _ (unhide GY9) Tryz.underlying26 rfl (by kernel_rfl) ?_))
    refine (unhide T9).mono ?_
    rintro r w10 ⟨rfl, hb10⟩
    clear T9
    have B10 := hide ((unhide B9).trans (hb10.mono (unhide B9).size))
    have GX10 := hide (row_keep (unhide GX9) hb10)
    have GY10 := hide (row_keep (unhide GY9) hb10)
    have GZ10 := hide (row_keep (unhide GZ9) hb10)
    have X10 := hide ((unhide X9).later hb10)
    have Y10 := hide ((unhide Y9).later hb10)
    have OV10 := hide ((unhide OV9).later hb10)
    clear hb10 B9 GX9 GY9 GZ9 X9 Y9 OV9
    have L10 := hide (unhide LI (textE y) w10 (unhide B10) (by omega))
    rw [hlt] at L10
    go_wp2_with fail
    refine (unhide L10).mono ?_
    rintro r w11 ⟨v2, rfl, hov, hb11⟩
    have OU11 := hide hov
    clear hov L10
    have B11 := hide ((unhide B10).trans (hb11.mono (unhide B10).size))
    have GX11 := hide (row_keep (unhide GX10) hb11)
    have GY11 := hide (row_keep (unhide GY10) hb11)
    have GZ11 := hide (row_keep (unhide GZ10) hb11)
    have X11 := hide ((unhide X10).later hb11)
    have Y11 := hide ((unhide Y10).later hb11)
    have OV11 := hide ((unhide OV10).later hb11)
    clear hb11 B10 GX10 GY10 GZ10 X10 Y10 OV10
    obtain ⟨a1, c1, rfl, r1⟩ := (unhide OV11).rd
    obtain ⟨a2, c2, rfl, r2⟩ := (unhide OU11).rd
    have ST := hide (sameToks_same a1 a2 _ c1 c2 (toksF 6 y) w11 rfl (by omega) r1 r2)
    clear r1 r2
    go_wp2_with fail
    refine (unhide ST).mono ?_
    rintro r w12 ⟨rfl, hb12⟩
    clear ST OV11 OU11
    have B12 := hide ((unhide B11).trans (hb12.mono (unhide B11).size))
    have GX12 := hide (row_keep (unhide GX11) hb12)
    have GY12 := hide (row_keep (unhide GY11) hb12)
    have GZ12 := hide (row_keep (unhide GZ11) hb12)
    have X12 := hide ((unhide X11).later hb12)
    have Y12 := hide ((unhide Y11).later hb12)
    clear hb12 B11 GX11 GY11 GZ11 X11 Y11
    have yc0 := Lib.cell_of_heap (unhide GY12) 0
    have yc1 := Lib.cell_of_heap (unhide GY12) 1
    have yc2 := Lib.cell_of_heap (unhide GY12) 2
    have yc3 := Lib.cell_of_heap (unhide GY12) 3
    have NY := hide (unhide NI y d dp w12 (unhide B12) (unhide Y12).rd (by omega))
    rw [hoky] at NY
    go_wp2_with fail
    refine (unhide NY).mono ?_
    rintro r w13 ⟨rfl, hb13⟩
    clear NY yc0 yc1 yc2 yc3
    have B13 := hide ((unhide B12).trans (hb13.mono (unhide B12).size))
    have GX13 := hide (row_keep (unhide GX12) hb13)
    have GY13 := hide (row_keep (unhide GY12) hb13)
    have GZ13 := hide (row_keep (unhide GZ12) hb13)
    have X13 := hide ((unhide X12).later hb13)
    have Y13 := hide ((unhide Y12).later hb13)
    clear hb13 B12 GX12 GY12 GZ12 X12 Y12
    go_wp2_with (first | (refine wpList_load_row rfl 26 _ rfl g0 rfl 26 #[.int .i64 x.k, .int .i64 x.n, .string x.s, .slice c x.l.length cp] (0, 0) _ (unhide GX13) Tryz.underlying26 rfl (by kernel_rfl) ?_))
    have PO := hide (plainS_any x c cp w13 (unhide X13).rd (by omega))
    unfold Ex.cs at PO
    cases hq : okF 6 true x with
    | false =>
      rw [hq] at PO
      have ht0 : textE x = ⟨#[]⟩ := by unfold textE; rw [hq]; rfl
      refine (unhide PO).mono ?_
      rintro r w14 ⟨rfl, hb14⟩
      have B14 := hide ((unhide B13).trans (hb14.mono (unhide B13).size))
      have GX14 := hide (row_keep (unhide GX13) hb14)
      have GY14 := hide (row_keep (unhide GY13) hb14)
      have GZ14 := hide (row_keep (unhide GZ13) hb14)
      have X14 := hide ((unhide X13).later hb14)
      have Y14 := hide ((unhide Y13).later hb14)
      clear hb14 B13 GX13 GY13 GZ13 X13 Y13
      have xc0 := Lib.cell_of_heap (unhide GX14) 0
      have xc1 := Lib.cell_of_heap (unhide GX14) 1
      have xc2 := Lib.cell_of_heap (unhide GX14) 2
      have xc3 := Lib.cell_of_heap (unhide GX14) 3
      have NX := hide (unhide NI x c cp w14 (unhide B14) (unhide X14).rd (by omega))
      rw [hq] at NX
      rw [ht0]
      clear PO hq ht0
      go_wp2_with fail
      refine (unhide NX).mono ?_
      rintro r w15 ⟨rfl, hb15⟩
      clear xc0 xc1 xc2 xc3
      have B15 := hide ((unhide B14).trans (hb15.mono (unhide B14).size))
      have GX15 := hide (row_keep (unhide GX14) hb15)
      have GY15 := hide (row_keep (unhide GY14) hb15)
      have GZ15 := hide (row_keep (unhide GZ14) hb15)
      have X15 := hide ((unhide X14).later hb15)
      have Y15 := hide ((unhide Y14).later hb15)
      clear hb15 B14 GX14 GY14 GZ14 X14 Y14
      go_wp2
      go_ret
      exact ⟨rfl, unhide B15⟩
    | true =>
      rw [hq] at PO
      have PE := parseE_text hq
      have TS := text_small x
      have OK := plain_ok 6 x hq
      refine (unhide PO).mono ?_
      rintro r w14 ⟨rfl, hb14⟩
      have B14 := hide ((unhide B13).trans (hb14.mono (unhide B13).size))
      have GX14 := hide (row_keep (unhide GX13) hb14)
      have GY14 := hide (row_keep (unhide GY13) hb14)
      have GZ14 := hide (row_keep (unhide GZ13) hb14)
      have X14 := hide ((unhide X13).later hb14)
      have Y14 := hide ((unhide Y13).later hb14)
      clear hb14 B13 GX13 GY13 GZ13 X13 Y13
      have PX := hide ((unhide PI (textE x) w14 (unhide B14) (by omega)).mono (fun r w' h => PaR.yes PE h))
      clear PO PE
      unfold Ex.cs at PX
      go_wp2_with fail
      refine (unhide PX).mono ?_
      rintro r w15 ⟨f, fp, rfl, hnf, hb15⟩
      have XF15 := hide hnf.half
      clear hnf PX
      have B15 := hide ((unhide B14).trans (hb15.mono (unhide B14).size))
      have GX15 := hide (row_keep (unhide GX14) hb15)
      have GY15 := hide (row_keep (unhide GY14) hb15)
      have GZ15 := hide (row_keep (unhide GZ14) hb15)
      have X15 := hide ((unhide X14).later hb15)
      have Y15 := hide ((unhide Y14).later hb15)
      clear hb15 B14 GX14 GY14 GZ14 X14 Y14
      have hb16 := below_new w15 (.cells #[.int .i64 x.k, .int .i64 x.n, .string x.s, .slice f x.l.length fp] 26)
      have GF16 := hide (show (w15.alloc (.cells #[.int .i64 x.k, .int .i64 x.n, .string x.s, .slice f x.l.length fp] 26)).heap[w15.heap.size]? = some (.cells #[.int .i64 x.k, .int .i64 x.n, .string x.s, .slice f x.l.length fp] 26 (0, 0)) from Array.getElem?_push_size)
      have B16 := hide ((unhide B15).trans (hb16.mono (unhide B15).size))
      have GX16 := hide (row_keep (unhide GX15) hb16)
      have GY16 := hide (row_keep (unhide GY15) hb16)
      have GZ16 := hide (row_keep (unhide GZ15) hb16)
      have X16 := hide ((unhide X15).later hb16)
      have Y16 := hide ((unhide Y15).later hb16)
      have XF16 := hide ((unhide XF15).later hb16)
      clear hb16 B15 GX15 GY15 GZ15 X15 Y15 XF15
      have xc0 := Lib.cell_of_heap (unhide GX16) 0
      have xc1 := Lib.cell_of_heap (unhide GX16) 1
      have xc2 := Lib.cell_of_heap (unhide GX16) 2
      have xc3 := Lib.cell_of_heap (unhide GX16) 3
      have fc0 := Lib.cell_of_heap (unhide GF16) 0
      have fc1 := Lib.cell_of_heap (unhide GF16) 1
      have fc2 := Lib.cell_of_heap (unhide GF16) 2
      have fc3 := Lib.cell_of_heap (unhide GF16) 3
      have SX := hide (sameI_any x x f c fp cp (w15.alloc (.cells #[.int .i64 x.k, .int .i64 x.n, .string x.s, .slice f x.l.length fp] 26)) ((unhide XF16).imp fun F h => h.1) ((unhide X16).imp fun F h => h.1) (by omega))
      rw [sameX_self] at SX
      unfold Ex.cs at SX
      go_wp2_with fail
      generalize w15.alloc (.cells #[.int .i64 x.k, .int .i64 x.n, .string x.s, .slice f x.l.length fp] 26) = w16 at *
      generalize w15.heap.size = g9 at *
      refine (unhide SX).mono ?_
      rintro r w17 ⟨rfl, hb17⟩
      clear xc0 xc1 xc2 xc3 fc0 fc1 fc2 fc3 SX
      have B17 := hide ((unhide B16).trans (hb17.mono (unhide B16).size))
      have GX17 := hide (row_keep (unhide GX16) hb17)
      have GY17 := hide (row_keep (unhide GY16) hb17)
      have GZ17 := hide (row_keep (unhide GZ16) hb17)
      have GF17 := hide (row_keep (unhide GF16) hb17)
      have X17 := hide ((unhide X16).later hb17)
      have Y17 := hide ((unhide Y16).later hb17)
      have XF17 := hide ((unhide XF16).later hb17)
      clear hb17 B16 GX16 GY16 GZ16 GF16 X16 Y16 XF16
      have xc0 := Lib.cell_of_heap (unhide GX17) 0
      have xc1 := Lib.cell_of_heap (unhide GX17) 1
      have xc2 := Lib.cell_of_heap (unhide GX17) 2
      have xc3 := Lib.cell_of_heap (unhide GX17) 3
      have NX := hide (unhide NI x c cp w17 (unhide B17) (unhide X17).rd (by omega))
      rw [hq] at NX
      go_wp2_with fail
      refine (unhide NX).mono ?_
      rintro r w18 ⟨rfl, hb18⟩
      clear xc0 xc1 xc2 xc3 NX
      have B18 := hide ((unhide B17).trans (hb18.mono (unhide B17).size))
      have GX18 := hide (row_keep (unhide GX17) hb18)
      have GY18 := hide (row_keep (unhide GY17) hb18)
      have GZ18 := hide (row_keep (unhide GZ17) hb18)
      have GF18 := hide (row_keep (unhide GF17) hb18)
      have X18 := hide ((unhide X17).later hb18)
      have Y18 := hide ((unhide Y17).later hb18)
      have XF18 := hide ((unhide XF17).later hb18)
      clear hb18 B17 GX17 GY17 GZ17 GF17 X17 Y17 XF17
      have xc0 := Lib.cell_of_heap (unhide GX18) 0
      have xc1 := Lib.cell_of_heap (unhide GX18) 1
      have xc2 := Lib.cell_of_heap (unhide GX18) 2
      have xc3 := Lib.cell_of_heap (unhide GX18) 3
      have OX := hide (unhide OI x c cp w18 (unhide B18) (unhide X18).rd (by omega))
      rw [OK] at OX
      go_wp2_with fail
      refine (unhide OX).mono ?_
      rintro r w19 ⟨rfl, hb19⟩
      clear xc0 xc1 xc2 xc3 OX
      have B19 := hide ((unhide B18).trans (hb19.mono (unhide B18).size))
      have GX19 := hide (row_keep (unhide GX18) hb19)
      have GY19 := hide (row_keep (unhide GY18) hb19)
      have GZ19 := hide (row_keep (unhide GZ18) hb19)
      have GF19 := hide (row_keep (unhide GF18) hb19)
      have X19 := hide ((unhide X18).later hb19)
      have Y19 := hide ((unhide Y18).later hb19)
      have XF19 := hide ((unhide XF18).later hb19)
      clear hb19 B18 GX18 GY18 GZ18 GF18 X18 Y18 XF18
      go_wp2
      go_ret
      exact ⟨rfl, unhide B19⟩

theorem door_met (os : Os) (args : Array Value) : laidMetH Tryz.prog Rows.fnExprsRow.laid ((World.doorLaid Tryz.prog 400 os).forCall (fun _ _ => 0) ⟨#[], args, []⟩).memory :=
  laidMetH_of_parts3 (fuel := 8) (laidMet_of_run' 8 (by kernel_rfl) (by kernel_rfl)) (by kernel_rfl) (by kernel_rfl)
set_option maxRecDepth 100000 in
theorem lifted (os : Os) (started : os.Started) (H : Type) (enc : TypeId × Value → H) :
    ReturnsInHanded {} Tryz.checked os 3 .any (fun w args => (Rows.fnExprsSpec.pre enc Tryz.prog Tryz.f3 [] false w args ∧ laidMetH Tryz.prog Rows.fnExprsRow.laid w) ∧ sizedMet enc Tryz.prog Tryz.f3 (OpenSpec.ofChange Rows.fnExprsSpec) false w args)
      (Rows.fnExprsSpec.post enc Tryz.prog Tryz.f3 false true false false) := by
  refine returnsInHanded_of_change_and (C := Tryz.checked) (X := fun w _ => laidMetH Tryz.prog Rows.fnExprsRow.laid w) (fun _ _ _ hh h => h.of_heap hh) own started (by kernel_rfl) Tryz.func3
    (ChangeSpec.witness_shaped (enc := enc) (C := Tryz.checked) (os := os) (X := fun w _ => laidMetH Tryz.prog Rows.fnExprsRow.laid w) false (World.doorLaid Tryz.prog 400 os) #[.slice none 0 0] 8 rfl (World.shaped_of_RefB (by kernel_rfl) (by kernel_rfl)) (by kernel_rfl) (by kernel_rfl) (by kernel_rfl) (door_met os _)) ?_
  intro W base args ds gs before hval0 hW _ _ hL _
  have hval : ∀ (j : Nat) t v, Tryz.f3.params[j]? = some t → args[j]? = some v → Value.okWide Tryz.prog W .any base t v := hval0
  have hW' := hW
  obtain ⟨p, q, hA0, hV, rfl, hfz, hnd⟩ := hW
  have hA : DataW.TrodAll enc Tryz.prog W 0 (fun _ => true) true Tryz.f3.params.toList args.toList ds p := hA0
  rw [Tryz.params3] at hA hval
  obtain ⟨v0, vs0, d0, ds0, p0, q0, hargs, rfl, rfl, h0, r0⟩ := trodAll_cons hA
  obtain ⟨rfl, rfl, rfl⟩ := trodAll_nil r0
  obtain rfl : args = #[v0] := by cases args; simp_all
  have kV := hV
  obtain ⟨dv, du, dt, rfl⟩ := vars_three hV
  have k0 := h0
  have lt0 : ∀ x ∈ p0, x.block < W.heap.size := by obtain ⟨m, hm⟩ := k0; exact DataW.trod_lt m _ _ _ hm
  obtain ⟨a0, len0, cap0, rfl⟩ := okWide_slice Tryz.underlying22 (hval 0 22 v0 rfl rfl)
  obtain ⟨z0, w0⟩ : ∃ zs, IsRow .u8 W a0 len0 cap0 zs := by
    obtain ⟨fuel, hf⟩ := h0
    rcases open_ints Tryz.underlying22 Tryz.underlying5 (by kernel_rfl) hf with ⟨hcs, _⟩ | ⟨x, l, c, zs, hcs, _, hl, hm, hz, _, hcell, hwz⟩
    · simp [Value.cells] at hcs
      obtain ⟨rfl, rfl, rfl⟩ := hcs
      exact ⟨[], .inl ⟨rfl, rfl, rfl, rfl⟩⟩
    · simp [Value.cells] at hcs
      obtain ⟨rfl, rfl, rfl⟩ := hcs
      exact ⟨zs, .inr ⟨_, rfl, hl, hm, by simpa using hz, hcell, hwz⟩⟩
  clear hA0 hval0
  refine (walk a0 len0 cap0 z0 W w0 (envx_of hL)).mono fun e W' ⟨he, bel⟩ => ?_
  subst he
  exact ⟨_, rfl, _, _, _, [], _, _, hW', trodAll_mk1 (shut_bool Tryz.underlying4 _), (trodAll_cons_mk (Below.trod laidOut (by kernel_rfl) (of_decide_eq_true (by kernel_rfl)) k0 bel lt0) trodAll_mk0), bel.trodVars laidOut (by kernel_rfl) kV, bel.frame _, fun h => by cases h⟩

theorem proved : Rows.FnExprsSaid :=
  OpenClaim.holds_of_wide 3 Tryz.f3 rfl rfl rfl rfl rfl rfl rfl ⟨rfl, rfl, rfl, rfl, rfl⟩ rfl rfl rfl rfl rfl (by kernel_rfl) Tryz.func3 (by kernel_rfl)
    (of_decide_eq_true (by kernel_rfl)) (by unfold Func.isWrapper; first | (rw [if_pos (by decide +kernel)]; kernel_rfl) | (rw [if_neg (by decide +kernel)]; exact ⟨rfl, rfl⟩))
    (fun os started H enc _ => lifted os started H enc)
end Go.Proofs.YthgbpofcfmnpdaaGreatDoor.fnExprs

namespace Go.Proofs.YthgbpofcfmnpdaaGreatDoor
theorem fnExprs_holds : Rows.FnExprsCardSaid :=
  Claim7.holds_tied_plain_at .later [] [.data, .data, .data, .sentinel, .sentinel, .data, .data, .data] true (true, "292b365e4439423362ab4d1d59144656ed0c93249f7fb994bb08e14fbc2a9775") true
    fnExprs.proved (fun _ h => by cases h) (by kernel_rfl) (fun _ h => by cases h) fnExprs_row_tie rfl ⟨rfl, rfl⟩ (by kernel_rfl) rfl
    (fun f fn hf hfn => by
      obtain rfl : f = 3 := Option.some.inj ((show Tryz.prog.funcNamed "loop.example/g00329/laws.FnExprs" = some 3 by kernel_rfl).symm.trans hf) |>.symm
      obtain rfl : fn = Tryz.f3 := (Option.some.inj (Tryz.func3.symm.trans hfn)).symm
      exact ⟨by kernel_rfl, fun j t ht => by
        rw [Tryz.params3] at ht
        have hm : t ∈ [22] := by simpa using Array.mem_of_getElem? ht
        have hall : ([22].all fun u => !Tryz.prog.wantsStandIn u) = true := by kernel_rfl
        exact (show Tryz.prog.wantsStandIn t = false by simpa using List.all_eq_true.1 hall t hm)⟩)
    (by kernel_rfl)
#print axioms fnExprs_holds
end Go.Proofs.YthgbpofcfmnpdaaGreatDoor
