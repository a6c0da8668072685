/- FnSameExprs returns true for every input -/
import Derived.Test.YthgbpofcfmnpdaaDoorRows
import Derived.Test.YthgbpofcfmnpdaaDoorDxD
import Derived.Test.YthgbpofcfmnpdaaDoorDxE
import Derived.Test.YthgbpofcfmnpdaaDoorSmB
import Derived.Test.YthgbpofcfmnpdaaDoorSmF
import Derived.Test.YthgbpofcfmnpdaaDoorExR
import Derived.Test.YthgbpofcfmnpdaaDoorExK
import Derived.Test.YthgbpofcfmnpdaaDoorHeT
import Derived.Test.YthgbpofcfmnpdaaDoorTkH
import Derived.Test.YthgbpofcfmnpdaaDoorTie
import Derived.Test.YthgbpofcfmnpdaaDoorCards
import Derived.SevenTiedAt
import Derived.Lay
import Derived.MakeChecks
import Derived.OpenVars
import Derived.WalkKit
import Derived.ProofKit
import Derived.OpenShut
import Derived.ShutString
import Derived.ChangeOld
import Derived.Below

namespace Go.Proofs.YthgbpofcfmnpdaaDoor.fnSameExprs
open Go.ChangeShapes Go.WideShapes Go.ChangeAt Go.RowKit
open Go.ChangeMaps (open_string shut_string)
set_option linter.unusedVariables false
set_option maxRecDepth 8000

set_option maxHeartbeats 8000000 in
theorem walk (a : Option Addr) (len cap : Nat) (zs : List Int) (w : World) (hrow : IsRow .u8 w a len cap zs) (ht : TabK w) : Calls Tryd.prog 4 #[.slice a len cap] w fun e w' => e = .returned (.bool true) ∧ Below w.heap.size w w' := by
  obtain ⟨xs, hl, hlc, hcm, hr⟩ := rd_of_row hrow
  clear hrow
  have hlm : len ≤ 9223372036854775807 := by unfold maxLen at hcm; omega
  have EV := hide (fun wr (h : Below w.heap.size w wr) => ht.next h)
  have RX := hide (fun wr (h : Below w.heap.size w wr) => hr.later h)
  clear ht hr
  by_cases hbig : (1048576 : Int) < (len : Int)
  · have hb1 : decide ((1048576 : Int) < (len : Int)) = true := decide_eq_true hbig
    have BG := hide (big_any a len cap w hlm)
    rw [hb1] at BG
    go_enter Tryd.func4, Tryd.ntmps4
    go_wp2_with (first | (go_at_call 9; refine (unhide BG).mono ?_; rintro e w' ⟨rfl, hw'⟩; rw [hw']; clear hw' w'))
    go_ret
    exact ⟨rfl, Below.refl _ _⟩
  have hb1 : decide ((1048576 : Int) < (len : Int)) = false := decide_eq_false hbig
  have hm : len ≤ 1048576 := by omega
  have BG := hide (big_any a len cap w hlm)
  rw [hb1] at BG
  have D1 := hide (drawSame_any a len cap xs w hl hm (unhide RX w (Below.refl _ _)))
  have D2 := hide (fun wr h => drawExprOk_any a len cap xs wr hl hm (unhide RX wr h))
  clear RX
  go_enter Tryd.func4, Tryd.ntmps4
  go_wp2_with (first | (go_at_call 9; refine (unhide BG).mono ?_; rintro e w' ⟨rfl, hw'⟩; rw [hw']; clear hw' w'))
  refine (unhide D1).mono ?_
  rintro e w1 ⟨x, y, c, d, cp, dp, rfl, hsx, hsy, hnx, hny, hb1'⟩
  have B1 := hide hb1'
  have X1 := hide hnx
  have Y1 := hide hny
  clear hnx hny hb1' D1 BG hb1
  unfold Ex.cs
  obtain ⟨b2, g2x, g2y, z2⟩ := two_res w1 (.cells #[.int .i64 x.k, .int .i64 x.n, .string x.s, .slice c x.l.length cp] 37) (.cells #[.int .i64 y.k, .int .i64 y.n, .string y.s, .slice d y.l.length dp] 37)
  obtain ⟨w2, hw2⟩ : ∃ w2, (w1.alloc (.cells #[.int .i64 x.k, .int .i64 x.n, .string x.s, .slice c x.l.length cp] 37)).alloc (.cells #[.int .i64 y.k, .int .i64 y.n, .string y.s, .slice d y.l.length dp] 37) = w2 := ⟨_, rfl⟩
  rw [hw2] at b2 g2x g2y z2
  have B2 := hide ((unhide B1).trans (b2.mono (unhide B1).size))
  have X2 := hide ((unhide X1).later b2)
  have Y2 := hide ((unhide Y1).later b2)
  have GX2 := hide g2x
  have GY2 := hide g2y
  have E2 := hide (unhide D2 w2 (unhide B2))
  clear b2 g2x g2y z2 B1 X1 Y1 D2
  go_wp2_with fail
  refine (unhide E2).mono ?_
  rintro e w3 ⟨z, f, fp, rfl, hsz, hnz, hb3⟩
  have B3 := hide ((unhide B2).trans (hb3.mono (unhide B2).size))
  have X3 := hide ((unhide X2).later hb3)
  have Y3 := hide ((unhide Y2).later hb3)
  have Z3 := hide hnz
  have GX3 := hide (row_keep (unhide GX2) hb3)
  have GY3 := hide (row_keep (unhide GY2) hb3)
  clear hb3 hnz B2 X2 Y2 GX2 GY2 E2
  unfold Ex.cs
  have hb4 := below_new w3 (.cells #[.int .i64 z.k, .int .i64 z.n, .string z.s, .slice f z.l.length fp] 37)
  have hg4 : (w3.alloc (.cells #[.int .i64 z.k, .int .i64 z.n, .string z.s, .slice f z.l.length fp] 37)).heap[w3.heap.size]? = some (.cells #[.int .i64 z.k, .int .i64 z.n, .string z.s, .slice f z.l.length fp] 37 (0, 0)) := Array.getElem?_push_size
  obtain ⟨w4, hw4⟩ : ∃ w4, w3.alloc (.cells #[.int .i64 z.k, .int .i64 z.n, .string z.s, .slice f z.l.length fp] 37) = w4 := ⟨_, rfl⟩
  rw [hw4] at hb4 hg4
  have hb5 : Below w3.heap.size w3 w4.drew := hb4.trans ((below_drew (w := w4)).mono hb4.size)
  have B5 := hide ((unhide B3).trans (hb5.mono (unhide B3).size))
  have X5 := hide ((unhide X3).later hb5)
  have Y5 := hide ((unhide Y3).later hb5)
  have Z5 := hide ((unhide Z3).later hb5)
  have D5 := hide (show (fun w' => w'.heap[w1.heap.size]? = some (.cells #[.int .i64 x.k, .int .i64 x.n, .string x.s, .slice c x.l.length cp] 37 (0, 0)) ∧ w'.heap[w1.heap.size + 1]? = some (.cells #[.int .i64 y.k, .int .i64 y.n, .string y.s, .slice d y.l.length dp] 37 (0, 0)) ∧ w'.heap[w3.heap.size]? = some (.cells #[.int .i64 z.k, .int .i64 z.n, .string z.s, .slice f z.l.length fp] 37 (0, 0))) w4.drew from ⟨row_keep (unhide GX3) hb5, row_keep (unhide GY3) hb5, row_keep hg4 below_drew⟩)
  clear hb4 hg4 hb5 B3 X3 Y3 Z3 GX3 GY3
  have FX := hide (fun wr B (h : NewX wr B x c) => (show ∃ F, OwX wr x c F from h.imp fun F h => h.1))
  have FY := hide (fun wr B (h : NewX wr B y d) => (show ∃ F, OwX wr y d F from h.imp fun F h => h.1))
  have I1 := hide (fun wr (h : NewX wr w.heap.size x c) => sameI_any x x c c cp cp wr (unhide FX _ _ h) (unhide FX _ _ h) (by omega))
  have I2 := hide (fun wr (h : NewX wr w.heap.size x c) (k : NewX wr w.heap.size y d) => sameI_any x y c d cp dp wr (unhide FX _ _ h) (unhide FY _ _ k) (by omega))
  have I3 := hide (fun wr (h : NewX wr w.heap.size x c) (k : NewX wr w.heap.size y d) => sameI_any y x d c dp cp wr (unhide FY _ _ k) (unhide FX _ _ h) (by omega))
  have S2 := hide (fun wr (h : NewX wr w.heap.size x c) (k : NewX wr w.heap.size y d) => sameS_any x y c d cp dp wr (h.rd.lower (Nat.zero_le _) _ _) (k.rd.lower (Nat.zero_le _) _ _) (by omega) (by omega))
  have OI := hide (fun wr (h : NewX wr w2.heap.size z f) (ht : TabK wr) => okI_any z f fp wr (h.rd.lower (Nat.zero_le _) _ _) (by omega) ht)
  have OS := hide (fun wr (h : NewX wr w2.heap.size z f) => okS_any z f fp wr (h.rd.lower (Nat.zero_le _) _ _) (by omega))
  have LX := hide (fun wr w' (h : NewX wr w.heap.size x c) (hb : Below wr.heap.size wr w') => h.later hb)
  have LY := hide (fun wr w' (h : NewX wr w.heap.size y d) (hb : Below wr.heap.size wr w') => h.later hb)
  have LZ := hide (fun wr w' (h : NewX wr w2.heap.size z f) (hb : Below wr.heap.size wr w') => h.later hb)
  rw [sameX_self] at I1
  rw [sameX_comm y x] at I3
  unfold Ex.cs at I1 I2 I3 S2 OI OS
  generalize sameX x y = q at *
  generalize okF 6 false z = p at *
  clear FX FY hsx hsy hsz
  generalize x.k = xk at *
  generalize x.n = xn at *
  generalize x.s = sx at *
  generalize x.l.length = xl at *
  generalize y.k = yk at *
  generalize y.n = yn at *
  generalize y.s = sy at *
  generalize y.l.length = yl at *
  generalize z.k = zk at *
  generalize z.n = zn at *
  generalize z.s = sz at *
  generalize z.l.length = zl at *
  go_wp2_with fail
  clear hw2 hw4
  refine wp_region_held_drew (S := fun w' => w'.heap[w1.heap.size]? = some (.cells #[.int .i64 xk, .int .i64 xn, .string sx, .slice c xl cp] 37 (0, 0)) ∧ w'.heap[w1.heap.size + 1]? = some (.cells #[.int .i64 yk, .int .i64 yn, .string sy, .slice d yl dp] 37 (0, 0)) ∧ w'.heap[w3.heap.size]? = some (.cells #[.int .i64 zk, .int .i64 zn, .string sz, .slice f zl fp] 37 (0, 0))) (by kernel_rfl) (unhide D5) (fun hS => ?_)
  have HS := hide hS
  clear hS
  refine wpAnyH_take (i := 0) (v := .agg #[.int .i64 xk, .int .i64 xn, .string sx, .slice c xl cp]) rfl (by kernel_rfl) (by kernel_rfl) (by kernel_rfl) (fun _ _ _ h => h) (yields_loadG (by rfl) 37 _ rfl w1.heap.size rfl 37 #[.int .i64 xk, .int .i64 xn, .string sx, .slice c xl cp] _ (fun w h => h.1) Tryd.underlying37 rfl (by kernel_rfl)) (unhide HS) ?_
  go_simp
  refine wpAnyH_take (i := 1) (v := .agg #[.int .i64 xk, .int .i64 xn, .string sx, .slice c xl cp]) rfl (by kernel_rfl) (by kernel_rfl) (by kernel_rfl) (fun _ _ _ h => h) (yields_loadG (by rfl) 37 _ rfl w1.heap.size rfl 37 #[.int .i64 xk, .int .i64 xn, .string sx, .slice c xl cp] _ (fun w h => h.1) Tryd.underlying37 rfl (by kernel_rfl)) (unhide HS) ?_
  go_simp
  refine wpAnyH_ready (rs := [2]) (by kernel_rfl) (by simp) ?_
  refine AllReadyH.cons rfl (fun K2 hK => ?_) AllReadyH.nil
  go_simp
  refine (unhide I1 _ (unhide X5)).mono ?_
  rintro r w6 ⟨rfl, hb6⟩
  refine hK.out _ _ (⟨row_keep (unhide D5).1 hb6, row_keep (unhide D5).2.1 hb6, row_keep (unhide D5).2.2 hb6⟩) (fun hS => ?_)
  clear HS
  have HS := hide hS
  clear hS hK K2
  have B6 := hide ((unhide B5).trans (hb6.mono (unhide B5).size))
  have X6 := hide (unhide LX _ _ (unhide X5) hb6)
  have Y6 := hide (unhide LY _ _ (unhide Y5) hb6)
  have Z6 := hide (unhide LZ _ _ (unhide Z5) hb6)
  have D6 := hide (unhide HS)
  clear hb6 B5 X5 Y5 Z5 D5
  refine wpAnyH_take (i := 3) (v := .bool true) rfl (by kernel_rfl) (by kernel_rfl) (by kernel_rfl) (fun _ _ _ h => h) (Or.inl ⟨by rfl, fun w hc => ?_⟩) (unhide HS) ?_
  · clear hc; go_simp
  go_simp
  refine wpAnyH_take (i := 4) (v := .agg #[.int .i64 xk, .int .i64 xn, .string sx, .slice c xl cp]) rfl (by kernel_rfl) (by kernel_rfl) (by kernel_rfl) (fun _ _ _ h => h) (yields_loadG (by rfl) 37 _ rfl w1.heap.size rfl 37 #[.int .i64 xk, .int .i64 xn, .string sx, .slice c xl cp] _ (fun w h => h.1) Tryd.underlying37 rfl (by kernel_rfl)) (unhide HS) ?_
  go_simp
  refine wpAnyH_take (i := 5) (v := .agg #[.int .i64 yk, .int .i64 yn, .string sy, .slice d yl dp]) rfl (by kernel_rfl) (by kernel_rfl) (by kernel_rfl) (fun _ _ _ h => h) (yields_loadG (by rfl) 37 _ rfl (w1.heap.size + 1) rfl 37 #[.int .i64 yk, .int .i64 yn, .string sy, .slice d yl dp] _ (fun w h => h.2.1) Tryd.underlying37 rfl (by kernel_rfl)) (unhide HS) ?_
  go_simp
  refine wpAnyH_take (i := 7) (v := .agg #[.int .i64 xk, .int .i64 xn, .string sx, .slice c xl cp]) rfl (by kernel_rfl) (by kernel_rfl) (by kernel_rfl) (fun _ _ _ h => h) (yields_loadG (by rfl) 37 _ rfl w1.heap.size rfl 37 #[.int .i64 xk, .int .i64 xn, .string sx, .slice c xl cp] _ (fun w h => h.1) Tryd.underlying37 rfl (by kernel_rfl)) (unhide HS) ?_
  go_simp
  refine wpAnyH_take (i := 8) (v := .agg #[.int .i64 yk, .int .i64 yn, .string sy, .slice d yl dp]) rfl (by kernel_rfl) (by kernel_rfl) (by kernel_rfl) (fun _ _ _ h => h) (yields_loadG (by rfl) 37 _ rfl (w1.heap.size + 1) rfl 37 #[.int .i64 yk, .int .i64 yn, .string sy, .slice d yl dp] _ (fun w h => h.2.1) Tryd.underlying37 rfl (by kernel_rfl)) (unhide HS) ?_
  go_simp
  refine wpAnyH_ready (rs := [6]) (by kernel_rfl) (by simp) ?_
  refine AllReadyH.cons rfl (fun K2 hK => ?_) AllReadyH.nil
  go_simp
  refine (unhide I2 _ (unhide X6) (unhide Y6)).mono ?_
  rintro r w7 ⟨rfl, hb7⟩
  refine hK.out _ _ (⟨row_keep (unhide D6).1 hb7, row_keep (unhide D6).2.1 hb7, row_keep (unhide D6).2.2 hb7⟩) (fun hS => ?_)
  clear HS
  have HS := hide hS
  clear hS hK K2
  have B7 := hide ((unhide B6).trans (hb7.mono (unhide B6).size))
  have X7 := hide (unhide LX _ _ (unhide X6) hb7)
  have Y7 := hide (unhide LY _ _ (unhide Y6) hb7)
  have Z7 := hide (unhide LZ _ _ (unhide Z6) hb7)
  have D7 := hide (unhide HS)
  clear hb7 B6 X6 Y6 Z6 D6
  refine wpAnyH_ready (rs := [9]) (by kernel_rfl) (by simp) ?_
  refine AllReadyH.cons rfl (fun K2 hK => ?_) AllReadyH.nil
  go_simp
  refine (unhide S2 _ (unhide X7) (unhide Y7)).mono ?_
  rintro r w8 ⟨rfl, hb8⟩
  refine hK.out _ _ (⟨row_keep (unhide D7).1 hb8, row_keep (unhide D7).2.1 hb8, row_keep (unhide D7).2.2 hb8⟩) (fun hS => ?_)
  clear HS
  have HS := hide hS
  clear hS hK K2
  have B8 := hide ((unhide B7).trans (hb8.mono (unhide B7).size))
  have X8 := hide (unhide LX _ _ (unhide X7) hb8)
  have Y8 := hide (unhide LY _ _ (unhide Y7) hb8)
  have Z8 := hide (unhide LZ _ _ (unhide Z7) hb8)
  have D8 := hide (unhide HS)
  clear hb8 B7 X7 Y7 Z7 D7
  refine wpAnyH_take (i := 10) (v := .bool true) rfl (by kernel_rfl) (by kernel_rfl) (by kernel_rfl) (fun _ _ _ h => h) (Or.inl ⟨by rfl, fun w hc => ?_⟩) (unhide HS) ?_
  · clear hc; go_simp
  go_simp
  refine wpAnyH_take (i := 11) (v := .bool true) rfl (by kernel_rfl) (by kernel_rfl) (by kernel_rfl) (fun _ _ _ h => h) (Or.inl ⟨by rfl, fun w hc => ?_⟩) (unhide HS) ?_
  · clear hc; go_simp
  go_simp
  refine wpAnyH_take (i := 12) (v := .bool true) rfl (by kernel_rfl) (by kernel_rfl) (by kernel_rfl) (fun _ _ _ h => h) (Or.inl ⟨by rfl, fun w hc => ?_⟩) (unhide HS) ?_
  · clear hc; go_simp
  go_simp
  refine wpAnyH_take (i := 13) (v := .agg #[.int .i64 xk, .int .i64 xn, .string sx, .slice c xl cp]) rfl (by kernel_rfl) (by kernel_rfl) (by kernel_rfl) (fun _ _ _ h => h) (yields_loadG (by rfl) 37 _ rfl w1.heap.size rfl 37 #[.int .i64 xk, .int .i64 xn, .string sx, .slice c xl cp] _ (fun w h => h.1) Tryd.underlying37 rfl (by kernel_rfl)) (unhide HS) ?_
  go_simp
  refine wpAnyH_take (i := 14) (v := .agg #[.int .i64 yk, .int .i64 yn, .string sy, .slice d yl dp]) rfl (by kernel_rfl) (by kernel_rfl) (by kernel_rfl) (fun _ _ _ h => h) (yields_loadG (by rfl) 37 _ rfl (w1.heap.size + 1) rfl 37 #[.int .i64 yk, .int .i64 yn, .string sy, .slice d yl dp] _ (fun w h => h.2.1) Tryd.underlying37 rfl (by kernel_rfl)) (unhide HS) ?_
  go_simp
  refine wpAnyH_take (i := 16) (v := .agg #[.int .i64 yk, .int .i64 yn, .string sy, .slice d yl dp]) rfl (by kernel_rfl) (by kernel_rfl) (by kernel_rfl) (fun _ _ _ h => h) (yields_loadG (by rfl) 37 _ rfl (w1.heap.size + 1) rfl 37 #[.int .i64 yk, .int .i64 yn, .string sy, .slice d yl dp] _ (fun w h => h.2.1) Tryd.underlying37 rfl (by kernel_rfl)) (unhide HS) ?_
  go_simp
  refine wpAnyH_take (i := 17) (v := .agg #[.int .i64 xk, .int .i64 xn, .string sx, .slice c xl cp]) rfl (by kernel_rfl) (by kernel_rfl) (by kernel_rfl) (fun _ _ _ h => h) (yields_loadG (by rfl) 37 _ rfl w1.heap.size rfl 37 #[.int .i64 xk, .int .i64 xn, .string sx, .slice c xl cp] _ (fun w h => h.1) Tryd.underlying37 rfl (by kernel_rfl)) (unhide HS) ?_
  go_simp
  refine wpAnyH_ready (rs := [15]) (by kernel_rfl) (by simp) ?_
  refine AllReadyH.cons rfl (fun K2 hK => ?_) AllReadyH.nil
  go_simp
  refine (unhide I2 _ (unhide X8) (unhide Y8)).mono ?_
  rintro r w9 ⟨rfl, hb9⟩
  refine hK.out _ _ (⟨row_keep (unhide D8).1 hb9, row_keep (unhide D8).2.1 hb9, row_keep (unhide D8).2.2 hb9⟩) (fun hS => ?_)
  clear HS
  have HS := hide hS
  clear hS hK K2
  have B9 := hide ((unhide B8).trans (hb9.mono (unhide B8).size))
  have X9 := hide (unhide LX _ _ (unhide X8) hb9)
  have Y9 := hide (unhide LY _ _ (unhide Y8) hb9)
  have Z9 := hide (unhide LZ _ _ (unhide Z8) hb9)
  have D9 := hide (unhide HS)
  clear hb9 B8 X8 Y8 Z8 D8
  refine wpAnyH_ready (rs := [18]) (by kernel_rfl) (by simp) ?_
  refine AllReadyH.cons rfl (fun K2 hK => ?_) AllReadyH.nil
  go_simp
  refine (unhide I3 _ (unhide X9) (unhide Y9)).mono ?_
  rintro r w10 ⟨rfl, hb10⟩
  refine hK.out _ _ (⟨row_keep (unhide D9).1 hb10, row_keep (unhide D9).2.1 hb10, row_keep (unhide D9).2.2 hb10⟩) (fun hS => ?_)
  clear HS
  have HS := hide hS
  clear hS hK K2
  have B10 := hide ((unhide B9).trans (hb10.mono (unhide B9).size))
  have X10 := hide (unhide LX _ _ (unhide X9) hb10)
  have Y10 := hide (unhide LY _ _ (unhide Y9) hb10)
  have Z10 := hide (unhide LZ _ _ (unhide Z9) hb10)
  have D10 := hide (unhide HS)
  clear hb10 B9 X9 Y9 Z9 D9
  refine wpAnyH_take (i := 19) (v := .bool true) rfl (by kernel_rfl) (by kernel_rfl) (by kernel_rfl) (fun _ _ _ h => h) (Or.inl ⟨by rfl, fun w hc => ?_⟩) (unhide HS) ?_
  · clear hc; go_simp
  go_simp
  refine wpAnyH_take (i := 20) (v := .bool true) rfl (by kernel_rfl) (by kernel_rfl) (by kernel_rfl) (fun _ _ _ h => h) (Or.inl ⟨by rfl, fun w hc => ?_⟩) (unhide HS) ?_
  · clear hc; go_simp
  go_simp
  refine wpAnyH_take (i := 21) (v := .bool true) rfl (by kernel_rfl) (by kernel_rfl) (by kernel_rfl) (fun _ _ _ h => h) (Or.inl ⟨by rfl, fun w hc => ?_⟩) (unhide HS) ?_
  · clear hc; go_simp
  go_simp
  refine wpAnyH_take (i := 22) (v := .agg #[.int .i64 zk, .int .i64 zn, .string sz, .slice f zl fp]) rfl (by kernel_rfl) (by kernel_rfl) (by kernel_rfl) (fun _ _ _ h => h) (yields_loadG (by rfl) 37 _ rfl w3.heap.size rfl 37 #[.int .i64 zk, .int .i64 zn, .string sz, .slice f zl fp] _ (fun w h => h.2.2) Tryd.underlying37 rfl (by kernel_rfl)) (unhide HS) ?_
  go_simp
  refine wpAnyH_take (i := 24) (v := .agg #[.int .i64 zk, .int .i64 zn, .string sz, .slice f zl fp]) rfl (by kernel_rfl) (by kernel_rfl) (by kernel_rfl) (fun _ _ _ h => h) (yields_loadG (by rfl) 37 _ rfl w3.heap.size rfl 37 #[.int .i64 zk, .int .i64 zn, .string sz, .slice f zl fp] _ (fun w h => h.2.2) Tryd.underlying37 rfl (by kernel_rfl)) (unhide HS) ?_
  go_simp
  refine wpAnyH_ready (rs := [23]) (by kernel_rfl) (by simp) ?_
  refine AllReadyH.cons rfl (fun K2 hK => ?_) AllReadyH.nil
  go_simp
  refine (unhide OI _ (unhide Z10) (unhide EV _ (unhide B10))).mono ?_
  rintro r w11 ⟨rfl, hb11⟩
  refine hK.out _ _ (⟨row_keep (unhide D10).1 hb11, row_keep (unhide D10).2.1 hb11, row_keep (unhide D10).2.2 hb11⟩) (fun hS => ?_)
  clear HS
  have HS := hide hS
  clear hS hK K2
  have B11 := hide ((unhide B10).trans (hb11.mono (unhide B10).size))
  have X11 := hide (unhide LX _ _ (unhide X10) hb11)
  have Y11 := hide (unhide LY _ _ (unhide Y10) hb11)
  have Z11 := hide (unhide LZ _ _ (unhide Z10) hb11)
  have D11 := hide (unhide HS)
  clear hb11 B10 X10 Y10 Z10 D10
  refine wpAnyH_ready (rs := [25]) (by kernel_rfl) (by simp) ?_
  refine AllReadyH.cons rfl (fun K2 hK => ?_) AllReadyH.nil
  go_simp
  refine (unhide OS _ (unhide Z11)).mono ?_
  rintro r w12 ⟨rfl, hb12⟩
  refine hK.out _ _ (⟨row_keep (unhide D11).1 hb12, row_keep (unhide D11).2.1 hb12, row_keep (unhide D11).2.2 hb12⟩) (fun hS => ?_)
  clear HS
  have HS := hide hS
  clear hS hK K2
  have B12 := hide ((unhide B11).trans (hb12.mono (unhide B11).size))
  have X12 := hide (unhide LX _ _ (unhide X11) hb12)
  have Y12 := hide (unhide LY _ _ (unhide Y11) hb12)
  have Z12 := hide (unhide LZ _ _ (unhide Z11) hb12)
  have D12 := hide (unhide HS)
  clear hb12 B11 X11 Y11 Z11 D11
  refine wpAnyH_take (i := 26) (v := .bool true) rfl (by kernel_rfl) (by kernel_rfl) (by kernel_rfl) (fun _ _ _ h => h) (Or.inl ⟨by rfl, fun w hc => ?_⟩) (unhide HS) ?_
  · clear hc; go_simp
  go_simp
  refine wpAnyH_take (i := 27) (v := .bool true) rfl (by kernel_rfl) (by kernel_rfl) (by kernel_rfl) (fun _ _ _ h => h) (Or.inl ⟨by rfl, fun w hc => ?_⟩) (unhide HS) ?_
  · clear hc; go_simp
  go_simp
  refine wpAnyH_take (i := 28) (v := .bool true) rfl (by kernel_rfl) (by kernel_rfl) (by kernel_rfl) (fun _ _ _ h => h) (Or.inl ⟨by rfl, fun w hc => ?_⟩) (unhide HS) ?_
  · clear hc; go_simp
  go_simp
  refine wpAnyH_done (by kernel_rfl) ?_ _
  go_wp2
  go_ret
  exact ⟨rfl, unhide B12⟩

set_option maxRecDepth 100000 in
theorem lifted (os : Os) (started : os.Started) (H : Type) (enc : TypeId × Value → H) :
    ReturnsInHanded {} Tryd.checked os 4 .any (fun w args => (Rows.fnSameExprsSpec.pre enc Tryd.prog Tryd.f4 [] false w args ∧ laidMetH Tryd.prog Rows.fnSameExprsRow.laid w) ∧ sizedMet enc Tryd.prog Tryd.f4 (OpenSpec.ofChange Rows.fnSameExprsSpec) false w args)
      (Rows.fnSameExprsSpec.post enc Tryd.prog Tryd.f4 false true false false) := by
  refine returnsInHanded_of_change_and (C := Tryd.checked) (X := fun w _ => laidMetH Tryd.prog Rows.fnSameExprsRow.laid w) (fun _ _ _ hh h => h.of_heap hh) own started (by kernel_rfl) Tryd.func4
    (ChangeSpec.witness_shaped (enc := enc) (C := Tryd.checked) (os := os) (X := fun w _ => laidMetH Tryd.prog Rows.fnSameExprsRow.laid w) false (World.laidAll Tryd.prog os Rows.fnSameExprsRow.laid) #[.slice none 0 0] 8 (World.laidAll_os _ _ _)
      (World.shaped_of_ZipB (by kernel_rfl) (by kernel_rfl)) (by kernel_rfl) (by kernel_rfl) (by kernel_rfl)
      (by rw [MakeChecks.laidMetH_plain _ _ _ (by kernel_rfl)]; exact laidMet_laidAll _ (by kernel_rfl) (by kernel_rfl))) ?_
  intro W base args ds gs before hval0 hW _ _ hL _
  have hval : ∀ (j : Nat) t v, Tryd.f4.params[j]? = some t → args[j]? = some v → Value.okWide Tryd.prog W .any base t v := hval0
  have hW' := hW
  obtain ⟨p, q, hA0, hV, rfl, hfz, hnd⟩ := hW
  have hA : DataW.TrodAll enc Tryd.prog W 0 (fun _ => true) true Tryd.f4.params.toList args.toList ds p := hA0
  rw [Tryd.params4] at hA hval
  obtain ⟨v0, vs0, d0, ds0, p0, q0, hargs, rfl, rfl, h0, r0⟩ := trodAll_cons hA
  obtain ⟨rfl, rfl, rfl⟩ := trodAll_nil r0
  obtain rfl : args = #[v0] := by cases args; simp_all
  have kV := hV
  obtain ⟨gv, tv, cv, fv, dv, pv, gu, tu, cu, fu, du, pu, rfl, _⟩ := trodVars_two hV
  have k0 := h0
  have lt0 : ∀ x ∈ p0, x.block < W.heap.size := by obtain ⟨m, hm⟩ := k0; exact DataW.trod_lt m _ _ _ hm
  obtain ⟨a0, len0, cap0, rfl⟩ := okWide_slice Tryd.underlying22 (hval 0 22 v0 rfl rfl)
  obtain ⟨z0, w0⟩ : ∃ zs, IsRow .u8 W a0 len0 cap0 zs := by
    obtain ⟨fuel, hf⟩ := h0
    rcases open_ints Tryd.underlying22 Tryd.underlying5 (by kernel_rfl) hf with ⟨hcs, _⟩ | ⟨x, l, c, zs, hcs, _, hl, hm, hz, _, hcell, hwz⟩
    · simp [Value.cells] at hcs
      obtain ⟨rfl, rfl, rfl⟩ := hcs
      exact ⟨[], .inl ⟨rfl, rfl, rfl, rfl⟩⟩
    · simp [Value.cells] at hcs
      obtain ⟨rfl, rfl, rfl⟩ := hcs
      exact ⟨zs, .inr ⟨_, rfl, hl, hm, by simpa using hz, hcell, hwz⟩⟩
  clear hA0 hval0
  refine (walk a0 len0 cap0 z0 W w0 (tab_of_laid hL)).mono fun e W' ⟨he, bel⟩ => ?_
  subst he
  exact ⟨_, rfl, _, _, _, [], _, _, hW', trodAll_mk1 (shut_bool Tryd.underlying4 _), (trodAll_cons_mk (Below.trod laidOut (by kernel_rfl) (of_decide_eq_true (by kernel_rfl)) k0 bel lt0) trodAll_mk0), bel.trodVars laidOut (by kernel_rfl) kV, bel.frame _, fun h => by cases h⟩

theorem proved : Rows.FnSameExprsSaid :=
  OpenClaim.holds_of_wide 4 Tryd.f4 rfl rfl rfl rfl rfl rfl rfl ⟨rfl, rfl, rfl, rfl, rfl⟩ rfl rfl rfl rfl rfl (by kernel_rfl) Tryd.func4 (by kernel_rfl)
    (of_decide_eq_true (by kernel_rfl)) (by unfold Func.isWrapper; first | (rw [if_pos (by decide +kernel)]; kernel_rfl) | (rw [if_neg (by decide +kernel)]; exact ⟨rfl, rfl⟩))
    (fun os started H enc _ => lifted os started H enc)
end Go.Proofs.YthgbpofcfmnpdaaDoor.fnSameExprs

namespace Go.Proofs.YthgbpofcfmnpdaaDoor
theorem fnSameExprs_holds : Rows.FnSameExprsCardSaid :=
  Claim7.holds_tied_plain_at .later [] [.data, .data] true (true, "024b85a724a0c90bbfcec3145dcc3ce4cc6fd38289db879db2e1c102559e5034") true
    fnSameExprs.proved (fun _ h => by cases h) (by kernel_rfl) (fun _ h => by cases h) fnSameExprs_row_tie rfl ⟨rfl, rfl⟩ (by kernel_rfl) rfl
    (fun f fn hf hfn => by
      obtain rfl : f = 4 := Option.some.inj ((show Tryd.prog.funcNamed "loop.example/g00329/laws.FnSameExprs" = some 4 by kernel_rfl).symm.trans hf) |>.symm
      obtain rfl : fn = Tryd.f4 := (Option.some.inj (Tryd.func4.symm.trans hfn)).symm
      exact ⟨by kernel_rfl, fun j t ht => by
        rw [Tryd.params4] at ht
        have hm : t ∈ [22] := by simpa using Array.mem_of_getElem? ht
        have hall : ([22].all fun u => !Tryd.prog.wantsStandIn u) = true := by kernel_rfl
        exact (show Tryd.prog.wantsStandIn t = false by simpa using List.all_eq_true.1 hall t hm)⟩)
    (by kernel_rfl)
#print axioms fnSameExprs_holds
end Go.Proofs.YthgbpofcfmnpdaaDoor
