/- Draws of lists of tokens and of lines; over this seat's translation; conditions stand as hypotheses of each. -/
import Derived.Test.YthgbpofcfmnpdaaDoorLyC
import Derived.Test.YthgbpofcfmnpdaaDoorLxD
namespace Go.Proofs.YthgbpofcfmnpdaaDoor
open Go.ChangeShapes Go.WideShapes Go.ChangeAt Go.RowKit
set_option linter.unusedVariables false
set_option maxRecDepth 8000
set_option linter.unusedSimpArgs false

theorem OwnT.drawn {w' wr : World} {cb B : Nat} {v : Value} {ts : List Tk} (h : OwnT wr B v ts) (hg : wr.grownBy w' (some cb)) (hB : cb < B) : OwnT w' B v ts :=
  h.keep fun g hv hl => hg.block g hl (fun e => by have := (h.lt hv).1; simp at e; omega)
set_option maxHeartbeats 2000000 in
theorem toksD (n : Nat) (hn0 : 0 < n) (hn : n ≤ 100) (cb : Nat) (a : Option Addr) (len cap : Nat) (xs : List UInt8) (w : World) (hc : Cur w cb a len cap xs) :
    Calls Tryd.prog 36 #[.pointer (some ⟨cb, 0, none⟩), .int .i64 n] w fun e w' => ∃ (ts : List Tk) (v : Value), AllOk ts ∧ ts.length ≤ 100 ∧ e = .returned v ∧ OwnT w' w.heap.size v ts ∧ Cur w' cb a len cap xs ∧ w.grownBy w' (some cb) := by
  obtain ⟨i0, hi, hz0, hz1, hz2⟩ := info_parts infoT
  have hlt := hc.lt
  have D0 := hide ((dz_new hc).later (below_new w (.cells #[] 31)))
  have O0 := hide (ownT_empty w w.heap.size (Nat.le_refl _))
  clear hc
  go_enter Tryd.func36, Tryd.ntmps36
  go_wp2_with fail
  generalize w.alloc (Obj.cells #[] 31) = W at *
  refine (below_any cb a len cap xs n W (by omega) (unhide D0).cur).mono ?_
  rintro e w1 ⟨x, hx0, hx1, rfl, hc1, hg1⟩
  obtain ⟨hx2, hx3⟩ := hx0 (by omega)
  obtain ⟨j, rfl⟩ := Int.eq_ofNat_of_zero_le hx2
  have D1 := hide ((unhide D0).draw hc1 hg1)
  have O1 := hide ((unhide O0).drawn hg1 hlt)
  have hj : j ≤ 100 := by omega
  clear hx0 hx1 hc1 hg1 D0 O0 hx2 hx3
  go_wp2
  go_loopw [5, 6] (fun o i wr => ∃ (m : Nat) (acc : List Tk) (sa : Option Addr) (cp : Nat), i = .int .i64 m ∧ o = .slice sa acc.length cp ∧ m + acc.length ≤ 100 ∧ AllOk acc ∧ OwnT wr w.heap.size (.slice sa acc.length cp) acc ∧ Dz w wr cb a len cap xs) (fun _ i _ => (intOf i).toNat)
  case atStart => exact ⟨j, [], _, _, rfl, rfl, by simpa using hj, (fun x hx => by cases hx), unhide O1, unhide D1⟩
  case round =>
    clear O1 D1 hj
    obtain ⟨m, acc, sa, cp, rfl, rfl, hm, hok, ho, hd⟩ := hrel
    have OW := hide ho
    have DW := hide hd
    have OK := hide hok
    clear ho hd hok
    by_cases h0 : 0 < m
    · have hp : (0 : Int) < (m : Int) := by omega
      have DT := hide (drawT cb a len cap xs wr (unhide DW).cur)
      go_wp2_with fail
      refine (unhide DT).mono ?_
      rintro e w2 ⟨⟨tk, tn, tx⟩, hokT, rfl, hc2, hg2⟩
      have OW2 := hide ((unhide OW).drawn hg2 hlt)
      have DW2 := hide ((unhide DW).draw hc2 hg2)
      have OK2 := hide ((unhide OK).snoc hokT)
      have hs2 := (unhide DW2).size
      have K1 := hide (cell_new w2 #[.int .i64 tk, .int .i64 tn, .string tx] 31)
      unfold Tk.v Tk.cs
      simp only
      clear hokT hc2 hg2 DT OW DW OK
      go_wp2_with (at_builtin; go_must (refine wpList_append_own _ rfl (.tmp 15) (.tmp 18) 24 rfl w.heap.size 31 i0 (.agg #[.int .i64 0, .int .i64 0, .string ⟨#[]⟩]) 3 32 Tryd.underlying24 hi hz0 hz1 hz2 rfl (by decide) (.slice sa acc.length cp) acc.length (cellsT acc) rfl (World.ownsRow.alloc (unhide OW2) _) ⟨w2.heap.size, 0, none⟩ 1 1 [.int .i64 tk, .int .i64 tn, .string tx] rfl rfl (unhide K1) (newT_one _ _ _) (by unfold maxLen; omega) (by omega) (by simp; omega) ?_; intro v5 w5 hown5 hgrow5 _; have OW5 := hide (ownT_app (t := ⟨tk, tn, tx⟩) hown5); obtain ⟨a5, c5, hv5, _⟩ := (unhide OW5).rd; have DW5 := hide (((unhide DW2).later (below_new w2 (.cells #[.int .i64 tk, .int .i64 tn, .string tx] 31))).own hgrow5 (fun g hg => ((unhide OW2).lt hg).1)); clear hown5 hgrow5; subst hv5))
      go_roundw
      case rel => exact ⟨m - 1, acc ++ [Tk.mk tk tn tx], a5, c5, by go_num, by rw [List.length_append]; rfl, by rw [List.length_append]; simp; omega, unhide OK2, unhide OW5, unhide DW5⟩
      case measure => simp [intOf]; omega
    · obtain rfl : m = 0 := by omega
      have hl8 : acc.length ≤ 100 := by omega
      go_wp2
      go_ret
      exact ⟨acc, _, unhide OK, hl8, rfl, unhide OW, (unhide DW).cur, (unhide DW).gr⟩
set_option maxHeartbeats 400000 in
theorem drawLineOf_any (a : Option Addr) (len cap : Nat) (xs : List UInt8) (w : World) (hl : xs.length = len) (hm : len ≤ 1048576) (hr : Rd w a xs) :
    Calls Tryd.prog 10 #[.slice a len cap] w fun e w' => ∃ (ts : List Tk) (v : Value), AllOk ts ∧ ts.length ≤ 100 ∧ e = .returned v ∧ OwnT w' w.heap.size v ts ∧ Below w.heap.size w w' := by
  go_enter Tryd.func10, Tryd.ntmps10
  go_wp2_with fail
  refine (new_any a len cap xs w hl hm hr).mono ?_
  rintro e w1 ⟨rfl, hc1, hb1⟩
  have TD := hide (toksD 12 (by omega) (by omega) _ a len cap xs w1 hc1)
  have B1 := hide hb1
  clear hc1 hb1
  go_wp2_with fail
  refine (unhide TD).mono ?_
  rintro e w2 ⟨ts, v, hok, h8, rfl, ho, hc2, hg2⟩
  have B2 := hide (below_of_new (unhide B1) hg2)
  have O2 := hide (ho.base (unhide B1).size)
  clear ho hc2 hg2 TD B1
  go_wp2
  go_ret
  exact ⟨ts, v, hok, h8, rfl, unhide O2, unhide B2⟩
def L9e : List ByteArray := [⟨#[32, 59, 32, 110, 111]⟩, ⟨#[32, 56]⟩, ⟨#[32, 50, 48, 48, 48, 48, 48]⟩, ⟨#[32, 115, 101, 118, 101, 110, 108, 101]⟩, ⟨#[65]⟩, ⟨#[32, 46, 115, 101, 118, 101, 110, 108, 101]⟩, ⟨#[255]⟩, ⟨#[97, 43, 49]⟩, ⟨#[46, 43, 50]⟩, ⟨#[46, 46]⟩, ⟨#[32, 48, 48]⟩, ⟨#[9, 120]⟩]
def L9f : List ByteArray := [⟨#[109, 111, 118, 32, 35, 53, 44, 114, 48]⟩, ⟨#[97, 58, 98]⟩, ⟨#[64, 45, 40, 115, 112, 41]⟩, ⟨#[120, 61, 60, 97, 43, 49, 62]⟩, ⟨#[114, 48, 114, 49]⟩, ⟨#[46, 119, 111, 114, 100, 32, 49, 44, 50]⟩]
theorem sz9e : ∀ j : Fin 12, (L9e.getD j.val E0).size ≤ 10 := by decide +kernel
theorem sz9f : ∀ j : Fin 6, (L9f.getD j.val E0).size ≤ 10 := by decide +kernel
set_option maxHeartbeats 2000000 in
theorem drawLex_any (a : Option Addr) (len cap : Nat) (xs : List UInt8) (w : World) (hl : xs.length = len) (hm : len ≤ 1048576) (hr : Rd w a xs) :
    Calls Tryd.prog 13 #[.slice a len cap] w fun e w' => ∃ s : ByteArray, s.size ≤ 1048576 ∧ e = .returned (.string s) ∧ Below w.heap.size w w' := by
  go_enter Tryd.func13, Tryd.ntmps13
  go_wp2_with fail
  refine (new_any a len cap xs w hl hm hr).mono ?_
  rintro e w1 ⟨rfl, hc1, hb1⟩
  have TD := hide (toksD 8 (by omega) (by omega) _ a len cap xs w1 hc1)
  have B1 := hide hb1
  clear hc1 hb1
  go_wp2_with fail
  refine (unhide TD).mono ?_
  rintro e w2 ⟨ts, v, hok, h8, rfl, ho, hc2, hg2⟩
  have B2 := hide (below_of_new (unhide B1) hg2)
  have C2 := hide hc2
  obtain ⟨sa, cp, rfl, r2⟩ := ho.rd
  have hzl := ok_szL hok
  have LS := hide (lineS_any sa ts.length cp ts w2 rfl (by omega) r2)
  have SZ : (strOf (lineOf ts)).size ≤ 2000 := by
    have h1 := lineT_len ts ts.length (Nat.le_refl _)
    rw [List.take_length] at h1
    rw [strOf_size]
    unfold lineOf
    omega
  generalize strOf (lineOf ts) = S at *
  clear ho hc2 hg2 TD B1 r2 hok hzl
  go_wp2_with fail
  refine (unhide LS).mono ?_
  rintro e w3 ⟨rfl, hb3⟩
  have B3 := hide ((unhide B2).trans (hb3.mono (unhide B2).size))
  have C3 := hide ((unhide C2).later hb3)
  have DB := hide (below_any _ a len cap xs 4 w3 (by omega) (unhide C3))
  clear hb3 B2 C2 LS
  go_wp2_with fail
  refine (unhide DB).mono ?_
  rintro e w4 ⟨x, hx0, hx1, rfl, hc4, hg4⟩
  obtain ⟨hx2, hx3⟩ := hx0 (by omega)
  have B4 := hide (below_of_new (unhide B3) hg4)
  have C4 := hide hc4
  clear hx0 hx1 hc4 hg4 B3 C3 DB
  have h4 : x = 0 ∨ x = 1 ∨ x = 2 ∨ x = 3 := by omega
  clear hx2 hx3
  rcases h4 with rfl | rfl | hx
  · have S1 := hide (strD L9e 12 _ a len cap xs w4 rfl (by omega) (by omega) (unhide C4))
    go_wp2_with (first | (go_at_call 51; refine (unhide S1).mono ?_; rintro e w5 ⟨j, hj, rfl, hc5, hg5⟩; have B5 := hide (below_of_new (unhide B4) hg5); have sz := sz9e ⟨j, hj⟩; simp only at sz; clear hc5 hg5; generalize L9e.getD j E0 = sx at *))
    go_ret
    exact ⟨_, by rw [ByteArray.size_append]; omega, rfl, unhide B5⟩
  · have S1 := hide (strD L9f 6 _ a len cap xs w4 rfl (by omega) (by omega) (unhide C4))
    go_wp2_with (first | (go_at_call 51; refine (unhide S1).mono ?_; rintro e w5 ⟨j, hj, rfl, hc5, hg5⟩; have B5 := hide (below_of_new (unhide B4) hg5); have sz := sz9f ⟨j, hj⟩; simp only at sz; clear hc5 hg5; generalize L9f.getD j E0 = sx at *))
    go_ret
    exact ⟨sx, by omega, rfl, unhide B5⟩
  · have hxa : (x == 0) = false := beq_eq_false_iff_ne.2 (by omega)
    have hxb : (x == 1) = false := beq_eq_false_iff_ne.2 (by omega)
    have ON := hide (once_any _ a len cap xs 100 w4 (by omega) (unhide C4))
    clear hx
    go_wp2_with fail
    refine (unhide ON).mono ?_
    rintro e w5 ⟨b, rfl, hc5, hg5⟩
    have B5 := hide (below_of_new (unhide B4) hg5)
    clear hc5 hg5 B4 C4 ON
    cases b
    · go_wp2
      go_ret
      exact ⟨S, by omega, rfl, unhide B5⟩
    · go_wp2
      go_loop [4, 5] (fun v i => ∃ (k : Nat) (T : ByteArray), k ≤ 800 ∧ i = .int .i64 k ∧ v = .string T ∧ T.size ≤ 2000 + 2 * k) (fun _ i => 800 - (intOf i).toNat)
      case atStart => exact ⟨0, S, by omega, rfl, rfl, by omega⟩
      case round =>
        obtain ⟨k, T, hk, rfl, rfl, hT⟩ := hrel
        by_cases hlt : k < 800
        · have hts : T.size ≤ 10000 := by omega
          have TS := hide (show (T ++ (⟨#[32, 44]⟩ : ByteArray)).size ≤ 2000 + 2 * (k + 1) by rw [ByteArray.size_append]; show T.size + 2 ≤ _; omega)
          go_wp2
          go_round
          case rel => exact ⟨k + 1, _, by omega, by go_num, rfl, unhide TS⟩
          case measure => simp [intOf]; omega
        · go_wp2
          go_ret
          exact ⟨T, by omega, rfl, unhide B5⟩
end Go.Proofs.YthgbpofcfmnpdaaDoor
