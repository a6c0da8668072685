/- Contracts of the program's GetRad, over this seat's translation; conditions stand as hypotheses of each. -/
import Derived.Test.YtcnlimpebnhikaaDoorGetF
namespace Go.Proofs.YtcnlimpebnhikaaDoor
open Go.ChangeShapes Go.WideShapes Go.ChangeAt Go.RowKit
set_option linter.unusedVariables false

theorem tab_ix (d : Nat) (hd : d < 40) : ∀ w : World, (Instr.index 9 (.string ⟨#[32, 97, 98, 99, 100, 101, 102, 103, 104, 105, 106, 107, 108, 109, 110, 111, 112, 113, 114, 115, 116, 117, 118, 119, 120, 121, 122, 36, 46, 0, 48, 49, 50, 51, 52, 53, 54, 55, 56, 57]⟩) (.int .i64 (d : Int))).run Tryd.prog w = .ok (.int .u8 ((tb d).toNat : Int)) w := by
  intro w
  show (Instr.index 9 (.string tab) (.int .i64 (d : Int))).run Tryd.prog w = _
  rw [run_index_string w 9 tab .i64 (d : Int) Tryd.underlying9, dif_pos ⟨by omega, by rw [tab_size]; omega⟩]
  have h : d < tab.size := by rw [tab_size]; exact hd
  have := sAt tab d h
  rw [show ((tb d).toNat : Int) = bAt tab.data.toList d from rfl, ← this]
  rfl

theorem bd_later {w w' : World} {B b : Nat} {bs : List UInt8} (h : Bd w B b bs) (hb : Below w.heap.size w w') : Bd w' B b bs := by
  have key : ∀ p, Lib.BuilderAt 48 5 B b p (cellsB bs) w → Lib.BuilderAt 48 5 B b p (cellsB bs) w' := by
    rintro p ⟨hB, v, hbk, hown, hne⟩
    have hl : b < w.heap.size := (Array.getElem?_eq_some_iff.1 hbk).1
    exact ⟨hB, v, (hb.block b hl).trans hbk, ownsRow_keep hown fun g hg => hb.block g (World.ownsRow.lt hown g hg).2, hne⟩
  exact h.elim (fun x => .inl (key _ x)) (fun x => .inr (key _ x))

set_option maxHeartbeats 2000000 in
set_option maxRecDepth 100000 in
theorem getRadI_any (a : Option Addr) (len cap : Nat) (ns : List Int) (w : World) (hl : ns.length = len) (hm : len ≤ 1048576) (hr : RdN w a ns) (hbd : ∀ i, i < ns.length → -9223372036854775808 ≤ nAt ns i ∧ nAt ns i ≤ 9223372036854775807) :
    Calls Tryd.prog 10 #[.slice a len cap] w fun e w' => GetEnd ns e ∧ Below w.heap.size w w' := by
  by_cases h2 : len ≤ 2
  · have HBD := hide hbd
    clear hbd
    have hB0 := hide ((Below.refl w.heap.size w).alloc (Nat.le_refl _) (Obj.cells #[.pointer none, .slice none 0 0] 48))
    have hK0 := hide (show (w.alloc (Obj.cells #[.pointer none, .slice none 0 0] 48)).heap[w.heap.size]? = some (.cells #[.pointer none, .slice none 0 0] 48 (0, 0)) from Array.getElem?_push_size)
    go_enter Tryd.func10, Tryd.ntmps10
    go_wp2
    go_loopw [16] (fun i wr => ∃ k : Nat, k ≤ len ∧ i = .int .i64 k ∧ Below w.heap.size w wr ∧ Bd wr w.heap.size w.heap.size (bytesK ns k) ∧ Hid (k = 0 → wr.heap[w.heap.size]? = some (.cells #[.pointer none, .slice none 0 0] 48 (0, 0))) ∧ Hid (∀ i, i < k → WOk (nAt ns i))) (fun i _ => len - (intOf i).toNat)
    case atStart => exact ⟨0, by omega, rfl, unhide hB0, .inl ⟨Nat.le_refl _, _, unhide hK0, ⟨rfl, .inl ⟨rfl, rfl⟩⟩, by simp [Value.ownBlock]⟩, fun _ => unhide hK0, fun i hi => by omega⟩
    case round =>
      clear hB0 hK0
      obtain ⟨k, hk, rfl, hbel, hbuild, hfresh, hall⟩ := hrel
      by_cases hlt : k < len
      · rcases hr with rfl | ⟨b, off, rfl, hb, hc⟩
        · simp at hl; omega
        have hcx : wr.cell? ⟨b, off + k, none⟩ = some (.int .i64 (nAt ns k)) := (hbel.cell (p := ⟨b, off + k, none⟩) hb).trans (hc k (by omega))
        have hxb := unhide HBD k (by omega)
        have HB := hide hbel
        have HBd := hide hbuild
        have hsz := hbel.size
        clear hc hbel hbuild hfresh
        obtain ⟨x, hx⟩ : ∃ x, nAt ns k = x := ⟨_, rfl⟩
        rw [hx] at hcx hxb
        have HX := hide hx
        clear hx
        go_wp2_with fail
        refine (threeOf_any x hxb _).mono ?_
        rintro e w1 ⟨⟨p, q, r, ok, rfl, hok, hdig⟩, hb1⟩
        have s1 := hb1.size
        have B1 := hide ((unhide HB).trans (hb1.mono hsz))
        have D1 := hide (show Bd w1 w.heap.size w.heap.size (bytesK ns k) from bd_later (unhide HBd) hb1)
        clear hb1 HB HBd
        cases ok with
        | false =>
          have HN := hide (show ¬ GGood ns from fun h => by have := hok.2 (by rw [← unhide HX]; exact h.2 k (by omega)); cases this)
          clear hok hdig hall
          have B2 := hide ((unhide B1).alloc (show w.heap.size ≤ w1.heap.size by omega) (Obj.cells #[.int .i64 p, .int .i64 q, .int .i64 r] 39))
          go_wp2
          go_ret2
          exact ⟨.inr ⟨unhide HN, rfl⟩, unhide B2⟩
        | true =>
          have hW := hok.1 rfl
          obtain ⟨rfl, rfl, rfl⟩ := hdig rfl
          have HWk := hide (show WOk (nAt ns k) by rw [unhide HX]; exact hW)
          clear hok hdig
          obtain ⟨n, rfl⟩ := Int.eq_ofNat_of_zero_le hW.1
          have hn := hW.2.1
          obtain ⟨d0, q0⟩ : ∃ d0, d0 = n / 1600 := ⟨_, rfl⟩
          obtain ⟨d1, q1⟩ : ∃ d1, d1 = n / 40 % 40 := ⟨_, rfl⟩
          obtain ⟨d2, q2⟩ : ∃ d2, d2 = n % 40 := ⟨_, rfl⟩
          have e0 : (n : Int) / 1600 = (d0 : Int) := by omega
          have e1 : (n : Int) / 40 % 40 = (d1 : Int) := by omega
          have e2 : (n : Int) % 40 = (d2 : Int) := by omega
          have hd0 : d0 < 40 := by omega
          have hd1 : d1 < 40 := by omega
          have hd2 : d2 < 40 := by omega
          have HW3 := hide (show w3 (nAt ns k) = [tb d0, tb d1, tb d2] by unfold w3; rw [unhide HX, e0, e1, e2]; rfl)
          rw [e0, e1, e2]
          clear e0 e1 e2 q0 q1 q2 hW hn
          have B2 := hide ((unhide B1).alloc (show w.heap.size ≤ w1.heap.size by omega) (Obj.cells #[.int .i64 (d0 : Int), .int .i64 (d1 : Int), .int .i64 (d2 : Int)] 39))
          have D2 := hide (show Bd (w1.alloc (Obj.cells #[.int .i64 (d0 : Int), .int .i64 (d1 : Int), .int .i64 (d2 : Int)] 39)) w.heap.size w.heap.size (bytesK ns k ++ [tb d0, tb d1, tb d2].take 0) by
            rw [List.take_zero, List.append_nil]
            exact bd_later (unhide D1) ((Below.refl _ _).alloc (Nat.le_refl _) _))
          have x0 : ∀ w : World, (Instr.index 39 (.agg #[.int .i64 (d0 : Int), .int .i64 (d1 : Int), .int .i64 (d2 : Int)]) (.int .i64 0)).run Tryd.prog w = .ok (.int .i64 (d0 : Int)) w := fun _ => by kernel_rfl
          have x1 : ∀ w : World, (Instr.index 39 (.agg #[.int .i64 (d0 : Int), .int .i64 (d1 : Int), .int .i64 (d2 : Int)]) (.int .i64 1)).run Tryd.prog w = .ok (.int .i64 (d1 : Int)) w := fun _ => by kernel_rfl
          have x2 : ∀ w : World, (Instr.index 39 (.agg #[.int .i64 (d0 : Int), .int .i64 (d1 : Int), .int .i64 (d2 : Int)]) (.int .i64 2)).run Tryd.prog w = .ok (.int .i64 (d2 : Int)) w := fun _ => by kernel_rfl
          clear B1 D1
          have hdl : decide ((k : Int) < (len : Int)) = true := by simp; omega
          go_wp2
          clear hdl
          go_loopw [28] (fun i wk => ∃ c : Nat, c ≤ 3 ∧ i = .int .i64 c ∧ Below w.heap.size w wk ∧ Bd wk w.heap.size w.heap.size (bytesK ns k ++ [tb d0, tb d1, tb d2].take c)) (fun i _ => 3 - (intOf i).toNat)
          case atStart => exact ⟨0, by omega, rfl, unhide B2, unhide D2⟩
          case round =>
            clear B2 D2
            obtain ⟨c, hc, rfl, hbel, hbd'⟩ := hrel
            obtain rfl | rfl | rfl | rfl : c = 0 ∨ c = 1 ∨ c = 2 ∨ c = 3 := by omega
            · have HB := hide hbel
              have HBd := hide hbd'
              have hsz := hbel.size
              have KL := bytesK_length ns k
              have HLn := show (bytesK ns k ++ [tb d0, tb d1, tb d2].take 0).length = 3 * k + 0 by rw [List.length_append, KL]; rfl
              have HW := hide (writeB w.heap.size w.heap.size (bytesK ns k ++ [tb d0, tb d1, tb d2].take 0) (tb d0) wr hbd' (by omega) hsz)
              have hix := tab_ix d0 hd0
              obtain ⟨y, hy⟩ : ∃ y : Int, ((tb d0).toNat : Int) = y := ⟨_, rfl⟩
              rw [hy] at HW hix
              clear hbel hbd' hy
              go_wp2_with fail
              refine (unhide HW).mono ?_
              rintro e w2 ⟨rfl, hbd2, hb2⟩
              have B2 := hide ((unhide HB).trans hb2)
              have D2 := hide (show Bd w2 w.heap.size w.heap.size (bytesK ns k ++ [tb d0, tb d1, tb d2].take (0 + 1)) by simpa using hbd2)
              clear hbd2 hb2 HB HBd HW
              go_wp2
              go_roundw
              case rel => exact ⟨0 + 1, by omega, by go_num, unhide B2, unhide D2⟩
              case measure => simp [intOf]
            · have HB := hide hbel
              have HBd := hide hbd'
              have hsz := hbel.size
              have KL := bytesK_length ns k
              have HLn := show (bytesK ns k ++ [tb d0, tb d1, tb d2].take 1).length = 3 * k + 1 by rw [List.length_append, KL]; rfl
              have HW := hide (writeB w.heap.size w.heap.size (bytesK ns k ++ [tb d0, tb d1, tb d2].take 1) (tb d1) wr hbd' (by omega) hsz)
              have hix := tab_ix d1 hd1
              obtain ⟨y, hy⟩ : ∃ y : Int, ((tb d1).toNat : Int) = y := ⟨_, rfl⟩
              rw [hy] at HW hix
              clear hbel hbd' hy
              go_wp2_with fail
              refine (unhide HW).mono ?_
              rintro e w2 ⟨rfl, hbd2, hb2⟩
              have B2 := hide ((unhide HB).trans hb2)
              have D2 := hide (show Bd w2 w.heap.size w.heap.size (bytesK ns k ++ [tb d0, tb d1, tb d2].take (1 + 1)) by simpa using hbd2)
              clear hbd2 hb2 HB HBd HW
              go_wp2
              go_roundw
              case rel => exact ⟨1 + 1, by omega, by go_num, unhide B2, unhide D2⟩
              case measure => simp [intOf]
            · have HB := hide hbel
              have HBd := hide hbd'
              have hsz := hbel.size
              have KL := bytesK_length ns k
              have HLn := show (bytesK ns k ++ [tb d0, tb d1, tb d2].take 2).length = 3 * k + 2 by rw [List.length_append, KL]; rfl
              have HW := hide (writeB w.heap.size w.heap.size (bytesK ns k ++ [tb d0, tb d1, tb d2].take 2) (tb d2) wr hbd' (by omega) hsz)
              have hix := tab_ix d2 hd2
              obtain ⟨y, hy⟩ : ∃ y : Int, ((tb d2).toNat : Int) = y := ⟨_, rfl⟩
              rw [hy] at HW hix
              clear hbel hbd' hy
              go_wp2_with fail
              refine (unhide HW).mono ?_
              rintro e w2 ⟨rfl, hbd2, hb2⟩
              have B2 := hide ((unhide HB).trans hb2)
              have D2 := hide (show Bd w2 w.heap.size w.heap.size (bytesK ns k ++ [tb d0, tb d1, tb d2].take (2 + 1)) by simpa using hbd2)
              clear hbd2 hb2 HB HBd HW
              go_wp2
              go_roundw
              case rel => exact ⟨2 + 1, by omega, by go_num, unhide B2, unhide D2⟩
              case measure => simp [intOf]
            · have HB := hide hbel
              have HD := hide (show Bd wr w.heap.size w.heap.size (bytesK ns (k + 1)) by rw [bytesK_succ, unhide HW3]; exact hbd')
              have HA := hide (show ∀ i, i < k + 1 → WOk (nAt ns i) from fun i hi => by
                by_cases e : i = k
                · subst e; exact unhide HWk
                · exact hall.out i (by omega))
              clear hbel hbd'
              go_wp2
              go_roundw
              case rel => exact ⟨k + 1, by omega, by go_num, unhide HB, unhide HD, (fun e => by omega), unhide HA⟩
              case measure => simp [intOf]; omega
      · obtain rfl : k = len := by omega
        have HG := hide (show GGood ns from ⟨by omega, fun i hi => hall.out i (by omega)⟩)
        have hsz := hbel.size
        have KL := bytesK_length ns k
        have HS : Calls Tryd.prog 25 #[.pointer (some ⟨w.heap.size, 0, none⟩)] wr fun e w' => e = .returned (.string (strOf (bytesK ns k))) ∧ Below w.heap.size wr w' := by
          by_cases h0 : k = 0
          · have := strB_nil w.heap.size w.heap.size _ wr (hfresh.out h0)
            subst h0
            exact this
          · exact strB w.heap.size w.heap.size _ wr hbuild (fun e => h0 (by rw [e] at KL; simp at KL; omega))
        have HS' := hide HS
        have HT := hide (fun w' => trimR_any (bytesK ns k) (by omega) w')
        have HB := hide hbel
        have HL := hide hl
        clear HS hall hfresh hbuild hbel
        generalize hbs : bytesK ns k = bs at *
        have HBS := hide hbs
        clear hbs
        go_wp2_with fail
        refine (unhide HS').mono ?_
        rintro e w1 ⟨rfl, hb1⟩
        go_wp2_with fail
        refine (unhide HT w1).mono ?_
        rintro e w' ⟨rfl, rfl⟩
        go_wp2
        go_ret2
        exact ⟨.inl ⟨unhide HG, by rw [unhide HL, unhide HBS]; rfl⟩, (unhide HB).trans hb1⟩
  · have HN := hide (show ¬ GGood ns from fun h => h2 (by have := h.1; omega))
    go_enter Tryd.func10, Tryd.ntmps10
    go_wp2
    go_ret2
    exact ⟨.inr ⟨unhide HN, rfl⟩, Below.refl _ _⟩
end Go.Proofs.YtcnlimpebnhikaaDoor
