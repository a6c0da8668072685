/- What Outcome answers, by the program; over this seat's translation; conditions stand as hypotheses of each. -/
import Derived.Test.YtboedaofbchdkaaDoorOutB
import Derived.Test.YtboedaofbchdkaaDoorOutC
namespace Go.Proofs.YtboedaofbchdkaaDoor
open Go.ChangeShapes Go.WideShapes Go.ChangeAt Go.RowKit
set_option linter.unusedVariables false
set_option maxRecDepth 8000
set_option linter.unusedSimpArgs false

theorem bd_later {w w' : World} {B b : Nat} {bs : List UInt8} (h : Bd w B b bs) (hb : Below w.heap.size w w') : Bd w' B b bs := by
  have key : ∀ p, Lib.BuilderAt 68 5 B b p (cellsB bs) w → Lib.BuilderAt 68 5 B b p (cellsB bs) w' := fun p ⟨h1, v, h2, h3, h4⟩ =>
    ⟨h1, v, row_lat h2 hb, ownsRow_keep h3 fun g hg => hb.block g ((h3.lt g hg).2), h4⟩
  exact h.elim (fun x => .inl (key _ x)) (fun x => .inr (key _ x))
theorem bd_new (w : World) (B : Nat) (hB : B ≤ w.heap.size) : Bd (w.alloc (.cells #[.pointer none, .slice none 0 0] 68)) B w.heap.size [] :=
  .inl ⟨hB, .slice none 0 0, heap_alloc_last w _, ⟨rfl, .inl ⟨rfl, rfl⟩⟩, by simp [Value.ownBlock]⟩
theorem outW_len (st : Int) : 1 ≤ (outW st).length ∧ (outW st).length ≤ 1000 := by
  unfold outW
  split
  · exact ⟨by decide, by decide⟩
  · split
    · exact ⟨by decide, by decide⟩
    · exact ⟨by decide, by decide⟩
theorem out_ne (o : List UInt8) (st : Int) : o ++ outW st ≠ [] := fun e => by
  have h1 := outW_len st
  have := congrArg List.length e
  rw [List.length_append] at this
  rw [List.length_nil] at this
  omega
theorem stopText_any (st : Int) (w : World) : Calls Tryd.prog 40 #[.int .i64 st] w fun e w' => e = .returned (.string (strOf (outW st))) ∧ w' = w := by
  obtain ⟨T, hT⟩ : ∃ T, T = outW st := ⟨_, rfl⟩
  have E3 := hide (show st ≠ 0 → st ≠ 1 → T = [102, 97, 117, 108, 116] from fun h0 h1 => by rw [hT]; unfold outW; rw [if_neg h0, if_neg h1])
  have E1 := hide (show st = 1 → T = [104, 97, 108, 116] from fun h1 => by rw [hT, h1]; rfl)
  have E0 := hide (show st = 0 → T = [114, 117, 110] from fun h1 => by rw [hT, h1]; rfl)
  rw [← hT]
  clear hT
  by_cases h0 : st = 0
  · have E := hide (unhide E0 h0)
    clear E0 E1 E3
    subst h0
    go_enter Tryd.func40, Tryd.ntmps40
    go_wp2
    go_ret
    exact ⟨by rw [unhide E]; rfl, rfl⟩
  · by_cases h1 : st = 1
    · have E := hide (unhide E1 h1)
      clear E0 E1 E3
      subst h1
      go_enter Tryd.func40, Tryd.ntmps40
      go_wp2
      go_ret
      exact ⟨by rw [unhide E]; rfl, rfl⟩
    · have E := hide (unhide E3 h0 h1)
      clear E0 E1 E3
      go_enter Tryd.func40, Tryd.ntmps40
      go_wp2
      go_ret
      exact ⟨by rw [unhide E]; rfl, rfl⟩
/-- What stands while the program's Outcome goes on. -/
structure Ow (w wr : World) (x : Mv) (d : Md) (bs : List UInt8) : Prop where
  bx : wr.heap[w.heap.size]? = some (.cells x.cs 32 (0, 0))
  rd : RdN wr x.o.a d.o
  bel : Below w.heap.size w wr
  bd : Bd wr (w.heap.size + 1) (w.heap.size + 1) bs
  sz : w.heap.size + 1 ≤ wr.heap.size
  tab : wr.cell? ⟨3, 7, none⟩ = some (.int .u8 3)
  tl : 3 < w.heap.size
section
variable {w wr w' : World} {x : Mv} {d : Md} {bs cs : List UInt8}
theorem Ow.next (h : Ow w wr x d bs) (hb : Below (w.heap.size + 1) wr w') (hr : RdN w x.o.a d.o) (k : Bd w' (w.heap.size + 1) (w.heap.size + 1) cs) : Ow w w' x d cs :=
  have hbl := h.bel.trans (hb.mono (by omega))
  ⟨(hb.block _ (by omega)).trans h.bx, hr.later hbl, hbl, k, Nat.le_trans h.sz hb.size, (hb.cell (p := ⟨3, 7, none⟩) (by have := h.tl; show 3 < _; omega)).trans h.tab, h.tl⟩
theorem Ow.later (h : Ow w wr x d bs) (hb : Below wr.heap.size wr w') (hr : RdN w x.o.a d.o) : Ow w w' x d bs := h.next (hb.mono h.sz) hr (bd_later h.bd hb)
end
theorem ow_new (w : World) (x : Mv) (d : Md) (hr : RdN w x.o.a d.o) (hg : w.cell? ⟨3, 7, none⟩ = some (.int .u8 3)) : Ow w ((w.alloc (.cells x.cs 32)).alloc (.cells #[.pointer none, .slice none 0 0] 68)) x d [] := by
  have z1 : (w.alloc (.cells x.cs 32)).heap.size = w.heap.size + 1 := by simp
  have b1 := below_new w (.cells x.cs 32)
  have b2 := below_new (w.alloc (.cells x.cs 32)) (.cells #[.pointer none, .slice none 0 0] 68)
  have bl : Below w.heap.size w ((w.alloc (.cells x.cs 32)).alloc (.cells #[.pointer none, .slice none 0 0] 68)) := b1.trans (b2.mono (by omega))
  have k := bd_new (w.alloc (.cells x.cs 32)) (w.heap.size + 1) (by omega)
  rw [z1] at k
  have tl : 3 < w.heap.size := World.block_lt_of_cell? w _ hg
  exact ⟨row_lat (heap_alloc_last w _) b2, hr.later bl, bl, k, by simp, (bl.cell (p := ⟨3, 7, none⟩) tl).trans hg, tl⟩
/-- What the program's Outcome answers. -/
def OuI (x : Mv) (s : List UInt8) (w : World) : Prop := Calls Tryd.prog 16 #[.agg x.cs] w fun e w' => e = .returned (.string (strOf s)) ∧ Below w.heap.size w w'
set_option maxHeartbeats 2000000 in
theorem outI_any (x : Mv) (d : Md) (w : World) (hs : x.small) (hr : RdM w x d) (hg : w.cell? ⟨3, 7, none⟩ = some (.int .u8 3)) : OuI x (outS d.o x.st) w := by
  have O0 := hide (ow_new w x d hr.o hg)
  have HR := hide hr.o
  have OL := hide hr.ol
  have hsm := hs.2.2.2
  unfold OuI
  obtain ⟨T, hT⟩ : ∃ T, T = outS d.o x.st := ⟨_, rfl⟩
  rw [← hT]
  have ET := hide hT
  have c7 := row_o (unhide O0).bx
  clear hs hr hT hg
  go_enter Tryd.func16, Tryd.ntmps16
  go_wp2
  go_loopw [9] (fun i wr => ∃ k : Nat, k ≤ x.o.n ∧ i = .int .i64 k ∧ Ow w wr x d (outB (d.o.take k))) (fun i _ => x.o.n - (intOf i).toNat)
  case atStart => exact ⟨0, Nat.zero_le _, rfl, unhide O0⟩
  case round =>
    clear O0 c7
    obtain ⟨k, hk, rfl, ho⟩ := hrel
    have O1 := hide ho
    have LT := hide (outT_len d.o k 1048576 (by have := unhide OL; omega))
    by_cases hlt : k < x.o.n
    · obtain ⟨b, off, ha, hbl, hc⟩ := ho.rd.at (k := k) (by have := unhide OL; omega)
      rw [ha]
      have OC := hide (octI_any (nAt d.o k) wr ho.tab)
      have HN := hide (show outB (d.o.take k) ++ octD (nAt d.o k % 65536).toNat ++ [32] = outB (d.o.take (k + 1)) by
        rw [outB_take _ _ (by have := unhide OL; omega)]
        unfold outN
        rw [List.append_assoc])
      have SX := hide (octD_six (nAt d.o k))
      generalize octD (nAt d.o k % 65536).toNat = ds at HN OC SX
      generalize nAt d.o k = nn at hc OC
      generalize outB (d.o.take k) = bs at HN LT O1
      clear ho ha
      go_wp2_with fail
      refine (unhide OC).mono ?_
      rintro e w2 ⟨rfl, hb2⟩
      have O2 := hide ((unhide O1).later hb2 (unhide HR))
      have WS := hide (writeS (w.heap.size + 1) (w.heap.size + 1) bs ds w2 (unhide O2).bd (by have := unhide LT; omega) (by have := unhide SX; omega) (unhide O2).sz)
      clear hb2 hc OC O1
      go_wp2_with fail
      refine (unhide WS).mono ?_
      rintro e w3 ⟨⟨v3, rfl⟩, k3, hb3⟩
      have O3 := hide ((unhide O2).next hb3 (unhide HR) k3)
      have WB := hide (writeB (w.heap.size + 1) (w.heap.size + 1) (bs ++ ds) 32 w3 (unhide O3).bd (by have := unhide LT; have := unhide SX; rw [List.length_append]; omega) (unhide O3).sz)
      clear hb3 k3 O2 WS
      go_wp2_with fail
      refine (unhide WB).mono ?_
      rintro e w4 ⟨rfl, k4, hb4⟩
      have O4 := hide ((unhide O3).next hb4 (unhide HR) k4)
      rw [unhide HN] at O4
      clear hb4 k4 O3 WB
      go_wp2
      go_roundw
      case rel => exact ⟨k + 1, by omega, by go_num, unhide O4⟩
      case measure => simp [intOf]; omega
    · obtain rfl : k = x.o.n := by omega
      have HN := hide (show d.o.take x.o.n = d.o by rw [← unhide OL, List.take_length])
      rw [unhide HN] at O1 LT
      have c8 := row_st ho.bx
      have E2 := hide (show outB d.o ++ outW x.st = T from (unhide ET).symm)
      have WN := hide (show outB d.o ++ outW x.st ≠ [] ∧ (outW x.st).length ≤ 1000 from ⟨out_ne _ _, (outW_len _).2⟩)
      have TX := hide (stopText_any x.st wr)
      have WS := hide (writeS (w.heap.size + 1) (w.heap.size + 1) (outB d.o) (outW x.st) wr (unhide O1).bd (by have := unhide LT; omega) (unhide WN).2 (unhide O1).sz)
      have SB := hide (fun v (o : Ow w v x d (outB d.o ++ outW x.st)) => strB (w.heap.size + 1) (w.heap.size + 1) _ v o.bd (unhide WN).1)
      rw [unhide E2] at WS SB
      generalize outB d.o = bs at O1 WS SB
      generalize outW x.st = ow at TX WS
      generalize x.st = st at c8 TX
      clear ho LT WN E2 ET HN
      go_wp2_with fail
      refine (unhide TX).mono ?_
      rintro e w2 ⟨rfl, hw2⟩
      rw [hw2]
      clear hw2 w2
      go_wp2_with fail
      refine (unhide WS).mono ?_
      rintro e w3 ⟨⟨v3, rfl⟩, k3, hb3⟩
      have O3 := hide ((unhide O1).next hb3 (unhide HR) k3)
      have SC := hide (unhide SB w3 (unhide O3))
      clear hb3 k3 O1 WS SB
      go_wp2_with fail
      refine (unhide SC).mono ?_
      rintro e w4 ⟨rfl, hb4⟩
      have HB := hide ((unhide O3).bel.trans (hb4.mono (by omega)))
      clear hb4 SC O3
      go_wp2
      go_ret
      exact ⟨rfl, unhide HB⟩
end Go.Proofs.YtboedaofbchdkaaDoor
