/- For all tokens, texts and rows of tokens: where they are no more than the law itself counts, Subst by the program answers as Subst by the specification, writes into none of its arguments, shares no memory with them, and owns its answer; beyond that count the law asks nothing. No condition beside. -/
import Derived.Test.YtemglcdglnjakaaRows
import Derived.Test.YtemglcdglnjakaaMxB
import Derived.Test.YtemglcdglnjakaaLwJ
import Derived.Test.YtemglcdglnjakaaLwH
import Derived.Test.YtemglcdglnjakaaLiO
import Derived.WalkKit
import Derived.ProofKit
import Derived.OpenShut
import Derived.ShutString
import Derived.ChangeOld
import Derived.Below
namespace Go.Proofs.Ytemglcdglnjakaa.fnExactSubst
open Go.ChangeShapes Go.WideShapes Go.ChangeAt Go.RowKit
open Go.ChangeMaps (open_string shut_string)
set_option linter.unusedVariables false

theorem own : ownKnob Try.prog.godebug = none := by kernel_rfl
theorem laidOut : laidOutB Try.prog = true := by kernel_rfl

set_option maxHeartbeats 16000000 in
theorem walk (a : Option Addr) (len cap : Nat) (ts : List Tk) (pa : Option Addr) (plen pcap : Nat) (L : List ByteArray) (ra : Option Addr) (rcap : Nat) (ps : List (List Tk)) (w : World) (ht : IsT w a len ts) (hu : IsU w pa plen L) (hr : RdR false w ra ps) (hf : FtR ps) : Calls Try.prog 3 #[.slice a len cap, .slice pa plen pcap, .slice ra ps.length rcap] w fun r w' => r = .returned (.bool true) ∧ Below w.heap.size w w' := by
  have hl := ht.hlen
  subst hl
  have hl := hu.hlen
  subst hl
  have SZ1 := hide (szTokS_L a ts.length cap 1048576 ts w (by omega) rfl ht.max ht.each ht.rd)
  have SZ2 := hide (fun (left : Nat) (wr : World) (h0 : left ≤ 1048576) (h : Below w.heap.size w wr) => szStrS_any pa L.length pcap left L wr rfl hu.max h0 hu.each (hu.rd.later h))
  have SZ3 := hide (fun (left : Nat) (wr : World) (h0 : left ≤ 1048576) (h : Below w.heap.size w wr) => szRR_any (q := false) ra rcap left ps wr h0 hf (hr.later h))
  have TO1 := hide (fun wr (h : Below w.heap.size w wr) (h0 : ts.length ≤ 1048576) => toTokS_any a ts.length cap ts wr rfl h0 (ht.rd.later h))
  have TO2 := hide (fun wr (h : Below w.heap.size w wr) (h0 : L.length ≤ 1048576) => toStrS_any pa L.length pcap L wr rfl h0 (hu.rd.later h))
  have TO3 := hide (fun wr (h : Below w.heap.size w wr) (h0 : ps.length ≤ 1048576) (h1 : ∀ i, i < ps.length → (rAt ps i).length ≤ 1048576) => toRR_any (q := false) ra rcap ps wr h0 h1 (hr.later h))
  have SA := hide (szRw_at ps)
  clear ht hu hr hf
  go_enter Try.func3, Try.ntmps3
  go_wp2_with fail
  refine (unhide SZ1).mono ?_
  rintro r w1 ⟨h1, hb⟩
  have B := hide hb
  clear hb SZ1
  rcases h1 with rfl | ⟨hz1, rfl⟩
  · go_wp2
    go_ret
    exact ⟨rfl, unhide B⟩
  have e1 : (1048576 : Int) - (ts.length : Int) - (szL ts : Int) = ((1048576 - ts.length - szL ts : Nat) : Int) := by omega
  obtain ⟨l1, hl1⟩ : ∃ l1 : Nat, 1048576 - ts.length - szL ts = l1 := ⟨_, rfl⟩
  have p1 : ¬ ((l1 : Nat) : Int) < 0 := by omega
  have X := hide (unhide SZ2 l1 w1 (by omega) (unhide B))
  rw [show (((1048576 : Nat) : Int) - (ts.length : Int) - (szL ts : Int)) = ((l1 : Nat) : Int) by omega]
  clear SZ2 e1
  go_wp2_with fail
  refine (unhide X).mono ?_
  rintro r w2 ⟨h1, hb⟩
  replace B := hide ((unhide B).trans (hb.mono (unhide B).size))
  clear hb X
  rcases h1 with rfl | ⟨hz2, rfl⟩
  · go_wp2
    go_ret
    exact ⟨rfl, unhide B⟩
  obtain ⟨l2, hl2⟩ : ∃ l2 : Nat, l1 - (L.length + szU L) = l2 := ⟨_, rfl⟩
  rw [hl2]
  have p2 : ¬ ((l2 : Nat) : Int) < 0 := by omega
  have X := hide (unhide SZ3 l2 w2 (by omega) (unhide B))
  clear SZ3
  go_wp2_with fail
  refine (unhide X).mono ?_
  rintro r w3 ⟨h1, hb⟩
  replace B := hide ((unhide B).trans (hb.mono (unhide B).size))
  clear hb X
  rcases h1 with rfl | ⟨hz3, rfl⟩
  · go_wp2
    go_ret
    exact ⟨rfl, unhide B⟩
  obtain ⟨l3, hl3⟩ : ∃ l3 : Nat, (l2 : Int) - (ps.length : Int) - (szRw ps : Int) = l3 := ⟨((l2 : Int) - (ps.length : Int) - (szRw ps : Int)).toNat, by omega⟩
  rw [hl3]
  have p3 : ¬ ((l3 : Nat) : Int) < 0 := by omega
  have n1 : ts.length ≤ 1048576 := by omega
  have n2 : L.length ≤ 1048576 := by omega
  have n3 : ps.length ≤ 1048576 := by omega
  have n4 : ∀ i, i < ps.length → (rAt ps i).length ≤ 1048576 := fun i hi => by have := unhide SA i hi; omega
  replace TO1 := hide (fun wr h => unhide TO1 wr h n1)
  replace TO2 := hide (fun wr h => unhide TO2 wr h n2)
  replace TO3 := hide (fun wr h => unhide TO3 wr h n3 n4)
  have SP := hide (fun (la aa : Option Addr) (lc pg pc ac : Nat) (wr : World) h1 h2 h3 => subS ts L ps la aa lc pg pc ac wr n1 (by omega) n4 n3 h1 h2 h3)
  have z1 : ∀ i, i < ts.length → (tAt ts i).s.size ≤ 1048576 := fun i hi => by have := szL_at1 ts i hi; omega
  have z2 : ∀ i, i < ps.length → ∀ j, j < (rAt ps i).length → (tAt (rAt ps i) j).s.size ≤ 1048576 := fun i hi j hj => by have := unhide SA i hi; have := szL_at1 (rAt ps i) j hj; omega
  have PI := hide (fun (la aa : Option Addr) (lc pg pc ac : Nat) (wr : World) h1 h2 h3 => subI ts L ps z1 z2 la aa lc pg pc ac wr n1 (by omega) n4 n3 h1 h2 h3)
  clear z1 z2
  have EQ := hide (fun (b c : Option Addr) (n m : Nat) (wr : World) h1 h2 => eqTokS_big b c ts.length n m ts wr rfl (by omega) h1 h2)
  have EQ2 := hide (fun (b c : Option Addr) (n m : Nat) (wr : World) h1 h2 => eqStrS_same b c L.length n m L wr rfl (by omega) h1 h2)
  have EQ3 := hide (fun (b c : Option Addr) (n m : Nat) (wr : World) h1 h2 => eqRR_same (q1 := true) (q2 := true) b c n m ps wr (by omega) (fun i hi => by have := n4 i hi; omega) h1 h2)
  have hO := sbA_len L ps ts 1048576 (by omega) n4 ts.length (Nat.le_refl _)
  rw [List.take_length] at hO
  have hO2 : (sbA L ps ts).length ≤ 1099511627776 := by omega
  have MT := hide (fun (v : Value) (B K : Nat) (wr : World) (hK : 0 < K) (h0 : K ≤ 100) h => markTokS_K v ts B K wr hK (by omega) h)
  have pR := posR_le ps (1 + 3 * ts.length + L.length) 1048576 n4 ps.length (Nat.le_refl _)
  have MR := hide (fun (v : Value) (vs : List Value) (B : Nat) (wr : World) hB h => markRR_any v ps vs B (1 + 3 * ts.length + L.length) wr (by omega) hB (by omega) (by omega) h)
  have MS := hide (fun (b c B : Nat) (cs : List Value) (wr : World) h => markStrS_any b L.length c (1 + 3 * ts.length) cs B wr (by omega) (by omega) h)
  have pK : ¬ ((posR ps (1 + 3 * ts.length + L.length) ps.length : Nat) : Int) < 0 := by omega
  generalize hOO : sbA L ps ts = O at *
  have EQO := hide (fun (b c : Option Addr) (n m : Nat) (wr : World) h1 h2 => eqTokS_big b c O.length n m O wr rfl (by omega) h1 h2)
  have MO := hide (fun (v : Value) (B : Nat) (wr : World) h => markTokS_K v O B 1 wr (by omega) (by omega) h)
  have HO := hide (fun (b : Option Addr) (n : Nat) (wr : World) h => heldTokS_K b O.length n 1 wr (by omega) (by omega) h)
  have pM : ¬ ((1 + 3 * O.length : Nat) : Int) < 0 := by omega
  have ML := hide (marksK_len 1 O.length)
  clear hz1 hz2 hz3 hl1 hl2 hl3 n4 SA hO hO2 hOO pR
  generalize ((posR ps (1 + 3 * ts.length + L.length) ps.length : Nat) : Int) = kk at *
  have pK2 : decide (kk < 0) = false := decide_eq_false pK
  generalize ((1 + 3 * O.length : Nat) : Int) = mm at *
  have pM2 : decide (mm < 0) = false := decide_eq_false pM
  have X := hide (unhide TO1 w3 (unhide B))
  go_wp2_with fail
  refine (unhide X).mono ?_
  rintro r w4 ⟨v, rfl, ho, hb⟩
  obtain ⟨ta, tc, rfl, _⟩ := ho.rd
  replace B := hide ((unhide B).trans (hb.mono (unhide B).size))
  have T := hide ho
  clear ho hb X
  have X := hide (unhide TO2 w4 (unhide B))
  go_wp2_with fail
  refine (unhide X).mono ?_
  rintro r w5 ⟨rfl, ho, hb⟩
  replace B := hide ((unhide B).trans (hb.mono (unhide B).size))
  replace T := hide ((unhide T).later hb)
  have U := hide ho
  clear ho hb X
  generalize hpg : w4.heap.size = pg at *
  clear hpg
  have X := hide (unhide TO3 w5 (unhide B))
  go_wp2_with fail
  refine (unhide X).mono ?_
  rintro r w6 ⟨v, vs, rfl, ho, hb⟩
  obtain ⟨ra0, rc0, rfl⟩ := ho.form
  replace B := hide ((unhide B).trans (hb.mono (unhide B).size))
  replace T := hide ((unhide T).later hb)
  replace U := hide ((unhide U).later2 hb)
  have V := hide ho
  clear ho hb X
  have X := hide (unhide SP ta ra0 tc pg L.length rc0 w6 (unhide T).rd1 (unhide U).cells (unhide V).rd)
  go_wp2_with fail
  refine (unhide X).mono ?_
  rintro r w7 ⟨v, rfl, ho, hb⟩
  obtain ⟨wa, wc, rfl, _⟩ := ho.rd
  replace B := hide ((unhide B).trans (hb.mono (unhide B).size))
  have W := hide ho.rd1
  have C := hide (Below.refl w7.heap.size w7)
  have B0 := hide (unhide B)
  clear ho hb X T U V SP
  have X := hide (unhide TO1 w7 (unhide B))
  go_wp2_with fail
  refine (unhide X).mono ?_
  rintro r w8 ⟨v, rfl, ho, hb⟩
  obtain ⟨xa, xc, rfl, _⟩ := ho.rd
  replace B := hide ((unhide B).trans (hb.mono (unhide B).size))
  replace C := hide ((unhide C).trans (hb.mono (unhide C).size))
  have WB := hide (Nat.le_refl w7.heap.size)
  have LX := hide (fun g (hg : (Value.slice xa ts.length xc).ownBlock = some g) => (ho.lt hg).2)
  have T := hide ho
  clear ho hb X
  have WX := hide (show w7.heap.size ≤ w8.heap.size from (unhide C).size)
  have X := hide (unhide TO2 w8 (unhide B))
  go_wp2_with fail
  refine (unhide X).mono ?_
  rintro r w9 ⟨rfl, ho, hb⟩
  replace B := hide ((unhide B).trans (hb.mono (unhide B).size))
  replace C := hide ((unhide C).trans (hb.mono (unhide C).size))
  replace T := hide ((unhide T).later hb)
  have LG := hide (World.ownsRow.lt ho _ rfl).2
  have U := hide ho
  clear ho hb X
  generalize hpg2 : w8.heap.size = xg at *
  clear hpg2
  have X := hide (unhide TO3 w9 (unhide B))
  go_wp2_with fail
  refine (unhide X).mono ?_
  rintro r w10 ⟨v, vs, rfl, ho, hb⟩
  obtain ⟨xr, xrc, rfl⟩ := ho.form
  replace B := hide ((unhide B).trans (hb.mono (unhide B).size))
  replace C := hide ((unhide C).trans (hb.mono (unhide C).size))
  replace T := hide ((unhide T).later hb)
  replace U := hide ((unhide U).later2 hb)
  have SV := hide hb.size
  have V := hide ho
  clear ho hb X
  have LV := hide (fun i (hi : i < ps.length) g hg => (((unhide V).own i hi).lt (g := g) hg).2)
  have X := hide (unhide PI xa xr xc xg L.length xrc w10 (unhide T).rd1 (unhide U).cells (unhide V).rd)
  go_wp2_with fail
  refine (unhide X).mono ?_
  rintro r w11 ⟨v, rfl, ho, hb⟩
  obtain ⟨ga, gc, rfl, _⟩ := ho.rd
  have WD := hide (show w7.heap.size ≤ w10.heap.size from (unhide C).size)
  have SD := hide hb.size
  replace B := hide ((unhide B).trans (hb.mono (unhide B).size))
  replace C := hide ((unhide C).trans (hb.mono (unhide C).size))
  replace T := hide ((unhide T).later hb)
  replace U := hide ((unhide U).later2 hb)
  replace V := hide ((unhide V).later hb)
  have G := hide ho
  clear ho hb X
  have X := hide (unhide EQO ga wa gc wc w11 (unhide G).rd1 ((unhide W).later (unhide C)))
  go_wp2_with fail
  refine (unhide X).mono ?_
  rintro r w12 ⟨rfl, hb⟩
  replace B := hide ((unhide B).trans (hb.mono (unhide B).size))
  replace C := hide ((unhide C).trans (hb.mono (unhide C).size))
  replace T := hide ((unhide T).later hb)
  replace U := hide ((unhide U).later2 hb)
  replace V := hide ((unhide V).later hb)
  replace G := hide ((unhide G).later hb)
  replace SD := hide (Nat.le_trans (unhide SD) hb.size)
  clear hb X
  have X := hide (unhide TO1 w12 (unhide B))
  go_wp2_with fail
  refine (unhide X).mono ?_
  rintro r w13 ⟨v, rfl, ho, hb⟩
  obtain ⟨ya, yc, rfl, _⟩ := ho.rd
  replace B := hide ((unhide B).trans (hb.mono (unhide B).size))
  replace C := hide ((unhide C).trans (hb.mono (unhide C).size))
  replace T := hide ((unhide T).later hb)
  replace U := hide ((unhide U).later2 hb)
  replace V := hide ((unhide V).later hb)
  replace G := hide ((unhide G).later hb)
  replace SD := hide (Nat.le_trans (unhide SD) hb.size)
  have X2 := hide (unhide EQ xa ya xc yc w13 (unhide T).rd1 ho.rd1)
  clear ho hb X EQ
  go_wp2_with fail
  refine (unhide X2).mono ?_
  rintro r w14 ⟨rfl, hb⟩
  replace B := hide ((unhide B).trans (hb.mono (unhide B).size))
  replace C := hide ((unhide C).trans (hb.mono (unhide C).size))
  replace T := hide ((unhide T).later hb)
  replace U := hide ((unhide U).later2 hb)
  replace V := hide ((unhide V).later hb)
  replace G := hide ((unhide G).later hb)
  replace SD := hide (Nat.le_trans (unhide SD) hb.size)
  clear hb X2
  have X := hide (unhide TO2 w14 (unhide B))
  go_wp2_with fail
  refine (unhide X).mono ?_
  rintro r w15 ⟨rfl, ho, hb⟩
  replace B := hide ((unhide B).trans (hb.mono (unhide B).size))
  replace C := hide ((unhide C).trans (hb.mono (unhide C).size))
  replace T := hide ((unhide T).later hb)
  replace U := hide ((unhide U).later2 hb)
  replace V := hide ((unhide V).later hb)
  replace G := hide ((unhide G).later hb)
  replace SD := hide (Nat.le_trans (unhide SD) hb.size)
  have X2 := hide (unhide EQ2 _ _ L.length L.length w15 (unhide U).rdu ho.rdu)
  clear ho hb X EQ2
  go_wp2_with fail
  refine (unhide X2).mono ?_
  rintro r w16 ⟨rfl, hb⟩
  replace B := hide ((unhide B).trans (hb.mono (unhide B).size))
  replace C := hide ((unhide C).trans (hb.mono (unhide C).size))
  replace T := hide ((unhide T).later hb)
  replace U := hide ((unhide U).later2 hb)
  replace V := hide ((unhide V).later hb)
  replace G := hide ((unhide G).later hb)
  replace SD := hide (Nat.le_trans (unhide SD) hb.size)
  clear hb X2
  have X := hide (unhide TO3 w16 (unhide B))
  go_wp2_with fail
  refine (unhide X).mono ?_
  rintro r w17 ⟨v, vs2, rfl, ho, hb⟩
  obtain ⟨yr, yrc, rfl⟩ := ho.form
  replace B := hide ((unhide B).trans (hb.mono (unhide B).size))
  replace C := hide ((unhide C).trans (hb.mono (unhide C).size))
  replace T := hide ((unhide T).later hb)
  replace U := hide ((unhide U).later2 hb)
  replace V := hide ((unhide V).later hb)
  replace G := hide ((unhide G).later hb)
  replace SD := hide (Nat.le_trans (unhide SD) hb.size)
  have X2 := hide (unhide EQ3 xr yr xrc yrc w17 (unhide V).rd ho.rd)
  clear ho hb X EQ3
  go_wp2_with fail
  refine (unhide X2).mono ?_
  rintro r w18 ⟨rfl, hb⟩
  replace B := hide ((unhide B).trans (hb.mono (unhide B).size))
  replace C := hide ((unhide C).trans (hb.mono (unhide C).size))
  replace T := hide ((unhide T).later hb)
  replace U := hide ((unhide U).later2 hb)
  replace V := hide ((unhide V).later hb)
  replace G := hide ((unhide G).later hb)
  replace SD := hide (Nat.le_trans (unhide SD) hb.size)
  clear hb X2
  have X := hide (unhide MT _ _ 1 w18 (by omega) (by omega) (unhide T))
  go_wp2_with fail
  refine (unhide X).mono ?_
  rintro r w19 ⟨rfl, ho, hg⟩
  have BX := hide (fun g hg => ((unhide T).lt (g := g) hg).1)
  replace C := hide ((unhide C).grown hg (unhide C).size (fun g h => Nat.le_trans (unhide WB) (unhide BX g h)))
  replace U := hide (show OwnS w19 _ _ L from ownsRow_keepR (unhide U) (fun b hb => hg.block b (World.ownsRow.lt (unhide U) b hb).2 (fun q => by cases hb; exact Nat.lt_irrefl _ (unhide LX _ q.symm))))
  have SX := hide hg.size
  have KV : ∀ b, w9.heap.size ≤ b → b < w18.heap.size → w19.heap[b]? = w18.heap[b]? := fun b h1 h2 => hg.block b h2 (fun q => by have := unhide LX _ q.symm; have := unhide LG; omega)
  replace V := hide ((unhide V).keep (fun b hb => KV b (World.ownsRow.lt (unhide V).row b hb).1 (World.ownsRow.lt (unhide V).row b hb).2) (fun i hi b hb => KV b (((unhide V).own i hi).lt hb).1 (((unhide V).own i hi).lt hb).2))
  replace G := hide ((unhide G).keep fun b hb hlt => KV b (Nat.le_trans (unhide SV) ((unhide G).lt hb).1) hlt)
  replace SD := hide (Nat.le_trans (unhide SD) hg.size)
  clear ho hg X KV MT T BX
  have X := hide (unhide MS xg L.length _ _ w19 (unhide U))
  go_wp2_with fail
  refine (unhide X).mono ?_
  rintro r w20 ⟨rfl, hg⟩
  replace C := hide ((unhide C).grown hg (unhide C).size (fun g h => by cases h; exact unhide WX))
  have KV : ∀ b, w9.heap.size ≤ b → b < w19.heap.size → w20.heap[b]? = w19.heap[b]? := fun b h1 h2 => hg.block b h2 (fun q => by cases q; have := unhide LG; omega)
  replace V := hide ((unhide V).keep (fun b hb => KV b (World.ownsRow.lt (unhide V).row b hb).1 (World.ownsRow.lt (unhide V).row b hb).2) (fun i hi b hb => KV b (((unhide V).own i hi).lt hb).1 (((unhide V).own i hi).lt hb).2))
  replace G := hide ((unhide G).keep fun b hb hlt => KV b (Nat.le_trans (unhide SV) ((unhide G).lt hb).1) hlt)
  replace SD := hide (Nat.le_trans (unhide SD) hg.size)
  clear hg X KV MS U
  have X := hide (unhide MR _ vs _ w20 (Nat.le_trans (unhide SV) (unhide SD)) (unhide V))
  go_wp2_with fail
  refine (unhide X).mono ?_
  rintro r w21 ⟨rfl, qs, hM⟩
  replace C := hide ((unhide C).trans (hM.bel.mono (Nat.le_trans (unhide WX) (Nat.le_of_lt (unhide LG)))))
  replace G := hide ((unhide G).keep fun b hb hlt => hM.gr b hlt (fun j hj q => by have h1 := ((unhide G).lt hb).1; have h2 := unhide LV j hj b q; omega))
  replace SD := hide (Nat.le_trans (unhide SD) hM.bel.size)
  clear hM X MR V LV
  have X := hide (unhide EQO ga wa gc wc w21 (unhide G).rd1 ((unhide W).later (unhide C)))
  go_wp2_with fail
  refine (unhide X).mono ?_
  rintro r w22 ⟨rfl, hb⟩
  replace C := hide ((unhide C).trans (hb.mono (unhide C).size))
  replace G := hide ((unhide G).later hb)
  replace SD := hide (Nat.le_trans (unhide SD) hb.size)
  clear hb X
  have X := hide (unhide MO _ _ w22 (unhide G))
  go_wp2_with fail
  refine (unhide X).mono ?_
  rintro r w23 ⟨rfl, ho, hg⟩
  replace C := hide ((unhide C).grown hg (unhide C).size (fun g h => Nat.le_trans (unhide WD) ((unhide G).lt h).1))
  have Q := hide ho.rd1
  have X2 := hide (unhide HO ga gc w23 ho.rd1)
  clear ho hg X G MO SD
  go_wp2_with fail
  refine (unhide X2).mono ?_
  rintro r w24 ⟨rfl, hb⟩
  replace C := hide ((unhide C).trans (hb.mono (unhide C).size))
  have D := hide hb
  replace B := hide ((unhide B0).trans ((unhide C).mono (unhide B0).size))
  clear hb X2
  have X := hide (unhide TO1 w24 (unhide B))
  go_wp2_with fail
  refine (unhide X).mono ?_
  rintro r w25 ⟨v, rfl, ho, hb⟩
  obtain ⟨za, zc, rfl, _⟩ := ho.rd
  replace B := hide ((unhide B).trans (hb.mono (unhide B).size))
  replace C := hide ((unhide C).trans (hb.mono (unhide C).size))
  replace D := hide ((unhide D).trans (hb.mono (unhide D).size))
  have T := hide ho
  clear ho hb X
  have X := hide (unhide TO2 w25 (unhide B))
  go_wp2_with fail
  refine (unhide X).mono ?_
  rintro r w26 ⟨rfl, ho, hb⟩
  replace B := hide ((unhide B).trans (hb.mono (unhide B).size))
  replace C := hide ((unhide C).trans (hb.mono (unhide C).size))
  replace D := hide ((unhide D).trans (hb.mono (unhide D).size))
  replace T := hide ((unhide T).later hb)
  have U := hide ho
  clear ho hb X
  generalize hpg3 : w25.heap.size = zg at *
  clear hpg3
  have X := hide (unhide TO3 w26 (unhide B))
  go_wp2_with fail
  refine (unhide X).mono ?_
  rintro r w27 ⟨v, vs3, rfl, ho, hb⟩
  obtain ⟨zr, zrc, rfl⟩ := ho.form
  replace B := hide ((unhide B).trans (hb.mono (unhide B).size))
  replace C := hide ((unhide C).trans (hb.mono (unhide C).size))
  replace D := hide ((unhide D).trans (hb.mono (unhide D).size))
  replace T := hide ((unhide T).later hb)
  replace U := hide ((unhide U).later2 hb)
  have V := hide ho
  clear ho hb X
  have X := hide (unhide PI za zr zc zg L.length zrc w27 (unhide T).rd1 (unhide U).cells (unhide V).rd)
  go_wp2_with fail
  refine (unhide X).mono ?_
  rintro r w28 ⟨v, rfl, ho, hb⟩
  obtain ⟨ha, hc, rfl, _⟩ := ho.rd
  replace B := hide ((unhide B).trans (hb.mono (unhide B).size))
  replace C := hide ((unhide C).trans (hb.mono (unhide C).size))
  replace D := hide ((unhide D).trans (hb.mono (unhide D).size))
  have X2 := hide (unhide EQO ha wa hc wc w28 ho.rd1 ((unhide W).later (unhide C)))
  clear ho hb X T U V PI EQO
  go_wp2_with fail
  refine (unhide X2).mono ?_
  rintro r w29 ⟨rfl, hb⟩
  replace B := hide ((unhide B).trans (hb.mono (unhide B).size))
  replace D := hide ((unhide D).trans (hb.mono (unhide D).size))
  clear hb X2
  have X := hide (unhide HO ga gc w29 ((unhide Q).later (unhide D)))
  go_wp2_with fail
  refine (unhide X).mono ?_
  rintro r w30 ⟨rfl, hb⟩
  replace B := hide ((unhide B).trans (hb.mono (unhide B).size))
  clear hb X
  go_wp2
  go_ret
  exact ⟨rfl, unhide B⟩

set_option maxRecDepth 100000 in
theorem lifted (os : Os) (started : os.Started) (H : Type) (enc : TypeId × Value → H) :
    ReturnsInHanded {} Try.checked os 3 .any (Rows.fnExactSubstSpec.pre6 enc Try.prog Try.f3 Rows.fnExactSubstRow.domain false) (Rows.fnExactSubstSpec.post enc Try.prog Try.f3 false true false false) := by
  refine returnsInHanded_of_change (C := Try.checked) own started (by kernel_rfl) Try.func3
    (ChangeSpec.witness6 (enc := enc) (C := Try.checked) false ⟨#[], #[.slice none 0 0, .slice none 0 0, .slice none 0 0], []⟩ 8 (by kernel_rfl) (by kernel_rfl) (by kernel_rfl) (by kernel_rfl)) ?_
  intro W base args ds gs before hval0 hW hcnd _
  have hval : ∀ (j : Nat) t v, Try.f3.params[j]? = some t → args[j]? = some v → Value.okWide Try.prog W .any base t v := hval0
  have hW' := hW
  obtain ⟨p, q, hA0, hV, rfl, hfz, hnd⟩ := hW
  have hA : DataW.TrodAll enc Try.prog W 0 (fun _ => true) true Try.f3.params.toList args.toList ds p := hA0
  rw [Try.params3] at hA hval
  obtain ⟨v0, vs0, d0, ds0, p0, q0, hargs, rfl, rfl, h0, r0⟩ := trodAll_cons hA
  obtain ⟨v1, vs1, d1, ds1, p1, q1, rfl, rfl, rfl, h1, r1⟩ := trodAll_cons r0
  obtain ⟨v2, vs2, d2, ds2, p2, q2, rfl, rfl, rfl, h2, r2⟩ := trodAll_cons r1
  obtain ⟨rfl, rfl, rfl⟩ := trodAll_nil r2
  obtain rfl : args = #[v0, v1, v2] := by cases args; simp_all
  obtain ⟨rfl, rfl⟩ := trodVars_none hV
  have k0 := h0
  have lt0 : ∀ x ∈ p0, x.block < W.heap.size := by obtain ⟨m, hm⟩ := k0; exact DataW.trod_lt m _ _ _ hm
  obtain ⟨a0, len0, cap0, z0, rfl, w0⟩ := open_tks (hval 0 22 v0 rfl rfl) h0
  have k1 := h1
  have lt1 : ∀ x ∈ p1, x.block < W.heap.size := by obtain ⟨m, hm⟩ := k1; exact DataW.trod_lt m _ _ _ hm
  obtain ⟨a1, len1, cap1, z1, rfl, w1⟩ := open_strs (hval 1 23 v1 rfl rfl) h1
  have k2 := h2
  have lt2 : ∀ x ∈ p2, x.block < W.heap.size := by obtain ⟨m, hm⟩ := k2; exact DataW.trod_lt m _ _ _ hm
  obtain ⟨a2, c2, z2, rfl, g2, f2⟩ := open_tkss (hval 2 24 v2 rfl rfl) h2
  clear hA0 hval0
  refine (walk a0 len0 cap0 z0 a1 len1 cap1 z1 a2 c2 z2 W w0 w1 g2 f2).mono fun e W' ⟨he, bel⟩ => ?_
  subst he
  exact ⟨_, rfl, _, _, _, [], _, [], hW', trodAll_mk1 (shut_bool Try.underlying4 _), (trodAll_cons_mk (Below.trod laidOut (by kernel_rfl) (of_decide_eq_true (by kernel_rfl)) k0 bel lt0) (trodAll_cons_mk (Below.trod laidOut (by kernel_rfl) (of_decide_eq_true (by kernel_rfl)) k1 bel lt1) (trodAll_cons_mk (Below.trod laidOut (by kernel_rfl) (of_decide_eq_true (by kernel_rfl)) k2 bel lt2) trodAll_mk0))), rfl, bel.frame _, fun h => by cases h⟩

theorem over : Rows.fnExactSubstRow.holds Try.pinned (OpenSpec.ofChange Rows.fnExactSubstSpec) :=
  OpenClaim.holds_of_wide 3 Try.f3 rfl rfl rfl rfl rfl rfl rfl ⟨rfl, rfl, rfl, rfl, rfl⟩ rfl rfl rfl rfl rfl (by kernel_rfl) Try.func3 (by kernel_rfl)
    (of_decide_eq_true (by kernel_rfl)) (by unfold Func.isWrapper; first | (rw [if_pos (by decide +kernel)]; kernel_rfl) | (rw [if_neg (by decide +kernel)]; exact ⟨rfl, rfl⟩))
    (fun os started H enc _ => lifted os started H enc)

theorem proved : Rows.FnExactSubstSaid := over
end Go.Proofs.Ytemglcdglnjakaa.fnExactSubst

namespace Go.Proofs.Ytemglcdglnjakaa
theorem fnExactSubst_holds : Rows.FnExactSubstSaid := fnExactSubst.proved
#print axioms fnExactSubst_holds
end Go.Proofs.Ytemglcdglnjakaa
