/- Drawn words of instructions, over this seat's translation; conditions stand as hypotheses of each. -/
import Derived.Test.YtfkmibgamkignaaDrwC
import Derived.Test.YtfkmibgamkignaaCodeG
namespace Go.Proofs.Ytfkmibgamkignaa
open Go.ChangeShapes Go.WideShapes Go.ChangeAt Go.RowKit
set_option linter.unusedVariables false
set_option maxRecDepth 8000
set_option linter.unusedSimpArgs false

def InO (o : Od) : Prop := 0 ≤ o.m ∧ o.m ≤ 7 ∧ 0 ≤ o.r ∧ o.r ≤ 7
theorem six_bd {o : Od} (h : InO o) : 0 ≤ o.six ∧ o.six ≤ 63 := by unfold InO at h; unfold Od.six; omega
def Is.fld (i : Is) : Int :=
  if i.op ≤ 6 then i.s.six * 64 + i.d.six
  else if i.op ≤ 14 then i.d.six
  else if i.op = 15 then i.n * 64 + i.d.six
  else if 17 ≤ i.op ∧ i.op ≤ 21 then i.n % 256
  else i.n
theorem ok_inO {o : Od} (h : o.ok = true) : InO o := (od_ok h).1
theorem code_fld (i : Is) (h : i.ok = true) : i.code = baseAt i.op.toNat + i.fld ∧ 0 ≤ i.fld ∧ i.fld ≤ 4095 := by
  obtain ⟨h1, h2, h3, h4, h5, h6, h7, h8, h9, h10⟩ := is_ok h
  unfold Is.code Is.fld
  have a1 : i.op ≤ 6 → 0 ≤ i.s.six ∧ i.s.six ≤ 63 := fun h => six_bd (ok_inO (h2 h))
  have a2 : i.op ≤ 15 → 0 ≤ i.d.six ∧ i.d.six ≤ 63 := fun h => six_bd (ok_inO (h3 h))
  by_cases c1 : i.op ≤ 6
  · have := a1 c1; have := a2 (by omega)
    rw [if_pos c1, if_pos c1]; omega
  rw [if_neg c1, if_neg c1]
  by_cases c2 : i.op ≤ 14
  · have := a2 (by omega)
    rw [if_pos c2, if_pos c2]; omega
  rw [if_neg c2, if_neg c2]
  by_cases c3 : i.op = 15
  · have := a2 (by omega); have := h8 (by omega)
    rw [if_pos c3, if_pos c3]; omega
  rw [if_neg c3, if_neg c3]
  by_cases c4 : i.op = 16 ∨ i.op = 23
  · rw [if_pos c4, if_neg (by omega)]
    have : 0 ≤ i.n := by rcases c4 with c | c
                         · exact (h8 (by omega)).1
                         · exact h10 c
    omega
  rw [if_neg c4]
  by_cases c5 : i.op ≤ 21
  · rw [if_pos c5, if_pos (by omega)]; omega
  · rw [if_neg c5, if_neg (by omega)]
    have := h7 (by omega)
    omega

def Wd (ns : List Int) : Prop := ∀ x ∈ ns, 0 ≤ x ∧ x ≤ 65535
theorem nAt_mem {ns : List Int} {i : Nat} (h : i < ns.length) : nAt ns i ∈ ns := by
  unfold nAt
  rw [List.getD_eq_getElem?_getD, List.getElem?_eq_getElem h]
  exact List.getElem_mem h
theorem Wd.bds {ns : List Int} (h : Wd ns) : Bds ns := fun i hi => by have := h _ (nAt_mem hi); omega
theorem Wd.app {ns ms : List Int} (h : Wd ns) (k : Wd ms) : Wd (ns ++ ms) := fun x hx => (List.mem_append.1 hx).elim (h x) (k x)
theorem enc_wd (i : Is) : Wd i.enc := by
  intro x hx
  unfold Is.enc at hx
  split at hx
  · rename_i hok
    obtain ⟨h1, h2, h3, _⟩ := is_ok hok
    rcases List.mem_cons.1 hx with rfl | hx
    · have hc := code_fld i hok
      have hb := base_bd ⟨i.op.toNat, by omega⟩
      simp only at hb
      omega
    · unfold Is.xs at hx
      rcases List.mem_append.1 hx with hx | hx
      · split at hx
        · rename_i h
          have := od_ok (h2 h.1)
          simp at hx
          subst hx
          omega
        · simp at hx
      · split at hx
        · rename_i h
          have := od_ok (h3 h.1)
          simp at hx
          subst hx
          omega
        · simp at hx
  · simp at hx
theorem enc_len3 (i : Is) : i.enc.length ≤ 3 := by
  unfold Is.enc Is.xs
  split
  · simp only [List.length_cons, List.length_append]
    split <;> split <;> simp
  · simp
theorem enc_pos {i : Is} (h : i.ok = true) : 0 < i.enc.length := by
  unfold Is.enc
  rw [if_pos h]
  simp

set_option maxHeartbeats 2000000 in
theorem wordsD_any (cb : Nat) (a : Option Addr) (len cap : Nat) (xs : List UInt8) (most : Nat) (hmo : 0 < most ∧ most ≤ 100) (w : World) (hc : Cur w cb a len cap xs) :
    Calls Try.prog 46 #[.pointer (some ⟨cb, 0, none⟩), .int .i64 (most : Int)] w fun e w' => ∃ v ns, e = .returned v ∧ v ≠ .slice none 0 0 ∧ OwnN w' w.heap.size v ns ∧ Wd ns ∧ ns.length ≤ 3 * most ∧ Cur w' cb a len cap xs ∧ w.grownBy w' (some cb) := by
  obtain ⟨i0, hi, hz0, hz1, hz2⟩ := info_parts info3
  have hlt := hc.lt
  have hcd := hide hc.code
  have O0 := hide (ownN_empty w)
  have G0 := hide (grownBy_below (r := some cb) ((Below.refl w.heap.size w).alloc (Nat.le_refl _) (Obj.cells #[] 3)))
  have B0 := hide (below_any cb a len cap xs (most : Int) (w.alloc (Obj.cells #[] 3)) (by omega) (hc.later ((Below.refl _ _).alloc (Nat.le_refl _) _)))
  clear hc
  go_enter Try.func46, Try.ntmps46
  go_wp2_with fail
  refine (unhide B0).mono ?_
  rintro e w1 ⟨y, hy0, hy1, rfl, hc1, hg1⟩
  obtain ⟨hy2, hy3⟩ := hy0 (by omega)
  obtain ⟨k0, rfl⟩ := Int.eq_ofNat_of_zero_le hy2
  have O1 := hide ((unhide O0).past hg1 (by simp [Value.ownBlock]; omega))
  have G1 := hide (grownBy_trans (unhide G0) hg1)
  have C1 := hide hc1
  clear hc1 hg1 O0 G0 B0 hy0 hy1
  go_wp2_with fail
  go_loopw [5, 6] (fun v v6 wr => ∃ (k : Nat) (ns : List Int), k ≤ k0 ∧ v6 = .int .i64 k ∧ v ≠ .slice none 0 0 ∧ OwnN wr w.heap.size v ns ∧ Hid (Wd ns) ∧ ns.length + 3 * k ≤ 3 * most ∧ Hid (Cur wr cb a len cap xs) ∧ Hid (w.grownBy wr (some cb))) (fun _ v6 _ => (intOf v6).toNat)
  case atStart => exact ⟨k0, [], Nat.le_refl _, rfl, by simp, unhide O1, (fun x hx => by simp at hx), by simp; omega, unhide C1, unhide G1⟩
  case round =>
    clear O1 G1 C1
    obtain ⟨k, ns, hk, rfl, hne, hown, hwd, hln, hcur, hgr⟩ := hrel
    by_cases hk0 : k = 0
    · subst hk0
      have HW := hwd
      clear hwd
      go_wp2
      go_ret
      exact ⟨u5, ns, rfl, hne, hown, HW.out, by omega, hcur.out, hgr.out⟩
    · have hkp : (0 : Int) < (k : Int) := by omega
      have hob : ∀ g, u5.ownBlock = some g → w.heap.size ≤ g := fun g e => (hown.lt e).1
      have P1 := hide (once_any cb a len cap xs 8 wr (by omega) hcur.out)
      have OW := hide hown
      clear hown hk0
      go_wp2_with fail
      refine (unhide P1).mono ?_
      rintro e w2 ⟨b, rfl, hc2, hg2⟩
      have O2 := hide ((unhide OW).past hg2 (fun e => by have := hob cb e; omega))
      have G2 := hide (grownBy_trans hgr.out hg2)
      have s2 := hg2.size
      have s1 := hgr.out.size
      have C2 := hide hc2
      clear hc2 hg2 P1 OW hcur hgr
      cases b
      · have P3 := hide (drawD_any cb a len cap xs w2 (unhide C2))
        go_wp2_with fail
        refine (unhide P3).mono ?_
        rintro e w3 ⟨i, hok, rfl, hc3, hg3⟩
        have O3 := hide ((unhide O2).past hg3 (fun e => by have := hob cb e; omega))
        have G3 := hide (grownBy_trans (unhide G2) hg3)
        have s3 := hg3.size
        have C3 := hide hc3
        have P4 := hide (encS_any i w3)
        have hl1 := enc_len3 i
        have hl2 := enc_pos hok
        have hw2 := hide (enc_wd i)
        generalize i.enc = es at P4 hl1 hl2 hw2
        clear hc3 hg3 P3 O2 G2 C2 hok
        go_wp2_with fail
        refine (unhide P4).mono ?_
        rintro e w4 ⟨v4, rfl, hne4, own4, hb4⟩
        have s4 := hb4.size
        have O4 := hide ((unhide O3).later hb4)
        have G4 := hide (grownBy_trans (unhide G3) (grownBy_below hb4))
        have C4 := hide ((unhide C3).later hb4)
        rcases own4.form with ⟨e, _⟩ | ⟨g4, cap4, rfl, _⟩
        · exact absurd e hne4
        have K4 := hide (World.ownsRow.cells own4 rfl)
        clear own4 hb4 P4 O3 G3 C3 hne4
        go_wp2_with (at_builtin; go_must (refine wpList_append_own _ rfl (.tmp 22) (.tmp 25) 24 rfl w.heap.size 3 i0 (.int .i64 0) 1 8 Try.underlying24 hi hz0 hz1 hz2 rfl (by decide) u5 ns.length (cellsN ns) rfl (unhide O4) ⟨g4, 0, none⟩ es.length cap4 (cellsN es) rfl (by rw [cellsN_length]; omega) (unhide K4) (cellsN_one _) (by unfold maxLen; omega) (by omega) (by omega) ?_; intro v8 w8 hown hgrow hnil))
        have HN : v8 ≠ .slice none 0 0 := fun e => by have := hnil.1 e; exact hne this.1
        have O8 := hide (show OwnN w8 w.heap.size v8 (ns ++ es) by unfold OwnN; rw [cellsN_append, List.length_append]; exact hown)
        have C8 := hide ((unhide C4).past hgrow hlt (unhide hcd) hob)
        have G8 := hide (grownBy_own (unhide G4) hgrow hob)
        have W8 := hide (hwd.out.app (unhide hw2))
        clear hown hgrow hnil K4 O4 G4 C4 hwd
        go_wp2
        go_roundw
        case rel => exact ⟨k - 1, ns ++ es, by omega, by go_num, HN, unhide O8, unhide W8, by rw [List.length_append]; omega, unhide C8, unhide G8⟩
        case measure => simp [intOf]; omega
      · have P3 := hide (word_any cb a len cap xs w2 (unhide C2))
        go_wp2_with fail
        refine (unhide P3).mono ?_
        rintro e w3 ⟨x, hx0, hx1, rfl, hc3, hg3⟩
        have O3 := hide ((unhide O2).past hg3 (fun e => by have := hob cb e; omega))
        have G3 := hide (grownBy_trans (unhide G2) hg3)
        have s3 := hg3.size
        have C3 := hide hc3
        have K1 := hide (cell_one_new w3 (Value.int .i64 x) 3)
        have A3 := hide ((Below.refl w3.heap.size w3).alloc (Nat.le_refl _) (Obj.cells #[.int .i64 x] 3))
        clear hc3 hg3 P3 O2 G2 C2
        go_wp2_with (at_builtin; go_must (refine wpList_append_own _ rfl (.tmp 17) (.tmp 20) 24 rfl w.heap.size 3 i0 (.int .i64 0) 1 8 Try.underlying24 hi hz0 hz1 hz2 rfl (by decide) u5 ns.length (cellsN ns) rfl (World.ownsRow.alloc (unhide O3) _) ⟨w3.heap.size, 0, none⟩ 1 1 (cellsN [x]) rfl rfl (unhide K1) (cellsN_one _) (by unfold maxLen; omega) (by omega) (by simp; omega) ?_; intro v8 w8 hown hgrow hnil))
        have HN : v8 ≠ .slice none 0 0 := fun e => by have := hnil.1 e; omega
        have O8 := hide (show OwnN w8 w.heap.size v8 (ns ++ [x]) by unfold OwnN; rw [cellsN_append, List.length_append]; exact hown)
        have C8 := hide (((unhide C3).later (unhide A3)).past hgrow hlt (unhide hcd) hob)
        have G8 := hide (grownBy_own (grownBy_trans (unhide G3) (grownBy_below (unhide A3))) hgrow hob)
        have W8 := hide (hwd.out.app (ms := [x]) (fun z hz => by simp at hz; omega))
        clear hown hgrow hnil K1 O3 G3 C3 A3 hwd
        go_wp2
        go_roundw
        case rel => exact ⟨k - 1, ns ++ [x], by omega, by go_num, HN, unhide O8, unhide W8, by rw [List.length_append]; simp; omega, unhide C8, unhide G8⟩
        case measure => simp [intOf]; omega
end Go.Proofs.Ytfkmibgamkignaa
