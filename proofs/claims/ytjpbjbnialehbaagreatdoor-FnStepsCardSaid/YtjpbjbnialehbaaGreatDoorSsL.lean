/- Contracts over this seat's translation, laid together; conditions stand as hypotheses of each. -/
import Derived.Test.YtjpbjbnialehbaaGreatDoorSsI
import Derived.Test.YtjpbjbnialehbaaGreatDoorSsK
namespace Go.Proofs.YtjpbjbnialehbaaGreatDoor
open Go.ChangeShapes Go.WideShapes Go.ChangeAt Go.RowKit
set_option maxHeartbeats 16000000
set_option linter.unusedVariables false
set_option maxRecDepth 8000
set_option linter.unusedSimpArgs false
def InO (o : Od) : Prop := 0 ≤ o.m ∧ o.m ≤ 7 ∧ 0 ≤ o.r ∧ o.r ≤ 7
theorem six_bd {o : Od} (h : InO o) : 0 ≤ o.six ∧ o.six ≤ 63 := by unfold InO at h; unfold Od.six; omega
def Is.fld (i : Is) : Int :=
 if i.op ≤ 6 then i.s.six * 64 + i.d.six
 else if i.op ≤ 14 then i.d.six
 else if i.op = 15 then i.n * 64 + i.d.six
 else if 17 ≤ i.op ∧ i.op ≤ 21 then i.n % 256
 else i.n
theorem ok_inO {o : Od} (h : o.ok = true) : InO o := (od_ok h).1
theorem code_fld (i : Is) (h : i.ok = true) : i.code = baseAt i.op.toNat + i.fld ∧ 0 ≤ i.fld ∧ i.fld ≤ 4095 := by
 obtain ⟨h1, h2, h3, h4, h5, h6, h7, h8, h9, h10⟩ := is_ok h
 unfold Is.code Is.fld
 have a1 : i.op ≤ 6 → 0 ≤ i.s.six ∧ i.s.six ≤ 63 := fun h => six_bd (ok_inO (h2 h))
 have a2 : i.op ≤ 15 → 0 ≤ i.d.six ∧ i.d.six ≤ 63 := fun h => six_bd (ok_inO (h3 h))
 by_cases c1 : i.op ≤ 6
 ·
  have := a1 c1; have := a2 (by omega)
  rw [if_pos c1, if_pos c1]; omega
 rw [if_neg c1, if_neg c1]
 by_cases c2 : i.op ≤ 14
 ·
  have := a2 (by omega)
  rw [if_pos c2, if_pos c2]; omega
 rw [if_neg c2, if_neg c2]
 by_cases c3 : i.op = 15
 ·
  have := a2 (by omega); have := h8 (by omega)
  rw [if_pos c3, if_pos c3]; omega
 rw [if_neg c3, if_neg c3]
 by_cases c4 : i.op = 16 ∨ i.op = 23
 ·
  rw [if_pos c4, if_neg (by omega)]
  have : 0 ≤ i.n := by rcases c4 with c | c
                       · exact (h8 (by omega)).1
                       · exact h10 c
  omega
 rw [if_neg c4]
 by_cases c5 : i.op ≤ 21
 · rw [if_pos c5, if_pos (by omega)]; omega
 ·
  rw [if_neg c5, if_neg (by omega)]
  have := h7 (by omega)
  omega
def Wd (ns : List Int) : Prop := ∀ x ∈ ns, 0 ≤ x ∧ x ≤ 65535
theorem nAt_mem {ns : List Int} {i : Nat} (h : i < ns.length) : nAt ns i ∈ ns := by
 unfold nAt
 rw [List.getD_eq_getElem?_getD, List.getElem?_eq_getElem h]
 exact List.getElem_mem h
theorem Wd.app {ns ms : List Int} (h : Wd ns) (k : Wd ms) : Wd (ns ++ ms) := fun x hx => (List.mem_append.1 hx).elim (h x) (k x)
theorem enc_wd (i : Is) : Wd i.enc := by
 intro x hx
 unfold Is.enc at hx
 split at hx
 ·
  rename_i hok
  obtain ⟨h1, h2, h3, _⟩ := is_ok hok
  rcases List.mem_cons.1 hx with rfl | hx
  ·
   have hc := code_fld i hok
   have hb := base_bd ⟨i.op.toNat, by omega⟩
   simp only at hb
   omega
  ·
   unfold Is.xs at hx
   rcases List.mem_append.1 hx with hx | hx
   ·
    split at hx
    ·
     rename_i h
     have := od_ok (h2 h.1)
     simp at hx
     subst hx
     omega
    · simp at hx
   ·
    split at hx
    ·
     rename_i h
     have := od_ok (h3 h.1)
     simp at hx
     subst hx
     omega
    · simp at hx
 · simp at hx
theorem enc_len3 (i : Is) : i.enc.length ≤ 3 := by
 unfold Is.enc Is.xs
 split
 ·
  simp only [List.length_cons, List.length_append]
  split <;> split <;> simp
 · simp
theorem enc_pos {i : Is} (h : i.ok = true) : 0 < i.enc.length := by
 unfold Is.enc
 rw [if_pos h]
 simp
theorem wordsD_any (cb : Nat) (a : Option Addr) (len cap : Nat) (xs : List UInt8) (most : Nat) (hmo : 0 < most ∧ most ≤ 100) (w : World) (hc : Cur w cb a len cap xs) :
  Calls Tryz.prog 40 #[.pointer (some ⟨cb, 0, none⟩), .int .i64 (most : Int)] w fun e w' => ∃ v ns, e = .returned v ∧ v ≠ .slice none 0 0 ∧ OwnN w' w.heap.size v ns ∧ Wd ns ∧ ns.length ≤ 3 * most ∧ Cur w' cb a len cap xs ∧ w.grownBy w' (some cb) := by
 obtain ⟨i0, hi, hz0, hz1, hz2⟩ := info_parts info3
 have hlt := hc.lt
 have hcd := hide hc.code
 have O0 := hide (ownN_empty w)
 have G0 := hide (grownBy_below (r := some cb) ((Below.refl w.heap.size w).alloc (Nat.le_refl _) (Obj.cells #[] 3)))
 have B0 := hide (below_any cb a len cap xs (most : Int) (w.alloc (Obj.cells #[] 3)) (by omega) (hc.later ((Below.refl _ _).alloc (Nat.le_refl _) _)))
 clear hc
 go_enter Tryz.func40, Tryz.ntmps40
 go_wp2_with fail
 refine (uh B0).mono ?_
 rintro e w1 ⟨y, hy0, hy1, rfl, hc1, hg1⟩
 obtain ⟨hy2, hy3⟩ := hy0 (by omega)
 obtain ⟨k0, rfl⟩ := Int.eq_ofNat_of_zero_le hy2
 have O1 := hide ((uh O0).past hg1 (by simp [Value.ownBlock]; omega))
 have G1 := hide (grownBy_trans (uh G0) hg1)
 have C1 := hide hc1
 clear hc1 hg1 O0 G0 B0 hy0 hy1
 go_wp2_with fail
 go_loopw [5, 6] (fun v v6 wr => ∃ (k : Nat) (ns : List Int), k ≤ k0 ∧ v6 = .int .i64 k ∧ v ≠ .slice none 0 0 ∧ OwnN wr w.heap.size v ns ∧ Hid (Wd ns) ∧ ns.length + 3 * k ≤ 3 * most ∧ Hid (Cur wr cb a len cap xs) ∧ Hid (w.grownBy wr (some cb))) (fun _ v6 _ => (intOf v6).toNat)
 case atStart => exact ⟨k0, [], Nat.le_refl _, rfl, by simp, uh O1, (fun x hx => by simp at hx), by simp; omega, uh C1, uh G1⟩
 case round =>
  clear O1 G1 C1
  obtain ⟨k, ns, hk, rfl, hne, hown, hwd, hln, hcur, hgr⟩ := hrel
  by_cases hk0 : k = 0
  ·
   subst hk0
   have HW := hwd
   clear hwd
   go_wp2
   go_ret
   exact ⟨u5, ns, rfl, hne, hown, HW.out, by omega, hcur.out, hgr.out⟩
  ·
   have hkp : (0 : Int) < (k : Int) := by omega
   have hob : ∀ g, u5.ownBlock = some g → w.heap.size ≤ g := fun g e => (hown.lt e).1
   have P1 := hide (once_any cb a len cap xs 8 wr (by omega) hcur.out)
   have OW := hide hown
   clear hown hk0
   go_wp2_with fail
   refine (uh P1).mono ?_
   rintro e w2 ⟨b, rfl, hc2, hg2⟩
   have O2 := hide ((uh OW).past hg2 (fun e => by have := hob cb e; omega))
   have G2 := hide (grownBy_trans hgr.out hg2)
   have s2 := hg2.size
   have s1 := hgr.out.size
   have C2 := hide hc2
   clear hc2 hg2 P1 OW hcur hgr
   cases b
   ·
    have P3 := hide (drawD_any cb a len cap xs w2 (uh C2))
    go_wp2_with fail
    refine (uh P3).mono ?_
    rintro e w3 ⟨i, hok, rfl, hc3, hg3⟩
    have O3 := hide ((uh O2).past hg3 (fun e => by have := hob cb e; omega))
    have G3 := hide (grownBy_trans (uh G2) hg3)
    have s3 := hg3.size
    have C3 := hide hc3
    have P4 := hide (encS_any i w3)
    have hl1 := enc_len3 i
    have hl2 := enc_pos hok
    have hw2 := hide (enc_wd i)
    generalize i.enc = es at P4 hl1 hl2 hw2
    clear hc3 hg3 P3 O2 G2 C2 hok
    go_wp2_with fail
    refine (uh P4).mono ?_
    rintro e w4 ⟨v4, rfl, hne4, own4, hb4⟩
    have s4 := hb4.size
    have O4 := hide ((uh O3).later hb4)
    have G4 := hide (grownBy_trans (uh G3) (grownBy_below hb4))
    have C4 := hide ((uh C3).later hb4)
    rcases own4.form with ⟨e, _⟩ | ⟨g4, cap4, rfl, _⟩
    · exact absurd e hne4
    have K4 := hide (World.ownsRow.cells own4 rfl)
    clear own4 hb4 P4 O3 G3 C3 hne4
    go_wp2_with (at_builtin; go_must (refine wpList_append_own _ rfl (.tmp 22) (.tmp 25) 24 rfl w.heap.size 3 i0 (.int .i64 0) 1 8 Tryz.underlying24 hi hz0 hz1 hz2 rfl (by decide) u5 ns.length (cellsN ns) rfl (uh O4) ⟨g4, 0, none⟩ es.length cap4 (cellsN es) rfl (by rw [cellsN_length]; omega) (uh K4) (cellsN_one _) (by unfold maxLen; omega) (by omega) (by omega) ?_; intro v8 w8 hown hgrow hnil))
    have HN : v8 ≠ .slice none 0 0 := fun e => by have := hnil.1 e; exact hne this.1
    have O8 := hide (show OwnN w8 w.heap.size v8 (ns ++ es) by unfold OwnN; rw [cellsN_append, List.length_append]; exact hown)
    have C8 := hide ((uh C4).past hgrow hlt (uh hcd) hob)
    have G8 := hide (grownBy_own (uh G4) hgrow hob)
    have W8 := hide (hwd.out.app (uh hw2))
    clear hown hgrow hnil K4 O4 G4 C4 hwd
    go_wp2
    go_roundw
    case rel => exact ⟨k - 1, ns ++ es, by omega, by go_num, HN, uh O8, uh W8, by rw [List.length_append]; omega, uh C8, uh G8⟩
    case measure => simp [intOf]; omega
   ·
    have P3 := hide (word_any cb a len cap xs w2 (uh C2))
    go_wp2_with fail
    refine (uh P3).mono ?_
    rintro e w3 ⟨x, hx0, hx1, rfl, hc3, hg3⟩
    have O3 := hide ((uh O2).past hg3 (fun e => by have := hob cb e; omega))
    have G3 := hide (grownBy_trans (uh G2) hg3)
    have s3 := hg3.size
    have C3 := hide hc3
    have K1 := hide (cell_one_new w3 (Value.int .i64 x) 3)
    have A3 := hide ((Below.refl w3.heap.size w3).alloc (Nat.le_refl _) (Obj.cells #[.int .i64 x] 3))
    clear hc3 hg3 P3 O2 G2 C2
    go_wp2_with (at_builtin; go_must (refine wpList_append_own _ rfl (.tmp 17) (.tmp 20) 24 rfl w.heap.size 3 i0 (.int .i64 0) 1 8 Tryz.underlying24 hi hz0 hz1 hz2 rfl (by decide) u5 ns.length (cellsN ns) rfl (World.ownsRow.alloc (uh O3) _) ⟨w3.heap.size, 0, none⟩ 1 1 (cellsN [x]) rfl rfl (uh K1) (cellsN_one _) (by unfold maxLen; omega) (by omega) (by simp; omega) ?_; intro v8 w8 hown hgrow hnil))
    have HN : v8 ≠ .slice none 0 0 := fun e => by have := hnil.1 e; omega
    have O8 := hide (show OwnN w8 w.heap.size v8 (ns ++ [x]) by unfold OwnN; rw [cellsN_append, List.length_append]; exact hown)
    have C8 := hide (((uh C3).later (uh A3)).past hgrow hlt (uh hcd) hob)
    have G8 := hide (grownBy_own (grownBy_trans (uh G3) (grownBy_below (uh A3))) hgrow hob)
    have W8 := hide (hwd.out.app (ms := [x]) (fun z hz => by simp at hz; omega))
    clear hown hgrow hnil K1 O3 G3 C3 A3 hwd
    go_wp2
    go_roundw
    case rel => exact ⟨k - 1, ns ++ [x], by omega, by go_num, HN, uh O8, uh W8, by rw [List.length_append]; simp; omega, uh C8, uh G8⟩
    case measure => simp [intOf]; omega
theorem big_free (a : Option Addr) (len cap : Nat) (w : World) (hm : len ≤ 9223372036854775807) : Calls Tryz.prog 5 #[.slice a len cap] w fun e w' => e = .returned (.bool (decide ((1048576 : Int) < (len : Int)))) ∧ w' = w := big_any a len cap w hm
section
theorem Wd.set {ns : List Int} (h : Wd ns) (k : Nat) (v : Int) (h0 : 0 ≤ v) (h1 : v ≤ 65535) : Wd (ns.set k v) := fun x hx => by
 rcases List.mem_or_eq_of_mem_set hx with h' | h'
 · exact h x h'
 · omega
theorem wdB_of {ns : List Int} (h : Wd ns) : wdB ns = true := by
 unfold wdB
 rw [List.all_eq_true]
 intro x hx
 have := h x hx
 exact inB_t _ _ _ this
theorem Wd.of {ns : List Int} (h : wdB ns = true) : Wd ns := fun x hx => by
 unfold wdB at h
 rw [List.all_eq_true] at h
 exact inB_b (h x hx)
structure Dk (d : Md) : Prop where
 ml : d.m.length = 256
 mw : Wd d.m
 rl : d.r.length = 8
 rw : Wd d.r
 il : d.i.length ≤ 50
 iw : Wd d.i
 ol : d.o.length ≤ 50
 ow : Wd d.o
theorem Dk.ok {d : Md} (h : Dk d) (st : Int) (h0 : 0 ≤ st) (h1 : st ≤ 2) : d.ok st = true := by
 unfold Md.ok
 rw [h.ml, h.rl, wdB_of h.mw, wdB_of h.rw, wdB_of h.iw, wdB_of h.ow, decide_eq_true (show (d.i.length : Int) ≤ 50 by have := h.il; omega), decide_eq_true (show (d.o.length : Int) ≤ 50 by have := h.ol; omega), inB_t st 0 2 ⟨h0, h1⟩]
 rfl
theorem Dk.setM {d : Md} (h : Dk d) (k : Nat) (v : Int) (h0 : 0 ≤ v) (h1 : v ≤ 65535) : Dk ⟨d.m.set k v, d.r, d.i, d.o⟩ := { h with ml := by simp [h.ml], mw := h.mw.set k v h0 h1 }
theorem Dk.setR {d : Md} (h : Dk d) (k : Nat) (v : Int) (h0 : 0 ≤ v) (h1 : v ≤ 65535) : Dk ⟨d.m, d.r.set k v, d.i, d.o⟩ := { h with rl := by simp [h.rl], rw := h.rw.set k v h0 h1 }
theorem Dk.small {d : Md} (h : Dk d) : d.small := ⟨by have := h.ml; omega, by have := h.rl; omega, by have := h.il; omega, by have := h.ol; omega⟩
theorem wd_z : Wd z256 := fun x hx => by
 unfold z256 at hx
 rw [List.mem_replicate] at hx
 omega
theorem Wd.over {ns im : List Int} (h : Wd ns) (k : Nat) (hi : Wd im) : Wd (over ns k im) := fun x hx => by
 unfold Go.Proofs.YtjpbjbnialehbaaGreatDoor.over at hx
 rcases List.mem_append.1 hx with h1 | h1
 · exact h x (List.mem_of_mem_take h1)
 ·
  rcases List.mem_append.1 h1 with h2 | h2
  · exact hi x h2
  · exact h x (List.mem_of_mem_drop h2)
theorem wd_newR (st : Int) (h0 : 0 ≤ st) (h1 : st ≤ 65535) : Wd (newR st) := fun x hx => by
 unfold newR at hx
 simp at hx
 omega
theorem dk_new {ni nn : List Int} {k : Nat} {st : Int} (hk : k + ni.length ≤ 256) (hi : Wd ni) (hn : Wd nn) (ln : nn.length ≤ 50) (h0 : 0 ≤ st) (h1 : st ≤ 65535) : Dk ⟨over z256 k ni, newR st, nn, []⟩ :=
 ⟨by rw [over_len _ _ _ (by rw [z256_len]; omega), z256_len], wd_z.over k hi, rfl, wd_newR st h0 h1, ln, hn, Nat.zero_le _, fun x hx => by cases hx⟩
structure Ed (w wr : World) (cb : Nat) (a : Option Addr) (len cap : Nat) (xs : List UInt8) (y : Mv) (g5 : Nat) (d : Md) : Prop where
 cur : Cur wr cb a len cap xs
 gr : w.grownBy wr (some cb)
 re : wr.heap[w.heap.size]? = some (.cells zMv.cs 26 (0, 0))
 r5 : wr.heap[g5]? = some (.cells y.cs 26 (0, 0))
 own : OwnM wr (w.heap.size + 1) y d
 l5 : w.heap.size < g5
 ne : ∀ b, y.at b → b ≠ g5
 lt : cb < w.heap.size
 cd : xs = [] ∨ ∀ ad, a = some ad → ad.block < w.heap.size
section
variable {w wr w' : World} {cb : Nat} {a : Option Addr} {len cap : Nat} {xs : List UInt8} {y : Mv} {g5 gm gr n c : Nat} {d : Md}
theorem Ed.draw (h : Ed w wr cb a len cap xs y g5 d) (hc : Cur w' cb a len cap xs) (hg : wr.grownBy w' (some cb)) : Ed w w' cb a len cap xs y g5 d :=
 { h with
  cur := hc
  gr := grownBy_trans h.gr hg
  re := row_gb h.re hg (fun b e => by cases e; have := h.lt; omega)
  r5 := row_gb h.r5 hg (fun b e => by cases e; have := h.lt; have := h.l5; omega)
  own := h.own.gb hg (fun b e hb => by cases e; have := h.lt; have := (h.own.lo hb).1; omega) }
theorem Ed.later (h : Ed w wr cb a len cap xs y g5 d) (hb : Below wr.heap.size wr w') : Ed w w' cb a len cap xs y g5 d := h.draw (h.cur.later hb) (grownBy_below hb)
theorem Ed.alloc (h : Ed w wr cb a len cap xs y g5 d) (o : Obj) : Ed w (wr.alloc o) cb a len cap xs y g5 d := h.later (below_new _ _)
theorem Ed.write (h : Ed w wr cb a len cap xs y g5 d) {b k : Nat} (hb : w.heap.size < b) (hb5 : b ≠ g5) {v : Value} {d' : Md} (ho : OwnM (wr.setCell ⟨b, k, none⟩ v) (w.heap.size + 1) y d') : Ed w (wr.setCell ⟨b, k, none⟩ v) cb a len cap xs y g5 d' :=
 { h with
  cur := h.cur.past (grownBy_set v) h.lt h.cd (fun g e => by cases e; omega)
  gr := grownBy_own h.gr (grownBy_set v) (fun g e => by cases e; omega)
  re := row_keep h.re (by omega)
  r5 := row_keep h.r5 (fun e => hb5 e.symm)
  own := ho }
theorem Ed.setM (h : Ed w wr cb a len cap xs y g5 d) (hm : y.m = ⟨some ⟨gm, 0, none⟩, n, c⟩) (k : Nat) (v : Int) (hk : k < d.m.length) : Ed w (wr.setCell ⟨gm, k, none⟩ (.int .i64 v)) cb a len cap xs y g5 ⟨d.m.set k v, d.r, d.i, d.o⟩ := by
 have e : y.m.v = .slice (some ⟨gm, 0, none⟩) n c := by rw [hm]; rfl
 have o := h.own.m
 rw [e] at o
 have s := o.set k v hk
 have hat : y.at gm := .inl (by rw [e]; rfl)
 have := h.own.lo hat
 exact h.write (by omega) (h.ne gm hat) (h.own.putM (by rw [e]; exact s.2) (by rw [e]; exact s.1))
theorem Ed.setR (h : Ed w wr cb a len cap xs y g5 d) (hm : y.r = ⟨some ⟨gr, 0, none⟩, n, c⟩) (k : Nat) (v : Int) (hk : k < d.r.length) : Ed w (wr.setCell ⟨gr, k, none⟩ (.int .i64 v)) cb a len cap xs y g5 ⟨d.m, d.r.set k v, d.i, d.o⟩ := by
 have e : y.r.v = .slice (some ⟨gr, 0, none⟩) n c := by rw [hm]; rfl
 have o := h.own.r
 rw [e] at o
 have s := o.set k v hk
 have hat : y.at gr := .inr (.inl (by rw [e]; rfl))
 have := h.own.lo hat
 exact h.write (by omega) (h.ne gr hat) (h.own.putR (by rw [e]; exact s.2) (by rw [e]; exact s.1))
theorem Ed.setF (h : Ed w wr cb a len cap xs y g5 d) (j : Nat) (v : Value) (y' : Mv) (he : y.cs.setIfInBounds j v = y'.cs) (em : y'.m = y.m) (er : y'.r = y.r) (ei : y'.i = y.i) (eo : y'.o = y.o) : Ed w (wr.setCell ⟨g5, j, none⟩ v) cb a len cap xs y' g5 d := by
 have hat : ∀ b, y'.at b → y.at b := fun b hb => by unfold Mv.at at hb ⊢; rw [em, er, ei, eo] at hb; exact hb
 have o2 : OwnM (wr.setCell ⟨g5, j, none⟩ v) (w.heap.size + 1) y d := h.own.keepH fun b hb _ => Below.heap_setCell wr ⟨g5, j, none⟩ v b (h.ne b hb)
 refine { h with cur := h.cur.past (grownBy_set v) h.lt h.cd (fun g e => by cases e; have := h.l5; omega), gr := grownBy_own h.gr (grownBy_set v) (fun g e => by cases e; have := h.l5; omega), re := row_keep h.re (by have := h.l5; omega), r5 := row_put h.r5 j v y' he, own := ?_, ne := fun b hb => h.ne b (hat b hb) }
 obtain ⟨o1, o3, o4, o5, a1, a2, a3, a4, a5, a6⟩ := o2
 exact ⟨by rw [em]; exact o1, by rw [er]; exact o3, by rw [ei]; exact o4, by rw [eo]; exact o5, by rw [em, er]; exact a1, by rw [em, ei]; exact a2, by rw [em, eo]; exact a3, by rw [er, ei]; exact a4, by rw [er, eo]; exact a5, by rw [ei, eo]; exact a6⟩
theorem Ed.cellM (h : Ed w wr cb a len cap xs y g5 d) (hm : y.m = ⟨some ⟨gm, 0, none⟩, n, c⟩) (k : Nat) (hk : k < d.m.length) : wr.cell? ⟨gm, k, none⟩ = some (.int .i64 (nAt d.m k)) ∧ wr.frozen? ⟨gm, k, none⟩ = false := by
 have o := h.own.m
 rw [hm] at o
 exact OwnN.cellAt (b := gm) (n := n) (cap := c) o k hk
theorem Ed.cellR (h : Ed w wr cb a len cap xs y g5 d) (hm : y.r = ⟨some ⟨gr, 0, none⟩, n, c⟩) (k : Nat) (hk : k < d.r.length) : wr.cell? ⟨gr, k, none⟩ = some (.int .i64 (nAt d.r k)) ∧ wr.frozen? ⟨gr, k, none⟩ = false := by
 have o := h.own.r
 rw [hm] at o
 exact OwnN.cellAt (b := gr) (n := n) (cap := c) o k hk
end
end
section
theorem newB_i {im : List Int} {a st : Int} {ins : List Int} (h1 : inB a 0 510 = true) (h2 : a % 2 = 0) (h3 : (im.length : Int) ≤ 256 - a / 2) (h4 : wdB im = true) (h5 : inB st 0 65535 = true) (h6 : (ins.length : Int) ≤ 50) (h7 : wdB ins = true) : newB im a st ins = true := by
 unfold newB
 rw [h1, h4, h5, h7, decide_eq_true h3, decide_eq_true h6, h2]
 rfl
theorem lit_bd7 (b : Int) (h0 : 0 ≤ b) (h1 : b ≤ 255) (j : Nat) (hj : j < 7) : 0 ≤ nAt [0, 2, 100, 200, 510, 3, b * 2] j ∧ nAt [0, 2, 100, 200, 510, 3, b * 2] j ≤ 65535 := by
 obtain rfl | rfl | rfl | rfl | rfl | rfl | rfl : j = 0 ∨ j = 1 ∨ j = 2 ∨ j = 3 ∨ j = 4 ∨ j = 5 ∨ j = 6 := by omega
 all_goals simp [nAt]
 all_goals omega
theorem lit_bd3 (j : Nat) (hj : j < 3) : 0 ≤ nAt [512, 500, 400] j ∧ nAt [512, 500, 400] j ≤ 65535 := by
 obtain rfl | rfl | rfl : j = 0 ∨ j = 1 ∨ j = 2 := by omega
 all_goals simp [nAt]
theorem lit_bd5 (j : Nat) (hj : j < 5) : 0 ≤ nAt [0, 2, 100, 64, 65535] j ∧ nAt [0, 2, 100, 64, 65535] j ≤ 65535 := by
 obtain rfl | rfl | rfl | rfl | rfl : j = 0 ∨ j = 1 ∨ j = 2 ∨ j = 3 ∨ j = 4 := by omega
 all_goals simp [nAt]
structure Ei (w wr : World) (cb : Nat) (a : Option Addr) (len cap : Nat) (xs : List UInt8) (s : Sl) (ns : List Int) : Prop where
 cur : Cur wr cb a len cap xs
 gr : w.grownBy wr (some cb)
 re : wr.heap[w.heap.size]? = some (.cells zMv.cs 26 (0, 0))
 own : OwnN wr (w.heap.size + 1) s.v ns
 wd : Wd ns
section
variable {w wr w' : World} {cb : Nat} {a : Option Addr} {len cap : Nat} {xs : List UInt8} {s : Sl} {ns : List Int}
theorem Ei.draw (h : Ei w wr cb a len cap xs s ns) (hlt : cb < w.heap.size) (hc : Cur w' cb a len cap xs) (hg : wr.grownBy w' (some cb)) : Ei w w' cb a len cap xs s ns :=
 { h with cur := hc, gr := grownBy_trans h.gr hg, re := row_gb h.re hg (fun b e => by cases e; omega), own := h.own.gb hg (fun b e e2 => by cases e; have := (h.own.lt e2).1; omega) }
theorem Ei.later (h : Ei w wr cb a len cap xs s ns) (hlt : cb < w.heap.size) (hb : Below wr.heap.size wr w') : Ei w w' cb a len cap xs s ns := h.draw hlt (h.cur.later hb) (grownBy_below hb)
end
theorem draw5_any (cb : Nat) (a : Option Addr) (len cap : Nat) (xs : List UInt8) (w : World) (hc : Cur w cb a len cap xs) :
  Calls Tryz.prog 18 #[.pointer (some ⟨cb, 0, none⟩)] w fun e w' => ∃ (x : Mv) (d : Md), e = .returned (.agg x.cs) ∧ x.st = 0 ∧ Dk d ∧ OwnM w' (w.heap.size + 1) x d ∧ Cur w' cb a len cap xs ∧ w.grownBy w' (some cb) := by
 have hlt := hc.lt
 have CD := hide hc.code
 have b1 := (below_new w (.cells #[Value.slice none 0 0, Value.slice none 0 0, Value.bool false, Value.bool false, Value.bool false, Value.bool false, Value.slice none 0 0, Value.slice none 0 0, Value.int .i64 0] 26)).trans ((below_new (w.alloc (.cells #[Value.slice none 0 0, Value.slice none 0 0, Value.bool false, Value.bool false, Value.bool false, Value.bool false, Value.slice none 0 0, Value.slice none 0 0, Value.int .i64 0] 26)) (.cells #[] 3)).mono (below_new w (.cells #[Value.slice none 0 0, Value.slice none 0 0, Value.bool false, Value.bool false, Value.bool false, Value.bool false, Value.slice none 0 0, Value.slice none 0 0, Value.int .i64 0] 26)).size)
 have z1 : (w.alloc (.cells #[Value.slice none 0 0, Value.slice none 0 0, Value.bool false, Value.bool false, Value.bool false, Value.bool false, Value.slice none 0 0, Value.slice none 0 0, Value.int .i64 0] 26)).heap.size = w.heap.size + 1 := by simp
 have I0 := hide (show Ei w ((w.alloc (.cells #[Value.slice none 0 0, Value.slice none 0 0, Value.bool false, Value.bool false, Value.bool false, Value.bool false, Value.slice none 0 0, Value.slice none 0 0, Value.int .i64 0] 26)).alloc (.cells #[] 3)) cb a len cap xs ⟨some ⟨w.heap.size + 1, 0, none⟩, 0, 0⟩ [] from ⟨hc.later b1, grownBy_below b1, row_lat (heap_alloc_last w _) (below_new _ _), ownN_new _ _ _ z1 (by omega), fun x hx => by cases hx⟩)
 have P := hide (below_any cb a len cap xs 4 _ (by omega) (uh I0).cur)
 clear hc b1 z1
 go_enter Tryz.func18, Tryz.ntmps18
 go_wp2_with fail
 refine (uh P).mono ?_
 rintro e w1 ⟨y, hy0, hy1, rfl, hc1, hg1⟩
 obtain ⟨hy2, hy3⟩ := hy0 (by omega)
 obtain ⟨k0, rfl⟩ := Int.eq_ofNat_of_zero_le hy2
 have I1 := hide ((uh I0).draw hlt hc1 hg1)
 clear hc1 hg1 I0 P hy0 hy1
 go_wp2_with fail
 go_loopw [3, 4] (fun v v4 wr => ∃ (k : Nat) (s : Sl) (ns : List Int), k ≤ k0 ∧ v4 = .int .i64 k ∧ v = .slice s.a s.n s.c ∧ ns.length + k ≤ 3 ∧ Hid (Ei w wr cb a len cap xs s ns)) (fun _ v4 _ => (intOf v4).toNat)
 case atStart => exact ⟨k0, ⟨some ⟨w.heap.size + 1, 0, none⟩, 0, 0⟩, [], Nat.le_refl _, rfl, rfl, by simp; omega, I1⟩
 case round =>
  clear I1
  obtain ⟨k, s, ns, hk, rfl, rfl, hln, hE⟩ := hrel
  have EI := hide (uh hE)
  clear hE
  by_cases hk0 : k = 0
  ·
   subst hk0
   have P := hide (wordsD_any cb a len cap xs 12 (by omega) wr (uh EI).cur)
   have hln2 : ns.length ≤ 3 := by omega
   clear hln hk
   go_wp2_with fail
   refine (uh P).mono ?_
   rintro e w2 ⟨v, ni, rfl, hne, own2, hwd, hil, hc2, hg2⟩
   obtain ⟨va, vn, vc, rfl⟩ : ∃ a n c, v = .slice a n c := by obtain ⟨a, c, e, _⟩ := own2.rd; exact ⟨_, _, _, e⟩
   have E2 := hide ((uh EI).draw hlt hc2 hg2)
   have O2 := hide (show OwnN w2 wr.heap.size (Sl.mk va vn vc).v ni from own2)
   have NB := hide (newB_i (im := ni) (a := 64) (st := 64) (ins := ns) (by rfl) (by omega) (by omega) (wdB_of hwd) (by rfl) (by omega) (wdB_of (uh E2).wd))
   have DK := hide (dk_new (k := 32) (st := 64) (by omega) hwd (uh E2).wd (by omega) (by omega) (by omega))
   clear P
   have P := hide (newS_yes ⟨va, vn, vc⟩ s ni ns 64 64 w2 (uh O2).rdS (uh E2).own.rdS (uh O2).len (uh E2).own.len (uh E2).own.nz (uh NB))
   clear hc2 hg2 own2 EI hne hwd NB
   go_wp2_with fail
   refine (uh P).mono ?_
   rintro e w3 ⟨y, rfl, fy, oy, hb⟩
   have hsz : w.heap.size < w2.heap.size := row_lt (uh E2).re
   have e3 := ((uh E2).later hlt hb).later hlt (below_new w3 (.cells y.cs 26))
   have ED := hide (show Ed w (w3.alloc (.cells y.cs 26)) cb a len cap xs y w3.heap.size ⟨over z256 32 ni, newR 64, ns, []⟩ from ⟨e3.cur, e3.gr, e3.re, heap_alloc_last w3 _, (oy.base (by omega)).later (below_new _ _), by have := hb.size; omega, fun b hb' => by have := (oy.lo hb').2; omega, hlt, uh CD⟩)
   have Y0 := hide (show y.st = 0 from fl_st fy)
   have L256 : (over z256 (64 / 2 : Int).toNat ni).length = 256 := (uh DK).ml
   obtain ⟨gm, mc, hgm⟩ := sl_form oy.m (by rw [show (Md.m ⟨over z256 (64 / 2 : Int).toNat ni, newR 64, ns, []⟩).length = 256 from L256]; omega)
   obtain ⟨gr, rc, hgr⟩ := sl_form oy.r (by simp [newR])
   rw [show (Md.m ⟨over z256 (64 / 2 : Int).toNat ni, newR 64, ns, []⟩).length = 256 from L256] at hgm
   rw [show (Md.r ⟨over z256 (64 / 2 : Int).toNat ni, newR 64, ns, []⟩).length = 8 from rfl] at hgr
   have GM := hide hgm
   have GR := hide hgr
   generalize hg5 : w3.heap.size = g5 at ED
   have HG5 := hide hg5
   clear hb oy fy e3 P O2 E2 hgm hgr hsz L256 hg5
   go_wp2_with (refine wpList_store_new rfl 26 _ _ rfl y.cs rfl rfl _ (by kernel_rfl) rfl (Mv.cs_one _) ?_)
   rw [uh HG5]
   go_loopw [6] (fun v6 w4 => ∃ (i : Nat) (d : Md), i ≤ 6 ∧ v6 = .int .i64 i ∧ Hid (Dk d) ∧ Hid (Ed w w4 cb a len cap xs y g5 d)) (fun v6 _ => 6 - (intOf v6).toNat)
   case atStart => exact ⟨0, _, Nat.zero_le _, rfl, DK, ED⟩
   case round =>
    clear ED DK
    obtain ⟨i, d, hi, rfl, hD, hE⟩ := hrel
    have DK := hide (uh hD)
    have ED := hide (uh hE)
    clear hD hE
    by_cases hi6 : i < 6
    ·
     have C1 := hide (show wr.cell? ⟨g5, 1, none⟩ = some (.slice (some ⟨gr, 0, none⟩) 8 rc) by rw [row_r (uh ED).r5, uh GR])
     have DR := hide ((uh ED).later below_drew)
     go_wp2_with fail
     refine wp_region_held_drew (S := fun w' => w'.cell? ⟨g5, 1, none⟩ = some (.slice (some ⟨gr, 0, none⟩) 8 rc)) (by kernel_rfl) (uh C1) (fun hS => ?_)
     have HS := hide hS
     clear hS C1
     refine tkB 0 (.pointer (some ⟨g5, 1, none⟩)) rfl (uh HS) ?_
     go_simp
     refine tkA 1 ((.slice (some ⟨gr, 0, none⟩) 8 rc)) rfl (.inl ⟨by rfl, fun w hc => ?_⟩) (uh HS) ?_
     · go_simp
     go_simp
     refine tkB 2 (.int .i64 (i : Int)) rfl (uh HS) ?_
     go_simp
     refine tkB 3 (.pointer (some ⟨cb, 0, none⟩)) rfl (uh HS) ?_
     go_simp
     refine tkB 4 (.pointer (some ⟨cb, 0, none⟩)) rfl (uh HS) ?_
     go_simp
     refine wpAnyH_ready (rs := [5]) (by kernel_rfl) (by simp) ?_
     refine AllReadyH.cons rfl (fun K2 hK => ?_) AllReadyH.nil
     have P := hide (below_any cb a len cap xs 256 wr.drew (by omega) (uh DR).cur)
     go_simp
     refine (uh P).mono ?_
     rintro e u1 ⟨b, hb0, _, rfl, hc1, hg1⟩
     obtain ⟨b0, b1⟩ := hb0 (by omega)
     have E1 := hide ((uh DR).draw hc1 hg1)
     clear hc1 hg1 hb0 P DR
     refine hK.out _ _ ((row_r (uh E1).r5).trans (by rw [uh GR])) (fun hS => ?_)
     clear HS
     have HS := hide hS
     clear hS hK K2
     have HM := hide (show IntKind.i64.wrap (b * 2) = b * 2 by rw [IntKind.wrap_i64]; omega)
     refine tkA 6 (.int .i64 (b * 2)) rfl (.inl ⟨by rfl, fun w hc => ?_⟩) (uh HS) ?_
     · clear hc; have hm := uh HM; go_simp
     go_simp
     refine wpAnyH_ready (rs := [7]) (by kernel_rfl) (by simp) ?_
     refine AllReadyH.cons rfl (fun K2 hK => ?_) AllReadyH.nil
     go_simp
     refine hK.out _ _ ((row_r ((uh E1).alloc (.cells (([0, 2, 100, 200, 510, 3, b * 2] : List Int).map (Value.int .i64)).toArray 3)).r5).trans (by rw [uh GR])) (fun hS => ?_)
     clear HS
     have HS := hide hS
     clear hS hK K2
     refine wpAnyH_ready (rs := [8]) (by kernel_rfl) (by simp) ?_
     refine AllReadyH.cons rfl (fun K2 hK => ?_) AllReadyH.nil
     have P := hide (int_lit cb a len cap xs u1 (uh E1).cur [0, 2, 100, 200, 510, 3, b * 2] 7 rfl (by omega) (by omega) u1.heap.size rfl _ rfl)
     go_simp
     refine (uh P).mono ?_
     rintro e u2 ⟨j, hj, rfl, hc2, hg2⟩
     have vb := lit_bd7 b b0 (by omega) j hj
     generalize nAt [0, 2, 100, 200, 510, 3, b * 2] j = v at vb ⊢
     have E2 := hide (((uh E1).alloc (.cells (([0, 2, 100, 200, 510, 3, b * 2] : List Int).map (Value.int .i64)).toArray 3)).draw hc2 hg2)
     clear hc2 hg2 hj P E1 HM
     refine hK.out _ _ ((row_r (uh E2).r5).trans (by rw [uh GR])) (fun hS => ?_)
     clear HS
     have HS := hide hS
     clear hS hK K2
     have i8 : (i : Int) < 8 := by omega
     refine tkB 9 (.pointer (some ⟨gr, i, none⟩)) rfl (uh HS) ?_
     go_simp
     refine wpAnyH_ready (rs := [10]) (by kernel_rfl) (by simp) ?_
     refine AllReadyH.cons rfl (fun K2 hK => ?_) AllReadyH.nil
     obtain ⟨cm1, cm2⟩ := (uh E2).cellR (uh GR) i (by have := (uh DK).rl; omega)
     have E3 := hide ((uh E2).setR (uh GR) i v (by have := (uh DK).rl; omega))
     go_simp
     refine hK.out _ _ ((row_r (uh E3).r5).trans (by rw [uh GR])) (fun hS => ?_)
     clear HS
     have HS := hide hS
     clear hS hK K2
     clear cm1 cm2
     refine wpAnyH_done (by kernel_rfl) ?_ _
     go_wp2
     go_roundw
     case rel => exact ⟨i + 1, _, by omega, by go_num, (uh DK).setR i v vb.1 vb.2, E3⟩
     case measure => simp [intOf]; omega
    ·
     have C1 := hide (show wr.cell? ⟨g5, 1, none⟩ = some (.slice (some ⟨gr, 0, none⟩) 8 rc) by rw [row_r (uh ED).r5, uh GR])
     have DR := hide ((uh ED).later below_drew)
     go_wp2_with fail
     refine wp_region_held_drew (S := fun w' => w'.cell? ⟨g5, 1, none⟩ = some (.slice (some ⟨gr, 0, none⟩) 8 rc)) (by kernel_rfl) (uh C1) (fun hS => ?_)
     have HS := hide hS
     clear hS C1
     refine tkB 0 (.pointer (some ⟨g5, 1, none⟩)) rfl (uh HS) ?_
     go_simp
     refine tkA 1 ((.slice (some ⟨gr, 0, none⟩) 8 rc)) rfl (.inl ⟨by rfl, fun w hc => ?_⟩) (uh HS) ?_
     · go_simp
     go_simp
     refine tkB 2 (.pointer (some ⟨cb, 0, none⟩)) rfl (uh HS) ?_
     go_simp
     refine wpAnyH_ready (rs := [3]) (by kernel_rfl) (by simp) ?_
     refine AllReadyH.cons rfl (fun K2 hK => ?_) AllReadyH.nil
     go_simp
     refine hK.out _ _ ((row_r ((uh DR).alloc (.cells (([512, 500, 400] : List Int).map (Value.int .i64)).toArray 3)).r5).trans (by rw [uh GR])) (fun hS => ?_)
     clear HS
     have HS := hide hS
     clear hS hK K2
     refine wpAnyH_ready (rs := [4]) (by kernel_rfl) (by simp) ?_
     refine AllReadyH.cons rfl (fun K2 hK => ?_) AllReadyH.nil
     have P := hide (int_lit cb a len cap xs wr.drew (uh DR).cur [512, 500, 400] 3 rfl (by omega) (by omega) wr.heap.size rfl _ rfl)
     go_simp
     refine (uh P).mono ?_
     rintro e u2 ⟨j, hj, rfl, hc2, hg2⟩
     have vb := lit_bd3 j hj
     generalize nAt [512, 500, 400] j = v at vb ⊢
     have E2 := hide (((uh DR).alloc (.cells (([512, 500, 400] : List Int).map (Value.int .i64)).toArray 3)).draw hc2 hg2)
     clear hc2 hg2 hj P DR
     refine hK.out _ _ ((row_r (uh E2).r5).trans (by rw [uh GR])) (fun hS => ?_)
     clear HS
     have HS := hide hS
     clear hS hK K2
     refine tkB 5 (.pointer (some ⟨gr, 6, none⟩)) rfl (uh HS) ?_
     go_simp
     refine wpAnyH_ready (rs := [6]) (by kernel_rfl) (by simp) ?_
     refine AllReadyH.cons rfl (fun K2 hK => ?_) AllReadyH.nil
     obtain ⟨cm1, cm2⟩ := (uh E2).cellR (uh GR) 6 (by have := (uh DK).rl; omega)
     have E3 := hide ((uh E2).setR (uh GR) 6 v (by have := (uh DK).rl; omega))
     have D3 := hide ((uh DK).setR 6 v vb.1 vb.2)
     go_simp
     refine hK.out _ _ ((row_r (uh E3).r5).trans (by rw [uh GR])) (fun hS => ?_)
     clear HS
     have HS := hide hS
     clear hS hK K2
     clear cm1 cm2 HS DK E2 ED
     refine wpAnyH_done (by kernel_rfl) ?_ _
     have P := hide (once_any cb a len cap xs 2 _ (by omega) (uh E3).cur)
     go_wp2_with fail
     refine (uh P).mono ?_
     rintro e f0 ⟨bn, rfl, hc, hg⟩
     have EF := hide ((uh E3).draw hc hg)
     have o2 := row_n (uh EF).r5
     have z2 := row_fz (uh EF).r5 2
     have EG := hide ((uh EF).setF 2 (.bool bn) (⟨y.m, y.r, bn, y.z, y.v, y.c, y.i, y.o, y.st⟩ : Mv) rfl rfl rfl rfl rfl)
     clear hc hg P E3
     have E3 := hide (uh EG)
     clear EG EF
     have P := hide (once_any cb a len cap xs 2 _ (by omega) (uh E3).cur)
     go_wp2_with fail
     refine (uh P).mono ?_
     rintro e f1 ⟨bz, rfl, hc, hg⟩
     have EF := hide ((uh E3).draw hc hg)
     have o3 := row_z (uh EF).r5
     have z3 := row_fz (uh EF).r5 3
     have EG := hide ((uh EF).setF 3 (.bool bz) (⟨y.m, y.r, bn, bz, y.v, y.c, y.i, y.o, y.st⟩ : Mv) rfl rfl rfl rfl rfl)
     clear hc hg P E3
     have E3 := hide (uh EG)
     clear EG EF
     have P := hide (once_any cb a len cap xs 2 _ (by omega) (uh E3).cur)
     go_wp2_with fail
     refine (uh P).mono ?_
     rintro e f2 ⟨bc, rfl, hc, hg⟩
     have EF := hide ((uh E3).draw hc hg)
     have o5 := row_c (uh EF).r5
     have z5 := row_fz (uh EF).r5 5
     have EG := hide ((uh EF).setF 5 (.bool bc) (⟨y.m, y.r, bn, bz, y.v, bc, y.i, y.o, y.st⟩ : Mv) rfl rfl rfl rfl rfl)
     clear hc hg P E3
     have E3 := hide (uh EG)
     clear EG EF
     go_wp2
     go_loopw [7] (fun v7 w4 => ∃ (i : Nat) (d : Md), i ≤ 8 ∧ v7 = .int .i64 i ∧ Hid (Dk d) ∧ Hid (Ed w w4 cb a len cap xs (⟨y.m, y.r, bn, bz, y.v, bc, y.i, y.o, y.st⟩ : Mv) g5 d)) (fun v7 _ => 8 - (intOf v7).toNat)
     case atStart => exact ⟨0, _, Nat.zero_le _, rfl, D3, E3⟩
     case round =>
      clear E3 D3 o2 z2 o3 z3 o5 z5
      obtain ⟨i2, d2, hi2, rfl, hD, hE⟩ := hrel
      have DK := hide (uh hD)
      have ED := hide (uh hE)
      have GM3 : Hid (((⟨y.m, y.r, bn, bz, y.v, bc, y.i, y.o, y.st⟩ : Mv)).m = ⟨some ⟨gm, 0, none⟩, 256, mc⟩) := GM
      clear hD hE
      by_cases hi8 : i2 < 8
      ·
       have C1 := hide (show wr.cell? ⟨g5, 0, none⟩ = some (.slice (some ⟨gm, 0, none⟩) 256 mc) from (row_m (uh ED).r5).trans (by rw [uh GM3]))
       have DR := hide ((uh ED).later below_drew)
       go_wp2_with fail
       refine wp_region_held_drew (S := fun w' => w'.cell? ⟨g5, 0, none⟩ = some (.slice (some ⟨gm, 0, none⟩) 256 mc)) (by kernel_rfl) (uh C1) (fun hS => ?_)
       have HS := hide hS
       clear hS C1
       refine tkB 0 (.pointer (some ⟨g5, 0, none⟩)) rfl (uh HS) ?_
       go_simp
       refine tkA 1 ((.slice (some ⟨gm, 0, none⟩) 256 mc)) rfl (.inl ⟨by rfl, fun w hc => ?_⟩) (uh HS) ?_
       · go_simp
       go_simp
       refine tkB 2 (.pointer (some ⟨cb, 0, none⟩)) rfl (uh HS) ?_
       go_simp
       refine tkB 4 (.pointer (some ⟨cb, 0, none⟩)) rfl (uh HS) ?_
       go_simp
       refine wpAnyH_ready (rs := [3, 5]) (by kernel_rfl) (by simp) ?_
       refine AllReadyH.cons rfl (fun K2 hK => ?_) (AllReadyH.cons rfl (fun K2 hK => ?_) AllReadyH.nil)
       ·
        have P := hide (below_any cb a len cap xs 32 wr.drew (by omega) (uh DR).cur)
        go_simp
        refine (uh P).mono ?_
        rintro e u1 ⟨bi, hb0, _, rfl, hc1, hg1⟩
        obtain ⟨b0, b1⟩ := hb0 (by omega)
        obtain ⟨b, rfl⟩ := Int.eq_ofNat_of_zero_le b0
        have E1 := hide ((uh DR).draw hc1 hg1)
        clear hc1 hg1 hb0 P DR
        refine hK.out _ _ ((row_m (uh E1).r5).trans (by rw [uh GM3])) (fun hS => ?_)
        clear HS
        have HS := hide hS
        clear hS hK K2
        refine wpAnyH_ready (rs := [5]) (by kernel_rfl) (by simp) ?_
        refine AllReadyH.cons rfl (fun K2 hK => ?_) AllReadyH.nil
        go_simp
        refine hK.out _ _ ((row_m ((uh E1).alloc (.cells (([0, 2, 100, 64, 65535] : List Int).map (Value.int .i64)).toArray 3)).r5).trans (by rw [uh GM3])) (fun hS => ?_)
        clear HS
        have HS := hide hS
        clear hS hK K2
        refine wpAnyH_ready (rs := [6]) (by kernel_rfl) (by simp) ?_
        refine AllReadyH.cons rfl (fun K2 hK => ?_) AllReadyH.nil
        have P := hide (int_lit cb a len cap xs u1 (uh E1).cur [0, 2, 100, 64, 65535] 5 rfl (by omega) (by omega) u1.heap.size rfl _ rfl)
        go_simp
        refine (uh P).mono ?_
        rintro e u2 ⟨j, hj, rfl, hc2, hg2⟩
        have vb := lit_bd5 j hj
        generalize nAt [0, 2, 100, 64, 65535] j = v at vb ⊢
        have E2 := hide (((uh E1).alloc (.cells (([0, 2, 100, 64, 65535] : List Int).map (Value.int .i64)).toArray 3)).draw hc2 hg2)
        clear hc2 hg2 hj P E1
        refine hK.out _ _ ((row_m (uh E2).r5).trans (by rw [uh GM3])) (fun hS => ?_)
        clear HS
        have HS := hide hS
        clear hS hK K2
        have b32 : (b : Int) < 256 := by omega
        refine tkB 7 (.pointer (some ⟨gm, b, none⟩)) rfl (uh HS) ?_
        go_simp
        refine wpAnyH_ready (rs := [8]) (by kernel_rfl) (by simp) ?_
        refine AllReadyH.cons rfl (fun K2 hK => ?_) AllReadyH.nil
        obtain ⟨cm1, cm2⟩ := (uh E2).cellM (uh GM3) b (by have := (uh DK).ml; omega)
        have E3 := hide ((uh E2).setM (uh GM3) b v (by have := (uh DK).ml; omega))
        have D3 := hide ((uh DK).setM b v vb.1 vb.2)
        go_simp
        refine hK.out _ _ ((row_m (uh E3).r5).trans (by rw [uh GM3])) (fun hS => ?_)
        clear HS
        have HS := hide hS
        clear hS hK K2
        clear cm1 cm2 HS E2 b32
        refine wpAnyH_done (by kernel_rfl) ?_ _
        generalize (Md.mk (d2.m.set b v) d2.r d2.i d2.o) = d3 at E3 D3
        generalize u2.setCell ⟨gm, b, none⟩ (Value.int .i64 v) = wz at E3 ⊢
        have C1 := hide (show wz.cell? ⟨g5, 0, none⟩ = some (.slice (some ⟨gm, 0, none⟩) 256 mc) from (row_m (uh E3).r5).trans (by rw [uh GM3]))
        have DZ := hide ((uh E3).later below_drew)
        clear vb
        go_wp2_with fail
        refine wp_region_held_drew (S := fun w' => w'.cell? ⟨g5, 0, none⟩ = some (.slice (some ⟨gm, 0, none⟩) 256 mc)) (by kernel_rfl) (uh C1) (fun hS => ?_)
        have HS := hide hS
        clear hS C1 E3
        refine tkB 0 (.pointer (some ⟨g5, 0, none⟩)) rfl (uh HS) ?_
        go_simp
        refine tkA 1 ((.slice (some ⟨gm, 0, none⟩) 256 mc)) rfl (.inl ⟨by rfl, fun w hc => ?_⟩) (uh HS) ?_
        · go_simp
        go_simp
        refine tkB 2 (.pointer (some ⟨cb, 0, none⟩)) rfl (uh HS) ?_
        go_simp
        refine tkB 5 (.pointer (some ⟨cb, 0, none⟩)) rfl (uh HS) ?_
        go_simp
        refine wpAnyH_ready (rs := [3]) (by kernel_rfl) (by simp) ?_
        refine AllReadyH.cons rfl (fun K2 hK => ?_) AllReadyH.nil
        have P := hide (below_any cb a len cap xs 60 wz.drew (by omega) (uh DZ).cur)
        go_simp
        refine (uh P).mono ?_
        rintro e u3 ⟨ci, hb0, _, rfl, hc1, hg1⟩
        obtain ⟨c0, c1⟩ := hb0 (by omega)
        obtain ⟨bb, rfl⟩ := Int.eq_ofNat_of_zero_le c0
        have E1 := hide ((uh DZ).draw hc1 hg1)
        clear hc1 hg1 hb0 P DZ
        refine hK.out _ _ ((row_m (uh E1).r5).trans (by rw [uh GM3])) (fun hS => ?_)
        clear HS
        have HS := hide hS
        clear hS hK K2
        have HM := hide (show IntKind.i64.wrap (80 + (bb : Int)) = 80 + (bb : Int) by rw [IntKind.wrap_i64]; omega)
        have HT := hide (show (80 + (bb : Int)).toNat = 80 + bb by omega)
        refine tkA 4 (.int .i64 (80 + (bb : Int))) rfl (.inl ⟨by rfl, fun w hc => ?_⟩) (uh HS) ?_
        · clear hc; have hm := uh HM; go_simp
        go_simp
        refine wpAnyH_ready (rs := [6]) (by kernel_rfl) (by simp) ?_
        refine AllReadyH.cons rfl (fun K2 hK => ?_) AllReadyH.nil
        have P := hide (word_any cb a len cap xs u3 (uh E1).cur)
        go_simp
        refine (uh P).mono ?_
        rintro e u4 ⟨x, hx0, hx1, rfl, hc1, hg1⟩
        have E2 := hide ((uh E1).draw hc1 hg1)
        clear hc1 hg1 P E1
        refine hK.out _ _ ((row_m (uh E2).r5).trans (by rw [uh GM3])) (fun hS => ?_)
        clear HS
        have HS := hide hS
        clear hS hK K2
        have b60 : 80 + (bb : Int) < 256 := by omega
        have b61 : ¬ 80 + (bb : Int) < 0 := by omega
        refine tkA 7 (.pointer (some ⟨gm, 80 + bb, none⟩)) rfl (.inl ⟨by rfl, fun w hc => ?_⟩) (uh HS) ?_
        · clear hc; have ht := uh HT; go_simp
        go_simp
        refine wpAnyH_ready (rs := [8]) (by kernel_rfl) (by simp) ?_
        refine AllReadyH.cons rfl (fun K2 hK => ?_) AllReadyH.nil
        obtain ⟨cm1, cm2⟩ := (uh E2).cellM (uh GM3) (80 + bb) (by have := (uh D3).ml; omega)
        have E3 := hide ((uh E2).setM (uh GM3) (80 + bb) x (by have := (uh D3).ml; omega))
        have D4 := hide ((uh D3).setM (80 + bb) x hx0 hx1)
        go_simp
        refine hK.out _ _ ((row_m (uh E3).r5).trans (by rw [uh GM3])) (fun hS => ?_)
        clear HS
        have HS := hide hS
        clear hS hK K2
        clear cm1 cm2 HS E2
        refine wpAnyH_done (by kernel_rfl) ?_ _
        go_wp2
        go_roundw
        case rel => exact ⟨i2 + 1, _, by omega, by go_num, D4, E3⟩
        case measure => simp [intOf]; omega
       ·
        go_simp
        have LR := hide (RdN_lit wr.drew [0, 2, 100, 64, 65535])
        have DA := hide ((uh DR).alloc (.cells (([0, 2, 100, 64, 65535] : List Int).map (Value.int .i64)).toArray 3))
        refine hK.out _ _ ((row_m (uh DA).r5).trans (by rw [uh GM3])) (fun hS => ?_)
        clear HS
        have HS := hide hS
        clear hS hK K2
        refine wpAnyH_ready (rs := [3]) (by kernel_rfl) (by simp) ?_
        refine AllReadyH.cons rfl (fun K2 hK => ?_) AllReadyH.nil
        have P := hide (below_any cb a len cap xs 32 (wr.drew.alloc (.cells (([0, 2, 100, 64, 65535] : List Int).map (Value.int .i64)).toArray 3)) (by omega) (uh DA).cur)
        go_simp
        refine (uh P).mono ?_
        rintro e u1 ⟨bi, hb0, _, rfl, hc1, hg1⟩
        obtain ⟨b0, b1⟩ := hb0 (by omega)
        obtain ⟨b, rfl⟩ := Int.eq_ofNat_of_zero_le b0
        have E1 := hide ((uh DA).draw hc1 hg1)
        have LR1 := hide ((uh LR).past hg1 (fun ad e => by cases e; have h1 := (uh DR).lt; have h2 := (uh DR).gr.size; show wr.drew.heap.size ≠ cb; omega))
        have NE := hide (show ∀ ad, (some (⟨wr.heap.size, 0, none⟩ : Addr)) = some ad → ad.block ≠ cb from fun ad e => by cases e; have h1 := (uh DR).lt; have h2 := (uh DR).gr.size; show wr.drew.heap.size ≠ cb; omega)
        clear hc1 hg1 hb0 P DA LR
        refine hK.out _ _ ((row_m (uh E1).r5).trans (by rw [uh GM3])) (fun hS => ?_)
        clear HS
        have HS := hide hS
        clear hS hK K2
        refine wpAnyH_ready (rs := [6]) (by kernel_rfl) (by simp) ?_
        refine AllReadyH.cons rfl (fun K2 hK => ?_) AllReadyH.nil
        have P := hide (int_any cb a len cap xs (some ⟨wr.heap.size, 0, none⟩) 5 5 [0, 2, 100, 64, 65535] u1 (uh E1).cur (uh LR1) (uh NE) rfl (by omega) (by omega))
        go_simp
        refine (uh P).mono ?_
        rintro e u2 ⟨j, hj, rfl, hc2, hg2⟩
        have vb := lit_bd5 j hj
        generalize nAt [0, 2, 100, 64, 65535] j = v at vb ⊢
        have E2 := hide ((uh E1).draw hc2 hg2)
        clear hc2 hg2 hj P E1 LR1 NE DR
        refine hK.out _ _ ((row_m (uh E2).r5).trans (by rw [uh GM3])) (fun hS => ?_)
        clear HS
        have HS := hide hS
        clear hS hK K2
        have b32 : (b : Int) < 256 := by omega
        refine tkB 7 (.pointer (some ⟨gm, b, none⟩)) rfl (uh HS) ?_
        go_simp
        refine wpAnyH_ready (rs := [8]) (by kernel_rfl) (by simp) ?_
        refine AllReadyH.cons rfl (fun K2 hK => ?_) AllReadyH.nil
        obtain ⟨cm1, cm2⟩ := (uh E2).cellM (uh GM3) b (by have := (uh DK).ml; omega)
        have E3 := hide ((uh E2).setM (uh GM3) b v (by have := (uh DK).ml; omega))
        have D3 := hide ((uh DK).setM b v vb.1 vb.2)
        go_simp
        refine hK.out _ _ ((row_m (uh E3).r5).trans (by rw [uh GM3])) (fun hS => ?_)
        clear HS
        have HS := hide hS
        clear hS hK K2
        clear cm1 cm2 HS E2 b32
        refine wpAnyH_done (by kernel_rfl) ?_ _
        generalize (Md.mk (d2.m.set b v) d2.r d2.i d2.o) = d3 at E3 D3
        generalize u2.setCell ⟨gm, b, none⟩ (Value.int .i64 v) = wz at E3 ⊢
        have C1 := hide (show wz.cell? ⟨g5, 0, none⟩ = some (.slice (some ⟨gm, 0, none⟩) 256 mc) from (row_m (uh E3).r5).trans (by rw [uh GM3]))
        have DZ := hide ((uh E3).later below_drew)
        clear vb
        go_wp2_with fail
        refine wp_region_held_drew (S := fun w' => w'.cell? ⟨g5, 0, none⟩ = some (.slice (some ⟨gm, 0, none⟩) 256 mc)) (by kernel_rfl) (uh C1) (fun hS => ?_)
        have HS := hide hS
        clear hS C1 E3
        refine tkB 0 (.pointer (some ⟨g5, 0, none⟩)) rfl (uh HS) ?_
        go_simp
        refine tkA 1 ((.slice (some ⟨gm, 0, none⟩) 256 mc)) rfl (.inl ⟨by rfl, fun w hc => ?_⟩) (uh HS) ?_
        · go_simp
        go_simp
        refine tkB 2 (.pointer (some ⟨cb, 0, none⟩)) rfl (uh HS) ?_
        go_simp
        refine tkB 5 (.pointer (some ⟨cb, 0, none⟩)) rfl (uh HS) ?_
        go_simp
        refine wpAnyH_ready (rs := [3]) (by kernel_rfl) (by simp) ?_
        refine AllReadyH.cons rfl (fun K2 hK => ?_) AllReadyH.nil
        have P := hide (below_any cb a len cap xs 60 wz.drew (by omega) (uh DZ).cur)
        go_simp
        refine (uh P).mono ?_
        rintro e u3 ⟨ci, hb0, _, rfl, hc1, hg1⟩
        obtain ⟨c0, c1⟩ := hb0 (by omega)
        obtain ⟨bb, rfl⟩ := Int.eq_ofNat_of_zero_le c0
        have E1 := hide ((uh DZ).draw hc1 hg1)
        clear hc1 hg1 hb0 P DZ
        refine hK.out _ _ ((row_m (uh E1).r5).trans (by rw [uh GM3])) (fun hS => ?_)
        clear HS
        have HS := hide hS
        clear hS hK K2
        have HM := hide (show IntKind.i64.wrap (80 + (bb : Int)) = 80 + (bb : Int) by rw [IntKind.wrap_i64]; omega)
        have HT := hide (show (80 + (bb : Int)).toNat = 80 + bb by omega)
        refine tkA 4 (.int .i64 (80 + (bb : Int))) rfl (.inl ⟨by rfl, fun w hc => ?_⟩) (uh HS) ?_
        · clear hc; have hm := uh HM; go_simp
        go_simp
        refine wpAnyH_ready (rs := [6]) (by kernel_rfl) (by simp) ?_
        refine AllReadyH.cons rfl (fun K2 hK => ?_) AllReadyH.nil
        have P := hide (word_any cb a len cap xs u3 (uh E1).cur)
        go_simp
        refine (uh P).mono ?_
        rintro e u4 ⟨x, hx0, hx1, rfl, hc1, hg1⟩
        have E2 := hide ((uh E1).draw hc1 hg1)
        clear hc1 hg1 P E1
        refine hK.out _ _ ((row_m (uh E2).r5).trans (by rw [uh GM3])) (fun hS => ?_)
        clear HS
        have HS := hide hS
        clear hS hK K2
        have b60 : 80 + (bb : Int) < 256 := by omega
        have b61 : ¬ 80 + (bb : Int) < 0 := by omega
        refine tkA 7 (.pointer (some ⟨gm, 80 + bb, none⟩)) rfl (.inl ⟨by rfl, fun w hc => ?_⟩) (uh HS) ?_
        · clear hc; have ht := uh HT; go_simp
        go_simp
        refine wpAnyH_ready (rs := [8]) (by kernel_rfl) (by simp) ?_
        refine AllReadyH.cons rfl (fun K2 hK => ?_) AllReadyH.nil
        obtain ⟨cm1, cm2⟩ := (uh E2).cellM (uh GM3) (80 + bb) (by have := (uh D3).ml; omega)
        have E3 := hide ((uh E2).setM (uh GM3) (80 + bb) x (by have := (uh D3).ml; omega))
        have D4 := hide ((uh D3).setM (80 + bb) x hx0 hx1)
        go_simp
        refine hK.out _ _ ((row_m (uh E3).r5).trans (by rw [uh GM3])) (fun hS => ?_)
        clear HS
        have HS := hide hS
        clear hS hK K2
        clear cm1 cm2 HS E2
        refine wpAnyH_done (by kernel_rfl) ?_ _
        go_wp2
        go_roundw
        case rel => exact ⟨i2 + 1, _, by omega, by go_num, D4, E3⟩
        case measure => simp [intOf]; omega
      ·
       go_wp2_with (first | (refine wpList_load_row rfl 26 _ rfl g5 rfl 26 (Mv.cs (⟨y.m, y.r, bn, bz, y.v, bc, y.i, y.o, y.st⟩ : Mv)) (0, 0) _ (uh ED).r5 Tryz.underlying26 rfl (by kernel_rfl) ?_) | (refine wpList_store_row rfl 26 _ _ rfl w.heap.size (Mv.cs (⟨y.m, y.r, bn, bz, y.v, bc, y.i, y.o, y.st⟩ : Mv)) rfl rfl 26 zMv.cs (uh ED).re (by kernel_rfl) rfl (Mv.cs_one _) ?_))
       refine bodyPost_ret (results_cell_row (P := Tryz.prog) rfl _ _ w.heap.size 26 (Mv.cs (⟨y.m, y.r, bn, bz, y.v, bc, y.i, y.o, y.st⟩ : Mv)) (0, 0) _ rfl (setRow_heap _ _ _ _ 26 _ (uh ED).re) Tryz.underlying26 rfl (by kernel_rfl)) rfl ?_
       exact ⟨(⟨y.m, y.r, bn, bz, y.v, bc, y.i, y.o, y.st⟩ : Mv), rfl, uh Y0, d2, uh DK, (uh ED).own.row (by omega) _, (uh ED).cur.past (grownBy_setRow _) (uh ED).lt (uh ED).cd (fun g e => by cases e; omega), grownBy_own (uh ED).gr (grownBy_setRow _) (fun g e => by cases e; omega)⟩
  ·
   have hkp : (0 : Int) < (k : Int) := by omega
   have P := hide (word_any cb a len cap xs wr (uh EI).cur)
   clear hk0
   go_wp2_with fail
   refine (uh P).mono ?_
   rintro e w3 ⟨x, hx0, hx1, rfl, hc3, hg3⟩
   have E3 := hide ((uh EI).draw hlt hc3 hg3)
   have A3 := hide (below_new w3 (Obj.cells #[.int .i64 x] 3))
   clear hc3 hg3 P EI
   go_wp2_with (at_builtin; go_must (refine wpList_app rfl _ _ rfl (w.heap.size + 1) (.slice s.a s.n s.c) ns rfl ((uh E3).own.later (uh A3)) ⟨some ⟨w3.heap.size, 0, none⟩, 1, 1⟩ [x] rfl (OwnN.rd1 (own_one w3 x)) rfl (fun e => by cases e) (by simp only; omega) (by have := (uh E3).gr.size; have := row_lt (uh E3).re; have := (uh A3).size; omega) ?_; intro v8 w8 hown hgrow; obtain ⟨ta, tn, tc, rfl⟩ : ∃ a n c, v8 = .slice a n c := (by obtain ⟨a, c, e, _⟩ := hown.rd; exact ⟨_, _, _, e⟩); have HOWN := hide hown; have HGROW := hide hgrow; clear hown hgrow))
   have hgrow := uh HGROW
   have e4 := (uh E3).later hlt (uh A3)
   have hgo : ∀ q, (Value.slice s.a s.n s.c).ownBlock = some q → w.heap.size < q := fun q e => by have := ((uh E3).own.lt (g := q) e).1; omega
   have E8 := hide (show Ei w w8 cb a len cap xs ⟨ta, tn, tc⟩ (ns ++ [x]) from ⟨e4.cur.past hgrow hlt (uh CD) (fun g e => by have := hgo g e; omega), grownBy_own e4.gr hgrow (fun g e => by have := hgo g e; omega), row_gb e4.re hgrow (fun b e => by have := hgo b e; omega), uh HOWN, e4.wd.app (fun z hz => by simp at hz; omega)⟩)
   clear HOWN HGROW hgrow hgo e4 E3 A3
   go_wp2
   go_roundw
   case rel => exact ⟨k - 1, ⟨ta, tn, tc⟩, ns ++ [x], by omega, by go_num, rfl, by rw [List.length_append]; simp; omega, E8⟩
   case measure => simp [intOf]; omega
end
theorem sameM_any (x y : Mv) (d : Md) (w : World) (hf : y.fl = x.fl) (hs : x.small) (hx : RdM w x d) (hy : RdM w y d) : Calls Tryz.prog 8 #[.agg x.cs, .agg y.cs] w fun e w' => e = .returned (.bool true) ∧ Below w.heap.size w w' := by
 have T := hide (tw_new w x y)
 have X := hide (hx.later (uh T).bel)
 have Y := hide (hy.later (uh T).bel)
 have p0 : x.cs[0]? = some (.slice x.m.a x.m.n x.m.c) := rfl
 have q0 : y.cs[0]? = some (.slice y.m.a x.m.n y.m.c) := by rw [← hx.ml, hy.ml]; rfl
 have E := hide (sameInts_any x.m.a y.m.a x.m.n x.m.c y.m.c d.m _ hx.ml (by have := hs.1; omega) (uh X).m (uh Y).m)
 have F := hide hf
 have S := hide hs
 clear hf hs hx hy
 go_enter Tryz.func8, Tryz.ntmps8
 go_wp2_with fail
 refine (uh E).mono ?_
 rintro e w1 ⟨rfl, hb⟩
 have T1 := hide ((uh T).later hb)
 have X1 := hide ((uh X).later hb)
 have Y1 := hide ((uh Y).later hb)
 clear hb T X Y E p0 q0
 have p0 := row_r (uh T1).bx
 have q0 : w1.cell? ⟨w.heap.size + 1, 1, none⟩ = some (.slice y.r.a x.r.n y.r.c) := by rw [← (uh X1).rl, (uh Y1).rl]; exact row_r (uh T1).by'
 have E := hide (sameInts_any x.r.a y.r.a x.r.n x.r.c y.r.c d.r _ (uh X1).rl (by have := (uh S).2.1; omega) (uh X1).r (uh Y1).r)
 go_wp2_with fail
 refine (uh E).mono ?_
 rintro e w2 ⟨rfl, hb⟩
 have T := hide ((uh T1).later hb)
 have X := hide ((uh X1).later hb)
 have Y := hide ((uh Y1).later hb)
 clear hb T1 X1 Y1 E p0 q0
 have p2 := row_n (uh T).bx
 have q2 := (row_n (uh T).by').trans (by rw [fl_n (uh F)])
 have p3 := row_z (uh T).bx
 have q3 := (row_z (uh T).by').trans (by rw [fl_z (uh F)])
 have p4 := row_v (uh T).bx
 have q4 := (row_v (uh T).by').trans (by rw [fl_v (uh F)])
 have p5 := row_c (uh T).bx
 have q5 := (row_c (uh T).by').trans (by rw [fl_c (uh F)])
 have p0 := row_i (uh T).bx
 have q0 : w2.cell? ⟨w.heap.size + 1, 6, none⟩ = some (.slice y.i.a x.i.n y.i.c) := by rw [← (uh X).il, (uh Y).il]; exact row_i (uh T).by'
 have E := hide (sameInts_any x.i.a y.i.a x.i.n x.i.c y.i.c d.i _ (uh X).il (by have := (uh S).2.2.1; omega) (uh X).i (uh Y).i)
 go_wp2_with fail
 refine (uh E).mono ?_
 rintro e w3 ⟨rfl, hb⟩
 have T1 := hide ((uh T).later hb)
 have X1 := hide ((uh X).later hb)
 have Y1 := hide ((uh Y).later hb)
 clear hb T X Y E p0 q0 p2 q2 p3 q3 p4 q4 p5 q5
 have p0 := row_o (uh T1).bx
 have q0 : w3.cell? ⟨w.heap.size + 1, 7, none⟩ = some (.slice y.o.a x.o.n y.o.c) := by rw [← (uh X1).ol, (uh Y1).ol]; exact row_o (uh T1).by'
 have E := hide (sameInts_any x.o.a y.o.a x.o.n x.o.c y.o.c d.o _ (uh X1).ol (by have := (uh S).2.2.2; omega) (uh X1).o (uh Y1).o)
 go_wp2_with fail
 refine (uh E).mono ?_
 rintro e w4 ⟨rfl, hb⟩
 have T := hide ((uh T1).later hb)
 clear hb T1 X1 Y1 E p0 q0
 have p8 := row_st (uh T).bx
 have q8 := (row_st (uh T).by').trans (by rw [fl_st (uh F)])
 go_wp2
 go_ret
 exact ⟨rfl, (uh T).bel⟩
section
structure Er (w wr : World) (cb : Nat) (a : Option Addr) (len cap : Nat) (xs : List UInt8) (z : Array Value) (t : TypeId) : Prop where
 cur : Cur wr cb a len cap xs
 gr : w.grownBy wr (some cb)
 re : wr.heap[w.heap.size]? = some (.cells z t (0, 0))
 lt : cb < w.heap.size
 cd : xs = [] ∨ ∀ ad, a = some ad → ad.block < w.heap.size
section
variable {w wr w' : World} {cb : Nat} {a : Option Addr} {len cap : Nat} {xs : List UInt8} {z : Array Value} {t : TypeId}
theorem er_new (h : Cur w cb a len cap xs) (z : Array Value) (t : TypeId) : Er w (w.alloc (.cells z t)) cb a len cap xs z t := ⟨h.later (below_new w _), grownBy_below (below_new w _), heap_alloc_last w _, h.lt, h.code⟩
theorem Er.draw (h : Er w wr cb a len cap xs z t) (hc : Cur w' cb a len cap xs) (hg : wr.grownBy w' (some cb)) : Er w w' cb a len cap xs z t := ⟨hc, h.gr.trans hg, row_past h.re hg (by have := h.lt; omega), h.lt, h.cd⟩
theorem Er.store (h : Er w wr cb a len cap xs z t) (c : Array Value) : Er w (wr.setRow w.heap.size c) cb a len cap xs c t :=
 ⟨h.cur.past (grownBy_setRow c) h.lt h.cd (fun g e => by cases e; exact Nat.le_refl _), grownBy_own h.gr (grownBy_setRow c) (fun b e => by cases e; exact Nat.le_refl _), setRow_heap wr _ _ _ t _ h.re, h.lt, h.cd⟩
end
end
end Go.Proofs.YtjpbjbnialehbaaGreatDoor
