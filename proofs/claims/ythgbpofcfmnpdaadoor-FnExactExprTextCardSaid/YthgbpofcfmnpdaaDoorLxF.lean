/- What the program's Lex answers: from state to state; over this seat's translation; conditions stand as hypotheses of each. -/
import Derived.Test.YthgbpofcfmnpdaaDoorLxD
import Derived.Test.YthgbpofcfmnpdaaDoorLxE
import Derived.Test.YthgbpofcfmnpdaaDoorJmp
namespace Go.Proofs.YthgbpofcfmnpdaaDoor
open Go.ChangeShapes Go.WideShapes Go.ChangeAt Go.RowKit
set_option linter.unusedVariables false
set_option maxRecDepth 8000
set_option linter.unusedSimpArgs false

/-- The world while the program's Lex goes on: its box holds t, its list acc. -/
structure Lk (w wr : World) (t : Tk) (sa : Option Addr) (cap : Nat) (acc : List Tk) : Prop where
  bel : Below w.heap.size w wr
  box : wr.heap[w.heap.size]? = some (.cells t.cs 31 (0, 0))
  own : OwnT wr (w.heap.size + 1) (.slice sa acc.length cap) acc
  n8 : acc.length ≤ 800
section
variable {w wr w' : World} {t t' : Tk} {sa : Option Addr} {cap : Nat} {acc : List Tk}
theorem Lk.lt (h : Lk w wr t sa cap acc) : w.heap.size < wr.heap.size := (Array.getElem?_eq_some_iff.1 h.box).1
theorem Lk.later (h : Lk w wr t sa cap acc) (hb : Below wr.heap.size wr w') : Lk w w' t sa cap acc :=
  ⟨h.bel.trans (hb.mono (by have := h.lt; omega)), (hb.block _ h.lt).trans h.box, h.own.later hb, h.n8⟩
theorem Lk.put (h : Lk w wr t sa cap acc) (t' : Tk) : Lk w (wr.setRow w.heap.size t'.cs) t' sa cap acc :=
  ⟨below_row h.bel, setRow_heap _ _ _ _ _ _ h.box, h.own.keep fun g hg hl => setRow_other _ _ _ _ (fun e => by have := (h.own.lt hg).1; omega), h.n8⟩
theorem Lk.cells (h : Lk w wr t sa cap acc) : wr.cell? ⟨w.heap.size, 0, none⟩ = some (.int .i64 t.k) ∧ wr.cell? ⟨w.heap.size, 1, none⟩ = some (.int .i64 t.n) ∧ wr.cell? ⟨w.heap.size, 2, none⟩ = some (.string t.s) := tri_cells h.box
theorem Lk.frz (h : Lk w wr t sa cap acc) (j : Nat) : wr.frozen? ⟨w.heap.size, j, none⟩ = false := by simp [World.frozen?, h.box]
theorem Lk.set2 (h : Lk w wr t sa cap acc) : Lk w (wr.setCell ⟨w.heap.size, 2, none⟩ (.string t.s)) t sa cap acc := by
  refine ⟨h.bel.setCell (p := ⟨w.heap.size, 2, none⟩) (Nat.le_refl _) _, ?_, h.own.keep fun g hg hl => Below.heap_setCell _ _ _ _ (fun e => by have := (h.own.lt hg).1; have e' : g = w.heap.size := e; omega), h.n8⟩
  rw [heap_setCell_same wr w.heap.size 2 t.cs 31 (.string t.s) h.box]
  rfl
theorem Lk.app {w5 : World} {a5 : Option Addr} {c5 : Nat} {o : Obj} (h : Lk w wr t sa cap acc) (hg : (wr.alloc o).grownBy w5 (Value.slice sa acc.length cap).ownBlock) (ho : OwnT w5 (w.heap.size + 1) (.slice a5 (acc ++ [t]).length c5) (acc ++ [t])) (h8 : acc.length < 800) : Lk w w5 t a5 c5 (acc ++ [t]) := by
  have hl := h.lt
  refine ⟨(h.bel.alloc (by omega) o).grown hg (by simp; omega) (fun g e => by have := (h.own.lt e).1; omega), ?_, ho, by rw [List.length_append]; simp; omega⟩
  rw [hg.block _ (by simp; omega) (fun e => by have := (h.own.lt e.symm).1; omega), Below.heap_alloc wr o _ hl]
  exact h.box
end
set_option maxHeartbeats 1000000 in
theorem markI_any (x : ByteArray) (w : World) : Calls Tryd.prog 40 #[.string x] w fun e w' => e = .returned (Tk.v ⟨4, 0, x⟩) ∧ Below w.heap.size w w' := by
  have B0 := hide (below_new w (.cells T0c 31))
  have R0 := hide (heap_alloc_new w (.cells T0c 31))
  unfold T0c at B0 R0
  unfold Tk.v Tk.cs
  simp only
  go_enter Tryd.func40, Tryd.ntmps40
  go_wp2_with (first | (refine wpList_store_row rfl 31 _ _ rfl w.heap.size #[.int .i64 4, .int .i64 0, .string x] rfl rfl 31 _ (unhide R0) szK rfl (tk_one _ _ _) ?_))
  refine bodyPost_ret (results_cell_row (P := Tryd.prog) rfl _ _ w.heap.size 31 #[.int .i64 4, .int .i64 0, .string x] (0, 0) _ rfl (setRow_heap _ _ _ _ _ _ (unhide R0)) Tryd.underlying31 rfl szK) rfl ?_
  exact ⟨rfl, below_row (unhide B0)⟩
theorem lk_new (w : World) : Lk w (w.alloc (.cells (Tk.cs ⟨0, 0, ⟨#[]⟩⟩) 31)) ⟨0, 0, ⟨#[]⟩⟩ none 0 [] :=
  ⟨below_new w _, heap_alloc_new w _, ownT_none _ _, by simp⟩
/-- What is known at the token that begins at f. -/
structure Pend (s : ByteArray) (R : List Tk × Bool) (f : Nat) (acc : List Tk) : Prop where
  lt : f < s.size
  semi : bAt s.data.toList f ≠ 59
  bl : blB (bAt s.data.toList f) = false
  rest : lexR s f acc = R
/-- What holds at each label. -/
def St (s : ByteArray) (R : List Tk × Bool) (l k f : Nat) (acc : List Tk) (t : Tk) : Prop :=
  (l = 0 ∧ k ≤ s.size ∧ lexR s k acc = R) ∨
  (l = 1 ∧ Pend s R f acc ∧ f < k ∧ k ≤ s.size ∧ runN ldB s.data.toList k = oneE s f ∧ oneT badI s f = wordT (s.extract f (oneE s f))) ∨
  (l = 2 ∧ Pend s R f acc ∧ f < k ∧ k ≤ s.size ∧ runN dgB s.data.toList k = oneE s f ∧ oneT badI s f = numT badI (s.extract f (oneE s f))) ∨
  (l = 3 ∧ Pend s R f acc ∧ f < k ∧ k ≤ s.size ∧ runN ldB s.data.toList k = oneE s f ∧ oneT badI s f = ⟨3, 0, s.extract f (oneE s f)⟩) ∨
  (l = 4 ∧ Pend s R f acc ∧ f < k ∧ k ≤ s.size ∧ k = oneE s f ∧ t = oneT badI s f)
theorem St.at0 {s R k f acc t} (h : St s R 0 k f acc t) : k ≤ s.size ∧ lexR s k acc = R := by
  rcases h with ⟨_, h⟩ | ⟨h, _⟩ | ⟨h, _⟩ | ⟨h, _⟩ | ⟨h, _⟩
  · exact h
  all_goals omega
theorem St.at1 {s R k f acc t} (h : St s R 1 k f acc t) : Pend s R f acc ∧ f < k ∧ k ≤ s.size ∧ runN ldB s.data.toList k = oneE s f ∧ oneT badI s f = wordT (s.extract f (oneE s f)) := by
  rcases h with ⟨h, _⟩ | ⟨_, h⟩ | ⟨h, _⟩ | ⟨h, _⟩ | ⟨h, _⟩
  · omega
  · exact h
  all_goals omega
theorem St.at2 {s R k f acc t} (h : St s R 2 k f acc t) : Pend s R f acc ∧ f < k ∧ k ≤ s.size ∧ runN dgB s.data.toList k = oneE s f ∧ oneT badI s f = numT badI (s.extract f (oneE s f)) := by
  rcases h with ⟨h, _⟩ | ⟨h, _⟩ | ⟨_, h⟩ | ⟨h, _⟩ | ⟨h, _⟩
  · omega
  · omega
  · exact h
  all_goals omega
theorem St.at3 {s R k f acc t} (h : St s R 3 k f acc t) : Pend s R f acc ∧ f < k ∧ k ≤ s.size ∧ runN ldB s.data.toList k = oneE s f ∧ oneT badI s f = ⟨3, 0, s.extract f (oneE s f)⟩ := by
  rcases h with ⟨h, _⟩ | ⟨h, _⟩ | ⟨h, _⟩ | ⟨_, h⟩ | ⟨h, _⟩
  · omega
  · omega
  · omega
  · exact h
  · omega
theorem St.at4 {s R k f acc t} (h : St s R 4 k f acc t) : Pend s R f acc ∧ f < k ∧ k ≤ s.size ∧ k = oneE s f ∧ t = oneT badI s f := by
  rcases h with ⟨h, _⟩ | ⟨h, _⟩ | ⟨h, _⟩ | ⟨h, _⟩ | ⟨_, h⟩
  · omega
  · omega
  · omega
  · omega
  · exact h
theorem St.to0 {s R k f acc t} (h : k ≤ s.size) (h1 : lexR s k acc = R) : St s R 0 k f acc t := .inl ⟨rfl, h, h1⟩
theorem St.to1 {s R k f acc t} (h : Pend s R f acc ∧ f < k ∧ k ≤ s.size ∧ runN ldB s.data.toList k = oneE s f ∧ oneT badI s f = wordT (s.extract f (oneE s f))) : St s R 1 k f acc t := .inr (.inl ⟨rfl, h⟩)
theorem St.to2 {s R k f acc t} (h : Pend s R f acc ∧ f < k ∧ k ≤ s.size ∧ runN dgB s.data.toList k = oneE s f ∧ oneT badI s f = numT badI (s.extract f (oneE s f))) : St s R 2 k f acc t := .inr (.inr (.inl ⟨rfl, h⟩))
theorem St.to3 {s R k f acc t} (h : Pend s R f acc ∧ f < k ∧ k ≤ s.size ∧ runN ldB s.data.toList k = oneE s f ∧ oneT badI s f = ⟨3, 0, s.extract f (oneE s f)⟩) : St s R 3 k f acc t := .inr (.inr (.inr (.inl ⟨rfl, h⟩)))
theorem St.to4 {s R k f acc t} (h : Pend s R f acc ∧ f < k ∧ k ≤ s.size ∧ k = oneE s f ∧ t = oneT badI s f) : St s R 4 k f acc t := .inr (.inr (.inr (.inr ⟨rfl, h⟩)))
theorem St.low {s R l k f acc t} (h : St s R l k f acc t) (h4 : l ≠ 4) : l = 0 ∨ l = 1 ∨ l = 2 ∨ l = 3 := by
  rcases h with ⟨h, _⟩ | ⟨h, _⟩ | ⟨h, _⟩ | ⟨h, _⟩ | ⟨h, _⟩ <;> omega
/-- The frame at each label. -/
def fx (s : ByteArray) (w : World) (v4 v6 v7 : Value) (u : Nat → Value) : Act := { tmps := #[.string s, undef, .slice none 0 0, .bool false, v4, .pointer (some ⟨w.heap.size, 0, none⟩), v6, v7, u 8, u 9, u 10, u 11, u 12, u 13, u 14, u 15, u 16, u 17, u 18, u 19, u 20, u 21, u 22, u 23, u 24, u 25, u 26, u 27, u 28, u 29, u 30, u 31, u 32, u 33, u 34, u 35, u 36, u 37, u 38, u 39, u 40, u 41, u 42, u 43, u 44, u 45, u 46, u 47, u 48, u 49, u 50, u 51, u 52, u 53, u 54, u 55, u 56, u 57, u 58, u 59, u 60, u 61, u 62, u 63, u 64, u 65, u 66, u 67, u 68, u 69, u 70, u 71, u 72, u 73, u 74, u 75, u 76, u 77, u 78, u 79, u 80, u 81, u 82, u 83, u 84, u 85, u 86, u 87, u 88, u 89, u 90, u 91, u 92, u 93, u 94, u 95, u 96, u 97, u 98, u 99, u 100, u 101, u 102, u 103, u 104, u 105, u 106, u 107, u 108, u 109, u 110, u 111, u 112, u 113, u 114, u 115, u 116, u 117, u 118, u 119, u 120, u 121], defers := [] }
def Jx (s : ByteArray) (w : World) (R : List Tk × Bool) (l : Nat) (a' : Act) (w' : World) : Prop :=
  ∃ (u : Nat → Value) (k f : Nat) (t : Tk) (sa : Option Addr) (cap : Nat) (acc : List Tk), a' = fx s w (.slice sa acc.length cap) (.int .i64 f) (.int .i64 k) u ∧ Lk w w' t sa cap acc ∧ St s R l k f acc t
theorem jx_in {s : ByteArray} {w wr : World} {R : List Tk × Bool} {l : Nat} {v4 v6 v7 u8 u9 u10 u11 u12 u13 u14 u15 u16 u17 u18 u19 u20 u21 u22 u23 u24 u25 u26 u27 u28 u29 u30 u31 u32 u33 u34 u35 u36 u37 u38 u39 u40 u41 u42 u43 u44 u45 u46 u47 u48 u49 u50 u51 u52 u53 u54 u55 u56 u57 u58 u59 u60 u61 u62 u63 u64 u65 u66 u67 u68 u69 u70 u71 u72 u73 u74 u75 u76 u77 u78 u79 u80 u81 u82 u83 u84 u85 u86 u87 u88 u89 u90 u91 u92 u93 u94 u95 u96 u97 u98 u99 u100 u101 u102 u103 u104 u105 u106 u107 u108 u109 u110 u111 u112 u113 u114 u115 u116 u117 u118 u119 u120 u121 : Value} (k f : Nat) (t : Tk) (sa : Option Addr) (cap : Nat) (acc : List Tk) (h4 : v4 = .slice sa acc.length cap) (h6 : v6 = .int .i64 f) (h7 : v7 = .int .i64 k) (lk : Lk w wr t sa cap acc) (st : St s R l k f acc t) : Jx s w R l { tmps := #[.string s, undef, .slice none 0 0, .bool false, v4, .pointer (some ⟨w.heap.size, 0, none⟩), v6, v7, u8, u9, u10, u11, u12, u13, u14, u15, u16, u17, u18, u19, u20, u21, u22, u23, u24, u25, u26, u27, u28, u29, u30, u31, u32, u33, u34, u35, u36, u37, u38, u39, u40, u41, u42, u43, u44, u45, u46, u47, u48, u49, u50, u51, u52, u53, u54, u55, u56, u57, u58, u59, u60, u61, u62, u63, u64, u65, u66, u67, u68, u69, u70, u71, u72, u73, u74, u75, u76, u77, u78, u79, u80, u81, u82, u83, u84, u85, u86, u87, u88, u89, u90, u91, u92, u93, u94, u95, u96, u97, u98, u99, u100, u101, u102, u103, u104, u105, u106, u107, u108, u109, u110, u111, u112, u113, u114, u115, u116, u117, u118, u119, u120, u121], defers := [] } wr := by
  subst h4 h6 h7
  exact ⟨fun i => (#[u8, u9, u10, u11, u12, u13, u14, u15, u16, u17, u18, u19, u20, u21, u22, u23, u24, u25, u26, u27, u28, u29, u30, u31, u32, u33, u34, u35, u36, u37, u38, u39, u40, u41, u42, u43, u44, u45, u46, u47, u48, u49, u50, u51, u52, u53, u54, u55, u56, u57, u58, u59, u60, u61, u62, u63, u64, u65, u66, u67, u68, u69, u70, u71, u72, u73, u74, u75, u76, u77, u78, u79, u80, u81, u82, u83, u84, u85, u86, u87, u88, u89, u90, u91, u92, u93, u94, u95, u96, u97, u98, u99, u100, u101, u102, u103, u104, u105, u106, u107, u108, u109, u110, u111, u112, u113, u114, u115, u116, u117, u118, u119, u120, u121] : Array Value).getD (i - 8) undef, k, f, t, sa, cap, acc, rfl, lk, st⟩
theorem jx_out {s : ByteArray} {w : World} {R : List Tk × Bool} {l : Nat} {X : Act → World → Prop} (h : ∀ (u : Nat → Value) (k f : Nat) (t : Tk) (sa : Option Addr) (cap : Nat) (acc : List Tk) (wr : World), Lk w wr t sa cap acc → St s R l k f acc t → X (fx s w (.slice sa acc.length cap) (.int .i64 f) (.int .i64 k) u) wr) : ∀ a' wr, Jx s w R l a' wr → X a' wr := by
  rintro a' wr ⟨u, k, f, t, sa, cap, acc, rfl, lk, st⟩
  exact h u k f t sa cap acc wr lk st
def rk (l : Nat) : Nat := if l = 0 then 0 else if l = 4 then 1 else 2
def Mx (s : ByteArray) (l : Nat) (a : Act) (w : World) : Nat := 5 * (s.size - (intOf (a.tmps.getD 7 undef)).toNat) + rk l
set_option maxHeartbeats 8000000 in
theorem lexI_any (s : ByteArray) (w : World) (hz : s.size ≤ 1048576) (he : Env w) : Calls Tryd.prog 11 #[.string s] w fun e w' => ∃ v, e = .returned (.tuple #[v, .bool (lexR s 0 []).2]) ∧ OwnT w' w.heap.size v (lexR s 0 []).1 ∧ Below w.heap.size w w' := by
  obtain ⟨i0, hi, hz0, hz1, hz2⟩ := info_parts infoT
  obtain ⟨R, hR⟩ : ∃ R, lexR s 0 [] = R := ⟨_, rfl⟩
  have HR := hide hR
  rw [hR]
  clear hR
  have hl := size_len s
  have EV := hide (fun wr (h : Below w.heap.size w wr) => he.later h)
  clear he
  have L0 := hide (lk_new w)
  unfold Tk.cs at L0
  go_enter Tryd.func11, Tryd.ntmps11
  go_wp2
  refine wp_scope_many 4 (Jx s w R) (Mx s) ?z ?p ?f
  case f =>
    intro fall
    go_wp2
    go_step3
    rename_i K hK
    refine hK _ _ (fall 0 _ _ _ rfl ?_)
    exact jx_in 0 0 _ none 0 [] rfl rfl rfl (unhide L0) (St.to0 (Nat.zero_le _) (unhide HR))
  case z =>
    clear L0 HR
    refine jx_out ?_
    intro u k f t sa cap acc wr lk st
    unfold fx
    obtain ⟨pd, hfk, hks, rfl, rfl⟩ := st.at4
    refine ⟨_, rfl, ?_⟩
    have LK := hide lk
    have SAME := hide (oneT_same badI badS badI_ok badS_ok s f)
    have EB := hide (fun h => (lexR_bad pd.lt pd.semi pd.bl h).symm.trans pd.rest)
    have EN := hide (fun h3 h4 => (lexR_next pd.lt pd.semi pd.bl h3 h4).symm.trans pd.rest)
    have XS := hide (show (oneT badI s f).s.size ≤ 1099511627776 by
      unfold oneT
      have hx := extract_size s f (oneE s f)
      split
      · unfold wordT; split <;> (show (s.extract f (oneE s f)).size ≤ _; omega)
      · split
        · unfold numT
          split
          · show (0 : Nat) ≤ _; omega
          · show (0 : Nat) ≤ _; omega
        · split <;> (show (s.extract f (oneE s f)).size ≤ _; omega))
    have TV := hide (tokI_any (oneT badI s f) wr (unhide XS) (unhide EV wr lk.bel).tab)
    have CL := hide (fun W => cloneI_any (oneT badI s f).s W (unhide XS))
    have h8 := lk.n8
    rw [← (unhide SAME).1] at EB EN
    have TE := hide (unhide SAME).2
    rw [← (unhide SAME).1] at TE
    generalize oneE s f = k at *
    generalize oneT badS s f = TS at *
    generalize oneT badI s f = T at *
    generalize T.ok = q at *
    have CE := hide lk.cells
    obtain ⟨tk, tn, tx⟩ := T
    unfold Tk.v Tk.cs at TV
    simp only at TV CE CL
    obtain ⟨c0, c1, c2⟩ := unhide CE
    clear lk st pd XS SAME CE
    go_wp2_with fail
    refine (unhide TV).mono ?_
    rintro e w1 ⟨rfl, hb1⟩
    have LK1 := hide ((unhide LK).later hb1)
    have hs1 := (unhide LK1).lt
    clear hb1 LK TV c0 c1 c2
    cases q
    · have E1 := hide (unhide EB (.inl rfl))
      have B1 := hide (unhide LK1).bel
      clear EB EN TE CL
      go_wp2
      simp only [jumps]
      go_ret2
      exact ⟨_, by rw [← unhide E1]; rfl, by rw [← unhide E1]; exact ownT_none _ _, unhide B1⟩
    · by_cases h800 : acc.length = 800
      · have E1 := hide (unhide EB (.inr h800))
        have B1 := hide (unhide LK1).bel
        have h8e : ((acc.length : Int) == 800) = true := by simp [h800]
        clear EB EN TE CL h800
        go_wp2
        simp only [jumps]
        go_ret2
        exact ⟨_, by rw [← unhide E1]; rfl, by rw [← unhide E1]; exact ownT_none _ _, unhide B1⟩
      · have E1 := hide (unhide EN rfl h800)
        rw [← unhide TE rfl] at E1
        have h8e : ((acc.length : Int) == 800) = false := beq_eq_false_iff_ne.2 (by omega)
        have h8l : acc.length < 800 := by omega
        obtain ⟨c0, c1, c2⟩ := (unhide LK1).cells
        simp only at c0 c1 c2
        clear EB EN TE
        go_wp2_with fail
        refine (unhide CL _).mono ?_
        rintro e w2 ⟨rfl, hb2⟩
        have LK2 := hide ((unhide LK1).later hb2)
        clear c0 c1 c2
        obtain ⟨c0, c1, c2⟩ := (unhide LK2).cells
        simp only at c0 c1 c2
        have f2 := (unhide LK2).frz 2
        have LK3 := hide (unhide LK2).set2
        have hs3 := (unhide LK3).lt
        have OW3 := hide (unhide LK3).own
        have K1 := hide (cell_new (w2.setCell ⟨w.heap.size, 2, none⟩ (.string tx)) #[.int .i64 tk, .int .i64 tn, .string tx] 31)
        rw [show (w2.setCell ⟨w.heap.size, 2, none⟩ (.string tx)).heap.size = w2.heap.size by simp] at K1
        simp only at LK3 OW3 hs3
        clear hb2 LK1 LK2 CL
        go_wp2_with (at_builtin; go_must (refine wpList_append_own _ rfl (.tmp 118) (.tmp 120) 24 rfl (w.heap.size + 1) 31 i0 (.agg #[.int .i64 0, .int .i64 0, .string ⟨#[]⟩]) 3 32 Tryd.underlying24 hi hz0 hz1 hz2 rfl (by decide) (.slice sa acc.length cap) acc.length (cellsT acc) rfl (World.ownsRow.alloc (unhide OW3) _) ⟨w2.heap.size, 0, none⟩ 1 1 [.int .i64 tk, .int .i64 tn, .string tx] rfl rfl (unhide K1) (newT_one _ _ _) (by unfold maxLen; omega) (by omega) (by simp at hs3 ⊢; omega) ?_; intro v5 w5 hown5 hgrow5 _; have OW5 := hide (ownT_app (t := ⟨tk, tn, tx⟩) hown5); obtain ⟨a5, c5, hv5, _⟩ := (unhide OW5).rd; subst hv5; have LK5 := hide ((unhide LK3).app hgrow5 (unhide OW5) h8l); clear hown5 hgrow5))
        go_step3
        refine ⟨jx_in (k) (f) (⟨tk, tn, tx⟩) a5 c5 (acc ++ [Tk.mk tk tn tx]) (by first | rfl | (rw [List.length_append]; rfl)) (by first | rfl | go_num) (by first | rfl | go_num) (unhide LK5) (St.to0 hks (unhide E1)), ?_⟩
        (simp [Mx, rk, intOf, Act.put]) <;> omega
  case p =>
    clear L0 HR
    intro fall l a' wr hl4 hJ
    have FALL := hide fall
    clear fall
    have hl0 : l = 0 ∨ l = 1 ∨ l = 2 ∨ l = 3 := by
      obtain ⟨_, _, _, _, _, _, _, _, _, st⟩ := hJ
      exact st.low hl4
    clear hl4
    rcases hl0 with rfl | rfl | rfl | rfl <;> revert a' wr
    · refine jx_out ?_
      intro u k f t sa cap acc wr lk st
      unfold fx
      obtain ⟨hk, hr⟩ := st.at0
      refine ⟨_, rfl, ?_⟩
      have LK := hide lk
      have BX := hide lk.box
      clear lk st
      by_cases hlt : k < s.size
      · have he := sAt s k hlt
        have hbd := bAt_bd s.data.toList k
        have hkne : ((k : Int) == (s.size : Int)) = false := beq_eq_false_iff_ne.2 (by omega)
        by_cases h59 : bAt s.data.toList k = 59
        · have E := hide ((lexR_semi hlt h59).symm.trans hr)
          rw [h59] at he
          clear hr h59 hbd
          go_wp2
          simp only [jumps]
          go_ret2
          exact ⟨_, by rw [← unhide E]; rfl, by rw [← unhide E]; exact (unhide LK).own.base (by omega), (unhide LK).bel⟩
        · cases hbl : blB (bAt s.data.toList k)
          · have PD := hide (Pend.mk hlt h59 hbl hr)
            have h59b : (bAt s.data.toList k == 59) = false := beq_eq_false_iff_ne.2 h59
            clear hr
            cases h1 : smB (bAt s.data.toList k)
            · cases h2 : dgB (bAt s.data.toList k)
              · by_cases h46 : bAt s.data.toList k = 46
                · by_cases hk1 : k + 1 < s.size
                  · have he1 := sAt s (k + 1) hk1
                    have hbd1 := bAt_bd s.data.toList (k + 1)
                    cases h3 : smB (bAt s.data.toList (k + 1))
                    · obtain ⟨e1, e2⟩ := one_mk badI h1 h2 (fun _ _ => h3)
                      have S4 := hide (St.to4 (t := ⟨4, 0, s.extract k (k + 1)⟩) ⟨unhide PD, by omega, by omega, e1.symm, e2.symm⟩)
                      have MK := hide (fun W => markI_any (s.extract k (k + 1)) W)
                      unfold Tk.v Tk.cs at MK
                      simp only at MK
                      clear e1 e2
                      rw [h46] at he h1 h2 h59b hbl
                      generalize bAt s.data.toList (k + 1) = c1 at *
                      clear h46 hbd h59
                      go_wp2_with (first | (go_at_call 37; refine (blank_any _ _).mono ?_; rintro e w' ⟨rfl, hw'⟩; rw [hw']; clear hw' w') | (go_at_call 38; refine (smI_any _ _).mono ?_; rintro e w' ⟨rfl, hw'⟩; rw [hw']; clear hw' w') | (go_at_call 39; refine (dgI_any _ _).mono ?_; rintro e w' ⟨rfl, hw'⟩; rw [hw']; clear hw' w'))
                      refine (unhide MK _).mono ?_
                      rintro e w1 ⟨rfl, hb1⟩
                      have LK1 := hide ((unhide LK).later hb1)
                      have BX1 := hide (unhide LK1).box
                      have LK4 := hide ((unhide LK1).put ⟨4, 0, s.extract k (k + 1)⟩)
                      clear hb1 LK1 MK
                      go_wp2_with (first | (refine wpList_store_row rfl 31 _ _ rfl w.heap.size #[.int .i64 4, .int .i64 0, .string (s.extract k (k + 1))] rfl rfl 31 _ (unhide BX1) szK rfl (tk_one _ _ _) ?_))
                      go_step3
                      refine ⟨jx_in (k + 1) (k) (⟨4, 0, s.extract k (k + 1)⟩) sa cap (acc) (by first | rfl | (rw [List.length_append]; rfl)) (by first | rfl | go_num) (by first | rfl | go_num) (unhide LK4) (unhide S4), ?_⟩
                      (simp [Mx, rk, intOf, Act.put]) <;> omega
                    · obtain ⟨e1, e2⟩ := one_dot badI h1 h2 h46 hk1 h3
                      have S3 := hide (St.to3 (t := t) ⟨unhide PD, by omega, by omega, e1.symm, e2⟩)
                      rw [h46] at he h1 h2 h59b hbl
                      generalize bAt s.data.toList (k + 1) = c1 at *
                      clear h46 hbd h59 e1 e2
                      go_wp2_with (first | (go_at_call 37; refine (blank_any _ _).mono ?_; rintro e w' ⟨rfl, hw'⟩; rw [hw']; clear hw' w') | (go_at_call 38; refine (smI_any _ _).mono ?_; rintro e w' ⟨rfl, hw'⟩; rw [hw']; clear hw' w') | (go_at_call 39; refine (dgI_any _ _).mono ?_; rintro e w' ⟨rfl, hw'⟩; rw [hw']; clear hw' w'))
                      go_step3
                      refine ⟨jx_in (k + 1) (k) (t) sa cap (acc) (by first | rfl | (rw [List.length_append]; rfl)) (by first | rfl | go_num) (by first | rfl | go_num) (unhide LK) (unhide S3), ?_⟩
                      (simp [Mx, rk, intOf, Act.put]) <;> omega
                  · have hk1d : decide ((k : Int) + 1 < (s.size : Int)) = false := by simp; omega
                    obtain ⟨e1, e2⟩ := one_mk badI h1 h2 (fun _ h => absurd h hk1)
                    have S4 := hide (St.to4 (t := ⟨4, 0, s.extract k (k + 1)⟩) ⟨unhide PD, by omega, by omega, e1.symm, e2.symm⟩)
                    have MK := hide (fun W => markI_any (s.extract k (k + 1)) W)
                    unfold Tk.v Tk.cs at MK
                    simp only at MK
                    clear e1 e2
                    rw [h46] at he h1 h2 h59b hbl
                    clear h46 hbd h59
                    go_wp2_with (first | (go_at_call 37; refine (blank_any _ _).mono ?_; rintro e w' ⟨rfl, hw'⟩; rw [hw']; clear hw' w') | (go_at_call 38; refine (smI_any _ _).mono ?_; rintro e w' ⟨rfl, hw'⟩; rw [hw']; clear hw' w') | (go_at_call 39; refine (dgI_any _ _).mono ?_; rintro e w' ⟨rfl, hw'⟩; rw [hw']; clear hw' w'))
                    refine (unhide MK _).mono ?_
                    rintro e w1 ⟨rfl, hb1⟩
                    have LK1 := hide ((unhide LK).later hb1)
                    have BX1 := hide (unhide LK1).box
                    have LK4 := hide ((unhide LK1).put ⟨4, 0, s.extract k (k + 1)⟩)
                    clear hb1 LK1 MK
                    go_wp2_with (first | (refine wpList_store_row rfl 31 _ _ rfl w.heap.size #[.int .i64 4, .int .i64 0, .string (s.extract k (k + 1))] rfl rfl 31 _ (unhide BX1) szK rfl (tk_one _ _ _) ?_))
                    go_step3
                    refine ⟨jx_in (k + 1) (k) (⟨4, 0, s.extract k (k + 1)⟩) sa cap (acc) (by first | rfl | (rw [List.length_append]; rfl)) (by first | rfl | go_num) (by first | rfl | go_num) (unhide LK4) (unhide S4), ?_⟩
                    (simp [Mx, rk, intOf, Act.put]) <;> omega
                · have h46b : (bAt s.data.toList k == 46) = false := beq_eq_false_iff_ne.2 h46
                  obtain ⟨e1, e2⟩ := one_mk badI h1 h2 (fun h => absurd h h46)
                  have S4 := hide (St.to4 (t := ⟨4, 0, s.extract k (k + 1)⟩) ⟨unhide PD, by omega, by omega, e1.symm, e2.symm⟩)
                  have MK := hide (fun W => markI_any (s.extract k (k + 1)) W)
                  unfold Tk.v Tk.cs at MK
                  simp only at MK
                  clear e1 e2
                  generalize bAt s.data.toList k = c at *
                  clear h59 h46
                  go_wp2_with (first | (go_at_call 37; refine (blank_any _ _).mono ?_; rintro e w' ⟨rfl, hw'⟩; rw [hw']; clear hw' w') | (go_at_call 38; refine (smI_any _ _).mono ?_; rintro e w' ⟨rfl, hw'⟩; rw [hw']; clear hw' w') | (go_at_call 39; refine (dgI_any _ _).mono ?_; rintro e w' ⟨rfl, hw'⟩; rw [hw']; clear hw' w'))
                  refine (unhide MK _).mono ?_
                  rintro e w1 ⟨rfl, hb1⟩
                  have LK1 := hide ((unhide LK).later hb1)
                  have BX1 := hide (unhide LK1).box
                  have LK4 := hide ((unhide LK1).put ⟨4, 0, s.extract k (k + 1)⟩)
                  clear hb1 LK1 MK
                  go_wp2_with (first | (refine wpList_store_row rfl 31 _ _ rfl w.heap.size #[.int .i64 4, .int .i64 0, .string (s.extract k (k + 1))] rfl rfl 31 _ (unhide BX1) szK rfl (tk_one _ _ _) ?_))
                  go_step3
                  refine ⟨jx_in (k + 1) (k) (⟨4, 0, s.extract k (k + 1)⟩) sa cap (acc) (by first | rfl | (rw [List.length_append]; rfl)) (by first | rfl | go_num) (by first | rfl | go_num) (unhide LK4) (unhide S4), ?_⟩
                  (simp [Mx, rk, intOf, Act.put]) <;> omega
              · obtain ⟨e1, e2⟩ := one_dg badI h1 h2
                have S2 := hide (St.to2 (t := t) ⟨unhide PD, by omega, by omega, (runN_yes (by omega) h2).symm.trans e1.symm, e2⟩)
                generalize bAt s.data.toList k = c at *
                clear h59 e1 e2
                go_wp2_with (first | (go_at_call 37; refine (blank_any _ _).mono ?_; rintro e w' ⟨rfl, hw'⟩; rw [hw']; clear hw' w') | (go_at_call 38; refine (smI_any _ _).mono ?_; rintro e w' ⟨rfl, hw'⟩; rw [hw']; clear hw' w') | (go_at_call 39; refine (dgI_any _ _).mono ?_; rintro e w' ⟨rfl, hw'⟩; rw [hw']; clear hw' w'))
                go_step3
                refine ⟨jx_in (k + 1) (k) (t) sa cap (acc) (by first | rfl | (rw [List.length_append]; rfl)) (by first | rfl | go_num) (by first | rfl | go_num) (unhide LK) (unhide S2), ?_⟩
                (simp [Mx, rk, intOf, Act.put]) <;> omega
            · obtain ⟨e1, e2⟩ := one_sm badI h1
              have S1 := hide (St.to1 (t := t) ⟨unhide PD, by omega, by omega, (runN_yes (by omega) (ld_of_sm h1)).symm.trans e1.symm, e2⟩)
              generalize bAt s.data.toList k = c at *
              clear h59 e1 e2
              go_wp2_with (first | (go_at_call 37; refine (blank_any _ _).mono ?_; rintro e w' ⟨rfl, hw'⟩; rw [hw']; clear hw' w') | (go_at_call 38; refine (smI_any _ _).mono ?_; rintro e w' ⟨rfl, hw'⟩; rw [hw']; clear hw' w') | (go_at_call 39; refine (dgI_any _ _).mono ?_; rintro e w' ⟨rfl, hw'⟩; rw [hw']; clear hw' w'))
              go_step3
              refine ⟨jx_in (k + 1) (k) (t) sa cap (acc) (by first | rfl | (rw [List.length_append]; rfl)) (by first | rfl | go_num) (by first | rfl | go_num) (unhide LK) (unhide S1), ?_⟩
              (simp [Mx, rk, intOf, Act.put]) <;> omega
          · have S0 := hide (St.to0 (f := k) (t := t) (show k + 1 ≤ s.size by omega) ((lexR_blank hlt h59 hbl).symm.trans hr))
            have h59b : (bAt s.data.toList k == 59) = false := beq_eq_false_iff_ne.2 h59
            generalize bAt s.data.toList k = c at *
            clear hr h59
            go_wp2_with (first | (go_at_call 37; refine (blank_any _ _).mono ?_; rintro e w' ⟨rfl, hw'⟩; rw [hw']; clear hw' w') | (go_at_call 38; refine (smI_any _ _).mono ?_; rintro e w' ⟨rfl, hw'⟩; rw [hw']; clear hw' w') | (go_at_call 39; refine (dgI_any _ _).mono ?_; rintro e w' ⟨rfl, hw'⟩; rw [hw']; clear hw' w'))
            go_step3
            refine ⟨jx_in (k + 1) (k) (t) sa cap (acc) (by first | rfl | (rw [List.length_append]; rfl)) (by first | rfl | go_num) (by first | rfl | go_num) (unhide LK) (unhide S0), ?_⟩
            (simp [Mx, rk, intOf, Act.put]) <;> omega
      · have E := hide ((lexR_end hlt).symm.trans hr)
        obtain rfl : k = s.size := by omega
        clear hr hlt
        go_wp2
        simp only [jumps]
        go_ret2
        exact ⟨_, by rw [← unhide E]; rfl, by rw [← unhide E]; exact (unhide LK).own.base (by omega), (unhide LK).bel⟩
    · refine jx_out ?_
      intro u k f t sa cap acc wr lk st
      unfold fx
      obtain ⟨pd, hfk, hks, hrun, hT⟩ := st.at1
      refine ⟨_, rfl, ?_⟩
      have LK := hide lk
      clear lk st
      by_cases hlt : k < s.size
      · have he := sAt s k hlt
        have hbd := bAt_bd s.data.toList k
        cases hq : ldB (bAt s.data.toList k)
        · have hke : k = oneE s f := (runN_no (by omega) hq).symm.trans hrun
          generalize bAt s.data.toList k = c at *
          have S4 := hide (fun T (hT : T = oneT badI s f) => St.to4 (t := T) ⟨pd, hfk, hks, hke, hT⟩)
          rw [← hke] at hT
          have WO := hide (wordI_any (s.extract f k) wr (unhide EV wr (unhide LK).bel).tab)
          rw [← hT] at WO
          generalize oneT badI s f = T at *
          have S5 := hide (unhide S4 T rfl)
          obtain ⟨tk, tn, tx⟩ := T
          unfold Tk.v Tk.cs at WO
          simp only at WO
          clear S4 hT hke pd hrun
          go_wp2_with (first | (go_at_call 41; refine (ldI_any _ _).mono ?_; rintro e w' ⟨rfl, hw'⟩; rw [hw']; clear hw' w'))
          refine (unhide WO).mono ?_
          rintro e w1 ⟨rfl, hb1⟩
          have LK1 := hide ((unhide LK).later hb1)
          have BX1 := hide (unhide LK1).box
          have LK4 := hide ((unhide LK1).put ⟨tk, tn, tx⟩)
          clear hb1 LK1 WO
          go_wp2_with (first | (refine wpList_store_row rfl 31 _ _ rfl w.heap.size #[.int .i64 tk, .int .i64 tn, .string tx] rfl rfl 31 _ (unhide BX1) szK rfl (tk_one _ _ _) ?_))
          go_step3
          refine ⟨jx_in (k) (f) (⟨tk, tn, tx⟩) sa cap (acc) (by first | rfl | (rw [List.length_append]; rfl)) (by first | rfl | go_num) (by first | rfl | go_num) (unhide LK4) (unhide S5), ?_⟩
          (simp [Mx, rk, intOf, Act.put]) <;> omega
        · have SS := hide (St.to1 (t := t) ⟨pd, show f < k + 1 by omega, by omega, (runN_yes (by omega) hq).symm.trans hrun, hT⟩)
          generalize bAt s.data.toList k = c at *
          clear pd hrun hT
          go_wp2_with (first | (go_at_call 41; refine (ldI_any _ _).mono ?_; rintro e w' ⟨rfl, hw'⟩; rw [hw']; clear hw' w'))
          go_step3
          refine ⟨jx_in (k + 1) (f) (t) sa cap (acc) (by first | rfl | (rw [List.length_append]; rfl)) (by first | rfl | go_num) (by first | rfl | go_num) (unhide LK) (unhide SS), ?_⟩
          (simp [Mx, rk, intOf, Act.put]) <;> omega
      · have hke : k = oneE s f := (runN_end (by omega)).symm.trans hrun
        have S4 := hide (fun T (hT : T = oneT badI s f) => St.to4 (t := T) ⟨pd, hfk, hks, hke, hT⟩)
        rw [← hke] at hT
        have WO := hide (wordI_any (s.extract f k) wr (unhide EV wr (unhide LK).bel).tab)
        rw [← hT] at WO
        generalize oneT badI s f = T at *
        have S5 := hide (unhide S4 T rfl)
        obtain ⟨tk, tn, tx⟩ := T
        unfold Tk.v Tk.cs at WO
        simp only at WO
        clear S4 hT hke pd hrun
        go_wp2_with fail
        refine (unhide WO).mono ?_
        rintro e w1 ⟨rfl, hb1⟩
        have LK1 := hide ((unhide LK).later hb1)
        have BX1 := hide (unhide LK1).box
        have LK4 := hide ((unhide LK1).put ⟨tk, tn, tx⟩)
        clear hb1 LK1 WO
        go_wp2_with (first | (refine wpList_store_row rfl 31 _ _ rfl w.heap.size #[.int .i64 tk, .int .i64 tn, .string tx] rfl rfl 31 _ (unhide BX1) szK rfl (tk_one _ _ _) ?_))
        go_step3
        refine ⟨jx_in (k) (f) (⟨tk, tn, tx⟩) sa cap (acc) (by first | rfl | (rw [List.length_append]; rfl)) (by first | rfl | go_num) (by first | rfl | go_num) (unhide LK4) (unhide S5), ?_⟩
        (simp [Mx, rk, intOf, Act.put]) <;> omega
    · refine jx_out ?_
      intro u k f t sa cap acc wr lk st
      unfold fx
      obtain ⟨pd, hfk, hks, hrun, hT⟩ := st.at2
      refine ⟨_, rfl, ?_⟩
      have LK := hide lk
      clear lk st
      by_cases hlt : k < s.size
      · have he := sAt s k hlt
        have hbd := bAt_bd s.data.toList k
        cases hq : dgB (bAt s.data.toList k)
        · have hke : k = oneE s f := (runN_no (by omega) hq).symm.trans hrun
          generalize bAt s.data.toList k = c at *
          have S4 := hide (fun T (hT : T = oneT badI s f) => St.to4 (t := T) ⟨pd, hfk, hks, hke, hT⟩)
          rw [← hke] at hT
          have WO := hide (numI_any (s.extract f k) wr (by have := extract_size s f k; omega) (unhide EV wr (unhide LK).bel))
          rw [← hT] at WO
          generalize oneT badI s f = T at *
          have S5 := hide (unhide S4 T rfl)
          obtain ⟨tk, tn, tx⟩ := T
          unfold Tk.v Tk.cs at WO
          simp only at WO
          clear S4 hT hke pd hrun
          go_wp2_with (first | (go_at_call 39; refine (dgI_any _ _).mono ?_; rintro e w' ⟨rfl, hw'⟩; rw [hw']; clear hw' w'))
          refine (unhide WO).mono ?_
          rintro e w1 ⟨rfl, hb1⟩
          have LK1 := hide ((unhide LK).later hb1)
          have BX1 := hide (unhide LK1).box
          have LK4 := hide ((unhide LK1).put ⟨tk, tn, tx⟩)
          clear hb1 LK1 WO
          go_wp2_with (first | (refine wpList_store_row rfl 31 _ _ rfl w.heap.size #[.int .i64 tk, .int .i64 tn, .string tx] rfl rfl 31 _ (unhide BX1) szK rfl (tk_one _ _ _) ?_))
          go_step3
          refine ⟨jx_in (k) (f) (⟨tk, tn, tx⟩) sa cap (acc) (by first | rfl | (rw [List.length_append]; rfl)) (by first | rfl | go_num) (by first | rfl | go_num) (unhide LK4) (unhide S5), ?_⟩
          (simp [Mx, rk, intOf, Act.put]) <;> omega
        · have SS := hide (St.to2 (t := t) ⟨pd, show f < k + 1 by omega, by omega, (runN_yes (by omega) hq).symm.trans hrun, hT⟩)
          generalize bAt s.data.toList k = c at *
          clear pd hrun hT
          go_wp2_with (first | (go_at_call 39; refine (dgI_any _ _).mono ?_; rintro e w' ⟨rfl, hw'⟩; rw [hw']; clear hw' w'))
          go_step3
          refine ⟨jx_in (k + 1) (f) (t) sa cap (acc) (by first | rfl | (rw [List.length_append]; rfl)) (by first | rfl | go_num) (by first | rfl | go_num) (unhide LK) (unhide SS), ?_⟩
          (simp [Mx, rk, intOf, Act.put]) <;> omega
      · have hke : k = oneE s f := (runN_end (by omega)).symm.trans hrun
        have S4 := hide (fun T (hT : T = oneT badI s f) => St.to4 (t := T) ⟨pd, hfk, hks, hke, hT⟩)
        rw [← hke] at hT
        have WO := hide (numI_any (s.extract f k) wr (by have := extract_size s f k; omega) (unhide EV wr (unhide LK).bel))
        rw [← hT] at WO
        generalize oneT badI s f = T at *
        have S5 := hide (unhide S4 T rfl)
        obtain ⟨tk, tn, tx⟩ := T
        unfold Tk.v Tk.cs at WO
        simp only at WO
        clear S4 hT hke pd hrun
        go_wp2_with fail
        refine (unhide WO).mono ?_
        rintro e w1 ⟨rfl, hb1⟩
        have LK1 := hide ((unhide LK).later hb1)
        have BX1 := hide (unhide LK1).box
        have LK4 := hide ((unhide LK1).put ⟨tk, tn, tx⟩)
        clear hb1 LK1 WO
        go_wp2_with (first | (refine wpList_store_row rfl 31 _ _ rfl w.heap.size #[.int .i64 tk, .int .i64 tn, .string tx] rfl rfl 31 _ (unhide BX1) szK rfl (tk_one _ _ _) ?_))
        go_step3
        refine ⟨jx_in (k) (f) (⟨tk, tn, tx⟩) sa cap (acc) (by first | rfl | (rw [List.length_append]; rfl)) (by first | rfl | go_num) (by first | rfl | go_num) (unhide LK4) (unhide S5), ?_⟩
        (simp [Mx, rk, intOf, Act.put]) <;> omega
    · refine jx_out ?_
      intro u k f t sa cap acc wr lk st
      unfold fx
      obtain ⟨pd, hfk, hks, hrun, hT⟩ := st.at3
      refine ⟨_, rfl, ?_⟩
      have LK := hide lk
      have BX := hide lk.box
      clear lk st
      by_cases hlt : k < s.size
      · have he := sAt s k hlt
        have hbd := bAt_bd s.data.toList k
        cases hq : ldB (bAt s.data.toList k)
        · have hke : k = oneE s f := (runN_no (by omega) hq).symm.trans hrun
          generalize bAt s.data.toList k = c at *
          rw [← hke] at hT
          have S5 := hide (St.to4 (t := ⟨3, 0, s.extract f k⟩) ⟨pd, hfk, hks, hke, hT.symm⟩)
          have LK4 := hide ((unhide LK).put ⟨3, 0, s.extract f k⟩)
          clear hT hke pd hrun
          go_wp2_with (first | (go_at_call 41; refine (ldI_any _ _).mono ?_; rintro e w' ⟨rfl, hw'⟩; rw [hw']; clear hw' w') | (refine wpList_store_row rfl 31 _ _ rfl w.heap.size #[.int .i64 3, .int .i64 0, .string (s.extract f k)] rfl rfl 31 _ (unhide BX) szK rfl (tk_one _ _ _) ?_))
          go_step3
          rename_i K hK
          refine hK _ _ (unhide FALL _ _ _ _ rfl (jx_in k f ⟨3, 0, s.extract f k⟩ sa cap acc rfl rfl rfl (unhide LK4) (unhide S5)) ?_)
          (simp [Mx, rk, intOf, Act.put]) <;> omega
        · have SS := hide (St.to3 (t := t) ⟨pd, show f < k + 1 by omega, by omega, (runN_yes (by omega) hq).symm.trans hrun, hT⟩)
          generalize bAt s.data.toList k = c at *
          clear pd hrun hT
          go_wp2_with (first | (go_at_call 41; refine (ldI_any _ _).mono ?_; rintro e w' ⟨rfl, hw'⟩; rw [hw']; clear hw' w'))
          go_step3
          refine ⟨jx_in (k + 1) (f) (t) sa cap (acc) (by first | rfl | (rw [List.length_append]; rfl)) (by first | rfl | go_num) (by first | rfl | go_num) (unhide LK) (unhide SS), ?_⟩
          (simp [Mx, rk, intOf, Act.put]) <;> omega
      · have hke : k = oneE s f := (runN_end (by omega)).symm.trans hrun
        rw [← hke] at hT
        have S5 := hide (St.to4 (t := ⟨3, 0, s.extract f k⟩) ⟨pd, hfk, hks, hke, hT.symm⟩)
        have LK4 := hide ((unhide LK).put ⟨3, 0, s.extract f k⟩)
        clear hT hke pd hrun
        go_wp2_with (first | (refine wpList_store_row rfl 31 _ _ rfl w.heap.size #[.int .i64 3, .int .i64 0, .string (s.extract f k)] rfl rfl 31 _ (unhide BX) szK rfl (tk_one _ _ _) ?_))
        go_step3
        rename_i K hK
        refine hK _ _ (unhide FALL _ _ _ _ rfl (jx_in k f ⟨3, 0, s.extract f k⟩ sa cap acc rfl rfl rfl (unhide LK4) (unhide S5)) ?_)
        (simp [Mx, rk, intOf, Act.put]) <;> omega
end Go.Proofs.YthgbpofcfmnpdaaDoor
