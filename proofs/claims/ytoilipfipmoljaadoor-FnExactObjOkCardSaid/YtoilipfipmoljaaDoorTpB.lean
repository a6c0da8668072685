/- Contracts over this seat's translation, laid together; conditions stand as hypotheses of each. -/
import Derived.Test.YtoilipfipmoljaaDoorTpA
import Derived.OrdersHeld
import Derived.Laws.StructEq
import Derived.Laws.AppendOwn
import Derived.Laws.BitsAllLaws
namespace Go.Proofs.YtoilipfipmoljaaDoor
open Go.ChangeShapes Go.WideShapes Go.ChangeAt Go.RowKit
set_option maxHeartbeats 16000000
set_option linter.unusedVariables false
set_option linter.unusedSimpArgs false
theorem ok_sev {d : Nat} {e : Ex} (h : okF (d + 1) false e = true) : (∃ n : Int, (0 ≤ n ∧ n ≤ 65535) ∧ e = ⟨1, n, E0, []⟩) ∨ (∃ s, nameB s = true ∧ e = ⟨2, 0, s, []⟩) ∨ e = ⟨3, 0, E0, []⟩ ∨ (∃ n : Int, (0 ≤ n ∧ n ≤ 9) ∧ e = ⟨11, n, E0, []⟩) ∨ (∃ s, nameB s = true ∧ e = ⟨12, 0, s, []⟩) ∨ (∃ a, okF d false a = true ∧ e = ⟨4, 0, E0, [a]⟩) ∨ (∃ k a b, (5 ≤ k ∧ k ≤ 10) ∧ okF d false a = true ∧ okF d false b = true ∧ e = ⟨k, 0, E0, [a, b]⟩) := by
 obtain ⟨k, n, s, l⟩ := e
 simp only [okF, Bool.and_eq_true, Bool.false_and, Bool.not_false, true_and] at h
 obtain ⟨h1, hall⟩ := h
 unfold Ex.here at h1
 simp only at h1
 split at h1
 · cases h1
 ·
  rename_i hg
  have hg : ((k != 1 && (k != 11 && n != 0)) || (k != 2 && (k != 12 && !eqS s E0))) = false := by simpa using hg
  rw [Bool.or_eq_false_iff] at hg
  have hn : k ≠ 1 → k ≠ 11 → n = 0 := fun hk hk2 => by have := hg.1; simpa [hk, hk2] using this
  have hs : k ≠ 2 → k ≠ 12 → s = E0 := fun hk hk2 => by
   have := hg.2
   have h3 : eqS s E0 = true := by simpa [hk, hk2] using this
   exact (eqS_iff _ _).1 h3
  split at h1
  ·
   rename_i e; subst e
   rw [Bool.and_eq_true, beq_iff_eq, List.length_eq_zero_iff] at h1
   obtain ⟨hi, rfl⟩ := h1
   exact .inl ⟨n, (inB_iff _ _ _).1 hi, by rw [hs (by decide) (by decide)]⟩
  ·
   rename_i k1
   split at h1
   ·
    rename_i e
    rw [Bool.and_eq_true, beq_iff_eq, List.length_eq_zero_iff] at h1
    obtain ⟨hi, rfl⟩ := h1
    rcases e with rfl | rfl
    · exact .inr (.inl ⟨s, hi, by rw [hn (by decide) (by decide)]⟩)
    · exact .inr (.inr (.inr (.inr (.inl ⟨s, hi, by rw [hn (by decide) (by decide)]⟩))))
   ·
    rename_i k2
    have k3 : k ≠ 2 := fun e => k2 (.inl e)
    have k4 : k ≠ 12 := fun e => k2 (.inr e)
    obtain rfl := hs k3 k4
    split at h1
    ·
     rename_i e; subst e
     rw [beq_iff_eq, List.length_eq_zero_iff] at h1
     subst h1
     exact .inr (.inr (.inl (by rw [hn (by decide) (by decide)])))
    ·
     split at h1
     ·
      rename_i e; subst e
      rw [beq_iff_eq] at h1
      obtain rfl := hn (by decide) (by decide)
      match l, h1 with
      | [a], _ => exact .inr (.inr (.inr (.inr (.inr (.inl ⟨a, by simpa using hall, rfl⟩)))))
     ·
      split at h1
      ·
       rename_i e
       rw [beq_iff_eq] at h1
       obtain rfl := hn k1 (by omega)
       match l, h1 with
       | [a, b], _ =>
        have : okF d false a = true ∧ okF d false b = true := by simpa using hall
        exact .inr (.inr (.inr (.inr (.inr (.inr ⟨k, a, b, e, this.1, this.2, rfl⟩)))))
      ·
       split at h1
       ·
        rename_i e; subst e
        rw [Bool.and_eq_true, beq_iff_eq, List.length_eq_zero_iff] at h1
        obtain ⟨hi, rfl⟩ := h1
        exact .inr (.inr (.inr (.inl ⟨n, (inB_iff _ _ _).1 hi, rfl⟩)))
       · cases h1
theorem ok_num {d : Nat} {n : Int} (h : 0 ≤ n ∧ n ≤ 65535) : okF (d + 1) false ⟨1, n, E0, []⟩ = true := by
 have : inB n 0 65535 = true := (inB_iff _ _ _).2 h
 simp [okF, Ex.here, this, show eqS E0 E0 = true from (eqS_iff _ _).2 rfl]
theorem ok_neg {d : Nat} {a : Ex} (h : okF d false a = true) : okF (d + 1) false ⟨4, 0, E0, [a]⟩ = true := by
 simp [okF, Ex.here, h, show eqS E0 E0 = true from (eqS_iff _ _).2 rfl]
theorem ok_two {d : Nat} {k : Int} {a b : Ex} (hk : 5 ≤ k ∧ k ≤ 10) (ha : okF d false a = true) (hb : okF d false b = true) : okF (d + 1) false ⟨k, 0, E0, [a, b]⟩ = true := by
 have : k = 5 ∨ k = 6 ∨ k = 7 ∨ k = 8 ∨ k = 9 ∨ k = 10 := by omega
 rcases this with rfl | rfl | rfl | rfl | rfl | rfl <;> simp [okF, Ex.here, ha, hb, show eqS E0 E0 = true from (eqS_iff _ _).2 rfl]
theorem ok_more : ∀ (d : Nat) (p : Bool) (e : Ex), okF d p e = true → okF (d + 1) p e = true := by
 intro d
 induction d with
 | zero => intro p e h; rw [okF] at h; cases h
 | succ d ih =>
  intro p e h
  rw [okF] at h ⊢
  rw [Bool.and_eq_true, Bool.and_eq_true, List.all_eq_true] at h ⊢
  exact ⟨h.1, h.2.1, fun x hx => ih p x (h.2.2 x hx)⟩
def wr (n : Int) : Int := n % 65536
theorem wr_in (n : Int) : 0 ≤ wr n ∧ wr n ≤ 65535 := by unfold wr; omega
theorem wr_of {n : Int} (h : 0 ≤ n ∧ n ≤ 65535) : wr n = n := by unfold wr; omega
def numX (n : Int) : Ex := ⟨1, wr n, E0, []⟩
def two11 (k a b : Int) : Option Int :=
 if k = 5 then some (wr (a + b)) else if k = 6 then some (wr (a - b)) else if k = 7 then some (wr (a * b))
 else if k = 9 then some (bits .and .i64 a b) else if k = 10 then some (bits .or .i64 a b)
 else if b = 0 then none else some (a / b)
def addX (a : Ex) (n : Int) : Ex := if wr n = 0 then a else ⟨5, 0, E0, [a, numX n]⟩
def prtX (e : Ex) : Ex × Int := if e.k = 5 ∧ (xAt e.l 1).k = 1 then (xAt e.l 0, (xAt e.l 1).n) else (e, 0)
def sumX (a : Ex) (n : Int) : Ex := addX (prtX a).1 ((prtX a).2 + n)
def subX (a b : Ex) : Ex :=
 if b.k = 1 then sumX a (-b.n)
 else if (prtX a).1.k = 11 ∧ (prtX b).1.k = 11 ∧ (prtX a).1.n = (prtX b).1.n then numX ((prtX a).2 - (prtX b).2)
 else ⟨6, 0, E0, [a, b]⟩
def negX (a : Ex) : Ex := if a.k = 1 then numX (-a.n) else ⟨4, 0, E0, [a]⟩
def mixX (k : Int) (a b : Ex) : Ex := if k = 6 then subX a b else if k = 5 ∧ a.k = 1 then sumX b a.n else if k = 5 ∧ b.k = 1 then sumX a b.n else ⟨k, 0, E0, [a, b]⟩
def foldN (k : Int) (a b : Ex) : Ex := if a.k = 1 ∧ b.k = 1 then (match two11 k a.n b.n with | some n => numX n | none => mixX k a b) else mixX k a b
def foldC (k n : Int) (s : ByteArray) : List Ex → Ex
 | [] => ⟨k, n, s, []⟩
 | [a] => negX a
 | a :: b :: _ => foldN k a b
def foldX : Ex → Ex
 | ⟨k, n, s, l⟩ => foldC k n s (l.map foldX)
theorem fold_leaf (k n : Int) (s : ByteArray) : foldX ⟨k, n, s, []⟩ = ⟨k, n, s, []⟩ := by rw [foldX]; rfl
theorem fold_neg (k n : Int) (s : ByteArray) (a : Ex) : foldX ⟨k, n, s, [a]⟩ = negX (foldX a) := by rw [foldX]; rfl
theorem fold_two (k n : Int) (s : ByteArray) (a b : Ex) : foldX ⟨k, n, s, [a, b]⟩ = foldN k (foldX a) (foldX b) := by rw [foldX]; rfl
theorem num_ok (d : Nat) (n : Int) : okF (d + 1) false (numX n) = true := ok_num (wr_in n)
theorem ok_pos {d : Nat} {e : Ex} (h : okF d false e = true) : ∃ c, d = c + 1 := by
 cases d with
 | zero => rw [okF] at h; cases h
 | succ c => exact ⟨c, rfl⟩
theorem add_ok {d : Nat} {a : Ex} (h : okF d false a = true) (n : Int) : okF (d + 1) false (addX a n) = true := by
 unfold addX
 split
 · exact ok_more _ _ _ h
 ·
  obtain ⟨c, rfl⟩ := ok_pos h
  exact ok_two (by omega) h (num_ok c n)
theorem prt_cases {d : Nat} {a : Ex} (h : okF (d + 1) false a = true) : (prtX a = (a, 0) ∧ ¬ (a.k = 5 ∧ (xAt a.l 1).k = 1)) ∨ ∃ b m, (0 ≤ m ∧ m ≤ 65535) ∧ a = ⟨5, 0, E0, [b, ⟨1, m, E0, []⟩]⟩ ∧ prtX a = (b, m) ∧ okF d false b = true := by
 by_cases hc : a.k = 5 ∧ (xAt a.l 1).k = 1
 ·
  right
  rcases ok_sev h with ⟨n, hn, rfl⟩ | ⟨s, hs, rfl⟩ | rfl | ⟨n, hn, rfl⟩ | ⟨s, hs, rfl⟩ | ⟨a, ha, rfl⟩ | ⟨k, a, b, hk, ha, hb, rfl⟩
  · exact absurd (show (1 : Int) = 5 from hc.1) (by decide)
  · exact absurd (show (2 : Int) = 5 from hc.1) (by decide)
  · exact absurd (show (3 : Int) = 5 from hc.1) (by decide)
  · exact absurd (show (11 : Int) = 5 from hc.1) (by decide)
  · exact absurd (show (12 : Int) = 5 from hc.1) (by decide)
  · exact absurd (show (4 : Int) = 5 from hc.1) (by decide)
  obtain rfl : k = 5 := hc.1
  have hb1 : b.k = 1 := hc.2
  obtain ⟨c, rfl⟩ := ok_pos hb
  rcases ok_sev hb with ⟨n, hn, rfl⟩ | ⟨s, hs, rfl⟩ | rfl | ⟨n, hn, rfl⟩ | ⟨s, hs, rfl⟩ | ⟨a', ha', rfl⟩ | ⟨k, a', b', hk, ha', hb', rfl⟩
  · exact ⟨a, n, hn, rfl, rfl, ha⟩
  · exact absurd (show (2 : Int) = 1 from hb1) (by decide)
  · exact absurd (show (3 : Int) = 1 from hb1) (by decide)
  · exact absurd (show (11 : Int) = 1 from hb1) (by decide)
  · exact absurd (show (12 : Int) = 1 from hb1) (by decide)
  · exact absurd (show (4 : Int) = 1 from hb1) (by decide)
  ·
   have : k = 1 := hb1
   omega
 ·
  left
  unfold prtX
  rw [if_neg hc]
  exact ⟨rfl, hc⟩
theorem sum_ok {d : Nat} {a : Ex} (h : okF d false a = true) (n : Int) : okF (d + 1) false (sumX a n) = true := by
 obtain ⟨c, rfl⟩ := ok_pos h
 unfold sumX
 rcases prt_cases h with ⟨e, _⟩ | ⟨b, m, hm, rfl, e, hb⟩
 · rw [e]; exact add_ok h _
 · rw [e]; exact ok_more _ _ _ (add_ok hb _)
theorem sub_ok {d : Nat} {a b : Ex} (ha : okF d false a = true) (hb : okF d false b = true) : okF (d + 1) false (subX a b) = true := by
 unfold subX
 split
 · exact sum_ok ha _
 ·
  split
  · exact num_ok d _
  · exact ok_two (by omega) ha hb
theorem mix_ok {d : Nat} {k : Int} {a b : Ex} (hk : 5 ≤ k ∧ k ≤ 10) (ha : okF d false a = true) (hb : okF d false b = true) : okF (d + 1) false (mixX k a b) = true := by
 unfold mixX
 split
 · exact sub_ok ha hb
 ·
  split
  · exact sum_ok hb _
  ·
   split
   · exact sum_ok ha _
   · exact ok_two hk ha hb
theorem foldN_ok {d : Nat} {k : Int} {a b : Ex} (hk : 5 ≤ k ∧ k ≤ 10) (ha : okF d false a = true) (hb : okF d false b = true) : okF (d + 1) false (foldN k a b) = true := by
 unfold foldN
 split
 ·
  split
  · exact num_ok d _
  · exact mix_ok hk ha hb
 · exact mix_ok hk ha hb
theorem neg_ok {d : Nat} {a : Ex} (h : okF d false a = true) : okF (d + 1) false (negX a) = true := by
 unfold negX
 split
 · exact num_ok d _
 · exact ok_neg h
theorem fold_ok : ∀ (d : Nat) (e : Ex), okF d false e = true → okF d false (foldX e) = true := by
 intro d
 induction d with
 | zero => intro e h; rw [okF] at h; cases h
 | succ d ih =>
  intro e h
  have h0 := h
  rcases ok_sev h with ⟨n, hn, rfl⟩ | ⟨s, hs, rfl⟩ | rfl | ⟨n, hn, rfl⟩ | ⟨s, hs, rfl⟩ | ⟨a, ha, rfl⟩ | ⟨k, a, b, hk, ha, hb, rfl⟩
  · rw [fold_leaf]; exact h0
  · rw [fold_leaf]; exact h0
  · rw [fold_leaf]; exact h0
  · rw [fold_leaf]; exact h0
  · rw [fold_leaf]; exact h0
  · rw [fold_neg]; exact neg_ok (ih a ha)
  · rw [fold_two]; exact foldN_ok hk (ih a ha) (ih b hb)
section
theorem ok_k1 {d : Nat} {e : Ex} (h : okF (d + 1) false e = true) (h1 : e.k = 1) : ∃ n : Int, (0 ≤ n ∧ n ≤ 65535) ∧ e = ⟨1, n, E0, []⟩ := by
 rcases ok_sev h with ⟨n, hn, rfl⟩ | ⟨s, hs, rfl⟩ | rfl | ⟨n, hn, rfl⟩ | ⟨s, hs, rfl⟩ | ⟨a, ha, rfl⟩ | ⟨k, a, b, hk, ha, hb, rfl⟩
 · exact ⟨n, hn, rfl⟩
 · exact absurd (show (2 : Int) = 1 from h1) (by decide)
 · exact absurd (show (3 : Int) = 1 from h1) (by decide)
 · exact absurd (show (11 : Int) = 1 from h1) (by decide)
 · exact absurd (show (12 : Int) = 1 from h1) (by decide)
 · exact absurd (show (4 : Int) = 1 from h1) (by decide)
 ·
  have : k = 1 := h1
  omega
theorem ok_k11 {d : Nat} {e : Ex} (h : okF (d + 1) false e = true) (h1 : e.k = 11) : ∃ n : Int, (0 ≤ n ∧ n ≤ 9) ∧ e = ⟨11, n, E0, []⟩ := by
 rcases ok_sev h with ⟨n, hn, rfl⟩ | ⟨s, hs, rfl⟩ | rfl | ⟨n, hn, rfl⟩ | ⟨s, hs, rfl⟩ | ⟨a, ha, rfl⟩ | ⟨k, a, b, hk, ha, hb, rfl⟩
 · exact absurd (show (1 : Int) = 11 from h1) (by decide)
 · exact absurd (show (2 : Int) = 11 from h1) (by decide)
 · exact absurd (show (3 : Int) = 11 from h1) (by decide)
 · exact ⟨n, hn, rfl⟩
 · exact absurd (show (12 : Int) = 11 from h1) (by decide)
 · exact absurd (show (4 : Int) = 11 from h1) (by decide)
 ·
  have : k = 11 := h1
  omega
theorem two11_some {k a b : Int} (hk : k = 5 ∨ k = 6) : ∃ n, two11 k a b = some n := by
 rcases hk with rfl | rfl
 · exact ⟨_, rfl⟩
 · exact ⟨_, rfl⟩
section
variable {S : Int → Option Int} {G : ByteArray → Option Int}
theorem bits_w {d s : Int} (hd : 0 ≤ d ∧ d ≤ 65535) (hs : 0 ≤ s ∧ s ≤ 65535) : (0 ≤ bits .and .i64 d s ∧ bits .and .i64 d s ≤ 65535) ∧ (0 ≤ bits .or .i64 d s ∧ bits .or .i64 d s ≤ 65535) := by
 obtain ⟨a, rfl⟩ := Int.eq_ofNat_of_zero_le hd.1
 obtain ⟨b, rfl⟩ := Int.eq_ofNat_of_zero_le hs.1
 have h := bits_nat .i64 16 (by decide) (fun n h0 h1 => by rw [IntKind.wrap_i64]; omega) a b (by omega) (by omega)
 rw [h.1, h.2]
 have h1 : a ||| b < 2 ^ 16 := Nat.or_lt_two_pow (by omega) (by omega)
 have h2 : a &&& b ≤ a := Nat.and_le_left
 omega
theorem two11_in {k a b n : Int} (hk : 5 ≤ k ∧ k ≤ 10) (ha : 0 ≤ a ∧ a ≤ 65535) (hb : 0 ≤ b ∧ b ≤ 65535) (h : two11 k a b = some n) : 0 ≤ n ∧ n ≤ 65535 := by
 unfold two11 at h
 split at h
 · cases h; exact wr_in _
 ·
  split at h
  · cases h; exact wr_in _
  ·
   split at h
   · cases h; exact wr_in _
   ·
    split at h
    ·
     cases h
     exact (bits_w ha hb).1
    ·
     split at h
     ·
      cases h
      exact (bits_w ha hb).2
     ·
      split at h
      · cases h
      ·
       cases h
       have h1 : a / b ≤ a := Int.ediv_le_self _ ha.1
       have h2 : 0 ≤ a / b := Int.ediv_nonneg ha.1 hb.1
       omega
theorem prt_ok {d : Nat} {a : Ex} (h : okF (d + 1) false a = true) : ∃ c, okF (c + 1) false (prtX a).1 = true := by
 rcases prt_cases h with ⟨e, _⟩ | ⟨b, m, hm, rfl, e, hb⟩
 · rw [e]; exact ⟨d, h⟩
 ·
  rw [e]
  obtain ⟨c, rfl⟩ := ok_pos hb
  exact ⟨c, hb⟩
end
end
set_option maxRecDepth 8000
section
section
variable {w wr w' : World} {cb : Nat} {a : Option Addr} {len cap : Nat} {xs : List UInt8}
theorem grownBy_row {W : World} {g : Nat} (cs : Array Value) : W.grownBy (W.setRow g cs) (some g) := ⟨rfl, rfl, rfl, by simp [World.setRow], fun k _ hk => setRow_other _ _ _ _ (fun e => hk (by rw [e]))⟩
end
end
theorem szE : (Tryd.prog.info? 43).map (·.size) = some 4 := by kernel_rfl
theorem ex_one (k n : Int) (x : ByteArray) (b : Option Addr) (i j : Nat) : (#[Value.int .i64 k, .int .i64 n, .string x, .slice b i j] : Array Value).all (·.oneCell') = true := by simp [Value.oneCell']
def E0x : Array Value := #[.int .i64 0, .int .i64 0, .string ⟨#[]⟩, .slice none 0 0]
theorem numY (n y : Int) (hy : n % 65536 = y) (w : World) : Calls Tryd.prog 55 #[.int .i64 n] w fun e w' => e = .returned (.agg #[.int .i64 1, .int .i64 y, .string ⟨#[]⟩, .slice none 0 0]) ∧ Below w.heap.size w w' := by
 have B0 := hide (below_new w (.cells E0x 43))
 have R0 := hide (heap_alloc_new w (.cells E0x 43))
 unfold E0x at B0 R0
 go_enter Tryd.func55, Tryd.ntmps55
 go_wp2_with fail
 generalize w.alloc (Obj.cells #[.int .i64 0, .int .i64 0, .string ⟨#[]⟩, .slice none 0 0] 43) = W at *
 refine (wrapS_any n W).mono ?_
 rintro e w1 ⟨rfl, rfl⟩
 rw [hy]
 clear hy
 go_wp2_with (refine wpList_store_row rfl 43 _ _ rfl w.heap.size #[.int .i64 1, .int .i64 y, .string ⟨#[]⟩, .slice none 0 0] rfl rfl 43 _ (uh R0) szE rfl (ex_one _ _ _ _ _ _) ?_)
 refine bodyPost_ret (results_cell_row (P := Tryd.prog) rfl _ _ w.heap.size 43 #[.int .i64 1, .int .i64 y, .string ⟨#[]⟩, .slice none 0 0] (0, 0) _ rfl (setRow_heap _ _ _ _ _ _ (uh R0)) Tryd.underlying43 rfl szE) rfl ?_
 exact ⟨rfl, (uh B0).grown (grownBy_row _) (uh B0).size (fun k e => by cases e; exact Nat.le_refl _)⟩
theorem numD (n : Int) (w : World) : Calls Tryd.prog 55 #[.int .i64 n] w fun e w' => e = .returned (.agg #[.int .i64 1, .int .i64 (n % 65536), .string ⟨#[]⟩, .slice none 0 0]) ∧ Below w.heap.size w w' := numY n _ rfl w
def HalfX (w : World) (B C : Nat) (e : Ex) (a : Option Addr) : Prop := ∃ F, OwX w e a F ∧ F.Nodup ∧ ∀ b ∈ F, B ≤ b ∧ b < C
theorem NewX.half {w : World} {B : Nat} {e : Ex} {a : Option Addr} (h : NewX w B e a) : HalfX w B w.heap.size e a := by
 obtain ⟨F, h1, h2, h3⟩ := h
 exact ⟨F, h1, h2, fun b hb => ⟨h3 b hb, OwX.lt e a F h1 b hb⟩⟩
theorem HalfX.later {w w' : World} {B C : Nat} {e : Ex} {a : Option Addr} (h : HalfX w B C e a) (hb : Below w.heap.size w w') : HalfX w' B C e a := by
 obtain ⟨F, h1, h2, h3⟩ := h
 exact ⟨F, h1.later hb, h2, h3⟩
theorem sz_one (k n : Int) (x : Ex) : (Ex.mk k n ⟨#[]⟩ [x]).sz = 1 + x.sz := by
 rw [Ex.sz_eq]
 show 0 + 1 + (x.sz + 0) = _
 omega
theorem sz_two (k n : Int) (x y : Ex) : (Ex.mk k n ⟨#[]⟩ [x, y]).sz = 2 + x.sz + y.sz := by
 rw [Ex.sz_eq]
 show 0 + 2 + (x.sz + (y.sz + 0)) = _
 omega
theorem sz_leaf (k n : Int) (s : ByteArray) : (Ex.mk k n s []).sz = s.size := by
 rw [Ex.sz_eq]
 rfl
section
section
variable {P : Program} {w : World}
theorem append_to (base : Nat) (t ty e : TypeId) (i : TypeInfo) (z : Value) (size bytes : Nat) (ht : P.underlying t = some (.slice e)) (hi : P.info? e = some i) (hz : i.zero = some z)
  (hsize : i.size = size) (hby : i.bytes = bytes) (hzs : z.cells.size = size) (hsz : 0 < size)
  (v : Value) (n : Nat) (xs : List Value) (hown : w.ownsRow base e size v n xs)
  (a : Addr) (m c : Nat) (news : List Value) (hl : news.length = m * size) (hnews : ∀ j u, news[j]? = some u → w.cell? (a.add j) = some u) (h1 : ∀ u ∈ news, u.oneCell' = true)
  (h63 : n + m ≤ maxLen) (hbytes : (n + m) * bytes ≤ 140737488355328) (hbase : base ≤ w.heap.size) (hm : 0 < m) :
  ∃ v' w', (Builtin.append_ #[t, t] ty #[v, .slice (some a) m c]).run P w = .ok v' w' ∧ w'.ownsRow base e size v' (n + m) (xs ++ news) ∧ w.grownBy w' v.ownBlock ∧ (∃ g cap, v' = .slice (some ⟨g, 0, none⟩) (n + m) cap ∧ (v.ownBlock = some g ∨ g = w.heap.size)) := by
 obtain ⟨v', w', hr, h2, h3, _⟩ := run_append_own (P := P) w base t ty e i z size bytes ht hi hz hsize hby hzs hsz v n xs hown a m c news hl hnews h1 h63 hbytes hbase
 refine ⟨v', w', hr, h2, h3, ?_⟩
 subst hsize
 subst hby
 have hs : n + m ≤ 9223372036854775807 := by simp only [maxLen] at h63; omega
 rcases hown.2 with ⟨rfl, rfl⟩ | ⟨g, cap, cur, rfl, hbg, hg, hnc, hcm, hcs, htake⟩
 ·
  have k := run_append_nil (P := P) w t ty e i z ht hi hz a m c news hl hnews hm (by omega) (by have hb := hbytes; simp only [Nat.zero_add] at hb; omega)
  rw [hr] at k
  injection k with k1 k2
  exact ⟨_, _, by rw [k1, Nat.zero_add], .inr rfl⟩
 ·
  by_cases hroom : n + m ≤ cap
  ·
   have hfit : n * i.size + news.length ≤ cur.size := by rw [hl, hcs, ← Nat.add_mul]; exact Nat.mul_le_mul_right _ hroom
   have k := run_append_room (P := P) w t ty e i ht hi g n cap cur hg a m c news hl hnews h1 hroom hfit
   rw [hr] at k
   injection k with k1 k2
   exact ⟨_, _, k1, .inl rfl⟩
  ·
   have k := run_append_grow (P := P) w t ty e i z ht hi hz ⟨g, 0, none⟩ n cap xs hown.1 (hown.cells (g := g) rfl) a m c news hl hnews (by omega) (by omega) (growslice_fits (by omega) hbytes)
   rw [hr] at k
   injection k with k1 k2
   exact ⟨_, _, k1, .inr rfl⟩
theorem wp_append_to {o : Oper} {a : Act} {K : Act → World → Prop} {Q : Exit → Act → World → Prop} (s x : Operand) (t : TypeId)
  (ho : o.op = .call { callee := .builtin .append, args := #[s, x], argTypes := #[t, t] })
  (base : Nat) (e : TypeId) (i : TypeInfo) (z : Value) (size bytes : Nat) (ht : P.underlying t = some (.slice e)) (hi : P.info? e = some i) (hz : i.zero = some z)
  (hsize : i.size = size) (hby : i.bytes = bytes) (hzs : z.cells.size = size) (hsz : 0 < size)
  (v : Value) (n : Nat) (xs : List Value) (hs : a.eval s = v) (hown : w.ownsRow base e size v n xs)
  (ad : Addr) (m c : Nat) (news : List Value) (hx : a.eval x = .slice (some ad) m c) (hl : news.length = m * size) (hnews : ∀ j u, news[j]? = some u → w.cell? (ad.add j) = some u) (h1 : ∀ u ∈ news, u.oneCell' = true)
  (h63 : n + m ≤ maxLen) (hbytes : (n + m) * bytes ≤ 140737488355328) (hbase : base ≤ w.heap.size) (hm : 0 < m)
  (h : ∀ g cap w', w'.ownsRow base e size (.slice (some ⟨g, 0, none⟩) (n + m) cap) (n + m) (xs ++ news) → w.grownBy w' v.ownBlock → (v.ownBlock = some g ∨ g = w.heap.size) → K (a.put o.dst (.slice (some ⟨g, 0, none⟩) (n + m : Nat) cap)) w') : o.wp P a w K Q := by
 obtain ⟨v', w', hr, h2, h3, g, cap, rfl, h4⟩ := append_to (P := P) (w := w) base t o.type e i z size bytes ht hi hz hsize hby hzs hsz v n xs hown ad m c news hl hnews h1 h63 hbytes hbase hm
 unfold Oper.wp execOp
 simp only [ho, resolve, invoke, builtin, Sem.run_bind, Sem.run_pure, Result.andThen_ok, List.map_toArray, List.map_cons, List.map_nil, hs, hx, hr]
 exact h g cap w' h2 h3 h4
theorem wpList_append_to {ops : Array Oper} {rest : List Oper} {o : Oper} {a : Act} {Q : Exit → Act → World → Prop} (hgd : o.guard = none) (s x : Operand) (t : TypeId)
  (ho : o.op = .call { callee := .builtin .append, args := #[s, x], argTypes := #[t, t] })
  (base : Nat) (e : TypeId) (i : TypeInfo) (z : Value) (size bytes : Nat) (ht : P.underlying t = some (.slice e)) (hi : P.info? e = some i) (hz : i.zero = some z)
  (hsize : i.size = size) (hby : i.bytes = bytes) (hzs : z.cells.size = size) (hsz : 0 < size)
  (v : Value) (n : Nat) (xs : List Value) (hs : a.eval s = v) (hown : w.ownsRow base e size v n xs)
  (ad : Addr) (m c : Nat) (news : List Value) (hx : a.eval x = .slice (some ad) m c) (hl : news.length = m * size) (hnews : ∀ j u, news[j]? = some u → w.cell? (ad.add j) = some u) (h1 : ∀ u ∈ news, u.oneCell' = true)
  (h63 : n + m ≤ maxLen) (hbytes : (n + m) * bytes ≤ 140737488355328) (hbase : base ≤ w.heap.size) (hm : 0 < m)
  (h : ∀ g cap w', w'.ownsRow base e size (.slice (some ⟨g, 0, none⟩) (n + m) cap) (n + m) (xs ++ news) → w.grownBy w' v.ownBlock → (v.ownBlock = some g ∨ g = w.heap.size) → wpList P ops Q rest (a.put o.dst (.slice (some ⟨g, 0, none⟩) (n + m : Nat) cap)) w') : wpList P ops Q (o :: rest) a w :=
 wpList_plain hgd fun _ hK => wp_append_to s x t ho base e i z size bytes ht hi hz hsize hby hzs hsz v n xs hs hown ad m c news hx hl hnews h1 h63 hbytes hbase hm fun g cap w' h2 h3 h4 => hK _ _ (h g cap w' h2 h3 h4)
end
end
def exL (x : Ex) (c : Option Addr) (cp : Nat) : List Value := [.int .i64 x.k, .int .i64 x.n, .string x.s, .slice c x.l.length cp]
theorem row_take {w : World} {B g n cap : Nat} {t : TypeId} {cs : List Value} (h : w.ownsRow B t 4 (.slice (some ⟨g, 0, none⟩) n cap) n cs) : ∃ cur : Array Value, w.heap[g]? = some (.cells cur t (0, 0)) ∧ n * 4 ≤ cur.size ∧ B ≤ g ∧ ∀ j, j < n * 4 → cur[j]? = cs[j]? := by
 obtain ⟨hl, h | ⟨g', cap', cur, he, hB, hh, hc, hm, hz, ht⟩⟩ := h
 · cases h.1
 ·
  cases he
  refine ⟨cur, hh, by rw [hz]; exact Nat.mul_le_mul_right _ hc, hB, fun j hj => ?_⟩
  rw [← ht, List.getElem?_take_of_lt hj]
  simp
theorem below_drew {w : World} : Below w.heap.size w w.drew := ⟨rfl, rfl, rfl, Nat.le_refl _, fun _ _ => rfl⟩
theorem row_keep {w w' : World} {g : Nat} {o : Obj} (h : w.heap[g]? = some o) (hb : Below w.heap.size w w') : w'.heap[g]? = some o := (hb.block g (Array.getElem?_eq_some_iff.1 h).1).trans h
theorem yields_loadG {P : Program} {ops : Array Oper} {S : World → Prop} {o : Oper} {a : Act} (hw : Region.wanted o (yielded ops a.tmps) = true) (ty : TypeId) (x : Operand) (ho : o.op = .load ty x) (g : Nat) (hx : a.eval x = .pointer (some ⟨g, 0, none⟩)) (t : TypeId) (cs : Array Value) (d : TypeDesc)
  (hS : ∀ w, S w → w.heap[g]? = some (.cells cs t (0, 0))) (hu : P.underlying ty = some d) (hd : (match d with | .struct _ | .array _ _ => true | _ => false) = true) (hi : (P.info? ty).map (·.size) = some cs.size) : YieldsIf P ops S o (.agg cs) a := by
 refine .inl ⟨hw, fun w hw => ?_⟩
 simp only [execOp, ho, hx, Instr.loadAt, Instr.sureAddr, Sem.run_bind, Sem.run_pure, Result.andThen_ok, run_loadVar_row w g t ty cs (0, 0) d (hS w hw) hu hd hi]
section
def PX (w : World) (P : Nat → Prop) (e : Ex) (a : Option Addr) : Prop := ∃ F, OwX w e a F ∧ F.Nodup ∧ ∀ b ∈ F, P b
section
variable {w w' : World} {P Q R : Nat → Prop} {e : Ex} {a : Option Addr}
theorem PX.later (h : PX w P e a) (hb : Below w.heap.size w w') : PX w' P e a := by obtain ⟨F, h1, h2, h3⟩ := h; exact ⟨F, h1.later hb, h2, h3⟩
theorem PX.low (h : PX w P e a) : PX w (fun b => P b ∧ b < w.heap.size) e a := by obtain ⟨F, h1, h2, h3⟩ := h; exact ⟨F, h1, h2, fun b hb => ⟨h3 b hb, OwX.lt e a F h1 b hb⟩⟩
theorem PX.mono (h : PX w P e a) (hP : ∀ b, P b → Q b) : PX w Q e a := by obtain ⟨F, h1, h2, h3⟩ := h; exact ⟨F, h1, h2, fun b hb => hP b (h3 b hb)⟩
theorem PX.row {g : Nat} (h : PX w P e a) (cs : Array Value) (hg : ¬ P g) : PX (w.setRow g cs) P e a := by
 obtain ⟨F, h1, h2, h3⟩ := h
 exact ⟨F, OwX.keep e a F (fun b hb => setRow_other _ _ _ _ (fun e => hg (by rw [← e]; exact h3 b hb))) h1, h2, h3⟩
theorem PX.rd (h : PX w P e a) : RdX w 0 e a := by obtain ⟨F, h1, h2, h3⟩ := h; exact OwX.rd e a F (fun _ _ => Nat.zero_le _) h1
theorem PX.leaf (w : World) (P : Nat → Prop) (k n : Int) (s : ByteArray) (a : Option Addr) : PX w P ⟨k, n, s, []⟩ a := ⟨[], (OwX_eq _ _ _ _).2 (.inl ⟨rfl, rfl⟩), List.nodup_nil, fun b hb => by cases hb⟩
end
def xR (x : Ex) (c : Option Addr) (cp : Nat) : Array Value := #[.int .i64 x.k, .int .i64 x.n, .string x.s, .slice c x.l.length cp]
def xR2 (x : Ex) (c : Option Addr) (cp : Nat) (y : Ex) (d : Option Addr) (dp : Nat) : Array Value := #[.int .i64 x.k, .int .i64 x.n, .string x.s, .slice c x.l.length cp, .int .i64 y.k, .int .i64 y.n, .string y.s, .slice d y.l.length dp]
theorem PX.one {w : World} {P : Nat → Prop} {x : Ex} {c : Option Addr} {cp : Nat} (h : PX w P x c) (hP : P w.heap.size) (k n : Int) (s : ByteArray) (t : TypeId) : PX (w.alloc (.cells (xR x c cp) t)) P ⟨k, n, s, [x]⟩ (some ⟨w.heap.size, 0, none⟩) := by
 obtain ⟨F, h1, h2, h3⟩ := h
 have hl := OwX.lt x c F h1
 refine ⟨w.heap.size :: F, (OwX_eq _ _ _ _).2 (.inr ⟨w.heap.size, _, t, [F], rfl, Array.getElem?_push_size, by simp [xR], rfl, by simp, fun i hi => ?_⟩), List.nodup_cons.2 ⟨fun h => by have := hl _ h; omega, h2⟩, fun b hb => ?_⟩
 ·
  have hi : i < 1 := hi
  obtain rfl : i = 0 := by omega
  exact ⟨rfl, rfl, rfl, c, cp, rfl, OwX.later h1 ((Below.refl _ _).alloc (Nat.le_refl _) _)⟩
 ·
  rcases List.mem_cons.1 hb with rfl | hb
  · exact hP
  · exact h3 b hb
theorem PX.two {w : World} {P Q R : Nat → Prop} {x y : Ex} {c d : Option Addr} {cp dp : Nat} (h : PX w P x c) (k : PX w Q y d) (hPQ : ∀ b, P b → ¬ Q b) (hP : ∀ b, P b → R b) (hQ : ∀ b, Q b → R b) (hR : R w.heap.size) (k' n : Int) (s : ByteArray) (t : TypeId) : PX (w.alloc (.cells (xR2 x c cp y d dp) t)) R ⟨k', n, s, [x, y]⟩ (some ⟨w.heap.size, 0, none⟩) := by
 obtain ⟨F, h1, h2, h3⟩ := h
 obtain ⟨G, k1, k2, k3⟩ := k
 have hl := OwX.lt x c F h1
 have kl := OwX.lt y d G k1
 refine ⟨w.heap.size :: (F ++ G), (OwX_eq _ _ _ _).2 (.inr ⟨w.heap.size, _, t, [F, G], rfl, Array.getElem?_push_size, by simp [xR2], rfl, by simp, fun i hi => ?_⟩), List.nodup_cons.2 ⟨fun h => ?_, List.nodup_append.2 ⟨h2, k2, fun a ha b hb e => ?_⟩⟩, fun b hb => ?_⟩
 ·
  have hi : i < 2 := hi
  have hb := (Below.refl w.heap.size w).alloc (Nat.le_refl _) (.cells (xR2 x c cp y d dp) t)
  have hi2 : i = 0 ∨ i = 1 := by omega
  rcases hi2 with rfl | rfl
  · exact ⟨rfl, rfl, rfl, c, cp, rfl, OwX.later h1 hb⟩
  · exact ⟨rfl, rfl, rfl, d, dp, rfl, OwX.later k1 hb⟩
 ·
  rcases List.mem_append.1 h with h | h
  · have := hl _ h; omega
  · have := kl _ h; omega
 ·
  subst e
  exact hPQ _ (h3 _ ha) (k3 _ hb)
 ·
  rcases List.mem_cons.1 hb with rfl | hb
  · exact hR
  ·
   rcases List.mem_append.1 hb with hb | hb
   · exact hP b (h3 b hb)
   · exact hQ b (k3 b hb)
theorem PX.parts {w : World} {P : Nat → Prop} {k n : Int} {s : ByteArray} {x y : Ex} {a : Option Addr} (h : PX w P ⟨k, n, s, [x, y]⟩ a) : ∃ b c cp d dp, a = some ⟨b, 0, none⟩ ∧ b < w.heap.size ∧ (w.cell? ⟨b, 0, none⟩ = some (.int .i64 x.k) ∧ w.cell? ⟨b, 1, none⟩ = some (.int .i64 x.n) ∧ w.cell? ⟨b, 2, none⟩ = some (.string x.s) ∧ w.cell? ⟨b, 3, none⟩ = some (.slice c x.l.length cp)) ∧ (w.cell? ⟨b, 4, none⟩ = some (.int .i64 y.k) ∧ w.cell? ⟨b, 5, none⟩ = some (.int .i64 y.n) ∧ w.cell? ⟨b, 6, none⟩ = some (.string y.s) ∧ w.cell? ⟨b, 7, none⟩ = some (.slice d y.l.length dp)) ∧ PX w P x c ∧ PX w P y d := by
 obtain ⟨F, h1, h2, h3⟩ := h
 rcases (OwX_eq _ _ _ _).1 h1 with ⟨h0, _⟩ | ⟨b, cs, t, Fs, ha, hh, hz, hF, rfl, hc⟩
 · cases h0
 ·
  obtain ⟨a0, a1, a2, c, cp, a3, oc⟩ := hc 0 (by simp)
  obtain ⟨b0, b1, b2, d, dp, b3, od⟩ := hc 1 (by simp)
  have hF : Fs.length = 2 := hF
  match Fs, hF with
  | [F0, F1], _ =>
   have hn := (List.nodup_cons.1 h2).2
   simp only [List.flatten_cons, List.flatten_nil, List.append_nil] at hn
   obtain ⟨n0, n1, _⟩ := List.nodup_append.1 hn
   refine ⟨b, c, cp, d, dp, ha, (Array.getElem?_eq_some_iff.1 hh).1, ⟨(Lib.cell_of_heap hh _).trans a0, (Lib.cell_of_heap hh _).trans a1, (Lib.cell_of_heap hh _).trans a2, (Lib.cell_of_heap hh _).trans a3⟩, ⟨(Lib.cell_of_heap hh _).trans b0, (Lib.cell_of_heap hh _).trans b1, (Lib.cell_of_heap hh _).trans b2, (Lib.cell_of_heap hh _).trans b3⟩, ⟨F0, oc, n0, fun q hq => h3 q ?_⟩, ⟨F1, od, n1, fun q hq => h3 q ?_⟩⟩
   · exact List.mem_cons_of_mem _ (by simp [hq])
   · exact List.mem_cons_of_mem _ (by simp [hq])
def GiR (e : Ex) (P : Nat → Prop) (w : World) (r : Ending) (w' : World) : Prop := ∃ (c : Option Addr) (cp : Nat), r = .returned (.agg (e.cs c cp)) ∧ PX w' P e c ∧ Below w.heap.size w w'
end
def TwoR (k a b : Int) (w : World) (r : Ending) (w' : World) : Prop := w' = w ∧ r = .returned (.tuple #[.int .i64 ((two11 k a b).getD 0), .bool (two11 k a b).isSome])
theorem twoS_any (k a b : Int) (hk : 5 ≤ k ∧ k ≤ 10) (ha : 0 ≤ a ∧ a ≤ 65535) (hb : 0 ≤ b ∧ b ≤ 65535) (w : World) : Calls Tryd.prog 56 #[.int .i64 k, .int .i64 a, .int .i64 b] w (TwoR k a b w) := by
 have hm0 : 0 ≤ a * b := Int.mul_nonneg ha.1 hb.1
 have hm1 : a * b ≤ 65535 * 65535 := Int.mul_le_mul ha.2 hb.2 hb.1 (by decide)
 have hm2 : a * b ≤ 4294836225 := by omega
 have hn1 : -9223372036854775808 ≤ a * b := by omega
 have hn2 : a * b ≤ 9223372036854775807 := by omega
 unfold TwoR
 have : k = 5 ∨ k = 6 ∨ k = 7 ∨ k = 8 ∨ k = 9 ∨ k = 10 := by omega
 clear hk
 rcases this with rfl | rfl | rfl | rfl | rfl | rfl
 ·
  have E := hide (show two11 5 a b = some ((a + b) % 65536) from rfl)
  rw [uh E]
  go_enter Tryd.func56, Tryd.ntmps56
  go_wp2_with (go_at_call 66; refine (wrapS_any _ _).mono ?_; rintro e w' ⟨rfl, hw'⟩; rw [hw']; clear hw' w')
  go_ret2
  exact ⟨rfl, rfl⟩
 ·
  have E := hide (show two11 6 a b = some ((a - b) % 65536) from rfl)
  rw [uh E]
  go_enter Tryd.func56, Tryd.ntmps56
  go_wp2_with (go_at_call 66; refine (wrapS_any _ _).mono ?_; rintro e w' ⟨rfl, hw'⟩; rw [hw']; clear hw' w')
  go_ret2
  exact ⟨rfl, rfl⟩
 ·
  have E := hide (show two11 7 a b = some ((a * b) % 65536) from rfl)
  rw [uh E]
  go_enter Tryd.func56, Tryd.ntmps56
  go_wp2_with (go_at_call 66; refine (wrapS_any _ _).mono ?_; rintro e w' ⟨rfl, hw'⟩; rw [hw']; clear hw' w')
  go_ret2
  exact ⟨rfl, rfl⟩
 ·
  by_cases h0 : b = 0
  ·
   subst h0
   rw [show two11 8 a 0 = none from rfl]
   go_enter Tryd.func56, Tryd.ntmps56
   go_wp2
   go_ret2
   exact ⟨rfl, rfl⟩
  ·
   have g0 : (b == 0) = false := beq_eq_false_iff_ne.2 h0
   have E := hide (show two11 8 a b = some (a / b) by unfold two11; rw [if_neg (by decide), if_neg (by decide), if_neg (by decide), if_neg (by decide), if_neg (by decide), if_neg h0])
   rw [uh E]
   go_enter Tryd.func56, Tryd.ntmps56
   go_wp2
   go_ret2
   exact ⟨rfl, rfl⟩
 ·
  have E := hide (show two11 9 a b = some (bits .and .i64 a b) from rfl)
  rw [uh E]
  go_enter Tryd.func56, Tryd.ntmps56
  go_wp2
  go_ret2
  exact ⟨rfl, rfl⟩
 ·
  have E := hide (show two11 10 a b = some (bits .or .i64 a b) from rfl)
  rw [uh E]
  go_enter Tryd.func56, Tryd.ntmps56
  go_wp2
  go_ret2
  exact ⟨rfl, rfl⟩
structure Bx (w wr : World) (pr : Array Value) : Prop where
 bel : Below w.heap.size w wr
 lt : w.heap.size + 2 ≤ wr.heap.size
 box : wr.heap[w.heap.size]? = some (.cells pr 43 (0, 0))
 res : wr.heap[w.heap.size + 1]? = some (.cells #[.int .i64 0, .int .i64 0, .string ⟨#[]⟩, .slice none 0 0] 43 (0, 0))
theorem Bx.later {w wr w' : World} {pr : Array Value} (h : Bx w wr pr) (hb : Below wr.heap.size wr w') : Bx w w' pr := ⟨h.bel.trans (hb.mono h.bel.size), Nat.le_trans h.lt hb.size, row_keep h.box hb, row_keep h.res hb⟩
theorem Bx.new (w : World) (pr : Array Value) : Bx w ((w.alloc (.cells pr 43)).alloc (.cells #[.int .i64 0, .int .i64 0, .string ⟨#[]⟩, .slice none 0 0] 43)) pr := by
 have hb := ((Below.refl w.heap.size w).alloc (Nat.le_refl _) (.cells pr 43)).alloc (by simp) (.cells #[.int .i64 0, .int .i64 0, .string ⟨#[]⟩, .slice none 0 0] 43)
 have h1 : (w.alloc (.cells pr 43)).heap.size = w.heap.size + 1 := by simp
 refine ⟨hb, by simp, ?_, ?_⟩
 · exact row_keep (heap_alloc_new w _) (below_new _ _)
 · rw [← h1]; exact Array.getElem?_push_size
def Ow (w : World) (P : Nat → Prop) (b : Nat) : Prop := P b ∧ (b < w.heap.size ∨ w.heap.size + 2 ≤ b)
theorem ow_no (w : World) (P : Nat → Prop) : ¬ Ow w P (w.heap.size + 1) := fun h => by have := h.2; omega
theorem ow_in {w : World} {P : Nat → Prop} (hP : ∀ b, w.heap.size ≤ b → P b) {b : Nat} (h : w.heap.size + 2 ≤ b) : Ow w P b := ⟨hP b (by omega), .inr h⟩
theorem PX.ow {w w' : World} {P : Nat → Prop} {e : Ex} {c : Option Addr} (h : PX w P e c) (hb : Below w.heap.size w w') : PX w' (Ow w P) e c := (h.low.mono (fun b hb => ⟨hb.1, .inl hb.2⟩)).later hb
theorem Bx.end {w wr : World} {pr : Array Value} {P : Nat → Prop} {x : Ex} {c : Option Addr} {cp : Nat} (h : Bx w wr pr) (hx : PX wr (Ow w P) x c) (row : Array Value) : GiR x P w (.returned (.agg #[.int .i64 x.k, .int .i64 x.n, .string x.s, .slice c x.l.length cp])) (wr.setRow (w.heap.size + 1) row) :=
 ⟨c, cp, rfl, (hx.row _ (ow_no w P)).mono (fun b hb => hb.1), h.bel.grown (grownBy_row _) h.bel.size (fun k e => by cases e; omega)⟩
theorem addS_any (a : Ex) (c : Option Addr) (cp : Nat) (n : Int) (P : Nat → Prop) (w : World) (h : PX w P a c) (hP : ∀ b, w.heap.size ≤ b → P b) : Calls Tryd.prog 68 #[.agg (a.cs c cp), .int .i64 n] w (GiR (addX a n) P w) := by
 have X0 := hide (Bx.new w #[.int .i64 a.k, .int .i64 a.n, .string a.s, .slice c a.l.length cp])
 have A0 := hide (h.ow (uh X0).bel)
 have HP := hide hP
 generalize hX : GiR (addX a n) P w = X
 have HX := hide hX
 unfold Ex.cs
 clear h hP hX
 by_cases hz : n % 65536 = 0
 ·
  have EQ0 := hide (show addX a n = a by unfold addX wr; rw [if_pos hz])
  rw [uh EQ0] at HX
  go_enter Tryd.func68, Tryd.ntmps68
  go_wp2_with fail
  generalize (w.alloc (.cells #[.int .i64 a.k, .int .i64 a.n, .string a.s, .slice c a.l.length cp] 43)).alloc (.cells #[.int .i64 0, .int .i64 0, .string ⟨#[]⟩, .slice none 0 0] 43) = W at *
  refine (wrapS_any _ _).mono ?_
  rintro e w' ⟨rfl, hw'⟩
  rw [hw', hz]
  clear hw' w'
  go_wp2_with (first | (refine wpList_load_row rfl 43 _ rfl w.heap.size rfl 43 #[.int .i64 a.k, .int .i64 a.n, .string a.s, .slice c a.l.length cp] (0, 0) _ (uh X0).box Tryd.underlying43 rfl (by kernel_rfl) ?_) | (refine wpList_store_row rfl 43 _ _ rfl (w.heap.size + 1) #[.int .i64 a.k, .int .i64 a.n, .string a.s, .slice c a.l.length cp] rfl rfl 43 _ (uh X0).res szE rfl (ex_one _ _ _ _ _ _) ?_))
  refine bodyPost_ret (results_cell_row (P := Tryd.prog) rfl _ _ (w.heap.size + 1) 43 #[.int .i64 a.k, .int .i64 a.n, .string a.s, .slice c a.l.length cp] (0, 0) _ rfl (setRow_heap _ _ _ _ _ _ (uh X0).res) Tryd.underlying43 rfl szE) rfl ?_
  rw [← uh HX]
  exact (uh X0).end (uh A0) _
 ·
  have hzb : (n % 65536 == 0) = false := beq_eq_false_iff_ne.2 hz
  have EQ0 := hide (show addX a n = ⟨5, 0, ⟨#[]⟩, [a, numX n]⟩ by unfold addX; rw [if_neg (show ¬ wr n = 0 from hz)]; rfl)
  rw [uh EQ0] at HX
  go_enter Tryd.func68, Tryd.ntmps68
  go_wp2_with (go_at_call 66; refine (wrapS_any _ _).mono ?_; rintro e w' ⟨rfl, hw'⟩; rw [hw']; clear hw' w')
  generalize (w.alloc (.cells #[.int .i64 a.k, .int .i64 a.n, .string a.s, .slice c a.l.length cp] 43)).alloc (.cells #[.int .i64 0, .int .i64 0, .string ⟨#[]⟩, .slice none 0 0] 43) = W at *
  have X1 := hide ((uh X0).later (below_drew (w := W)))
  have A1 := hide ((uh A0).later (below_drew (w := W)))
  have D1 := hide (uh X1).box
  clear X0 A0
  refine wp_region_held_drew (S := fun v => v.heap[w.heap.size]? = some (.cells #[.int .i64 a.k, .int .i64 a.n, .string a.s, .slice c a.l.length cp] 43 (0, 0))) (by kernel_rfl) (uh D1) (fun hS => ?_)
  have HS := hide hS
  clear hS
  generalize W.drew = W1 at *
  refine tkA 0 (.agg #[.int .i64 a.k, .int .i64 a.n, .string a.s, .slice c a.l.length cp]) rfl (yields_loadG (by rfl) 43 _ rfl w.heap.size rfl 43 #[.int .i64 a.k, .int .i64 a.n, .string a.s, .slice c a.l.length cp] _ (fun w h => h) Tryd.underlying43 rfl (by kernel_rfl)) (uh HS) ?_
  go_simp
  refine tkB 1 (.int .i64 n) rfl (uh HS) ?_
  go_simp
  refine wpAnyH_ready (rs := [2]) (by kernel_rfl) (by simp) ?_
  refine AllReadyH.cons rfl (fun K2 hK => ?_) AllReadyH.nil
  go_simp
  refine (numD n _).mono ?_
  rintro r w2 ⟨rfl, hb2⟩
  have X2 := hide ((uh X1).later hb2)
  have A2 := hide ((uh A1).later hb2)
  have D2 := hide (uh X2).box
  refine hK.out _ _ (uh D2) (fun hS => ?_)
  clear HS
  have HS := hide hS
  clear hS hK K2
  clear hb2 X1 A1 D1
  refine wpAnyH_ready (rs := [3]) (by kernel_rfl) (by simp) ?_
  refine AllReadyH.cons rfl (fun K2 hK => ?_) AllReadyH.nil
  go_simp
  have hb3 := below_new w2 (.cells #[.int .i64 a.k, .int .i64 a.n, .string a.s, .slice c a.l.length cp, .int .i64 1, .int .i64 (n % 65536), .string ⟨#[]⟩, .slice none 0 0] 43)
  have hP3 := ow_in (uh HP) (uh X2).lt
  have A3 := hide (show PX (w2.alloc (.cells #[.int .i64 a.k, .int .i64 a.n, .string a.s, .slice c a.l.length cp, .int .i64 1, .int .i64 (n % 65536), .string ⟨#[]⟩, .slice none 0 0] 43)) (Ow w P) ⟨5, 0, ⟨#[]⟩, [a, numX n]⟩ (some ⟨w2.heap.size, 0, none⟩) from (uh A2).two (k' := 5) (n := 0) (s := ⟨#[]⟩) (cp := cp) (dp := 0) (t := 43) (PX.leaf w2 (fun _ => False) 1 (wr n) (⟨#[]⟩ : ByteArray) none) (fun _ _ h => h) (fun _ h => h) (fun _ h => h.elim) hP3)
  have X3 := hide ((uh X2).later hb3)
  have D3 := hide (uh X3).box
  clear hb3 hP3 X2 A2 D2
  generalize w2.alloc (.cells #[.int .i64 a.k, .int .i64 a.n, .string a.s, .slice c a.l.length cp, .int .i64 1, .int .i64 (n % 65536), .string ⟨#[]⟩, .slice none 0 0] 43) = w3 at *
  generalize w2.heap.size = g2 at *
  refine hK.out _ _ (uh D3) (fun hS => ?_)
  clear HS
  have HS := hide hS
  clear hS hK K2
  refine tkB 4 (.agg #[.int .i64 5, .int .i64 0, .string ⟨#[]⟩, .slice (some ⟨g2, 0, none⟩) 2 2]) rfl (uh HS) ?_
  go_simp
  refine wpAnyH_ready (rs := [5]) (by kernel_rfl) (by simp) ?_
  refine AllReadyH.cons rfl (fun K2 hK => ?_) AllReadyH.nil
  rw [if_pos (by rfl)]
  refine wp_store_row 43 _ _ rfl (w.heap.size + 1) #[.int .i64 5, .int .i64 0, .string ⟨#[]⟩, .slice (some ⟨g2, 0, none⟩) 2 2] rfl rfl 43 _ (uh X3).res szE rfl (ex_one _ _ _ _ _ _) ?_
  refine hK.out _ _ ((setRow_other _ _ _ _ (by omega)).trans (uh D3)) (fun hS => ?_)
  clear HS
  have HS := hide hS
  clear hS hK K2
  refine wpAnyH_done (by kernel_rfl) ?_ _
  clear HS D3
  go_wp2
  refine bodyPost_ret (results_cell_row (P := Tryd.prog) rfl _ _ (w.heap.size + 1) 43 #[.int .i64 5, .int .i64 0, .string ⟨#[]⟩, .slice (some ⟨g2, 0, none⟩) 2 2] (0, 0) _ rfl (setRow_heap _ _ _ _ _ _ (uh X3).res) Tryd.underlying43 rfl szE) rfl ?_
  rw [← uh HX]
  exact (uh X3).end (uh A3) _
theorem twoI_any (k a b : Int) (hk : 5 ≤ k ∧ k ≤ 10) (ha : 0 ≤ a ∧ a ≤ 65535) (hb : 0 ≤ b ∧ b ≤ 65535) (w : World) : Calls Tryd.prog 72 #[.int .i64 k, .int .i64 a, .int .i64 b] w (TwoR k a b w) := by
 have hm0 : 0 ≤ a * b := Int.mul_nonneg ha.1 hb.1
 have hm1 : a * b ≤ 65535 * 65535 := Int.mul_le_mul ha.2 hb.2 hb.1 (by decide)
 have hm2 : a * b ≤ 4294836225 := by omega
 have hn1 : -9223372036854775808 ≤ a * b := by omega
 have hn2 : a * b ≤ 9223372036854775807 := by omega
 unfold TwoR
 have : k = 5 ∨ k = 6 ∨ k = 7 ∨ k = 8 ∨ k = 9 ∨ k = 10 := by omega
 clear hk
 rcases this with rfl | rfl | rfl | rfl | rfl | rfl
 ·
  have E := hide (show two11 5 a b = some ((a + b) % 65536) from rfl)
  rw [uh E]
  go_enter Tryd.func72, Tryd.ntmps72
  go_wp2_with (go_at_call 71; refine (wrapI_any _ _).mono ?_; rintro e w' ⟨rfl, hw'⟩; rw [hw']; clear hw' w')
  go_ret2
  exact ⟨rfl, rfl⟩
 ·
  have E := hide (show two11 6 a b = some ((a - b) % 65536) from rfl)
  rw [uh E]
  go_enter Tryd.func72, Tryd.ntmps72
  go_wp2_with (go_at_call 71; refine (wrapI_any _ _).mono ?_; rintro e w' ⟨rfl, hw'⟩; rw [hw']; clear hw' w')
  go_ret2
  exact ⟨rfl, rfl⟩
 ·
  have E := hide (show two11 7 a b = some ((a * b) % 65536) from rfl)
  rw [uh E]
  go_enter Tryd.func72, Tryd.ntmps72
  go_wp2_with (go_at_call 71; refine (wrapI_any _ _).mono ?_; rintro e w' ⟨rfl, hw'⟩; rw [hw']; clear hw' w')
  go_ret2
  exact ⟨rfl, rfl⟩
 ·
  by_cases h0 : b = 0
  ·
   subst h0
   rw [show two11 8 a 0 = none from rfl]
   go_enter Tryd.func72, Tryd.ntmps72
   go_wp2
   go_ret2
   exact ⟨rfl, rfl⟩
  ·
   have g0 : (b == 0) = false := beq_eq_false_iff_ne.2 h0
   have E := hide (show two11 8 a b = some (a / b) by unfold two11; rw [if_neg (by decide), if_neg (by decide), if_neg (by decide), if_neg (by decide), if_neg (by decide), if_neg h0])
   rw [uh E]
   go_enter Tryd.func72, Tryd.ntmps72
   go_wp2
   go_ret2
   exact ⟨rfl, rfl⟩
 ·
  have E := hide (show two11 9 a b = some (bits .and .i64 a b) from rfl)
  rw [uh E]
  go_enter Tryd.func72, Tryd.ntmps72
  go_wp2
  go_ret2
  exact ⟨rfl, rfl⟩
 ·
  have E := hide (show two11 10 a b = some (bits .or .i64 a b) from rfl)
  rw [uh E]
  go_enter Tryd.func72, Tryd.ntmps72
  go_wp2
  go_ret2
  exact ⟨rfl, rfl⟩
theorem tv_kT {d : Nat} {e : Ex} (h : okF (d + 1) false e = true) : ∃ T x, tv e = .iface T x ∧ (e.k ≠ 1 → T ≠ 115) ∧ (e.k ≠ 11 → T ≠ 111) ∧ (e.k ≠ 5 → T ≠ 118) := by
 rcases ok_cases h with ⟨n, hn, rfl⟩ | ⟨s, hs, rfl⟩ | rfl | ⟨a, ha, rfl⟩ | ⟨k, a, b, hk, ha, hb, rfl⟩ | ⟨n, hn, rfl⟩ | ⟨s, hs, rfl⟩
 · exact ⟨_, _, tv_num _ _, fun h => absurd rfl h, fun _ => by decide, fun _ => by decide⟩
 · exact ⟨_, _, tv_sym _ _, fun _ => by decide, fun _ => by decide, fun _ => by decide⟩
 · exact ⟨_, _, tv_here _ _, fun _ => by decide, fun _ => by decide, fun _ => by decide⟩
 · exact ⟨_, _, tv_neg _ _ _, fun _ => by decide, fun _ => by decide, fun _ => by decide⟩
 ·
  refine ⟨_, _, tv_two hk _ _ _ _, ?_⟩
  have : k = 5 ∨ k = 6 ∨ k = 7 ∨ k = 8 ∨ k = 9 ∨ k = 10 := by omega
  rcases this with rfl | rfl | rfl | rfl | rfl | rfl
  · exact ⟨fun _ => by decide, fun _ => by decide, fun h => absurd rfl h⟩
  all_goals exact ⟨fun _ => by decide, fun _ => by decide, fun _ => by decide⟩
 · exact ⟨_, _, tv_sect _ _, fun _ => by decide, fun h => absurd rfl h, fun _ => by decide⟩
 · exact ⟨_, _, tv_glob _ _, fun _ => by decide, fun _ => by decide, fun _ => by decide⟩
def VaR (v : Value) (w : World) (r : Ending) (w' : World) : Prop := r = .returned v ∧ Below w.heap.size w w'
theorem cutN_no (T : TypeId) (x : Value) (hT : T ≠ 118) (w : World) : Calls Tryd.prog 75 #[.iface T x] w (VaR (.tuple #[.iface T x, .int .i64 0]) w) := by
 have t1 := taN_add T x hT
 have FN := hide (fun r w' (h : r = .returned (.tuple #[.iface T x, .int .i64 0])) (hb : Below w.heap.size w w') => (show VaR _ w r w' from ⟨h, hb⟩))
 generalize VaR (.tuple #[.iface T x, .int .i64 0]) w = R at *
 have B0 := hide (below_new w (.cells #[.nilIface, .nilIface] 118))
 clear hT
 go_enter Tryd.func75, Tryd.ntmps75
 go_wp2
 (first | go_ret2 | go_ret | skip)
 exact uh FN _ _ rfl (by first | exact uh B0 | exact Below.refl _ _)
theorem cutN_mis (t u : TypeId) (x y : Value) (hu : u ≠ 115) (w : World) : Calls Tryd.prog 75 #[.iface 118 (.agg #[.iface t x, .iface u y])] w (VaR (.tuple #[.iface 118 (.agg #[.iface t x, .iface u y]), .int .i64 0]) w) := by
 have t1 := taY_add (.agg #[.iface t x, .iface u y])
 have t2 := taN_num u y hu
 have FN := hide (fun r w' (h : r = .returned (.tuple #[.iface 118 (.agg #[.iface t x, .iface u y]), .int .i64 0])) (hb : Below w.heap.size w w') => (show VaR _ w r w' from ⟨h, hb⟩))
 generalize VaR (.tuple #[.iface 118 (.agg #[.iface t x, .iface u y]), .int .i64 0]) w = R at *
 clear hu
 go_enter Tryd.func75, Tryd.ntmps75
 go_wp2
 (first | go_ret2 | go_ret | skip)
 exact uh FN _ _ rfl (by first | exact Below.refl _ _ | exact (Below.refl _ _).alloc (Nat.le_refl _) _ | exact ((Below.refl _ _).alloc (Nat.le_refl _) _).alloc (by simp) _)
theorem two_resG (w : World) (o o2 : Obj) : Below w.heap.size w ((w.alloc o).alloc o2) ∧ ((w.alloc o).alloc o2).heap[w.heap.size]? = some o ∧ ((w.alloc o).alloc o2).heap[w.heap.size + 1]? = some o2 := by
 have h1 : (w.alloc o).heap.size = w.heap.size + 1 := by simp
 refine ⟨((Below.refl _ _).alloc (Nat.le_refl _) _).alloc (by simp) _, row_keep (heap_alloc_new w _) (below_new _ _), ?_⟩
 rw [← h1]
 exact Array.getElem?_push_size
theorem below_dr {w w' : World} (h : Below w.heap.size w w') : Below w.heap.size w w'.drew := h.trans (below_drew.mono h.size)
theorem cutN_yes (t : TypeId) (x : Value) (n : Int) (w : World) : Calls Tryd.prog 75 #[.iface 118 (.agg #[.iface t x, .iface 115 (.agg #[.int .i64 n])])] w (VaR (.tuple #[.iface t x, .int .i64 n]) w) := by
 have t1 := taY_add (.agg #[.iface t x, .iface 115 (.agg #[.int .i64 n])])
 have t2 := taY_num (.agg #[.int .i64 n])
 have FN := hide (fun r w' (h : r = .returned (.tuple #[.iface t x, .int .i64 n])) (hb : Below w.heap.size w w') => (show VaR _ w r w' from ⟨h, hb⟩))
 generalize VaR (.tuple #[.iface t x, .int .i64 n]) w = R at *
 have T := hide (two_resG w (.cells #[.iface t x, .iface 115 (.agg #[.int .i64 n])] 118) (.cells #[.int .i64 n] 115))
 go_enter Tryd.func75, Tryd.ntmps75
 go_wp2
 generalize (w.alloc (.cells #[.iface t x, .iface 115 (.agg #[.int .i64 n])] 118)).alloc (.cells #[.int .i64 n] 115) = W at *
 have c0 := Lib.cell_of_heap (uh T).2.1 0
 have c1 := Lib.cell_of_heap (uh T).2.2 0
 go_region
 go_wp2
 (first | go_ret2 | go_ret | skip)
 exact uh FN _ _ rfl (below_dr (uh T).1)
theorem cutI_any {d : Nat} {a : Ex} (h : okF (d + 1) false a = true) (w : World) : Calls Tryd.prog 75 #[tv a] w (VaR (.tuple #[tv (prtX a).1, .int .i64 (prtX a).2]) w) := by
 rcases prt_cases h with ⟨e, hc⟩ | ⟨b, m, hm, rfl, e, hb⟩
 ·
  rw [e]
  by_cases h5 : a.k = 5
  ·
   obtain ⟨k, n, s, l⟩ := a
   rcases ok_cases h with ⟨n', hn, e'⟩ | ⟨s', hs, e'⟩ | e' | ⟨a', ha, e'⟩ | ⟨k', a', b', hk, ha, hb, e'⟩ | ⟨n', hn, e'⟩ | ⟨s', hs, e'⟩
   · rw [e'] at h5; cases h5
   · rw [e'] at h5; cases h5
   · rw [e'] at h5; cases h5
   · rw [e'] at h5; cases h5
   ·
    rw [e'] at h5 hc ⊢
    obtain rfl : k' = 5 := h5
    obtain ⟨c, rfl⟩ := ok_pos hb
    obtain ⟨t, x, e1⟩ := tv_if a'
    obtain ⟨u, y, e2, g1, _, _⟩ := tv_kT hb
    rw [tv_two hk, e1, e2]
    exact cutN_mis t u x y (g1 (fun q => hc ⟨rfl, q⟩)) w
   · rw [e'] at h5; cases h5
   · rw [e'] at h5; cases h5
  ·
   obtain ⟨T, x, e1, _, _, g⟩ := tv_kT h
   rw [e1]
   exact cutN_no T x (g h5) w
 ·
  rw [e, tv_two (by omega), tv_num]
  obtain ⟨t, x, e1⟩ := tv_if b
  rw [e1]
  exact cutN_yes t x m w
theorem prt_inG {d : Nat} {a : Ex} (h : okF (d + 1) false a = true) : 0 ≤ (prtX a).2 ∧ (prtX a).2 ≤ 65535 := by
 rcases prt_cases h with ⟨e, hc⟩ | ⟨b, m, hm, rfl, e, hb⟩
 · rw [e]; exact ⟨Int.le_refl _, by show (0 : Int) ≤ 65535; omega⟩
 · rw [e]; exact hm
theorem addI_any {d : Nat} {a : Ex} (h : okF (d + 1) false a = true) (n : Int) (hn : -65536 ≤ n ∧ n ≤ 65536) (w : World) : Calls Tryd.prog 73 #[tv a, .int .i64 n] w (VaR (tv (sumX a n)) w) := by
 have CU := hide (cutI_any h w)
 have hp := prt_inG h
 obtain ⟨t0, x0, e0⟩ := tv_if a
 obtain ⟨t, x, e1⟩ := tv_if (prtX a).1
 have E0 := hide (show wr (n + (prtX a).2) = 0 → tv (sumX a n) = .iface t x from fun hz => by unfold sumX addX; rw [if_pos (by rw [Int.add_comm]; exact hz), e1])
 have E1 := hide (show wr (n + (prtX a).2) ≠ 0 → tv (sumX a n) = .iface 118 (.agg #[.iface t x, .iface 115 (.agg #[.int .i64 (wr (n + (prtX a).2))])]) from fun hz => by
  unfold sumX addX numX
  rw [if_neg (by rw [Int.add_comm]; exact hz), tv_two (by omega), tv_num, e1, Int.add_comm]
  rfl)
 rw [e1, e0] at CU
 rw [e0]
 unfold wr at E0 E1
 have FN := hide (fun r w' (h : r = .returned (tv (sumX a n))) (hb : Below w.heap.size w w') => (show VaR _ w r w' from ⟨h, hb⟩))
 generalize tv (sumX a n) = V at *
 generalize VaR V w = R at *
 generalize (prtX a).2 = m at *
 unfold VaR at CU
 clear h e0 e1
 by_cases hz : (n + m) % 65536 = 0
 ·
  have E := uh E0 hz
  subst E
  have hz2 : ((n + m) % 65536 == 0) = true := beq_iff_eq.2 hz
  have hq := hz
  clear E0 E1 hz
  generalize hM : (n + m) % 65536 = M at *
  have HM := hide hM
  subst hq
  clear hM
  go_enter Tryd.func73, Tryd.ntmps73
  go_wp2_with (first | (go_at_call 75; refine (uh CU).mono ?_; rintro r w1 ⟨rfl, hb1⟩; have B1 := hide hb1; clear hb1) | (go_at_call 71; refine (wrapI_any _ _).mono ?_; rintro e w' ⟨rfl, hw'⟩; rw [hw', uh HM]; clear hw' w'))
  (first | go_ret2 | go_ret | skip)
  exact uh FN _ _ rfl (uh B1)
 ·
  have E := uh E1 hz
  subst E
  have hz2 : ((n + m) % 65536 == 0) = false := beq_eq_false_iff_ne.2 hz
  clear E0 E1 hz
  generalize hM : (n + m) % 65536 = M at *
  have HM := hide hM
  clear hM
  go_enter Tryd.func73, Tryd.ntmps73
  go_wp2_with (first | (go_at_call 75; refine (uh CU).mono ?_; rintro r w1 ⟨rfl, hb1⟩; have B1 := hide hb1; clear hb1) | (go_at_call 71; refine (wrapI_any _ _).mono ?_; rintro e w' ⟨rfl, hw'⟩; rw [hw', uh HM]; clear hw' w'))
  (first | go_ret2 | go_ret | skip)
  exact uh FN _ _ rfl (uh B1)
theorem leaf_eq (d : Nat) (w : World) : (Op.equalIn (d + 1) 105 (.agg #[]) (.agg #[])).run Tryd.prog w = .ok true w := by
 rw [run_equalIn_struct w d 105 _ _ (by kernel_rfl) (by kernel_rfl), show (Tryd.prog.fieldsOf 105).toList = [] by kernel_rfl]
 rfl
theorem sect_eq (n m : Int) (w : World) : (Op.equalIn 10000 111 (.agg #[.int .i64 n]) (.agg #[.int .i64 m])).run Tryd.prog w = .ok (n == m) w := by
 rw [run_equalIn_struct w 9999 111 _ _ (by kernel_rfl) (by kernel_rfl)]
 have hf : (Tryd.prog.fieldsOf 111).toList.map (fun f => (f.name, f.type, f.offset)) = [("leaf", 105, 0), ("n", 3, 0)] := by kernel_rfl
 have hlen := congrArg List.length hf
 rw [List.length_map] at hlen
 generalize (Tryd.prog.fieldsOf 111).toList = fs at *
 match fs, hlen, hf with
 | [f0, f1], _, hf =>
  simp only [List.map_cons, List.map_nil, List.cons.injEq, Prod.mk.injEq] at hf
  obtain ⟨⟨n0, t0, o0⟩, ⟨n1, t1, o1⟩, _⟩ := hf
  have q0 : ∀ n : Int, (part 105 #[.int .i64 n] 0).run Tryd.prog w = .ok (.agg #[]) w := fun n => by kernel_rfl
  have q1 : ∀ n : Int, (part 3 #[.int .i64 n] 0).run Tryd.prog w = .ok (.int .i64 n) w := fun n => by kernel_rfl
  have s0 := leaf_eq 9998 w
  have s1 := run_equalIn_int w 9998 3 .i64 .i64 n m Tryd.underlying3
  simp only [Op.eqFields, n0, n1, t0, t1, o0, o1, Sem.run_bind, Sem.run_ite, q0, q1, Result.andThen_ok, s0, s1]
  cases n == m <;> simp
def sApX (a b : Ex) : Bool := decide ((prtX a).1.k = 11 ∧ (prtX b).1.k = 11 ∧ (prtX a).1.n = (prtX b).1.n)
def ApR (n m : Int) (q : Bool) (w : World) (r : Ending) (w' : World) : Prop := r = .returned (.tuple #[.int .i64 (wr (n - m)), .bool q]) ∧ Below w.heap.size w w'
def IsS (v : Value) (z : Int) (q : Bool) : Prop := ∀ w, (Instr.typeAssert v 81 111 true).run Tryd.prog w = .ok (.tuple #[.agg #[.int .i64 z], .bool q]) w
theorem ap_any (va vb : Value) (ta tb : TypeId) (xa xb : Value) (n m z1 z2 : Int) (q1 q2 : Bool) (i1 : IsS (.iface ta xa) z1 q1) (i2 : IsS (.iface tb xb) z2 q2) (hn : 0 ≤ n ∧ n ≤ 65535) (hm : 0 ≤ m ∧ m ≤ 65535) (w : World) (ca : ∀ w, Calls Tryd.prog 75 #[va] w (VaR (.tuple #[.iface ta xa, .int .i64 n]) w)) (cb : ∀ w, Calls Tryd.prog 75 #[vb] w (VaR (.tuple #[.iface tb xb, .int .i64 m]) w)) : Calls Tryd.prog 74 #[.agg #[va, vb]] w (ApR n m (q1 && (q2 && (z1 == z2))) w) := by
 have FN := hide (fun r w' (h : r = .returned (.tuple #[.int .i64 (wr (n - m)), .bool (q1 && (q2 && (z1 == z2)))])) (hb : Below w.heap.size w w') => (show ApR n m (q1 && (q2 && (z1 == z2))) w r w' from ⟨h, hb⟩))
 generalize ApR n m (q1 && (q2 && (z1 == z2))) w = R at *
 have CA := hide ca
 have CB := hide cb
 unfold VaR at CA CB
 unfold wr at FN
 unfold IsS at i1 i2
 have B0 := hide (below_new w (.cells #[va, vb] 99))
 have G0 := hide (show (w.alloc (.cells #[va, vb] 99)).heap[w.heap.size]? = some (.cells #[va, vb] 99 (0, 0)) from Array.getElem?_push_size)
 have eqs := sect_eq z1 z2
 clear ca cb
 cases q1 <;> cases q2
 all_goals
  simp only [Bool.false_and, Bool.true_and] at FN
  go_enter Tryd.func74, Tryd.ntmps74
  go_wp2_with fail
  generalize w.alloc (.cells #[va, vb] 99) = W at *
  refine (uh CA _).mono ?_
  rintro r w1 ⟨rfl, hb1⟩
  have B1 := hide ((uh B0).trans (hb1.mono (uh B0).size))
  have c1 := Lib.cell_of_heap (row_keep (uh G0) hb1) 1
  clear hb1 B0 G0 CA
  go_wp2_with fail
  clear c1
  refine (uh CB _).mono ?_
  rintro r w2 ⟨rfl, hb2⟩
  have B2 := hide ((uh B1).trans (hb2.mono (uh B1).size))
  clear hb2 B1 CB
  go_wp2_with fail
  have T := two_resG w2 (.cells #[.int .i64 z1] 111) (.cells #[.int .i64 z2] 111)
  have B3 := hide ((uh B2).trans (T.1.mono (uh B2).size))
  generalize w2.heap.size = g2 at *
  generalize (w2.alloc (.cells #[.int .i64 z1] 111)).alloc (.cells #[.int .i64 z2] 111) = V at *
  have y0 : ∀ y : Sub V.heap.size V, y.w.cell? ⟨g2, 0, none⟩ = some (.int .i64 z1) := fun y => (y.h.cell (p := ⟨g2, 0, none⟩) (Array.getElem?_eq_some_iff.1 T.2.1).1).trans (Lib.cell_of_heap T.2.1 0)
  have y1 : ∀ y : Sub V.heap.size V, y.w.cell? ⟨g2 + 1, 0, none⟩ = some (.int .i64 z2) := fun y => (y.h.cell (p := ⟨g2 + 1, 0, none⟩) (Array.getElem?_eq_some_iff.1 T.2.2).1).trans (Lib.cell_of_heap T.2.2 0)
  have ne := Sub.ne V.heap.size V
  have HB := hide (fun y : Sub V.heap.size V => (uh B3).trans (y.h.mono (uh B3).size))
  clear T B2 B3
  refine wp_region_sub (⟨V, Below.refl _ _⟩ : Sub V.heap.size V) (by kernel_rfl) (by kernel_rfl) ?_
  (repeat (go_big_quiet_step (first | (go_at_call 71; exact Sub.same (wrapI_any _ _)))))
  refine wpQuiet_nil ?_
  intro y
  go_wp2
  (first | go_ret2 | go_ret | skip)
  exact uh FN _ _ rfl (uh HB _)
theorem apI_any {d : Nat} {a b : Ex} (ha : okF (d + 1) false a = true) (hb : okF (d + 1) false b = true) (w : World) : Calls Tryd.prog 74 #[.agg #[tv a, tv b]] w (ApR (prtX a).2 (prtX b).2 (sApX a b) w) := by
 have ca := fun w => cutI_any ha w
 have cb := fun w => cutI_any hb w
 obtain ⟨da, oa⟩ := prt_ok ha
 obtain ⟨db, ob⟩ := prt_ok hb
 have ia := prt_inG ha
 have ib := prt_inG hb
 unfold sApX
 generalize (prtX a).2 = n at *
 generalize (prtX b).2 = m at *
 generalize (prtX a).1 = x at *
 generalize (prtX b).1 = y at *
 have IS : ∀ {d : Nat} {x : Ex}, okF (d + 1) false x = true → (x.k = 11 ∧ IsS (tv x) x.n true) ∨ (x.k ≠ 11 ∧ IsS (tv x) 0 false) := by
  intro d x h
  by_cases h1 : x.k = 11
  ·
   obtain ⟨p, hp, rfl⟩ := ok_k11 h h1
   left
   rw [tv_sect]
   exact ⟨rfl, fun w => taY_sect _ w⟩
  ·
   right
   obtain ⟨T, v, e, _, g, _⟩ := tv_kT h
   rw [e]
   exact ⟨h1, fun w => taN_sect T v (g h1) w⟩
 have I1 := IS oa
 have I2 := IS ob
 obtain ⟨ta, xa, e1⟩ := tv_if x
 obtain ⟨tb, xb, e2⟩ := tv_if y
 rw [e1] at ca I1
 rw [e2] at cb I2
 rcases I1 with ⟨h1, i1⟩ | ⟨h1, i1⟩
 ·
  rcases I2 with ⟨h2, i2⟩ | ⟨h2, i2⟩
  ·
   rw [show decide (x.k = 11 ∧ y.k = 11 ∧ x.n = y.n) = (true && (true && (x.n == y.n))) by rw [h1, h2]; simp; rfl]
   exact ap_any _ _ ta tb xa xb n m _ _ true true i1 i2 ia ib w ca cb
  ·
   rw [decide_eq_false (fun h => h2 h.2.1)]
   exact ap_any _ _ ta tb xa xb n m _ _ true false i1 i2 ia ib w ca cb
 ·
  rw [decide_eq_false (fun h => h1 h.1)]
  rcases I2 with ⟨h2, i2⟩ | ⟨h2, i2⟩
  · exact ap_any _ _ ta tb xa xb n m _ _ false true i1 i2 ia ib w ca cb
  · exact ap_any _ _ ta tb xa xb n m _ _ false false i1 i2 ia ib w ca cb
theorem negI_num (n : Int) (hn : 0 ≤ n ∧ n ≤ 65535) (w : World) : Calls Tryd.prog 63 #[.iface 115 (.agg #[.int .i64 n])] w (VaR (.iface 115 (.agg #[.int .i64 (wr (-n))])) w) := by
 have t1 := taY_num (.agg #[.int .i64 n])
 have FN := hide (fun r w' (h : r = .returned (.iface 115 (.agg #[.int .i64 (wr (-n))]))) (hb : Below w.heap.size w w') => (show VaR _ w r w' from ⟨h, hb⟩))
 generalize VaR (.iface 115 (.agg #[.int .i64 (wr (-n))])) w = R at *
 unfold wr at FN
 go_enter Tryd.func63, Tryd.ntmps63
 go_wp2_with (go_at_call 71; refine (wrapI_any _ _).mono ?_; rintro e w0 ⟨rfl, hw0⟩; rw [hw0]; clear hw0 w0)
 (first | go_ret2 | go_ret | skip)
 exact uh FN _ _ rfl (by first | exact Below.refl _ _ | exact below_new w _ | exact ((Below.refl _ _).alloc (Nat.le_refl _) _).alloc (by simp) _)
theorem negI_oth (t : TypeId) (x : Value) (ht : t ≠ 115) (w : World) : Calls Tryd.prog 63 #[.iface t x] w (VaR (.iface 96 (.agg #[.iface t x])) w) := by
 have t1 := taN_num t x ht
 have FN := hide (fun r w' (h : r = .returned (.iface 96 (.agg #[.iface t x]))) (hb : Below w.heap.size w w') => (show VaR _ w r w' from ⟨h, hb⟩))
 generalize VaR (.iface 96 (.agg #[.iface t x])) w = R at *
 clear ht
 go_enter Tryd.func63, Tryd.ntmps63
 go_wp2
 (first | go_ret2 | go_ret | skip)
 exact uh FN _ _ rfl (by first | exact Below.refl _ _ | exact below_new w _ | exact ((Below.refl _ _).alloc (Nat.le_refl _) _).alloc (by simp) _)
theorem negI_any {d : Nat} {a : Ex} (h : okF (d + 1) false a = true) (w : World) : Calls Tryd.prog 63 #[tv a] w (VaR (tv (negX a)) w) := by
 unfold negX
 by_cases h1 : a.k = 1
 ·
  obtain ⟨n, hn, rfl⟩ := ok_k1 h h1
  rw [if_pos h1, tv_num]
  unfold numX
  rw [tv_num]
  exact negI_num n hn w
 ·
  obtain ⟨T, x, e, g, _, _⟩ := tv_kT h
  rw [if_neg h1, tv_neg, e]
  exact negI_oth T x (g h1) w
def eqB (a b : ByteArray) : Bool := a.toList == b.toList
theorem eqB_iff (a b : ByteArray) : eqB a b = true ↔ a = b := by
 unfold eqB
 rw [ByteArray.toList_eq, ByteArray.toList_eq, beq_iff_eq]
 exact ⟨fun h => bytes_inj h, fun h => by rw [h]⟩
def headX (a b : Ex) : Bool := a.k == b.k && (a.n == b.n && (eqB a.s b.s && a.l.length == b.l.length))
theorem headX_iff (a b : Ex) : headX a b = true ↔ a.k = b.k ∧ a.n = b.n ∧ a.s = b.s ∧ a.l.length = b.l.length := by
 unfold headX
 simp only [Bool.and_eq_true, beq_iff_eq, eqB_iff]
def sameX : Ex → Ex → Bool
 | ⟨k, n, s, l⟩ => fun b => headX ⟨k, n, s, l⟩ b && ((l.map sameX).zip b.l).all (fun p => p.1 p.2)
theorem sameX_eq (a b : Ex) : sameX a b = (headX a b && ((a.l.map sameX).zip b.l).all (fun p => p.1 p.2)) := by
 obtain ⟨k, n, s, l⟩ := a
 rw [sameX]
theorem sameX_iff (a : Ex) : ∀ b, sameX a b = true ↔ a = b := by
 induction a using Ex.ind with
 | h k n s l ih =>
  intro b
  rw [sameX_eq, Bool.and_eq_true, headX_iff, List.all_eq_true]
  constructor
  ·
   rintro ⟨⟨h1, h2, h3, h4⟩, h5⟩
   obtain ⟨bk, bn, bs, bl⟩ := b
   simp only at h1 h2 h3 h4 h5
   subst h1 h2 h3
   congr 1
   apply List.ext_getElem h4
   intro i hi hj
   have hm : (sameX l[i], bl[i]) ∈ (l.map sameX).zip bl := by
    have hz : i < ((l.map sameX).zip bl).length := by simp; omega
    have := List.getElem_mem hz
    simpa using this
   exact (ih _ (List.getElem_mem hi) _).1 (h5 _ hm)
  ·
   rintro rfl
   refine ⟨⟨rfl, rfl, rfl, rfl⟩, fun p hp => ?_⟩
   simp only at hp
   obtain ⟨i, hi, rfl⟩ := List.getElem_of_mem hp
   simp only [List.length_zip, List.length_map] at hi
   simp only [List.getElem_zip, List.getElem_map]
   exact (ih _ (List.getElem_mem (by omega)) _).2 rfl
def sameN (l m : List Ex) (k : Nat) : Bool := (List.range k).all (fun i => sameX (xAt l i) (xAt m i))
theorem sameN_s (l m : List Ex) (k : Nat) : sameN l m (k + 1) = (sameN l m k && sameX (xAt l k) (xAt m k)) := by
 unfold sameN
 rw [List.range_succ, List.all_append]
 simp
theorem sameN_part {l m : List Ex} {k n : Nat} (hk : k < n) (h : sameX (xAt l k) (xAt m k) = false) : sameN l m n = false := by
 unfold sameN
 rw [List.all_eq_false]
 exact ⟨k, by simpa using hk, by rw [h]; decide⟩
theorem sameX_n (a b : Ex) : sameX a b = (headX a b && sameN a.l b.l a.l.length) := by
 rw [Bool.eq_iff_iff, sameX_iff]
 constructor
 ·
  rintro rfl
  rw [Bool.and_eq_true]
  refine ⟨(headX_iff _ _).2 ⟨rfl, rfl, rfl, rfl⟩, ?_⟩
  unfold sameN
  rw [List.all_eq_true]
  intro i _
  exact (sameX_iff _ _).2 rfl
 ·
  intro h
  rw [Bool.and_eq_true, headX_iff] at h
  obtain ⟨⟨h1, h2, h3, h4⟩, h5⟩ := h
  unfold sameN at h5
  rw [List.all_eq_true] at h5
  obtain ⟨ak, an, as_, al⟩ := a
  obtain ⟨bk, bn, bs, bl⟩ := b
  simp only at h1 h2 h3 h4 h5
  subst h1 h2 h3
  congr 1
  apply List.ext_getElem h4
  intro i hi hj
  have := (sameX_iff _ _).1 (h5 i (by simpa using hi))
  rwa [xAt_get hi, xAt_get hj] at this
def tyK (k : Int) : TypeId := if k = 1 then 115 else if k = 2 then 107 else if k = 3 then 109 else if k = 4 then 96 else if k = 11 then 111 else if k = 12 then 116 else pairT k
theorem tyK_inj {k l : Int} (hk : 1 ≤ k ∧ k ≤ 12) (hl : 1 ≤ l ∧ l ≤ 12) (h : tyK k = tyK l) : k = l := by
 have h1 : k = 1 ∨ k = 2 ∨ k = 3 ∨ k = 4 ∨ k = 5 ∨ k = 6 ∨ k = 7 ∨ k = 8 ∨ k = 9 ∨ k = 10 ∨ k = 11 ∨ k = 12 := by omega
 have h2 : l = 1 ∨ l = 2 ∨ l = 3 ∨ l = 4 ∨ l = 5 ∨ l = 6 ∨ l = 7 ∨ l = 8 ∨ l = 9 ∨ l = 10 ∨ l = 11 ∨ l = 12 := by omega
 rcases h1 with rfl | rfl | rfl | rfl | rfl | rfl | rfl | rfl | rfl | rfl | rfl | rfl <;> rcases h2 with rfl | rfl | rfl | rfl | rfl | rfl | rfl | rfl | rfl | rfl | rfl | rfl <;> first | rfl | exact absurd h (by decide)
theorem tv_ty {d : Nat} {e : Ex} (h : okF (d + 1) false e = true) : (1 ≤ e.k ∧ e.k ≤ 12) ∧ ∃ x, tv e = .iface (tyK e.k) x := by
 rcases ok_cases h with ⟨n, hn, rfl⟩ | ⟨s, hs, rfl⟩ | rfl | ⟨a, ha, rfl⟩ | ⟨k, a, b, hk, ha, hb, rfl⟩ | ⟨n, hn, rfl⟩ | ⟨s, hs, rfl⟩
 · exact ⟨(show (1 : Int) ≤ 1 ∧ (1 : Int) ≤ 12 by decide), _, by rw [tv_num]; rfl⟩
 · exact ⟨(show (1 : Int) ≤ 2 ∧ (2 : Int) ≤ 12 by decide), _, by rw [tv_sym]; rfl⟩
 · exact ⟨(show (1 : Int) ≤ 3 ∧ (3 : Int) ≤ 12 by decide), _, by rw [tv_here]; rfl⟩
 · exact ⟨(show (1 : Int) ≤ 4 ∧ (4 : Int) ≤ 12 by decide), _, by rw [tv_neg]; rfl⟩
 ·
  refine ⟨⟨by show 1 ≤ k; omega, by show k ≤ 12; omega⟩, .agg #[tv a, tv b], ?_⟩
  rw [tv_two hk]
  show _ = Value.iface (tyK k) _
  unfold tyK
  rw [if_neg (by omega), if_neg (by omega), if_neg (by omega), if_neg (by omega), if_neg (by omega), if_neg (by omega)]
 · exact ⟨(show (1 : Int) ≤ 11 ∧ (11 : Int) ≤ 12 by decide), _, by rw [tv_sect]; rfl⟩
 · exact ⟨(show (1 : Int) ≤ 12 ∧ (12 : Int) ≤ 12 by decide), _, by rw [tv_glob]; rfl⟩
theorem if_ne (D : Nat) (T U : TypeId) (x y : Value) (h : T ≠ U) (w : World) : (Op.equalIn (D + 1) 81 (.iface T x) (.iface U y)).run Tryd.prog w = .ok false w := by
 simp [Op.equalIn, run_underlying Tryd.underlying81, h]
theorem if_eq (D : Nat) (T : TypeId) (x y : Value) (h : (Tryd.prog.info? T).map (·.comparable) = some true) (w : World) : (Op.equalIn (D + 1) 81 (.iface T x) (.iface T y)).run Tryd.prog w = (Op.equalIn D T x y).run Tryd.prog w := by
 cases hi : Tryd.prog.info? T with
 | none => simp [hi] at h
 | some i =>
  have hc : i.comparable = true := by simpa [hi] using h
  simp [Op.equalIn, run_underlying Tryd.underlying81, typeInfo, hi, hc]
theorem nq_num (D : Nat) (n m : Int) (w : World) : (Op.equalIn (D + 2) 115 (.agg #[.int .i64 n]) (.agg #[.int .i64 m])).run Tryd.prog w = .ok (n == m) w := by
 rw [run_equalIn_struct w (D + 1) 115 _ _ (by kernel_rfl) (by kernel_rfl)]
 have hf : (Tryd.prog.fieldsOf 115).toList.map (fun f => (f.name, f.type, f.offset)) = [("leaf", 105, 0), ("n", 3, 0)] := by kernel_rfl
 have hlen := congrArg List.length hf
 rw [List.length_map] at hlen
 generalize (Tryd.prog.fieldsOf 115).toList = fs at *
 match fs, hlen, hf with
 | [f0, f1], _, hf =>
  simp only [List.map_cons, List.map_nil, List.cons.injEq, Prod.mk.injEq] at hf
  obtain ⟨⟨n0, t0, o0⟩, ⟨n1, t1, o1⟩, _⟩ := hf
  have q0 : ∀ n : Int, (part 105 #[.int .i64 n] 0).run Tryd.prog w = .ok (.agg #[]) w := fun n => by kernel_rfl
  have q1 : ∀ n : Int, (part 3 #[.int .i64 n] 0).run Tryd.prog w = .ok (.int .i64 n) w := fun n => by kernel_rfl
  have s0 := leaf_eq D w
  have s1 := run_equalIn_int w D 3 .i64 .i64 n m Tryd.underlying3
  simp only [Op.eqFields, n0, t0, o0, n1, t1, o1, Sem.run_bind, Sem.run_ite, Result.andThen_ok, q0, q1, s0, s1]
  cases (n == m) <;> simp
theorem nq_sect (D : Nat) (n m : Int) (w : World) : (Op.equalIn (D + 2) 111 (.agg #[.int .i64 n]) (.agg #[.int .i64 m])).run Tryd.prog w = .ok (n == m) w := by
 rw [run_equalIn_struct w (D + 1) 111 _ _ (by kernel_rfl) (by kernel_rfl)]
 have hf : (Tryd.prog.fieldsOf 111).toList.map (fun f => (f.name, f.type, f.offset)) = [("leaf", 105, 0), ("n", 3, 0)] := by kernel_rfl
 have hlen := congrArg List.length hf
 rw [List.length_map] at hlen
 generalize (Tryd.prog.fieldsOf 111).toList = fs at *
 match fs, hlen, hf with
 | [f0, f1], _, hf =>
  simp only [List.map_cons, List.map_nil, List.cons.injEq, Prod.mk.injEq] at hf
  obtain ⟨⟨n0, t0, o0⟩, ⟨n1, t1, o1⟩, _⟩ := hf
  have q0 : ∀ n : Int, (part 105 #[.int .i64 n] 0).run Tryd.prog w = .ok (.agg #[]) w := fun n => by kernel_rfl
  have q1 : ∀ n : Int, (part 3 #[.int .i64 n] 0).run Tryd.prog w = .ok (.int .i64 n) w := fun n => by kernel_rfl
  have s0 := leaf_eq D w
  have s1 := run_equalIn_int w D 3 .i64 .i64 n m Tryd.underlying3
  simp only [Op.eqFields, n0, t0, o0, n1, t1, o1, Sem.run_bind, Sem.run_ite, Result.andThen_ok, q0, q1, s0, s1]
  cases (n == m) <;> simp
theorem nq_sym (D : Nat) (n m : ByteArray) (w : World) : (Op.equalIn (D + 2) 107 (.agg #[.string n]) (.agg #[.string m])).run Tryd.prog w = .ok (n.toList == m.toList) w := by
 rw [run_equalIn_struct w (D + 1) 107 _ _ (by kernel_rfl) (by kernel_rfl)]
 have hf : (Tryd.prog.fieldsOf 107).toList.map (fun f => (f.name, f.type, f.offset)) = [("leaf", 105, 0), ("name", 9, 0)] := by kernel_rfl
 have hlen := congrArg List.length hf
 rw [List.length_map] at hlen
 generalize (Tryd.prog.fieldsOf 107).toList = fs at *
 match fs, hlen, hf with
 | [f0, f1], _, hf =>
  simp only [List.map_cons, List.map_nil, List.cons.injEq, Prod.mk.injEq] at hf
  obtain ⟨⟨n0, t0, o0⟩, ⟨n1, t1, o1⟩, _⟩ := hf
  have q0 : ∀ n : ByteArray, (part 105 #[.string n] 0).run Tryd.prog w = .ok (.agg #[]) w := fun n => by kernel_rfl
  have q1 : ∀ n : ByteArray, (part 9 #[.string n] 0).run Tryd.prog w = .ok (.string n) w := fun n => by kernel_rfl
  have s0 := leaf_eq D w
  have s1 := run_equalIn_string w D 9 n m Tryd.underlying9
  simp only [Op.eqFields, n0, t0, o0, n1, t1, o1, Sem.run_bind, Sem.run_ite, Result.andThen_ok, q0, q1, s0, s1]
  cases (n.toList == m.toList) <;> simp
theorem nq_glob (D : Nat) (n m : ByteArray) (w : World) : (Op.equalIn (D + 2) 116 (.agg #[.string n]) (.agg #[.string m])).run Tryd.prog w = .ok (n.toList == m.toList) w := by
 rw [run_equalIn_struct w (D + 1) 116 _ _ (by kernel_rfl) (by kernel_rfl)]
 have hf : (Tryd.prog.fieldsOf 116).toList.map (fun f => (f.name, f.type, f.offset)) = [("leaf", 105, 0), ("name", 9, 0)] := by kernel_rfl
 have hlen := congrArg List.length hf
 rw [List.length_map] at hlen
 generalize (Tryd.prog.fieldsOf 116).toList = fs at *
 match fs, hlen, hf with
 | [f0, f1], _, hf =>
  simp only [List.map_cons, List.map_nil, List.cons.injEq, Prod.mk.injEq] at hf
  obtain ⟨⟨n0, t0, o0⟩, ⟨n1, t1, o1⟩, _⟩ := hf
  have q0 : ∀ n : ByteArray, (part 105 #[.string n] 0).run Tryd.prog w = .ok (.agg #[]) w := fun n => by kernel_rfl
  have q1 : ∀ n : ByteArray, (part 9 #[.string n] 0).run Tryd.prog w = .ok (.string n) w := fun n => by kernel_rfl
  have s0 := leaf_eq D w
  have s1 := run_equalIn_string w D 9 n m Tryd.underlying9
  simp only [Op.eqFields, n0, t0, o0, n1, t1, o1, Sem.run_bind, Sem.run_ite, Result.andThen_ok, q0, q1, s0, s1]
  cases (n.toList == m.toList) <;> simp
theorem nq_here (D : Nat)  (w : World) : (Op.equalIn (D + 2) 109 (.agg #[]) (.agg #[])).run Tryd.prog w = .ok true w := by
 rw [run_equalIn_struct w (D + 1) 109 _ _ (by kernel_rfl) (by kernel_rfl)]
 have hf : (Tryd.prog.fieldsOf 109).toList.map (fun f => (f.name, f.type, f.offset)) = [("leaf", 105, 0)] := by kernel_rfl
 have hlen := congrArg List.length hf
 rw [List.length_map] at hlen
 generalize (Tryd.prog.fieldsOf 109).toList = fs at *
 match fs, hlen, hf with
 | [f0], _, hf =>
  simp only [List.map_cons, List.map_nil, List.cons.injEq, Prod.mk.injEq] at hf
  obtain ⟨⟨n0, t0, o0⟩, _⟩ := hf
  have q0 : (part 105 #[] 0).run Tryd.prog w = .ok (.agg #[]) w := by kernel_rfl
  have s0 := leaf_eq D w
  simp only [Op.eqFields, n0, t0, o0, Sem.run_bind, Sem.run_ite, Result.andThen_ok, q0, s0]
  simp
theorem nq_neg (D : Nat) (t u : TypeId) (x y : Value) (q : Bool) (h : ∀ w, (Op.equalIn (D + 1) 81 (.iface t x) (.iface u y)).run Tryd.prog w = .ok q w) (w : World) : (Op.equalIn (D + 2) 96 (.agg #[.iface t x]) (.agg #[.iface u y])).run Tryd.prog w = .ok q w := by
 rw [run_equalIn_struct w (D + 1) 96 _ _ (by kernel_rfl) (by kernel_rfl)]
 have hf : (Tryd.prog.fieldsOf 96).toList.map (fun f => (f.name, f.type, f.offset)) = [("of", 81, 0)] := by kernel_rfl
 have hlen := congrArg List.length hf
 rw [List.length_map] at hlen
 generalize (Tryd.prog.fieldsOf 96).toList = fs at *
 match fs, hlen, hf with
 | [f0], _, hf =>
  simp only [List.map_cons, List.map_nil, List.cons.injEq, Prod.mk.injEq] at hf
  obtain ⟨⟨n0, t0, o0⟩, _⟩ := hf
  have q0 : ∀ (t : TypeId) (x : Value), (part 81 #[.iface t x] 0).run Tryd.prog w = .ok (.iface t x) w := fun t x => by kernel_rfl
  simp only [Op.eqFields, n0, t0, o0, Sem.run_bind, Sem.run_ite, Result.andThen_ok, q0, h]
  cases q <;> simp
theorem nq_pr (D : Nat) (t u t2 u2 : TypeId) (x y x2 y2 : Value) (q1 q2 : Bool) (h1 : ∀ w, (Op.equalIn (D + 1) 81 (.iface t x) (.iface t2 x2)).run Tryd.prog w = .ok q1 w) (h2 : ∀ w, (Op.equalIn (D + 1) 81 (.iface u y) (.iface u2 y2)).run Tryd.prog w = .ok q2 w) (w : World) : (Op.equalIn (D + 2) 99 (.agg #[.iface t x, .iface u y]) (.agg #[.iface t2 x2, .iface u2 y2])).run Tryd.prog w = .ok (q1 && q2) w := by
 rw [run_equalIn_struct w (D + 1) 99 _ _ (by kernel_rfl) (by kernel_rfl)]
 have hf : (Tryd.prog.fieldsOf 99).toList.map (fun f => (f.name, f.type, f.offset)) = [("first", 81, 0), ("second", 81, 1)] := by kernel_rfl
 have hlen := congrArg List.length hf
 rw [List.length_map] at hlen
 generalize (Tryd.prog.fieldsOf 99).toList = fs at *
 match fs, hlen, hf with
 | [f0, f1], _, hf =>
  simp only [List.map_cons, List.map_nil, List.cons.injEq, Prod.mk.injEq] at hf
  obtain ⟨⟨n0, t0, o0⟩, ⟨n1, t1, o1⟩, _⟩ := hf
  have q0 : ∀ (t u : TypeId) (x y : Value), (part 81 #[.iface t x, .iface u y] 0).run Tryd.prog w = .ok (.iface t x) w := fun t u x y => by kernel_rfl
  have p1 : ∀ (t u : TypeId) (x y : Value), (part 81 #[.iface t x, .iface u y] 1).run Tryd.prog w = .ok (.iface u y) w := fun t u x y => by kernel_rfl
  have a1 := h1 w
  have a2 := h2 w
  simp only [Op.eqFields, n0, t0, o0, n1, t1, o1, Sem.run_bind, Sem.run_ite, Result.andThen_ok, q0, p1, a1, a2]
  cases q1 <;> cases q2 <;> simp
theorem nq_add (D : Nat) (t u t2 u2 : TypeId) (x y x2 y2 : Value) (q1 q2 : Bool) (h1 : ∀ w, (Op.equalIn (D + 1) 81 (.iface t x) (.iface t2 x2)).run Tryd.prog w = .ok q1 w) (h2 : ∀ w, (Op.equalIn (D + 1) 81 (.iface u y) (.iface u2 y2)).run Tryd.prog w = .ok q2 w) (w : World) : (Op.equalIn (D + 3) 118 (.agg #[.iface t x, .iface u y]) (.agg #[.iface t2 x2, .iface u2 y2])).run Tryd.prog w = .ok (q1 && q2) w := by
 rw [run_equalIn_struct w (D + 2) 118 _ _ (by kernel_rfl) (by kernel_rfl)]
 have hf : (Tryd.prog.fieldsOf 118).toList.map (fun f => (f.name, f.type, f.offset)) = [("pair", 99, 0)] := by kernel_rfl
 have hlen := congrArg List.length hf
 rw [List.length_map] at hlen
 generalize (Tryd.prog.fieldsOf 118).toList = fs at *
 match fs, hlen, hf with
 | [f0], _, hf =>
  simp only [List.map_cons, List.map_nil, List.cons.injEq, Prod.mk.injEq] at hf
  obtain ⟨⟨n0, t0, o0⟩, _⟩ := hf
  have q0 : ∀ (t u : TypeId) (x y : Value), (part 99 #[.iface t x, .iface u y] 0).run Tryd.prog w = .ok (.agg #[.iface t x, .iface u y]) w := fun t u x y => by kernel_rfl
  have a1 := nq_pr D t u t2 u2 x y x2 y2 q1 q2 h1 h2 w
  simp only [Op.eqFields, n0, t0, o0, Sem.run_bind, Sem.run_ite, Result.andThen_ok, q0, a1]
  cases q1 <;> cases q2 <;> simp
theorem nq_sub (D : Nat) (t u t2 u2 : TypeId) (x y x2 y2 : Value) (q1 q2 : Bool) (h1 : ∀ w, (Op.equalIn (D + 1) 81 (.iface t x) (.iface t2 x2)).run Tryd.prog w = .ok q1 w) (h2 : ∀ w, (Op.equalIn (D + 1) 81 (.iface u y) (.iface u2 y2)).run Tryd.prog w = .ok q2 w) (w : World) : (Op.equalIn (D + 3) 119 (.agg #[.iface t x, .iface u y]) (.agg #[.iface t2 x2, .iface u2 y2])).run Tryd.prog w = .ok (q1 && q2) w := by
 rw [run_equalIn_struct w (D + 2) 119 _ _ (by kernel_rfl) (by kernel_rfl)]
 have hf : (Tryd.prog.fieldsOf 119).toList.map (fun f => (f.name, f.type, f.offset)) = [("pair", 99, 0)] := by kernel_rfl
 have hlen := congrArg List.length hf
 rw [List.length_map] at hlen
 generalize (Tryd.prog.fieldsOf 119).toList = fs at *
 match fs, hlen, hf with
 | [f0], _, hf =>
  simp only [List.map_cons, List.map_nil, List.cons.injEq, Prod.mk.injEq] at hf
  obtain ⟨⟨n0, t0, o0⟩, _⟩ := hf
  have q0 : ∀ (t u : TypeId) (x y : Value), (part 99 #[.iface t x, .iface u y] 0).run Tryd.prog w = .ok (.agg #[.iface t x, .iface u y]) w := fun t u x y => by kernel_rfl
  have a1 := nq_pr D t u t2 u2 x y x2 y2 q1 q2 h1 h2 w
  simp only [Op.eqFields, n0, t0, o0, Sem.run_bind, Sem.run_ite, Result.andThen_ok, q0, a1]
  cases q1 <;> cases q2 <;> simp
theorem nq_mul (D : Nat) (t u t2 u2 : TypeId) (x y x2 y2 : Value) (q1 q2 : Bool) (h1 : ∀ w, (Op.equalIn (D + 1) 81 (.iface t x) (.iface t2 x2)).run Tryd.prog w = .ok q1 w) (h2 : ∀ w, (Op.equalIn (D + 1) 81 (.iface u y) (.iface u2 y2)).run Tryd.prog w = .ok q2 w) (w : World) : (Op.equalIn (D + 3) 120 (.agg #[.iface t x, .iface u y]) (.agg #[.iface t2 x2, .iface u2 y2])).run Tryd.prog w = .ok (q1 && q2) w := by
 rw [run_equalIn_struct w (D + 2) 120 _ _ (by kernel_rfl) (by kernel_rfl)]
 have hf : (Tryd.prog.fieldsOf 120).toList.map (fun f => (f.name, f.type, f.offset)) = [("pair", 99, 0)] := by kernel_rfl
 have hlen := congrArg List.length hf
 rw [List.length_map] at hlen
 generalize (Tryd.prog.fieldsOf 120).toList = fs at *
 match fs, hlen, hf with
 | [f0], _, hf =>
  simp only [List.map_cons, List.map_nil, List.cons.injEq, Prod.mk.injEq] at hf
  obtain ⟨⟨n0, t0, o0⟩, _⟩ := hf
  have q0 : ∀ (t u : TypeId) (x y : Value), (part 99 #[.iface t x, .iface u y] 0).run Tryd.prog w = .ok (.agg #[.iface t x, .iface u y]) w := fun t u x y => by kernel_rfl
  have a1 := nq_pr D t u t2 u2 x y x2 y2 q1 q2 h1 h2 w
  simp only [Op.eqFields, n0, t0, o0, Sem.run_bind, Sem.run_ite, Result.andThen_ok, q0, a1]
  cases q1 <;> cases q2 <;> simp
theorem nq_div (D : Nat) (t u t2 u2 : TypeId) (x y x2 y2 : Value) (q1 q2 : Bool) (h1 : ∀ w, (Op.equalIn (D + 1) 81 (.iface t x) (.iface t2 x2)).run Tryd.prog w = .ok q1 w) (h2 : ∀ w, (Op.equalIn (D + 1) 81 (.iface u y) (.iface u2 y2)).run Tryd.prog w = .ok q2 w) (w : World) : (Op.equalIn (D + 3) 121 (.agg #[.iface t x, .iface u y]) (.agg #[.iface t2 x2, .iface u2 y2])).run Tryd.prog w = .ok (q1 && q2) w := by
 rw [run_equalIn_struct w (D + 2) 121 _ _ (by kernel_rfl) (by kernel_rfl)]
 have hf : (Tryd.prog.fieldsOf 121).toList.map (fun f => (f.name, f.type, f.offset)) = [("pair", 99, 0)] := by kernel_rfl
 have hlen := congrArg List.length hf
 rw [List.length_map] at hlen
 generalize (Tryd.prog.fieldsOf 121).toList = fs at *
 match fs, hlen, hf with
 | [f0], _, hf =>
  simp only [List.map_cons, List.map_nil, List.cons.injEq, Prod.mk.injEq] at hf
  obtain ⟨⟨n0, t0, o0⟩, _⟩ := hf
  have q0 : ∀ (t u : TypeId) (x y : Value), (part 99 #[.iface t x, .iface u y] 0).run Tryd.prog w = .ok (.agg #[.iface t x, .iface u y]) w := fun t u x y => by kernel_rfl
  have a1 := nq_pr D t u t2 u2 x y x2 y2 q1 q2 h1 h2 w
  simp only [Op.eqFields, n0, t0, o0, Sem.run_bind, Sem.run_ite, Result.andThen_ok, q0, a1]
  cases q1 <;> cases q2 <;> simp
theorem nq_and (D : Nat) (t u t2 u2 : TypeId) (x y x2 y2 : Value) (q1 q2 : Bool) (h1 : ∀ w, (Op.equalIn (D + 1) 81 (.iface t x) (.iface t2 x2)).run Tryd.prog w = .ok q1 w) (h2 : ∀ w, (Op.equalIn (D + 1) 81 (.iface u y) (.iface u2 y2)).run Tryd.prog w = .ok q2 w) (w : World) : (Op.equalIn (D + 3) 122 (.agg #[.iface t x, .iface u y]) (.agg #[.iface t2 x2, .iface u2 y2])).run Tryd.prog w = .ok (q1 && q2) w := by
 rw [run_equalIn_struct w (D + 2) 122 _ _ (by kernel_rfl) (by kernel_rfl)]
 have hf : (Tryd.prog.fieldsOf 122).toList.map (fun f => (f.name, f.type, f.offset)) = [("pair", 99, 0)] := by kernel_rfl
 have hlen := congrArg List.length hf
 rw [List.length_map] at hlen
 generalize (Tryd.prog.fieldsOf 122).toList = fs at *
 match fs, hlen, hf with
 | [f0], _, hf =>
  simp only [List.map_cons, List.map_nil, List.cons.injEq, Prod.mk.injEq] at hf
  obtain ⟨⟨n0, t0, o0⟩, _⟩ := hf
  have q0 : ∀ (t u : TypeId) (x y : Value), (part 99 #[.iface t x, .iface u y] 0).run Tryd.prog w = .ok (.agg #[.iface t x, .iface u y]) w := fun t u x y => by kernel_rfl
  have a1 := nq_pr D t u t2 u2 x y x2 y2 q1 q2 h1 h2 w
  simp only [Op.eqFields, n0, t0, o0, Sem.run_bind, Sem.run_ite, Result.andThen_ok, q0, a1]
  cases q1 <;> cases q2 <;> simp
theorem nq_or (D : Nat) (t u t2 u2 : TypeId) (x y x2 y2 : Value) (q1 q2 : Bool) (h1 : ∀ w, (Op.equalIn (D + 1) 81 (.iface t x) (.iface t2 x2)).run Tryd.prog w = .ok q1 w) (h2 : ∀ w, (Op.equalIn (D + 1) 81 (.iface u y) (.iface u2 y2)).run Tryd.prog w = .ok q2 w) (w : World) : (Op.equalIn (D + 3) 123 (.agg #[.iface t x, .iface u y]) (.agg #[.iface t2 x2, .iface u2 y2])).run Tryd.prog w = .ok (q1 && q2) w := by
 rw [run_equalIn_struct w (D + 2) 123 _ _ (by kernel_rfl) (by kernel_rfl)]
 have hf : (Tryd.prog.fieldsOf 123).toList.map (fun f => (f.name, f.type, f.offset)) = [("pair", 99, 0)] := by kernel_rfl
 have hlen := congrArg List.length hf
 rw [List.length_map] at hlen
 generalize (Tryd.prog.fieldsOf 123).toList = fs at *
 match fs, hlen, hf with
 | [f0], _, hf =>
  simp only [List.map_cons, List.map_nil, List.cons.injEq, Prod.mk.injEq] at hf
  obtain ⟨⟨n0, t0, o0⟩, _⟩ := hf
  have q0 : ∀ (t u : TypeId) (x y : Value), (part 99 #[.iface t x, .iface u y] 0).run Tryd.prog w = .ok (.agg #[.iface t x, .iface u y]) w := fun t u x y => by kernel_rfl
  have a1 := nq_pr D t u t2 u2 x y x2 y2 q1 q2 h1 h2 w
  simp only [Op.eqFields, n0, t0, o0, Sem.run_bind, Sem.run_ite, Result.andThen_ok, q0, a1]
  cases q1 <;> cases q2 <;> simp
theorem sX_no {a b : Ex} (h : a.k ≠ b.k) : sameX a b = false := by
 cases hs : sameX a b with
 | false => rfl
 | true => exact absurd (congrArg Ex.k ((sameX_iff a b).1 hs)) h
theorem sX_n (k n m : Int) (s : ByteArray) : sameX ⟨k, n, s, []⟩ ⟨k, m, s, []⟩ = (n == m) := by
 rw [Bool.eq_iff_iff, sameX_iff, beq_iff_eq]
 constructor
 · intro h; injection h
 · intro h; rw [h]
theorem sX_s (k n : Int) (s t : ByteArray) : sameX ⟨k, n, s, []⟩ ⟨k, n, t, []⟩ = (s.toList == t.toList) := by
 rw [Bool.eq_iff_iff, sameX_iff]
 refine Iff.trans ?_ (eqS_iff s t).symm
 constructor
 · intro h; injection h
 · intro h; rw [h]
theorem sX_one (k n : Int) (s : ByteArray) (a b : Ex) : sameX ⟨k, n, s, [a]⟩ ⟨k, n, s, [b]⟩ = sameX a b := by
 rw [Bool.eq_iff_iff, sameX_iff, sameX_iff]
 constructor
 · intro h; injection h with _ _ _ h; injection h
 · intro h; rw [h]
theorem sX_two (k n : Int) (s : ByteArray) (a b c d : Ex) : sameX ⟨k, n, s, [a, b]⟩ ⟨k, n, s, [c, d]⟩ = (sameX a c && sameX b d) := by
 rw [Bool.eq_iff_iff, sameX_iff, Bool.and_eq_true, sameX_iff, sameX_iff]
 constructor
 ·
  intro h
  injection h with _ _ _ h
  injection h with h1 h
  injection h with h2 h
  exact ⟨h1, h2⟩
 · rintro ⟨rfl, rfl⟩; rfl
theorem tve : ∀ (d : Nat) (e f : Ex) (D : Nat) (w : World), okF d false e = true → okF d false f = true → 4 * d ≤ D → (Op.equalIn D 81 (tv e) (tv f)).run Tryd.prog w = .ok (sameX e f) w := by
 intro d
 induction d with
 | zero => intro e f D w h; cases h
 | succ d ih =>
  intro e f D w h g hD
  obtain ⟨D, rfl⟩ : ∃ C, D = C + 4 := ⟨D - 4, by omega⟩
  by_cases hk : e.k = f.k
  ·
   have ihD := fun a b C w (ha : okF d false a = true) (hb : okF d false b = true) (hC : 4 * d ≤ C) => ih a b C w ha hb hC
   rcases ok_cases h with ⟨n, hn, rfl⟩ | ⟨s, hs, rfl⟩ | rfl | ⟨a, ha, rfl⟩ | ⟨k, a, b, hkk, ha, hb, rfl⟩ | ⟨n, hn, rfl⟩ | ⟨s, hs, rfl⟩ <;>
    rcases ok_cases g with ⟨m, hm, rfl⟩ | ⟨r, hr, rfl⟩ | rfl | ⟨a2, ha2, rfl⟩ | ⟨l, a2, b2, hll, ha2, hb2, rfl⟩ | ⟨m, hm, rfl⟩ | ⟨r, hr, rfl⟩ <;>
    first
    | (exfalso; dsimp only at hk; omega)
    | skip
   · rw [tv_num, tv_num, if_eq _ _ _ _ (by kernel_rfl), nq_num, sX_n]
   · rw [tv_sym, tv_sym, if_eq _ _ _ _ (by kernel_rfl), nq_sym, sX_s]
   · rw [tv_here, if_eq _ _ _ _ (by kernel_rfl), nq_here, (sameX_iff _ _).2 rfl]
   ·
    obtain ⟨t, x, e1⟩ := tv_if a
    obtain ⟨u, y, e2⟩ := tv_if a2
    have h1 := fun w => ihD a a2 (D + 2) w ha ha2 (by omega)
    rw [e1, e2] at h1
    rw [tv_neg, tv_neg, e1, e2, if_eq _ _ _ _ (by kernel_rfl), nq_neg (D + 1) t u x y _ h1, sX_one]
   ·
    obtain ⟨t, x, e1⟩ := tv_if a
    obtain ⟨t2, x2, e2⟩ := tv_if a2
    obtain ⟨u, y, e3⟩ := tv_if b
    obtain ⟨u2, y2, e4⟩ := tv_if b2
    have h1 := fun w => ihD a a2 (D + 1) w ha ha2 (by omega)
    have h2 := fun w => ihD b b2 (D + 1) w hb hb2 (by omega)
    rw [e1, e2] at h1
    rw [e3, e4] at h2
    have hl : k = l := hk
    subst hl
    rw [tv_two hkk, tv_two hkk, e1, e2, e3, e4, sX_two]
    have : k = 5 ∨ k = 6 ∨ k = 7 ∨ k = 8 ∨ k = 9 ∨ k = 10 := by omega
    rcases this with rfl | rfl | rfl | rfl | rfl | rfl
    · exact (if_eq _ 118 _ _ (by kernel_rfl) w).trans (nq_add D t u t2 u2 x y x2 y2 _ _ h1 h2 w)
    · exact (if_eq _ 119 _ _ (by kernel_rfl) w).trans (nq_sub D t u t2 u2 x y x2 y2 _ _ h1 h2 w)
    · exact (if_eq _ 120 _ _ (by kernel_rfl) w).trans (nq_mul D t u t2 u2 x y x2 y2 _ _ h1 h2 w)
    · exact (if_eq _ 121 _ _ (by kernel_rfl) w).trans (nq_div D t u t2 u2 x y x2 y2 _ _ h1 h2 w)
    · exact (if_eq _ 122 _ _ (by kernel_rfl) w).trans (nq_and D t u t2 u2 x y x2 y2 _ _ h1 h2 w)
    · exact (if_eq _ 123 _ _ (by kernel_rfl) w).trans (nq_or D t u t2 u2 x y x2 y2 _ _ h1 h2 w)
   · rw [tv_sect, tv_sect, if_eq _ _ _ _ (by kernel_rfl), nq_sect, sX_n]
   · rw [tv_glob, tv_glob, if_eq _ _ _ _ (by kernel_rfl), nq_glob, sX_s]
  ·
   obtain ⟨k1, x, e1⟩ := tv_ty h
   obtain ⟨k2, y, e2⟩ := tv_ty g
   rw [e1, e2, if_ne _ _ _ _ _ (fun hh => hk (tyK_inj k1 k2 hh)), sX_no hk]
theorem al1 {w w' : World} {o : Obj} (h : Below (w.alloc o).heap.size (w.alloc o) w') : Below w.heap.size w w' := (below_new w o).trans (h.mono (by simp))
theorem al2 {w w' : World} {o p : Obj} (h : Below ((w.alloc o).alloc p).heap.size ((w.alloc o).alloc p) w') : Below w.heap.size w w' := al1 (al1 h)
theorem al3 {w w' : World} {o p q : Obj} (h : Below (((w.alloc o).alloc p).alloc q).heap.size (((w.alloc o).alloc p).alloc q) w') : Below w.heap.size w w' := al1 (al2 h)
theorem al4 {w w' : World} {o p q s : Obj} (h : Below ((((w.alloc o).alloc p).alloc q).alloc s).heap.size ((((w.alloc o).alloc p).alloc q).alloc s) w') : Below w.heap.size w w' := al1 (al3 h)
def IsN (v : Value) (z : Int) (q : Bool) : Prop := ∀ w, (Instr.typeAssert v 81 115 true).run Tryd.prog w = .ok (.tuple #[.agg #[.int .i64 z], .bool q]) w
theorem isN_of {d : Nat} {a : Ex} (h : okF (d + 1) false a = true) : (a.k = 1 ∧ (0 ≤ a.n ∧ a.n ≤ 65535) ∧ IsN (tv a) a.n true) ∨ (a.k ≠ 1 ∧ IsN (tv a) 0 false) := by
 by_cases h1 : a.k = 1
 ·
  obtain ⟨n, hn, rfl⟩ := ok_k1 h h1
  left
  rw [tv_num]
  exact ⟨rfl, hn, fun w => taY_num _ w⟩
 ·
  right
  obtain ⟨T, x, e, g, _, _⟩ := tv_kT h
  rw [e]
  exact ⟨h1, fun w => taN_num T x (g h1) w⟩
theorem fp_two (k : Int) (z1 z2 : Int) (v : Int) (hw : two11 k z1 z2 = some v) (tw : ∀ w, Calls Tryd.prog 72 #[.int .i64 k, .int .i64 z1, .int .i64 z2] w (TwoR k z1 z2 w)) (ta tb : TypeId) (xa xb : Value) (i1 : IsN (.iface ta xa) z1 true) (i2 : IsN (.iface tb xb) z2 true) (w : World) : Calls Tryd.prog 64 #[.int .i64 k, .agg #[.iface ta xa, .iface tb xb]] w (VaR (.iface 115 (.agg #[.int .i64 v])) w) := by
 have FN := hide (fun r w' (h : r = .returned (.iface 115 (.agg #[.int .i64 v]))) (hb : Below w.heap.size w w') => (show VaR _ w r w' from ⟨h, hb⟩))
 generalize VaR (.iface 115 (.agg #[.int .i64 v])) w = R at *
 unfold IsN at i1 i2
 have TW := hide tw
 unfold TwoR at TW
 rw [hw] at TW
 simp only [Option.getD_some, Option.isSome_some] at TW
 clear tw hw
 go_enter Tryd.func64, Tryd.ntmps64
 go_wp2_with (go_at_call 72; refine (uh TW _).mono ?_; rintro r w0 ⟨hw0, rfl⟩; rw [hw0]; clear hw0 w0)
 (first | go_ret2 | go_ret | skip)
 exact uh FN _ _ rfl (by first | exact Below.refl _ _ | exact al1 (Below.refl _ _) | exact al2 (Below.refl _ _) | exact al3 (Below.refl _ _) | exact al4 (Below.refl _ _))
theorem fp_none (k : Int) (z1 z2 : Int) (h5 : (k == 5) = false) (h6 : (k == 6) = false) (hw : two11 k z1 z2 = none) (tw : ∀ w, Calls Tryd.prog 72 #[.int .i64 k, .int .i64 z1, .int .i64 z2] w (TwoR k z1 z2 w)) (hk : inB k 5 10 = true) (ta tb : TypeId) (xa xb : Value) (i1 : IsN (.iface ta xa) z1 true) (i2 : IsN (.iface tb xb) z2 true) (w : World) : Calls Tryd.prog 64 #[.int .i64 k, .agg #[.iface ta xa, .iface tb xb]] w (VaR (.iface (pairT k) (.agg #[.iface ta xa, .iface tb xb])) w) := by
 have FN := hide (fun r w' (h : r = .returned (.iface (pairT k) (.agg #[.iface ta xa, .iface tb xb]))) (hb : Below w.heap.size w w') => (show VaR _ w r w' from ⟨h, hb⟩))
 generalize VaR (.iface (pairT k) (.agg #[.iface ta xa, .iface tb xb])) w = R at *
 unfold IsN at i1 i2
 have TW := hide tw
 unfold TwoR at TW
 rw [hw] at TW
 simp only [Option.getD_none, Option.isSome_none] at TW
 have PA := hide (fun w => pair_any k (.iface ta xa) (.iface tb xb) w)
 rw [hk] at PA
 simp only [forall_const] at PA
 clear tw hw hk
 generalize pairT k = pT at *
 go_enter Tryd.func64, Tryd.ntmps64
 go_wp2_with (go_at_call 72; refine (uh TW _).mono ?_; rintro r w0 ⟨hw0, rfl⟩; rw [hw0]; clear hw0 w0)
 go_wp2_with fail
 refine (uh PA _).mono ?_
 rintro r w1 ⟨x, rfl, ⟨_, rfl⟩, hb1⟩
 have B1 := hide (show Below w.heap.size w w1 by first | exact hb1 | exact al1 hb1 | exact al2 hb1 | exact al3 hb1 | exact al4 hb1)
 clear hb1
 go_wp2
 (first | go_ret2 | go_ret | skip)
 exact uh FN _ _ rfl (uh B1)
theorem fp_oth (k : Int) (h5 : (k == 5) = false) (h6 : (k == 6) = false) (hk : inB k 5 10 = true) (q1 q2 : Bool) (hq : (q1 && q2) = false) (ta tb : TypeId) (xa xb : Value) (z1 z2 : Int) (i1 : IsN (.iface ta xa) z1 q1) (i2 : IsN (.iface tb xb) z2 q2) (w : World) : Calls Tryd.prog 64 #[.int .i64 k, .agg #[.iface ta xa, .iface tb xb]] w (VaR (.iface (pairT k) (.agg #[.iface ta xa, .iface tb xb])) w) := by
 have FN := hide (fun r w' (h : r = .returned (.iface (pairT k) (.agg #[.iface ta xa, .iface tb xb]))) (hb : Below w.heap.size w w') => (show VaR _ w r w' from ⟨h, hb⟩))
 generalize VaR (.iface (pairT k) (.agg #[.iface ta xa, .iface tb xb])) w = R at *
 unfold IsN at i1 i2
 have PA := hide (fun w => pair_any k (.iface ta xa) (.iface tb xb) w)
 rw [hk] at PA
 simp only [forall_const] at PA
 clear hk
 generalize pairT k = pT at *
 cases q1 <;> cases q2 <;> (first | cases hq | skip)
 all_goals
  go_enter Tryd.func64, Tryd.ntmps64
  go_wp2_with fail
  refine (uh PA _).mono ?_
  rintro r w1 ⟨x, rfl, ⟨_, rfl⟩, hb1⟩
  have B1 := hide (show Below w.heap.size w w1 by first | exact hb1 | exact al1 hb1 | exact al2 hb1 | exact al3 hb1 | exact al4 hb1)
  clear hb1
  go_wp2
  (first | go_ret2 | go_ret | skip)
  exact uh FN _ _ rfl (uh B1)
theorem fp_add0  (ta tb : TypeId) (xa xb : Value) (z1 z2 : Int) (i1 : IsN (.iface ta xa) z1 false) (i2 : IsN (.iface tb xb) z2 false) (w : World) : Calls Tryd.prog 64 #[.int .i64 5, .agg #[.iface ta xa, .iface tb xb]] w (VaR (.iface 118 (.agg #[.iface ta xa, .iface tb xb])) w) := by
 have FN := hide (fun r w' (h : r = .returned (.iface 118 (.agg #[.iface ta xa, .iface tb xb]))) (hb : Below w.heap.size w w') => (show VaR _ w r w' from ⟨h, hb⟩))
 generalize VaR (.iface 118 (.agg #[.iface ta xa, .iface tb xb])) w = R at *
 unfold IsN at i1 i2
 have PA := hide (fun w => pair_any 5 (.iface ta xa) (.iface tb xb) w)
 rw [show inB 5 5 10 = true by decide, show pairT 5 = 118 from rfl] at PA
 simp only [forall_const] at PA
 go_enter Tryd.func64, Tryd.ntmps64
 go_wp2_with fail
 refine (uh PA _).mono ?_
 rintro r w1 ⟨x, rfl, ⟨_, rfl⟩, hb1⟩
 have B1 := hide (show Below w.heap.size w w1 by first | exact hb1 | exact al1 hb1 | exact al2 hb1 | exact al3 hb1 | exact al4 hb1)
 clear hb1
 go_wp2
 (first | go_ret2 | go_ret | skip)
 exact uh FN _ _ rfl (uh B1)
theorem fp_add1 (V : Value) (z1 : Int) (tb : TypeId) (xb : Value) (ad : ∀ w, Calls Tryd.prog 73 #[.iface tb xb, .int .i64 z1] w (VaR V w)) (ta : TypeId) (xa : Value) (z2 : Int) (i1 : IsN (.iface ta xa) z1 true) (i2 : IsN (.iface tb xb) z2 false) (w : World) : Calls Tryd.prog 64 #[.int .i64 5, .agg #[.iface ta xa, .iface tb xb]] w (VaR (V) w) := by
 have FN := hide (fun r w' (h : r = .returned (V)) (hb : Below w.heap.size w w') => (show VaR _ w r w' from ⟨h, hb⟩))
 generalize VaR (V) w = R at *
 unfold IsN at i1 i2
 have AD := hide ad
 unfold VaR at AD
 clear ad
 go_enter Tryd.func64, Tryd.ntmps64
 go_wp2_with fail
 refine (uh AD _).mono ?_
 rintro r w1 ⟨rfl, hb1⟩
 have B1 := hide (show Below w.heap.size w w1 by first | exact hb1 | exact al1 hb1 | exact al2 hb1 | exact al3 hb1 | exact al4 hb1)
 clear hb1
 go_wp2
 (first | go_ret2 | go_ret | skip)
 exact uh FN _ _ rfl (uh B1)
theorem fp_add2 (V : Value) (z2 : Int) (ta : TypeId) (xa : Value) (ad : ∀ w, Calls Tryd.prog 73 #[.iface ta xa, .int .i64 z2] w (VaR V w)) (tb : TypeId) (xb : Value) (z1 : Int) (i1 : IsN (.iface ta xa) z1 false) (i2 : IsN (.iface tb xb) z2 true) (w : World) : Calls Tryd.prog 64 #[.int .i64 5, .agg #[.iface ta xa, .iface tb xb]] w (VaR (V) w) := by
 have FN := hide (fun r w' (h : r = .returned (V)) (hb : Below w.heap.size w w') => (show VaR _ w r w' from ⟨h, hb⟩))
 generalize VaR (V) w = R at *
 unfold IsN at i1 i2
 have AD := hide ad
 unfold VaR at AD
 clear ad
 go_enter Tryd.func64, Tryd.ntmps64
 go_wp2_with fail
 refine (uh AD _).mono ?_
 rintro r w1 ⟨rfl, hb1⟩
 have B1 := hide (show Below w.heap.size w w1 by first | exact hb1 | exact al1 hb1 | exact al2 hb1 | exact al3 hb1 | exact al4 hb1)
 clear hb1
 go_wp2
 (first | go_ret2 | go_ret | skip)
 exact uh FN _ _ rfl (uh B1)
theorem fp_sub2 (V : Value) (z2 : Int) (hz : 0 ≤ z2 ∧ z2 ≤ 65535) (ta : TypeId) (xa : Value) (ad : ∀ w, Calls Tryd.prog 73 #[.iface ta xa, .int .i64 (-z2)] w (VaR V w)) (tb : TypeId) (xb : Value) (z1 : Int) (i1 : IsN (.iface ta xa) z1 false) (i2 : IsN (.iface tb xb) z2 true) (w : World) : Calls Tryd.prog 64 #[.int .i64 6, .agg #[.iface ta xa, .iface tb xb]] w (VaR (V) w) := by
 have FN := hide (fun r w' (h : r = .returned (V)) (hb : Below w.heap.size w w') => (show VaR _ w r w' from ⟨h, hb⟩))
 generalize VaR (V) w = R at *
 unfold IsN at i1 i2
 have AD := hide ad
 unfold VaR at AD
 clear ad
 go_enter Tryd.func64, Tryd.ntmps64
 go_wp2_with fail
 refine (uh AD _).mono ?_
 rintro r w1 ⟨rfl, hb1⟩
 have B1 := hide (show Below w.heap.size w w1 by first | exact hb1 | exact al1 hb1 | exact al2 hb1 | exact al3 hb1 | exact al4 hb1)
 clear hb1
 go_wp2
 (first | go_ret2 | go_ret | skip)
 exact uh FN _ _ rfl (uh B1)
theorem fp_sub0 (n m : Int) (ta tb : TypeId) (xa xb : Value) (q1 : Bool) (ap : ∀ w, Calls Tryd.prog 74 #[.agg #[.iface ta xa, .iface tb xb]] w (ApR n m false w)) (z1 z2 : Int) (i1 : IsN (.iface ta xa) z1 q1) (i2 : IsN (.iface tb xb) z2 false) (w : World) : Calls Tryd.prog 64 #[.int .i64 6, .agg #[.iface ta xa, .iface tb xb]] w (VaR (.iface 119 (.agg #[.iface ta xa, .iface tb xb])) w) := by
 have FN := hide (fun r w' (h : r = .returned (.iface 119 (.agg #[.iface ta xa, .iface tb xb]))) (hb : Below w.heap.size w w') => (show VaR _ w r w' from ⟨h, hb⟩))
 generalize VaR (.iface 119 (.agg #[.iface ta xa, .iface tb xb])) w = R at *
 unfold IsN at i1 i2
 have AP := hide ap
 unfold ApR at AP
 clear ap
 generalize wr (n - m) = nm at *
 have G0 := hide (show (w.alloc (.cells #[.iface ta xa, .iface tb xb] 99)).heap[w.heap.size]? = some (.cells #[.iface ta xa, .iface tb xb] 99 (0, 0)) from Array.getElem?_push_size)
 have PA := hide (fun w => pair_any 6 (.iface ta xa) (.iface tb xb) w)
 rw [show inB 6 5 10 = true by decide, show pairT 6 = 119 from rfl] at PA
 simp only [forall_const] at PA
 cases q1
 all_goals
  go_enter Tryd.func64, Tryd.ntmps64
  go_wp2_with fail
  refine (uh AP _).mono ?_
  rintro r w1 ⟨rfl, hb1⟩
  have G1 : w1.heap[w.heap.size]? = some (.cells #[.iface ta xa, .iface tb xb] 99 (0, 0)) := by first | exact row_keep (uh G0) hb1 | exact row_keep (uh G0) (al1 hb1) | exact row_keep (uh G0) (al2 hb1) | exact row_keep (uh G0) (al3 hb1)
  have p0 := Lib.cell_of_heap G1 0
  have p1 := Lib.cell_of_heap G1 1
  have B1 := hide (show Below w.heap.size w w1 by first | exact hb1 | exact al1 hb1 | exact al2 hb1 | exact al3 hb1 | exact al4 hb1)
  clear hb1 G1
  go_wp2_with fail
  refine (uh PA _).mono ?_
  rintro r w2 ⟨x, rfl, ⟨_, rfl⟩, hb2⟩
  have B2 := hide (show Below w.heap.size w w2 from (uh B1).trans (hb2.mono (uh B1).size))
  clear hb2
  go_wp2
  (first | go_ret2 | go_ret | skip)
  exact uh FN _ _ rfl (uh B2)
theorem fp_sub1 (n m : Int) (ta tb : TypeId) (xa xb : Value) (q1 : Bool) (ap : ∀ w, Calls Tryd.prog 74 #[.agg #[.iface ta xa, .iface tb xb]] w (ApR n m true w)) (z1 z2 : Int) (i1 : IsN (.iface ta xa) z1 q1) (i2 : IsN (.iface tb xb) z2 false) (w : World) : Calls Tryd.prog 64 #[.int .i64 6, .agg #[.iface ta xa, .iface tb xb]] w (VaR (.iface 115 (.agg #[.int .i64 (wr (n - m))])) w) := by
 have FN := hide (fun r w' (h : r = .returned (.iface 115 (.agg #[.int .i64 (wr (n - m))]))) (hb : Below w.heap.size w w') => (show VaR _ w r w' from ⟨h, hb⟩))
 generalize VaR (.iface 115 (.agg #[.int .i64 (wr (n - m))])) w = R at *
 unfold IsN at i1 i2
 have AP := hide ap
 unfold ApR at AP
 clear ap
 generalize wr (n - m) = nm at *
 have G0 := hide (show (w.alloc (.cells #[.iface ta xa, .iface tb xb] 99)).heap[w.heap.size]? = some (.cells #[.iface ta xa, .iface tb xb] 99 (0, 0)) from Array.getElem?_push_size)
 cases q1
 all_goals
  go_enter Tryd.func64, Tryd.ntmps64
  go_wp2_with fail
  refine (uh AP _).mono ?_
  rintro r w1 ⟨rfl, hb1⟩
  have G1 : w1.heap[w.heap.size]? = some (.cells #[.iface ta xa, .iface tb xb] 99 (0, 0)) := by first | exact row_keep (uh G0) hb1 | exact row_keep (uh G0) (al1 hb1) | exact row_keep (uh G0) (al2 hb1) | exact row_keep (uh G0) (al3 hb1)
  have p0 := Lib.cell_of_heap G1 0
  have p1 := Lib.cell_of_heap G1 1
  have B1 := hide (show Below w.heap.size w w1 by first | exact hb1 | exact al1 hb1 | exact al2 hb1 | exact al3 hb1 | exact al4 hb1)
  clear hb1 G1
  go_wp2
  (first | go_ret2 | go_ret | skip)
  exact uh FN _ _ rfl (uh B1)
theorem foldPI_any {d : Nat} {k : Int} {a b : Ex} (hk : 5 ≤ k ∧ k ≤ 10) (ha : okF (d + 1) false a = true) (hb : okF (d + 1) false b = true) (w : World) : Calls Tryd.prog 64 #[.int .i64 k, .agg #[tv a, tv b]] w (VaR (tv (foldN k a b)) w) := by
 have AA := fun (n : Int) (hn : -65536 ≤ n ∧ n ≤ 65536) w => addI_any ha n hn w
 have AB := fun (n : Int) (hn : -65536 ≤ n ∧ n ≤ 65536) w => addI_any hb n hn w
 have AP := fun w => apI_any ha hb w
 have IA := isN_of ha
 have IB := isN_of hb
 have TT := fun (k' : Int) (hk' : 5 ≤ k' ∧ k' ≤ 10) => tv_two hk' 0 E0 a b
 obtain ⟨ta, xa, ea⟩ := tv_if a
 obtain ⟨tb, xb, eb⟩ := tv_if b
 rw [ea] at IA AA AP TT ⊢
 rw [eb] at IB AB AP TT ⊢
 have hi : inB k 5 10 = true := inB_t _ _ _ hk.1 hk.2
 rcases IA with ⟨a1, an, ia⟩ | ⟨a1, ia⟩
 ·
  rcases IB with ⟨b1, bn, ib⟩ | ⟨b1, ib⟩
  ·
   have TW := fun w => twoI_any k a.n b.n hk an bn w
   have E : foldN k a b = (match two11 k a.n b.n with | some n => numX n | none => mixX k a b) := by unfold foldN; exact if_pos ⟨a1, b1⟩
   rw [E]
   cases hw : two11 k a.n b.n with
   | some v =>
    simp only
    unfold numX
    rw [tv_num, wr_of (two11_in hk an bn hw)]
    exact fp_two k a.n b.n v hw TW ta tb xa xb ia ib w
   | none =>
    simp only
    have k5 : k ≠ 5 := fun h => by obtain ⟨n, hn⟩ := two11_some (k := k) (a := a.n) (b := b.n) (.inl h); rw [hn] at hw; cases hw
    have k6 : k ≠ 6 := fun h => by obtain ⟨n, hn⟩ := two11_some (k := k) (a := a.n) (b := b.n) (.inr h); rw [hn] at hw; cases hw
    unfold mixX
    rw [if_neg k6, if_neg (fun h => k5 h.1), if_neg (fun h => k5 h.1), TT k hk]
    exact fp_none k a.n b.n (beq_eq_false_iff_ne.2 k5) (beq_eq_false_iff_ne.2 k6) hw TW hi ta tb xa xb ia ib w
  ·
   have E : foldN k a b = mixX k a b := by unfold foldN; rw [if_neg (fun h => b1 h.2)]
   rw [E]
   unfold mixX
   by_cases k6 : k = 6
   ·
    subst k6
    rw [if_pos rfl]
    unfold subX
    rw [if_neg b1]
    unfold sApX at AP
    by_cases hs : (prtX a).1.k = 11 ∧ (prtX b).1.k = 11 ∧ (prtX a).1.n = (prtX b).1.n
    ·
     rw [if_pos hs]
     unfold numX
     rw [tv_num]
     rw [decide_eq_true hs] at AP
     exact fp_sub1 _ _ ta tb xa xb true AP _ _ ia ib w
    ·
     rw [if_neg hs, TT 6 (by omega)]
     rw [decide_eq_false hs] at AP
     exact fp_sub0 _ _ ta tb xa xb true AP _ _ ia ib w
   ·
    by_cases k5 : k = 5
    ·
     subst k5
     rw [if_neg k6, if_pos ⟨rfl, a1⟩]
     exact fp_add1 _ a.n tb xb (AB a.n (by omega)) ta xa _ ia ib w
    ·
     rw [if_neg k6, if_neg (fun h => k5 h.1), if_neg (fun h => k5 h.1), TT k hk]
     exact fp_oth k (beq_eq_false_iff_ne.2 k5) (beq_eq_false_iff_ne.2 k6) hi true false rfl ta tb xa xb _ _ ia ib w
 ·
  have E : foldN k a b = mixX k a b := by unfold foldN; rw [if_neg (fun h => a1 h.1)]
  rw [E]
  unfold mixX
  rcases IB with ⟨b1, bn, ib⟩ | ⟨b1, ib⟩
  ·
   by_cases k6 : k = 6
   ·
    subst k6
    rw [if_pos rfl]
    unfold subX
    rw [if_pos b1]
    exact fp_sub2 _ b.n bn ta xa (AA (-b.n) (by omega)) tb xb _ ia ib w
   ·
    by_cases k5 : k = 5
    ·
     subst k5
     rw [if_neg k6, if_neg (fun h => a1 h.2), if_pos ⟨rfl, b1⟩]
     exact fp_add2 _ b.n ta xa (AA b.n (by omega)) tb xb _ ia ib w
    ·
     rw [if_neg k6, if_neg (fun h => k5 h.1), if_neg (fun h => k5 h.1), TT k hk]
     exact fp_oth k (beq_eq_false_iff_ne.2 k5) (beq_eq_false_iff_ne.2 k6) hi false true rfl ta tb xa xb _ _ ia ib w
  ·
   by_cases k6 : k = 6
   ·
    subst k6
    rw [if_pos rfl]
    unfold subX
    rw [if_neg b1]
    unfold sApX at AP
    by_cases hs : (prtX a).1.k = 11 ∧ (prtX b).1.k = 11 ∧ (prtX a).1.n = (prtX b).1.n
    ·
     rw [if_pos hs]
     unfold numX
     rw [tv_num]
     rw [decide_eq_true hs] at AP
     exact fp_sub1 _ _ ta tb xa xb false AP _ _ ia ib w
    ·
     rw [if_neg hs, TT 6 (by omega)]
     rw [decide_eq_false hs] at AP
     exact fp_sub0 _ _ ta tb xa xb false AP _ _ ia ib w
   ·
    by_cases k5 : k = 5
    ·
     subst k5
     rw [if_neg k6, if_neg (fun h => a1 h.2), if_neg (fun h => b1 h.2), TT 5 hk]
     exact fp_add0 ta tb xa xb _ _ ia ib w
    ·
     rw [if_neg k6, if_neg (fun h => k5 h.1), if_neg (fun h => k5 h.1), TT k hk]
     exact fp_oth k (beq_eq_false_iff_ne.2 k5) (beq_eq_false_iff_ne.2 k6) hi false false rfl ta tb xa xb _ _ ia ib w
theorem two_new2 (w : World) (o1 o2 : Obj) : ((w.alloc o1).alloc o2).heap[w.heap.size + 1]? = some o2 ∧ Below w.heap.size w ((w.alloc o1).alloc o2) := by
 have h1 : (w.alloc o1).heap.size = w.heap.size + 1 := by simp
 refine ⟨?_, ((Below.refl _ _).alloc (Nat.le_refl _) _).alloc (by simp) _⟩
 rw [← h1]
 exact Array.getElem?_push_size
def PrR (e : Ex) (P : Nat → Prop) (w : World) (r : Ending) (w' : World) : Prop := ∃ (c : Option Addr) (cp : Nat), r = .returned (.tuple #[.agg ((prtX e).1.cs c cp), .int .i64 (prtX e).2]) ∧ PX w' P (prtX e).1 c ∧ Below w.heap.size w w'
theorem Bx.pend {w wr : World} {pr : Array Value} {P : Nat → Prop} {e x : Ex} {m : Int} {c : Option Addr} {cp : Nat} (h : Bx w wr pr) (hp : prtX e = (x, m)) (hx : PX wr (Ow w P) x c) (row : Array Value) : PrR e P w (.returned (.tuple #[.agg #[.int .i64 x.k, .int .i64 x.n, .string x.s, .slice c x.l.length cp], .int .i64 m])) (wr.setRow (w.heap.size + 1) row) := by
 unfold PrR
 rw [hp]
 exact ⟨c, cp, rfl, (hx.row _ (ow_no w P)).mono (fun b hb => hb.1), h.bel.grown (grownBy_row _) h.bel.size (fun k e => by cases e; omega)⟩
theorem prtS_no (e : Ex) (c : Option Addr) (cp : Nat) (P : Nat → Prop) (w : World) (h : PX w P e c) (hp : prtX e = (e, 0)) (h5 : e.k ≠ 5) : Calls Tryd.prog 67 #[.agg (e.cs c cp)] w (PrR e P w) := by
 have X1 := hide (two_new2 w (.cells #[.int .i64 e.k, .int .i64 e.n, .string e.s, .slice c e.l.length cp] 43) (.cells #[.int .i64 e.k, .int .i64 e.n, .string e.s, .slice c e.l.length cp] 43)).symm
 have A1 := hide (h.later (uh X1).1)
 have g5 : (e.k == 5) = false := beq_eq_false_iff_ne.2 h5
 have PP := hide hp
 generalize hX : PrR e P w = X
 have HX := hide hX
 unfold Ex.cs
 clear h hX hp
 go_enter Tryd.func67, Tryd.ntmps67
 go_wp2
 refine bodyPost_ret (results_row2 (P := Tryd.prog) rfl _ _ (w.heap.size + 1) 43 #[.int .i64 e.k, .int .i64 e.n, .string e.s, .slice c e.l.length cp] (0, 0) _ rfl (uh X1).2 Tryd.underlying43 rfl szE) rfl ?_
 rw [← uh HX]
 unfold PrR
 rw [uh PP]
 exact ⟨c, cp, rfl, uh A1, (uh X1).1⟩
theorem prtS_no2 (e x y : Ex) (c : Option Addr) (cp : Nat) (P : Nat → Prop) (w : World) (h : PX w P e c) (hp : prtX e = (e, 0)) (hk : e.k = 5) (hl : e.l = [x, y]) (h1 : y.k ≠ 1) : Calls Tryd.prog 67 #[.agg (e.cs c cp)] w (PrR e P w) := by
 obtain ⟨k, n, s, l⟩ := e
 obtain rfl : k = 5 := hk
 obtain rfl : l = [x, y] := hl
 have g1 : (y.k == 1) = false := beq_eq_false_iff_ne.2 h1
 have X1 := hide (two_new2 w (.cells #[.int .i64 5, .int .i64 n, .string s, .slice c 2 cp] 43) (.cells #[.int .i64 5, .int .i64 n, .string s, .slice c 2 cp] 43)).symm
 have A1 := hide (h.later (uh X1).1)
 have PP := hide hp
 have BZ := hide (two_new2 w (.cells #[.int .i64 5, .int .i64 n, .string s, .slice c 2 cp] 43) (.cells #[.int .i64 0, .int .i64 0, .string ⟨#[]⟩, .slice none 0 0] 43)).2
 have A2 := h.later (uh BZ)
 obtain ⟨blk, d, dp, f, fp, rfl, hlt, ⟨a0, a1, a2, a3⟩, ⟨b0, b1, b2, b3⟩, _, _⟩ := A2.parts
 generalize hX : PrR ⟨5, n, s, [x, y]⟩ P w = X
 have HX := hide hX
 unfold Ex.cs
 clear h hX hp A2 h1
 go_enter Tryd.func67, Tryd.ntmps67
 go_wp2
 refine bodyPost_ret (results_row2 (P := Tryd.prog) rfl _ _ (w.heap.size + 1) 43 #[.int .i64 5, .int .i64 n, .string s, .slice (some ⟨blk, 0, none⟩) 2 cp] (0, 0) _ rfl (uh X1).2 Tryd.underlying43 rfl szE) rfl ?_
 rw [← uh HX]
 unfold PrR
 rw [uh PP]
 exact ⟨_, cp, rfl, uh A1, (uh X1).1⟩
theorem prtS_yes (x : Ex) (m : Int) (c : Option Addr) (cp : Nat) (P : Nat → Prop) (w : World) (h : PX w P ⟨5, 0, E0, [x, ⟨1, m, E0, []⟩]⟩ c) : Calls Tryd.prog 67 #[.agg ((Ex.mk 5 0 E0 [x, ⟨1, m, E0, []⟩]).cs c cp)] w (PrR ⟨5, 0, E0, [x, ⟨1, m, E0, []⟩]⟩ P w) := by
 obtain ⟨blk, d, dp, f, fp, rfl, hlt0, _, _, _, _⟩ := h.parts
 have X0 := hide (Bx.new w #[.int .i64 5, .int .i64 0, .string ⟨#[]⟩, .slice (some ⟨blk, 0, none⟩) 2 cp])
 have A0 := h.ow (uh X0).bel
 obtain ⟨blk', d, dp, f, fp, e', hlt, ⟨a0, a1, a2, a3⟩, ⟨b0, b1, b2, b3⟩, hx, _⟩ := A0.parts
 cases e'
 have HA := hide hx
 have PP := hide (show prtX ⟨5, 0, E0, [x, ⟨1, m, E0, []⟩]⟩ = (x, m) from rfl)
 generalize hX : PrR ⟨5, 0, E0, [x, ⟨1, m, E0, []⟩]⟩ P w = X
 have HX := hide hX
 show Calls Tryd.prog 67 #[.agg #[.int .i64 5, .int .i64 0, .string ⟨#[]⟩, .slice (some ⟨blk, 0, none⟩) 2 cp]] w X
 clear h hX A0 hx
 go_enter Tryd.func67, Tryd.ntmps67
 go_wp2
 generalize (w.alloc (.cells #[.int .i64 5, .int .i64 0, .string ⟨#[]⟩, .slice (some ⟨blk, 0, none⟩) 2 cp] 43)).alloc (.cells #[.int .i64 0, .int .i64 0, .string ⟨#[]⟩, .slice none 0 0] 43) = W at *
 have X1 := hide ((uh X0).later (below_drew (w := W)))
 have A1 := hide ((uh HA).later (below_drew (w := W)))
 have D1 := hide (show (fun v => v.heap[w.heap.size]? = some (.cells #[.int .i64 5, .int .i64 0, .string ⟨#[]⟩, .slice (some ⟨blk, 0, none⟩) 2 cp] 43 (0, 0)) ∧ (v.cell? ⟨blk, 0, none⟩ = some (.int .i64 x.k) ∧ v.cell? ⟨blk, 1, none⟩ = some (.int .i64 x.n) ∧ v.cell? ⟨blk, 2, none⟩ = some (.string x.s) ∧ v.cell? ⟨blk, 3, none⟩ = some (.slice d x.l.length dp)) ∧ v.cell? ⟨blk, 5, none⟩ = some (.int .i64 m)) W.drew from ⟨(uh X1).box, ⟨a0, a1, a2, a3⟩, b1⟩)
 clear X0 HA a0 a1 a2 a3 b0 b1 b2 b3
 refine wp_region_held_drew (S := fun v => v.heap[w.heap.size]? = some (.cells #[.int .i64 5, .int .i64 0, .string ⟨#[]⟩, .slice (some ⟨blk, 0, none⟩) 2 cp] 43 (0, 0)) ∧ (v.cell? ⟨blk, 0, none⟩ = some (.int .i64 x.k) ∧ v.cell? ⟨blk, 1, none⟩ = some (.int .i64 x.n) ∧ v.cell? ⟨blk, 2, none⟩ = some (.string x.s) ∧ v.cell? ⟨blk, 3, none⟩ = some (.slice d x.l.length dp)) ∧ v.cell? ⟨blk, 5, none⟩ = some (.int .i64 m)) (by kernel_rfl) (uh D1) (fun hS => ?_)
 have HS := hide hS
 clear hS
 generalize W.drew = W1 at *
 refine tkB 0 (.pointer (some ⟨w.heap.size, 3, none⟩)) rfl (uh HS) ?_
 go_simp
 refine tkA 1 (.slice (some ⟨blk, 0, none⟩) 2 cp) rfl (.inl ⟨by rfl, fun w hc => ?_⟩) (uh HS) ?_
 · have q := Lib.cell_of_heap hc.1 3; clear hc; go_simp
 go_simp
 refine tkB 2 (.pointer (some ⟨blk, 0, none⟩)) rfl (uh HS) ?_
 go_simp
 refine tkA 3 (.agg #[.int .i64 x.k, .int .i64 x.n, .string x.s, .slice d x.l.length dp]) rfl (.inl ⟨by rfl, fun w hc => ?_⟩) (uh HS) ?_
 · obtain ⟨_, ⟨h0, h1, h2, h3⟩, _⟩ := hc; go_simp
 go_simp
 refine tkB 4 (.pointer (some ⟨w.heap.size, 3, none⟩)) rfl (uh HS) ?_
 go_simp
 refine tkA 5 (.slice (some ⟨blk, 0, none⟩) 2 cp) rfl (.inl ⟨by rfl, fun w hc => ?_⟩) (uh HS) ?_
 · have q := Lib.cell_of_heap hc.1 3; clear hc; go_simp
 go_simp
 refine tkB 6 (.pointer (some ⟨blk, 4, none⟩)) rfl (uh HS) ?_
 go_simp
 refine tkB 7 (.pointer (some ⟨blk, 5, none⟩)) rfl (uh HS) ?_
 go_simp
 refine tkA 8 (.int .i64 m) rfl (.inl ⟨by rfl, fun w hc => ?_⟩) (uh HS) ?_
 · obtain ⟨_, _, h0⟩ := hc; go_simp
 go_simp
 refine wpAnyH_ready (rs := [9]) (by kernel_rfl) (by simp) ?_
 refine AllReadyH.cons rfl (fun K2 hK => ?_) AllReadyH.nil
 rw [if_pos (by rfl)]
 refine wp_store_row 43 _ _ rfl (w.heap.size + 1) #[.int .i64 x.k, .int .i64 x.n, .string x.s, .slice d x.l.length dp] rfl rfl 43 _ (uh X1).res szE rfl (ex_one _ _ _ _ _ _) ?_
 have KE := fun (i : Nat) => (World.cell?_of_block (a := ⟨blk, i, none⟩) (setRow_other W1 (w.heap.size + 1) blk #[.int .i64 x.k, .int .i64 x.n, .string x.s, .slice d x.l.length dp] (by omega)))
 refine hK.out _ _ (⟨(setRow_other _ _ _ _ (by omega)).trans (uh D1).1, ⟨(KE 0).trans (uh D1).2.1.1, (KE 1).trans (uh D1).2.1.2.1, (KE 2).trans (uh D1).2.1.2.2.1, (KE 3).trans (uh D1).2.1.2.2.2⟩, (KE 5).trans (uh D1).2.2⟩) (fun hS => ?_)
 clear HS
 have HS := hide hS
 clear hS hK K2
 clear KE
 refine tkB 10 (.int .i64 m) rfl (uh HS) ?_
 go_simp
 refine wpAnyH_done (by kernel_rfl) ?_ _
 clear HS D1
 go_wp2
 refine bodyPost_ret (results_row2 (P := Tryd.prog) rfl _ _ (w.heap.size + 1) 43 #[.int .i64 x.k, .int .i64 x.n, .string x.s, .slice d x.l.length dp] (0, 0) _ rfl (setRow_heap _ _ _ _ _ _ (uh X1).res) Tryd.underlying43 rfl szE) rfl ?_
 rw [← uh HX]
 exact (uh X1).pend (uh PP) (uh A1) _
theorem prtS_any {d : Nat} (e : Ex) (ho : okF (d + 1) false e = true) (c : Option Addr) (cp : Nat) (P : Nat → Prop) (w : World) (h : PX w P e c) : Calls Tryd.prog 67 #[.agg (e.cs c cp)] w (PrR e P w) := by
 rcases prt_cases ho with ⟨hp, hn⟩ | ⟨b, m, hm, rfl, _, _⟩
 ·
  by_cases h5 : e.k = 5
  ·
   rcases ok_sev ho with ⟨n, hn, rfl⟩ | ⟨s, hs, rfl⟩ | rfl | ⟨n, hn, rfl⟩ | ⟨s, hs, rfl⟩ | ⟨a, ha, rfl⟩ | ⟨k, a, b, hk, ha, hb, rfl⟩
   · exact absurd (show (1 : Int) = 5 from h5) (by decide)
   · exact absurd (show (2 : Int) = 5 from h5) (by decide)
   · exact absurd (show (3 : Int) = 5 from h5) (by decide)
   · exact absurd (show (11 : Int) = 5 from h5) (by decide)
   · exact absurd (show (12 : Int) = 5 from h5) (by decide)
   · exact absurd (show (4 : Int) = 5 from h5) (by decide)
   · exact prtS_no2 _ a b c cp P w h hp h5 rfl (fun e1 => hn ⟨h5, e1⟩)
  · exact prtS_no e c cp P w h hp h5
 · exact prtS_yes b m c cp P w h
theorem prt_in {d : Nat} {a : Ex} (h : okF (d + 1) false a = true) : 0 ≤ (prtX a).2 ∧ (prtX a).2 ≤ 65535 := by
 rcases prt_cases h with ⟨e, _⟩ | ⟨b, m, hm, rfl, e, hb⟩
 · rw [e]; exact ⟨Int.le_refl _, show (0 : Int) ≤ 65535 by decide⟩
 · rw [e]; exact hm
theorem sumS_any {d : Nat} (a : Ex) (ho : okF (d + 1) false a = true) (c : Option Addr) (cp : Nat) (n : Int) (hn : -65535 ≤ n ∧ n ≤ 65535) (P : Nat → Prop) (w : World) (h : PX w P a c) (hP : ∀ b, w.heap.size ≤ b → P b) : Calls Tryd.prog 58 #[.agg (a.cs c cp), .int .i64 n] w (GiR (sumX a n) P w) := by
 have X0 := hide (Bx.new w #[.int .i64 a.k, .int .i64 a.n, .string a.s, .slice c a.l.length cp])
 have PR := hide (prtS_any a ho c cp (Ow w P) _ (h.ow (uh X0).bel))
 have HP := hide hP
 have hpi := prt_in ho
 have EQ := hide (show sumX a n = addX (prtX a).1 ((prtX a).2 + n) from rfl)
 generalize hX : GiR (sumX a n) P w = X
 have HX := hide hX
 unfold PrR at PR
 generalize prtX a = pa at *
 obtain ⟨x, m⟩ := pa
 simp only at PR hpi EQ
 rw [uh EQ] at HX
 unfold Ex.cs at PR ⊢
 clear h hP hX EQ ho
 go_enter Tryd.func58, Tryd.ntmps58
 go_wp2_with fail
 generalize (w.alloc (.cells #[.int .i64 a.k, .int .i64 a.n, .string a.s, .slice c a.l.length cp] 43)).alloc (.cells #[.int .i64 0, .int .i64 0, .string ⟨#[]⟩, .slice none 0 0] 43) = W at *
 refine (uh PR).mono ?_
 rintro r w1 ⟨c1, cp1, rfl, hx1, hb1⟩
 have X1 := (uh X0).later hb1
 have hb2 := below_new w1 (.cells #[.int .i64 x.k, .int .i64 x.n, .string x.s, .slice c1 x.l.length cp1] 43)
 have X2 := hide (X1.later hb2)
 have G2 := hide (show (w1.alloc (.cells #[.int .i64 x.k, .int .i64 x.n, .string x.s, .slice c1 x.l.length cp1] 43)).heap[w1.heap.size]? = some (.cells #[.int .i64 x.k, .int .i64 x.n, .string x.s, .slice c1 x.l.length cp1] 43 (0, 0)) from Array.getElem?_push_size)
 have AD := hide (addS_any x c1 cp1 (m + n) (Ow w P) _ (hx1.later hb2) (fun b hb => ow_in (uh HP) (Nat.le_trans (uh X2).lt hb)))
 unfold GiR Ex.cs at AD
 clear hx1 hb1 hb2 X1 X0 PR
 go_wp2_with (refine wpList_load_row rfl 43 _ rfl w1.heap.size rfl 43 #[.int .i64 x.k, .int .i64 x.n, .string x.s, .slice c1 x.l.length cp1] (0, 0) _ (uh G2) Tryd.underlying43 rfl (by kernel_rfl) ?_)
 generalize w1.alloc (.cells #[.int .i64 x.k, .int .i64 x.n, .string x.s, .slice c1 x.l.length cp1] 43) = w2 at *
 generalize w1.heap.size = g1 at *
 refine (uh AD).mono ?_
 rintro r w3 ⟨c3, cp3, rfl, hx3, hb3⟩
 have X3 := hide ((uh X2).later hb3)
 have A3 := hide hx3
 clear hx3 hb3 X2 G2 AD
 generalize addX x (m + n) = y at *
 go_wp2_with (refine wpList_store_row rfl 43 _ _ rfl (w.heap.size + 1) #[.int .i64 y.k, .int .i64 y.n, .string y.s, .slice c3 y.l.length cp3] rfl rfl 43 _ ((uh X3).res) szE rfl (ex_one _ _ _ _ _ _) ?_)
 refine bodyPost_ret (results_cell_row (P := Tryd.prog) rfl _ _ (w.heap.size + 1) 43 #[.int .i64 y.k, .int .i64 y.n, .string y.s, .slice c3 y.l.length cp3] (0, 0) _ rfl (setRow_heap _ _ _ _ _ _ ((uh X3).res)) Tryd.underlying43 rfl szE) rfl ?_
 rw [← uh HX]
 exact (uh X3).end (uh A3) _
structure By (w wr : World) (pa pb : Array Value) : Prop where
 bel : Below w.heap.size w wr
 lt : w.heap.size + 3 ≤ wr.heap.size
 boxa : wr.heap[w.heap.size]? = some (.cells pa 43 (0, 0))
 boxb : wr.heap[w.heap.size + 1]? = some (.cells pb 43 (0, 0))
 res : wr.heap[w.heap.size + 2]? = some (.cells #[.int .i64 0, .int .i64 0, .string ⟨#[]⟩, .slice none 0 0] 43 (0, 0))
theorem By.later {w wr w' : World} {pa pb : Array Value} (h : By w wr pa pb) (hb : Below wr.heap.size wr w') : By w w' pa pb := ⟨h.bel.trans (hb.mono h.bel.size), Nat.le_trans h.lt hb.size, row_keep h.boxa hb, row_keep h.boxb hb, row_keep h.res hb⟩
theorem By.new (w : World) (pa pb : Array Value) : By w (((w.alloc (.cells pa 43)).alloc (.cells pb 43)).alloc (.cells #[.int .i64 0, .int .i64 0, .string ⟨#[]⟩, .slice none 0 0] 43)) pa pb := by
 have hb := (((Below.refl w.heap.size w).alloc (Nat.le_refl _) (.cells pa 43)).alloc (by simp) (.cells pb 43)).alloc (by simp; omega) (.cells #[.int .i64 0, .int .i64 0, .string ⟨#[]⟩, .slice none 0 0] 43)
 have h1 : (w.alloc (.cells pa 43)).heap.size = w.heap.size + 1 := by simp
 have h2 : ((w.alloc (.cells pa 43)).alloc (.cells pb 43)).heap.size = w.heap.size + 2 := by simp
 refine ⟨hb, by simp, ?_, ?_, ?_⟩
 · exact row_keep (row_keep (heap_alloc_new w _) (below_new _ _)) (below_new _ _)
 ·
  refine row_keep ?_ (below_new _ _)
  rw [← h1]; exact Array.getElem?_push_size
 · rw [← h2]; exact Array.getElem?_push_size
def Oy (w : World) (P : Nat → Prop) (b : Nat) : Prop := P b ∧ (b < w.heap.size ∨ w.heap.size + 3 ≤ b)
theorem oy_no (w : World) (P : Nat → Prop) : ¬ Oy w P (w.heap.size + 2) := fun h => by have := h.2; omega
theorem oy_in {w : World} {P : Nat → Prop} (hP : ∀ b, w.heap.size ≤ b → P b) {b : Nat} (h : w.heap.size + 3 ≤ b) : Oy w P b := ⟨hP b (by omega), .inr h⟩
theorem PX.oy {w w' : World} {P : Nat → Prop} {e : Ex} {c : Option Addr} (h : PX w P e c) (hb : Below w.heap.size w w') : PX w' (Oy w P) e c := (h.low.mono (fun b hb => ⟨hb.1, .inl hb.2⟩)).later hb
theorem By.end {w wr : World} {pa pb : Array Value} {P : Nat → Prop} {x : Ex} {c : Option Addr} {cp : Nat} (h : By w wr pa pb) (hx : PX wr (Oy w P) x c) (row : Array Value) : GiR x P w (.returned (.agg #[.int .i64 x.k, .int .i64 x.n, .string x.s, .slice c x.l.length cp])) (wr.setRow (w.heap.size + 2) row) :=
 ⟨c, cp, rfl, (hx.row _ (oy_no w P)).mono (fun b hb => hb.1), h.bel.grown (grownBy_row _) h.bel.size (fun k e => by cases e; omega)⟩
theorem subS_num {d : Nat} (a b : Ex) (oa : okF (d + 1) false a = true) (ob : okF (d + 1) false b = true) (c e : Option Addr) (cp ep : Nat) (P Q R : Nat → Prop) (w : World) (ha : PX w P a c) (hb : PX w Q b e) (hPQ : ∀ b, P b → ¬ Q b) (hPR : ∀ b, P b → R b) (hQR : ∀ b, Q b → R b) (hR : ∀ b, w.heap.size ≤ b → R b) (h1 : b.k = 1) : Calls Tryd.prog 57 #[.agg (a.cs c cp), .agg (b.cs e ep)] w (GiR (subX a b) R w) := by
 obtain ⟨m, hm, rfl⟩ := ok_k1 ob h1
 have X0 := hide (By.new w #[.int .i64 a.k, .int .i64 a.n, .string a.s, .slice c a.l.length cp] #[.int .i64 1, .int .i64 m, .string E0, .slice e 0 ep])
 have SU := hide (sumS_any a oa c cp (-m) (by omega) (Oy w R) _ ((ha.oy (uh X0).bel).mono (fun b h => ⟨hPR b h.1, h.2⟩)) (fun b h => oy_in hR (Nat.le_trans (uh X0).lt h)))
 have EQ := hide (show subX a ⟨1, m, E0, []⟩ = sumX a (-m) by unfold subX; rw [if_pos rfl])
 rw [uh EQ]
 generalize hX : GiR (sumX a (-m)) R w = X
 have HX := hide hX
 unfold GiR Ex.cs at SU
 show Calls Tryd.prog 57 #[.agg #[.int .i64 a.k, .int .i64 a.n, .string a.s, .slice c a.l.length cp], .agg #[.int .i64 1, .int .i64 m, .string E0, .slice e 0 ep]] w X
 clear hX EQ oa ob ha hb hPQ hPR hQR hR h1
 go_enter Tryd.func57, Tryd.ntmps57
 go_wp2_with fail
 generalize ((w.alloc (.cells #[.int .i64 a.k, .int .i64 a.n, .string a.s, .slice c a.l.length cp] 43)).alloc (.cells #[.int .i64 1, .int .i64 m, .string E0, .slice e 0 ep] 43)).alloc (.cells #[.int .i64 0, .int .i64 0, .string ⟨#[]⟩, .slice none 0 0] 43) = W at *
 refine (uh SU).mono ?_
 rintro r w3 ⟨c3, cp3, rfl, hx3, hb3⟩
 have X3 := hide ((uh X0).later hb3)
 have A3 := hide hx3
 clear hx3 hb3 X0 SU
 generalize sumX a (-m) = y at *
 go_wp2_with (refine wpList_store_row rfl 43 _ _ rfl (w.heap.size + 2) #[.int .i64 y.k, .int .i64 y.n, .string y.s, .slice c3 y.l.length cp3] rfl rfl 43 _ ((uh X3).res) szE rfl (ex_one _ _ _ _ _ _) ?_)
 refine bodyPost_ret (results_cell_row (P := Tryd.prog) rfl _ _ (w.heap.size + 2) 43 #[.int .i64 y.k, .int .i64 y.n, .string y.s, .slice c3 y.l.length cp3] (0, 0) _ rfl (setRow_heap _ _ _ _ _ _ ((uh X3).res)) Tryd.underlying43 rfl szE) rfl ?_
 rw [← uh HX]
 exact (uh X3).end (uh A3) _
theorem subS_sect {d : Nat} (a b : Ex) (oa : okF (d + 1) false a = true) (ob : okF (d + 1) false b = true) (c e : Option Addr) (cp ep : Nat) (P Q R : Nat → Prop) (w : World) (ha : PX w P a c) (hb : PX w Q b e) (hPQ : ∀ b, P b → ¬ Q b) (hPR : ∀ b, P b → R b) (hQR : ∀ b, Q b → R b) (hR : ∀ b, w.heap.size ≤ b → R b) (h1 : b.k ≠ 1) (f0 : ((prtX a).1.k == 11) = true) (f1 : ((prtX b).1.k == 11) = true) (f2 : ((prtX a).1.n == (prtX b).1.n) = true) : Calls Tryd.prog 57 #[.agg (a.cs c cp), .agg (b.cs e ep)] w (GiR (subX a b) R w) := by
 have X0 := hide (By.new w #[.int .i64 a.k, .int .i64 a.n, .string a.s, .slice c a.l.length cp] #[.int .i64 b.k, .int .i64 b.n, .string b.s, .slice e b.l.length ep])
 have A0 := hide (ha.oy (uh X0).bel)
 have C0 := hide (hb.oy (uh X0).bel)
 have PA := hide (prtS_any a oa c cp (Oy w P) _ (uh A0))
 have PB := hide (fun wr (h : PX wr (Oy w Q) b e) => prtS_any b ob e ep (Oy w Q) wr h)
 have HR := hide hR
 have DJ := hide (show ∀ b, Oy w P b → ¬ Oy w Q b from fun b h k => hPQ b h.1 k.1)
 have PR := hide (show ∀ b, Oy w P b → Oy w R b from fun b h => ⟨hPR b h.1, h.2⟩)
 have QR := hide (show ∀ b, Oy w Q b → Oy w R b from fun b h => ⟨hQR b h.1, h.2⟩)
 have ia := prt_in oa
 have ib := prt_in ob
 have g1 : (b.k == 1) = false := beq_eq_false_iff_ne.2 h1
 have EQ := hide (show subX a b = numX ((prtX a).2 - (prtX b).2) by unfold subX; rw [if_neg h1, if_pos ⟨beq_iff_eq.1 f0, beq_iff_eq.1 f1, beq_iff_eq.1 f2⟩])
 unfold PrR at PA PB
 generalize prtX a = pa at *
 generalize prtX b = pb at *
 obtain ⟨x, n⟩ := pa
 obtain ⟨y, k⟩ := pb
 simp only at PA PB ia ib EQ f0 f1 f2
 rw [uh EQ]
 generalize hX : GiR _ R w = X
 have HX := hide hX
 unfold Ex.cs at PA PB ⊢
 clear hX EQ oa ob ha hb hPQ hPR hQR hR h1
 go_enter Tryd.func57, Tryd.ntmps57
 go_wp2_with fail
 generalize ((w.alloc (.cells #[.int .i64 a.k, .int .i64 a.n, .string a.s, .slice c a.l.length cp] 43)).alloc (.cells #[.int .i64 b.k, .int .i64 b.n, .string b.s, .slice e b.l.length ep] 43)).alloc (.cells #[.int .i64 0, .int .i64 0, .string ⟨#[]⟩, .slice none 0 0] 43) = W at *
 refine (uh PA).mono ?_
 rintro r w1 ⟨c1, cp1, rfl, hx1, hb1⟩
 clear hx1
 have X1 := (uh X0).later hb1
 have A1 := (uh A0).later hb1
 have C1 := (uh C0).later hb1
 have hb2 := below_new w1 (.cells #[.int .i64 x.k, .int .i64 x.n, .string x.s, .slice c1 x.l.length cp1] 43)
 have X2 := hide (X1.later hb2)
 have A2 := hide (A1.later hb2)
 have C2 := hide (C1.later hb2)
 have G2 := hide (show (w1.alloc (.cells #[.int .i64 x.k, .int .i64 x.n, .string x.s, .slice c1 x.l.length cp1] 43)).heap[w1.heap.size]? = some (.cells #[.int .i64 x.k, .int .i64 x.n, .string x.s, .slice c1 x.l.length cp1] 43 (0, 0)) from Array.getElem?_push_size)
 have PB2 := hide (uh PB _ (uh C2))
 clear hb1 hb2 X1 A1 C1 X0 A0 C0 PA PB
 go_wp2_with (refine wpList_load_row rfl 43 _ rfl (w.heap.size + 1) rfl 43 #[.int .i64 b.k, .int .i64 b.n, .string b.s, .slice e b.l.length ep] (0, 0) _ ((uh X2).boxb) Tryd.underlying43 rfl (by kernel_rfl) ?_)
 generalize w1.alloc (.cells #[.int .i64 x.k, .int .i64 x.n, .string x.s, .slice c1 x.l.length cp1] 43) = w2 at *
 generalize w1.heap.size = g1' at *
 refine (uh PB2).mono ?_
 rintro r w3 ⟨c3, cp3, rfl, hx3, hb3⟩
 clear hx3
 have X3 := (uh X2).later hb3
 have A3 := (uh A2).later hb3
 have C3 := (uh C2).later hb3
 have G3 := row_keep (uh G2) hb3
 have hb4 := below_new w3 (.cells #[.int .i64 y.k, .int .i64 y.n, .string y.s, .slice c3 y.l.length cp3] 43)
 have X4 := hide (X3.later hb4)
 have A4 := hide (A3.later hb4)
 have C4 := hide (C3.later hb4)
 have G4 := row_keep G3 hb4
 have K4 := (show (w3.alloc (.cells #[.int .i64 y.k, .int .i64 y.n, .string y.s, .slice c3 y.l.length cp3] 43)).heap[w3.heap.size]? = some (.cells #[.int .i64 y.k, .int .i64 y.n, .string y.s, .slice c3 y.l.length cp3] 43 (0, 0)) from Array.getElem?_push_size)
 have x0 := Lib.cell_of_heap G4 0
 have x1 := Lib.cell_of_heap G4 1
 have y0 := Lib.cell_of_heap K4 0
 have y1 := Lib.cell_of_heap K4 1
 clear hb3 hb4 X3 A3 C3 G3 X2 A2 C2 G2 PB2 G4 K4
 go_wp2_with fail
 generalize w3.alloc (.cells #[.int .i64 y.k, .int .i64 y.n, .string y.s, .slice c3 y.l.length cp3] 43) = w4 at *
 generalize w3.heap.size = g3 at *
 clear x0 x1 y0 y1
 have NU := hide (numD (n - k) w4)
 refine (uh NU).mono ?_
 rintro r w5 ⟨rfl, hb5⟩
 have X5 := hide ((uh X4).later hb5)
 have N5 := hide (PX.leaf w5 (Oy w R) 1 ((n - k) % 65536) (⟨#[]⟩ : ByteArray) none)
 clear hb5 X4 A4 C4 NU
 go_wp2_with (refine wpList_store_row rfl 43 _ _ rfl (w.heap.size + 2) #[.int .i64 1, .int .i64 ((n - k) % 65536), .string ⟨#[]⟩, .slice none 0 0] rfl rfl 43 _ ((uh X5).res) szE rfl (ex_one _ _ _ _ _ _) ?_)
 refine bodyPost_ret (results_cell_row (P := Tryd.prog) rfl _ _ (w.heap.size + 2) 43 #[.int .i64 1, .int .i64 ((n - k) % 65536), .string ⟨#[]⟩, .slice none 0 0] (0, 0) _ rfl (setRow_heap _ _ _ _ _ _ ((uh X5).res)) Tryd.underlying43 rfl szE) rfl ?_
 rw [← uh HX]
 exact By.end (x := numX (n - k)) (uh X5) (uh N5) _
theorem subS_n0 {d : Nat} (a b : Ex) (oa : okF (d + 1) false a = true) (ob : okF (d + 1) false b = true) (c e : Option Addr) (cp ep : Nat) (P Q R : Nat → Prop) (w : World) (ha : PX w P a c) (hb : PX w Q b e) (hPQ : ∀ b, P b → ¬ Q b) (hPR : ∀ b, P b → R b) (hQR : ∀ b, Q b → R b) (hR : ∀ b, w.heap.size ≤ b → R b) (h1 : b.k ≠ 1) (f0 : ((prtX a).1.k == 11) = false) : Calls Tryd.prog 57 #[.agg (a.cs c cp), .agg (b.cs e ep)] w (GiR (subX a b) R w) := by
 have X0 := hide (By.new w #[.int .i64 a.k, .int .i64 a.n, .string a.s, .slice c a.l.length cp] #[.int .i64 b.k, .int .i64 b.n, .string b.s, .slice e b.l.length ep])
 have A0 := hide (ha.oy (uh X0).bel)
 have C0 := hide (hb.oy (uh X0).bel)
 have PA := hide (prtS_any a oa c cp (Oy w P) _ (uh A0))
 have PB := hide (fun wr (h : PX wr (Oy w Q) b e) => prtS_any b ob e ep (Oy w Q) wr h)
 have HR := hide hR
 have DJ := hide (show ∀ b, Oy w P b → ¬ Oy w Q b from fun b h k => hPQ b h.1 k.1)
 have PR := hide (show ∀ b, Oy w P b → Oy w R b from fun b h => ⟨hPR b h.1, h.2⟩)
 have QR := hide (show ∀ b, Oy w Q b → Oy w R b from fun b h => ⟨hQR b h.1, h.2⟩)
 have ia := prt_in oa
 have ib := prt_in ob
 have g1 : (b.k == 1) = false := beq_eq_false_iff_ne.2 h1
 have EQ := hide (show subX a b = ⟨6, 0, ⟨#[]⟩, [a, b]⟩ by unfold subX; rw [if_neg h1, if_neg (fun h => by have := beq_eq_false_iff_ne.1 f0; exact this h.1)]; rfl)
 unfold PrR at PA PB
 generalize prtX a = pa at *
 generalize prtX b = pb at *
 obtain ⟨x, n⟩ := pa
 obtain ⟨y, k⟩ := pb
 simp only at PA PB ia ib EQ f0
 rw [uh EQ]
 generalize hX : GiR _ R w = X
 have HX := hide hX
 unfold Ex.cs at PA PB ⊢
 clear hX EQ oa ob ha hb hPQ hPR hQR hR h1
 go_enter Tryd.func57, Tryd.ntmps57
 go_wp2_with fail
 generalize ((w.alloc (.cells #[.int .i64 a.k, .int .i64 a.n, .string a.s, .slice c a.l.length cp] 43)).alloc (.cells #[.int .i64 b.k, .int .i64 b.n, .string b.s, .slice e b.l.length ep] 43)).alloc (.cells #[.int .i64 0, .int .i64 0, .string ⟨#[]⟩, .slice none 0 0] 43) = W at *
 refine (uh PA).mono ?_
 rintro r w1 ⟨c1, cp1, rfl, hx1, hb1⟩
 clear hx1
 have X1 := (uh X0).later hb1
 have A1 := (uh A0).later hb1
 have C1 := (uh C0).later hb1
 have hb2 := below_new w1 (.cells #[.int .i64 x.k, .int .i64 x.n, .string x.s, .slice c1 x.l.length cp1] 43)
 have X2 := hide (X1.later hb2)
 have A2 := hide (A1.later hb2)
 have C2 := hide (C1.later hb2)
 have G2 := hide (show (w1.alloc (.cells #[.int .i64 x.k, .int .i64 x.n, .string x.s, .slice c1 x.l.length cp1] 43)).heap[w1.heap.size]? = some (.cells #[.int .i64 x.k, .int .i64 x.n, .string x.s, .slice c1 x.l.length cp1] 43 (0, 0)) from Array.getElem?_push_size)
 have PB2 := hide (uh PB _ (uh C2))
 clear hb1 hb2 X1 A1 C1 X0 A0 C0 PA PB
 go_wp2_with (refine wpList_load_row rfl 43 _ rfl (w.heap.size + 1) rfl 43 #[.int .i64 b.k, .int .i64 b.n, .string b.s, .slice e b.l.length ep] (0, 0) _ ((uh X2).boxb) Tryd.underlying43 rfl (by kernel_rfl) ?_)
 generalize w1.alloc (.cells #[.int .i64 x.k, .int .i64 x.n, .string x.s, .slice c1 x.l.length cp1] 43) = w2 at *
 generalize w1.heap.size = g1' at *
 refine (uh PB2).mono ?_
 rintro r w3 ⟨c3, cp3, rfl, hx3, hb3⟩
 clear hx3
 have X3 := (uh X2).later hb3
 have A3 := (uh A2).later hb3
 have C3 := (uh C2).later hb3
 have G3 := row_keep (uh G2) hb3
 have hb4 := below_new w3 (.cells #[.int .i64 y.k, .int .i64 y.n, .string y.s, .slice c3 y.l.length cp3] 43)
 have X4 := hide (X3.later hb4)
 have A4 := hide (A3.later hb4)
 have C4 := hide (C3.later hb4)
 have G4 := row_keep G3 hb4
 have K4 := (show (w3.alloc (.cells #[.int .i64 y.k, .int .i64 y.n, .string y.s, .slice c3 y.l.length cp3] 43)).heap[w3.heap.size]? = some (.cells #[.int .i64 y.k, .int .i64 y.n, .string y.s, .slice c3 y.l.length cp3] 43 (0, 0)) from Array.getElem?_push_size)
 have x0 := Lib.cell_of_heap G4 0
 have x1 := Lib.cell_of_heap G4 1
 have y0 := Lib.cell_of_heap K4 0
 have y1 := Lib.cell_of_heap K4 1
 clear hb3 hb4 X3 A3 C3 G3 X2 A2 C2 G2 PB2 G4 K4
 have hb5 := below_new (w3.alloc (.cells #[.int .i64 y.k, .int .i64 y.n, .string y.s, .slice c3 y.l.length cp3] 43)) (.cells #[.int .i64 a.k, .int .i64 a.n, .string a.s, .slice c a.l.length cp, .int .i64 b.k, .int .i64 b.n, .string b.s, .slice e b.l.length ep] 43)
 have X5 := hide ((uh X4).later hb5)
 have hz5 : (w3.alloc (.cells #[.int .i64 y.k, .int .i64 y.n, .string y.s, .slice c3 y.l.length cp3] 43)).heap.size = w3.heap.size + 1 := by simp
 have N5' := (show PX ((w3.alloc (.cells #[.int .i64 y.k, .int .i64 y.n, .string y.s, .slice c3 y.l.length cp3] 43)).alloc (.cells #[.int .i64 a.k, .int .i64 a.n, .string a.s, .slice c a.l.length cp, .int .i64 b.k, .int .i64 b.n, .string b.s, .slice e b.l.length ep] 43)) (Oy w R) ⟨6, 0, ⟨#[]⟩, [a, b]⟩ (some ⟨(w3.alloc (.cells #[.int .i64 y.k, .int .i64 y.n, .string y.s, .slice c3 y.l.length cp3] 43)).heap.size, 0, none⟩) from (uh A4).two (uh C4) (uh DJ) (uh PR) (uh QR) (oy_in (uh HR) (uh X4).lt) 6 0 ⟨#[]⟩ 43)
 rw [hz5] at N5'
 have N5 := hide N5'
 clear N5' hz5
 clear hb5
 go_wp2_with (first | (refine wpList_load_row rfl 43 _ rfl w.heap.size rfl 43 #[.int .i64 a.k, .int .i64 a.n, .string a.s, .slice c a.l.length cp] (0, 0) _ ((uh X4).boxa) Tryd.underlying43 rfl (by kernel_rfl) ?_) | (refine wpList_load_row rfl 43 _ rfl (w.heap.size + 1) rfl 43 #[.int .i64 b.k, .int .i64 b.n, .string b.s, .slice e b.l.length ep] (0, 0) _ ((uh X4).boxb) Tryd.underlying43 rfl (by kernel_rfl) ?_) | (refine wpList_store_row rfl 43 _ _ rfl (w.heap.size + 2) #[.int .i64 6, .int .i64 0, .string ⟨#[]⟩, .slice (some ⟨w3.heap.size + 1, 0, none⟩) 2 2] rfl rfl 43 _ (uh X5).res szE rfl (ex_one _ _ _ _ _ _) ?_))
 refine bodyPost_ret (results_cell_row (P := Tryd.prog) rfl _ _ (w.heap.size + 2) 43 #[.int .i64 6, .int .i64 0, .string ⟨#[]⟩, .slice (some ⟨w3.heap.size + 1, 0, none⟩) 2 2] (0, 0) _ rfl (setRow_heap _ _ _ _ _ _ (uh X5).res) Tryd.underlying43 rfl szE) rfl ?_
 rw [← uh HX]
 exact By.end (x := ⟨6, 0, ⟨#[]⟩, [a, b]⟩) (uh X5) (uh N5) _
theorem subS_n1 {d : Nat} (a b : Ex) (oa : okF (d + 1) false a = true) (ob : okF (d + 1) false b = true) (c e : Option Addr) (cp ep : Nat) (P Q R : Nat → Prop) (w : World) (ha : PX w P a c) (hb : PX w Q b e) (hPQ : ∀ b, P b → ¬ Q b) (hPR : ∀ b, P b → R b) (hQR : ∀ b, Q b → R b) (hR : ∀ b, w.heap.size ≤ b → R b) (h1 : b.k ≠ 1) (f0 : ((prtX a).1.k == 11) = true) (f1 : ((prtX b).1.k == 11) = false) : Calls Tryd.prog 57 #[.agg (a.cs c cp), .agg (b.cs e ep)] w (GiR (subX a b) R w) := by
 have X0 := hide (By.new w #[.int .i64 a.k, .int .i64 a.n, .string a.s, .slice c a.l.length cp] #[.int .i64 b.k, .int .i64 b.n, .string b.s, .slice e b.l.length ep])
 have A0 := hide (ha.oy (uh X0).bel)
 have C0 := hide (hb.oy (uh X0).bel)
 have PA := hide (prtS_any a oa c cp (Oy w P) _ (uh A0))
 have PB := hide (fun wr (h : PX wr (Oy w Q) b e) => prtS_any b ob e ep (Oy w Q) wr h)
 have HR := hide hR
 have DJ := hide (show ∀ b, Oy w P b → ¬ Oy w Q b from fun b h k => hPQ b h.1 k.1)
 have PR := hide (show ∀ b, Oy w P b → Oy w R b from fun b h => ⟨hPR b h.1, h.2⟩)
 have QR := hide (show ∀ b, Oy w Q b → Oy w R b from fun b h => ⟨hQR b h.1, h.2⟩)
 have ia := prt_in oa
 have ib := prt_in ob
 have g1 : (b.k == 1) = false := beq_eq_false_iff_ne.2 h1
 have EQ := hide (show subX a b = ⟨6, 0, ⟨#[]⟩, [a, b]⟩ by unfold subX; rw [if_neg h1, if_neg (fun h => by have := beq_eq_false_iff_ne.1 f1; exact this h.2.1)]; rfl)
 unfold PrR at PA PB
 generalize prtX a = pa at *
 generalize prtX b = pb at *
 obtain ⟨x, n⟩ := pa
 obtain ⟨y, k⟩ := pb
 simp only at PA PB ia ib EQ f0 f1
 rw [uh EQ]
 generalize hX : GiR _ R w = X
 have HX := hide hX
 unfold Ex.cs at PA PB ⊢
 clear hX EQ oa ob ha hb hPQ hPR hQR hR h1
 go_enter Tryd.func57, Tryd.ntmps57
 go_wp2_with fail
 generalize ((w.alloc (.cells #[.int .i64 a.k, .int .i64 a.n, .string a.s, .slice c a.l.length cp] 43)).alloc (.cells #[.int .i64 b.k, .int .i64 b.n, .string b.s, .slice e b.l.length ep] 43)).alloc (.cells #[.int .i64 0, .int .i64 0, .string ⟨#[]⟩, .slice none 0 0] 43) = W at *
 refine (uh PA).mono ?_
 rintro r w1 ⟨c1, cp1, rfl, hx1, hb1⟩
 clear hx1
 have X1 := (uh X0).later hb1
 have A1 := (uh A0).later hb1
 have C1 := (uh C0).later hb1
 have hb2 := below_new w1 (.cells #[.int .i64 x.k, .int .i64 x.n, .string x.s, .slice c1 x.l.length cp1] 43)
 have X2 := hide (X1.later hb2)
 have A2 := hide (A1.later hb2)
 have C2 := hide (C1.later hb2)
 have G2 := hide (show (w1.alloc (.cells #[.int .i64 x.k, .int .i64 x.n, .string x.s, .slice c1 x.l.length cp1] 43)).heap[w1.heap.size]? = some (.cells #[.int .i64 x.k, .int .i64 x.n, .string x.s, .slice c1 x.l.length cp1] 43 (0, 0)) from Array.getElem?_push_size)
 have PB2 := hide (uh PB _ (uh C2))
 clear hb1 hb2 X1 A1 C1 X0 A0 C0 PA PB
 go_wp2_with (refine wpList_load_row rfl 43 _ rfl (w.heap.size + 1) rfl 43 #[.int .i64 b.k, .int .i64 b.n, .string b.s, .slice e b.l.length ep] (0, 0) _ ((uh X2).boxb) Tryd.underlying43 rfl (by kernel_rfl) ?_)
 generalize w1.alloc (.cells #[.int .i64 x.k, .int .i64 x.n, .string x.s, .slice c1 x.l.length cp1] 43) = w2 at *
 generalize w1.heap.size = g1' at *
 refine (uh PB2).mono ?_
 rintro r w3 ⟨c3, cp3, rfl, hx3, hb3⟩
 clear hx3
 have X3 := (uh X2).later hb3
 have A3 := (uh A2).later hb3
 have C3 := (uh C2).later hb3
 have G3 := row_keep (uh G2) hb3
 have hb4 := below_new w3 (.cells #[.int .i64 y.k, .int .i64 y.n, .string y.s, .slice c3 y.l.length cp3] 43)
 have X4 := hide (X3.later hb4)
 have A4 := hide (A3.later hb4)
 have C4 := hide (C3.later hb4)
 have G4 := row_keep G3 hb4
 have K4 := (show (w3.alloc (.cells #[.int .i64 y.k, .int .i64 y.n, .string y.s, .slice c3 y.l.length cp3] 43)).heap[w3.heap.size]? = some (.cells #[.int .i64 y.k, .int .i64 y.n, .string y.s, .slice c3 y.l.length cp3] 43 (0, 0)) from Array.getElem?_push_size)
 have x0 := Lib.cell_of_heap G4 0
 have x1 := Lib.cell_of_heap G4 1
 have y0 := Lib.cell_of_heap K4 0
 have y1 := Lib.cell_of_heap K4 1
 clear hb3 hb4 X3 A3 C3 G3 X2 A2 C2 G2 PB2 G4 K4
 have hb5 := below_new (w3.alloc (.cells #[.int .i64 y.k, .int .i64 y.n, .string y.s, .slice c3 y.l.length cp3] 43)) (.cells #[.int .i64 a.k, .int .i64 a.n, .string a.s, .slice c a.l.length cp, .int .i64 b.k, .int .i64 b.n, .string b.s, .slice e b.l.length ep] 43)
 have X5 := hide ((uh X4).later hb5)
 have hz5 : (w3.alloc (.cells #[.int .i64 y.k, .int .i64 y.n, .string y.s, .slice c3 y.l.length cp3] 43)).heap.size = w3.heap.size + 1 := by simp
 have N5' := (show PX ((w3.alloc (.cells #[.int .i64 y.k, .int .i64 y.n, .string y.s, .slice c3 y.l.length cp3] 43)).alloc (.cells #[.int .i64 a.k, .int .i64 a.n, .string a.s, .slice c a.l.length cp, .int .i64 b.k, .int .i64 b.n, .string b.s, .slice e b.l.length ep] 43)) (Oy w R) ⟨6, 0, ⟨#[]⟩, [a, b]⟩ (some ⟨(w3.alloc (.cells #[.int .i64 y.k, .int .i64 y.n, .string y.s, .slice c3 y.l.length cp3] 43)).heap.size, 0, none⟩) from (uh A4).two (uh C4) (uh DJ) (uh PR) (uh QR) (oy_in (uh HR) (uh X4).lt) 6 0 ⟨#[]⟩ 43)
 rw [hz5] at N5'
 have N5 := hide N5'
 clear N5' hz5
 clear hb5
 go_wp2_with (first | (refine wpList_load_row rfl 43 _ rfl w.heap.size rfl 43 #[.int .i64 a.k, .int .i64 a.n, .string a.s, .slice c a.l.length cp] (0, 0) _ ((uh X4).boxa) Tryd.underlying43 rfl (by kernel_rfl) ?_) | (refine wpList_load_row rfl 43 _ rfl (w.heap.size + 1) rfl 43 #[.int .i64 b.k, .int .i64 b.n, .string b.s, .slice e b.l.length ep] (0, 0) _ ((uh X4).boxb) Tryd.underlying43 rfl (by kernel_rfl) ?_) | (refine wpList_store_row rfl 43 _ _ rfl (w.heap.size + 2) #[.int .i64 6, .int .i64 0, .string ⟨#[]⟩, .slice (some ⟨w3.heap.size + 1, 0, none⟩) 2 2] rfl rfl 43 _ (uh X5).res szE rfl (ex_one _ _ _ _ _ _) ?_))
 refine bodyPost_ret (results_cell_row (P := Tryd.prog) rfl _ _ (w.heap.size + 2) 43 #[.int .i64 6, .int .i64 0, .string ⟨#[]⟩, .slice (some ⟨w3.heap.size + 1, 0, none⟩) 2 2] (0, 0) _ rfl (setRow_heap _ _ _ _ _ _ (uh X5).res) Tryd.underlying43 rfl szE) rfl ?_
 rw [← uh HX]
 exact By.end (x := ⟨6, 0, ⟨#[]⟩, [a, b]⟩) (uh X5) (uh N5) _
theorem subS_n2 {d : Nat} (a b : Ex) (oa : okF (d + 1) false a = true) (ob : okF (d + 1) false b = true) (c e : Option Addr) (cp ep : Nat) (P Q R : Nat → Prop) (w : World) (ha : PX w P a c) (hb : PX w Q b e) (hPQ : ∀ b, P b → ¬ Q b) (hPR : ∀ b, P b → R b) (hQR : ∀ b, Q b → R b) (hR : ∀ b, w.heap.size ≤ b → R b) (h1 : b.k ≠ 1) (f0 : ((prtX a).1.k == 11) = true) (f1 : ((prtX b).1.k == 11) = true) (f2 : ((prtX a).1.n == (prtX b).1.n) = false) : Calls Tryd.prog 57 #[.agg (a.cs c cp), .agg (b.cs e ep)] w (GiR (subX a b) R w) := by
 have X0 := hide (By.new w #[.int .i64 a.k, .int .i64 a.n, .string a.s, .slice c a.l.length cp] #[.int .i64 b.k, .int .i64 b.n, .string b.s, .slice e b.l.length ep])
 have A0 := hide (ha.oy (uh X0).bel)
 have C0 := hide (hb.oy (uh X0).bel)
 have PA := hide (prtS_any a oa c cp (Oy w P) _ (uh A0))
 have PB := hide (fun wr (h : PX wr (Oy w Q) b e) => prtS_any b ob e ep (Oy w Q) wr h)
 have HR := hide hR
 have DJ := hide (show ∀ b, Oy w P b → ¬ Oy w Q b from fun b h k => hPQ b h.1 k.1)
 have PR := hide (show ∀ b, Oy w P b → Oy w R b from fun b h => ⟨hPR b h.1, h.2⟩)
 have QR := hide (show ∀ b, Oy w Q b → Oy w R b from fun b h => ⟨hQR b h.1, h.2⟩)
 have ia := prt_in oa
 have ib := prt_in ob
 have g1 : (b.k == 1) = false := beq_eq_false_iff_ne.2 h1
 have EQ := hide (show subX a b = ⟨6, 0, ⟨#[]⟩, [a, b]⟩ by unfold subX; rw [if_neg h1, if_neg (fun h => by have := beq_eq_false_iff_ne.1 f2; exact this h.2.2)]; rfl)
 unfold PrR at PA PB
 generalize prtX a = pa at *
 generalize prtX b = pb at *
 obtain ⟨x, n⟩ := pa
 obtain ⟨y, k⟩ := pb
 simp only at PA PB ia ib EQ f0 f1 f2
 rw [uh EQ]
 generalize hX : GiR _ R w = X
 have HX := hide hX
 unfold Ex.cs at PA PB ⊢
 clear hX EQ oa ob ha hb hPQ hPR hQR hR h1
 go_enter Tryd.func57, Tryd.ntmps57
 go_wp2_with fail
 generalize ((w.alloc (.cells #[.int .i64 a.k, .int .i64 a.n, .string a.s, .slice c a.l.length cp] 43)).alloc (.cells #[.int .i64 b.k, .int .i64 b.n, .string b.s, .slice e b.l.length ep] 43)).alloc (.cells #[.int .i64 0, .int .i64 0, .string ⟨#[]⟩, .slice none 0 0] 43) = W at *
 refine (uh PA).mono ?_
 rintro r w1 ⟨c1, cp1, rfl, hx1, hb1⟩
 clear hx1
 have X1 := (uh X0).later hb1
 have A1 := (uh A0).later hb1
 have C1 := (uh C0).later hb1
 have hb2 := below_new w1 (.cells #[.int .i64 x.k, .int .i64 x.n, .string x.s, .slice c1 x.l.length cp1] 43)
 have X2 := hide (X1.later hb2)
 have A2 := hide (A1.later hb2)
 have C2 := hide (C1.later hb2)
 have G2 := hide (show (w1.alloc (.cells #[.int .i64 x.k, .int .i64 x.n, .string x.s, .slice c1 x.l.length cp1] 43)).heap[w1.heap.size]? = some (.cells #[.int .i64 x.k, .int .i64 x.n, .string x.s, .slice c1 x.l.length cp1] 43 (0, 0)) from Array.getElem?_push_size)
 have PB2 := hide (uh PB _ (uh C2))
 clear hb1 hb2 X1 A1 C1 X0 A0 C0 PA PB
 go_wp2_with (refine wpList_load_row rfl 43 _ rfl (w.heap.size + 1) rfl 43 #[.int .i64 b.k, .int .i64 b.n, .string b.s, .slice e b.l.length ep] (0, 0) _ ((uh X2).boxb) Tryd.underlying43 rfl (by kernel_rfl) ?_)
 generalize w1.alloc (.cells #[.int .i64 x.k, .int .i64 x.n, .string x.s, .slice c1 x.l.length cp1] 43) = w2 at *
 generalize w1.heap.size = g1' at *
 refine (uh PB2).mono ?_
 rintro r w3 ⟨c3, cp3, rfl, hx3, hb3⟩
 clear hx3
 have X3 := (uh X2).later hb3
 have A3 := (uh A2).later hb3
 have C3 := (uh C2).later hb3
 have G3 := row_keep (uh G2) hb3
 have hb4 := below_new w3 (.cells #[.int .i64 y.k, .int .i64 y.n, .string y.s, .slice c3 y.l.length cp3] 43)
 have X4 := hide (X3.later hb4)
 have A4 := hide (A3.later hb4)
 have C4 := hide (C3.later hb4)
 have G4 := row_keep G3 hb4
 have K4 := (show (w3.alloc (.cells #[.int .i64 y.k, .int .i64 y.n, .string y.s, .slice c3 y.l.length cp3] 43)).heap[w3.heap.size]? = some (.cells #[.int .i64 y.k, .int .i64 y.n, .string y.s, .slice c3 y.l.length cp3] 43 (0, 0)) from Array.getElem?_push_size)
 have x0 := Lib.cell_of_heap G4 0
 have x1 := Lib.cell_of_heap G4 1
 have y0 := Lib.cell_of_heap K4 0
 have y1 := Lib.cell_of_heap K4 1
 clear hb3 hb4 X3 A3 C3 G3 X2 A2 C2 G2 PB2 G4 K4
 have hb5 := below_new (w3.alloc (.cells #[.int .i64 y.k, .int .i64 y.n, .string y.s, .slice c3 y.l.length cp3] 43)) (.cells #[.int .i64 a.k, .int .i64 a.n, .string a.s, .slice c a.l.length cp, .int .i64 b.k, .int .i64 b.n, .string b.s, .slice e b.l.length ep] 43)
 have X5 := hide ((uh X4).later hb5)
 have hz5 : (w3.alloc (.cells #[.int .i64 y.k, .int .i64 y.n, .string y.s, .slice c3 y.l.length cp3] 43)).heap.size = w3.heap.size + 1 := by simp
 have N5' := (show PX ((w3.alloc (.cells #[.int .i64 y.k, .int .i64 y.n, .string y.s, .slice c3 y.l.length cp3] 43)).alloc (.cells #[.int .i64 a.k, .int .i64 a.n, .string a.s, .slice c a.l.length cp, .int .i64 b.k, .int .i64 b.n, .string b.s, .slice e b.l.length ep] 43)) (Oy w R) ⟨6, 0, ⟨#[]⟩, [a, b]⟩ (some ⟨(w3.alloc (.cells #[.int .i64 y.k, .int .i64 y.n, .string y.s, .slice c3 y.l.length cp3] 43)).heap.size, 0, none⟩) from (uh A4).two (uh C4) (uh DJ) (uh PR) (uh QR) (oy_in (uh HR) (uh X4).lt) 6 0 ⟨#[]⟩ 43)
 rw [hz5] at N5'
 have N5 := hide N5'
 clear N5' hz5
 clear hb5
 go_wp2_with (first | (refine wpList_load_row rfl 43 _ rfl w.heap.size rfl 43 #[.int .i64 a.k, .int .i64 a.n, .string a.s, .slice c a.l.length cp] (0, 0) _ ((uh X4).boxa) Tryd.underlying43 rfl (by kernel_rfl) ?_) | (refine wpList_load_row rfl 43 _ rfl (w.heap.size + 1) rfl 43 #[.int .i64 b.k, .int .i64 b.n, .string b.s, .slice e b.l.length ep] (0, 0) _ ((uh X4).boxb) Tryd.underlying43 rfl (by kernel_rfl) ?_) | (refine wpList_store_row rfl 43 _ _ rfl (w.heap.size + 2) #[.int .i64 6, .int .i64 0, .string ⟨#[]⟩, .slice (some ⟨w3.heap.size + 1, 0, none⟩) 2 2] rfl rfl 43 _ (uh X5).res szE rfl (ex_one _ _ _ _ _ _) ?_))
 refine bodyPost_ret (results_cell_row (P := Tryd.prog) rfl _ _ (w.heap.size + 2) 43 #[.int .i64 6, .int .i64 0, .string ⟨#[]⟩, .slice (some ⟨w3.heap.size + 1, 0, none⟩) 2 2] (0, 0) _ rfl (setRow_heap _ _ _ _ _ _ (uh X5).res) Tryd.underlying43 rfl szE) rfl ?_
 rw [← uh HX]
 exact By.end (x := ⟨6, 0, ⟨#[]⟩, [a, b]⟩) (uh X5) (uh N5) _
theorem subS_any {d : Nat} (a b : Ex) (oa : okF (d + 1) false a = true) (ob : okF (d + 1) false b = true) (c e : Option Addr) (cp ep : Nat) (P Q R : Nat → Prop) (w : World) (ha : PX w P a c) (hb : PX w Q b e) (hPQ : ∀ b, P b → ¬ Q b) (hPR : ∀ b, P b → R b) (hQR : ∀ b, Q b → R b) (hR : ∀ b, w.heap.size ≤ b → R b) : Calls Tryd.prog 57 #[.agg (a.cs c cp), .agg (b.cs e ep)] w (GiR (subX a b) R w) := by
 by_cases h1 : b.k = 1
 · exact subS_num a b oa ob c e cp ep P Q R w ha hb hPQ hPR hQR hR h1
 ·
  cases f0 : ((prtX a).1.k == 11) with
  | false => exact subS_n0 a b oa ob c e cp ep P Q R w ha hb hPQ hPR hQR hR h1 f0
  | true =>
   cases f1 : ((prtX b).1.k == 11) with
   | false => exact subS_n1 a b oa ob c e cp ep P Q R w ha hb hPQ hPR hQR hR h1 f0 f1
   | true =>
    cases f2 : ((prtX a).1.n == (prtX b).1.n) with
    | false => exact subS_n2 a b oa ob c e cp ep P Q R w ha hb hPQ hPR hQR hR h1 f0 f1 f2
    | true => exact subS_sect a b oa ob c e cp ep P Q R w ha hb hPQ hPR hQR hR h1 f0 f1 f2
def ApX (w : World) (B : Nat) (l : List Ex) (k : Nat) (v : Value) (M : Nat) : Prop := ∃ (cs : List Value) (Fs : List (List Nat)), w.ownsRow B 43 4 v k cs ∧ (∀ g, v.ownBlock = some g → g < M) ∧ Fs.length = k ∧ Fs.flatten.Nodup ∧ (∀ b ∈ Fs.flatten, B ≤ b ∧ b < M ∧ v.ownBlock ≠ some b) ∧ ∀ i, i < k → OwIn w cs i (xAt l i) (Fs.getD i [])
theorem ownsRow_keepF {w w' : World} {B n m : Nat} {t : TypeId} {v : Value} {cs : List Value} (h : w.ownsRow B t m v n cs) (hk : ∀ g, v.ownBlock = some g → w'.heap[g]? = w.heap[g]?) : w'.ownsRow B t m v n cs := by
 obtain ⟨h1, h2 | ⟨g, cap, cur, rfl, hg, hh, r⟩⟩ := h
 · exact ⟨h1, .inl h2⟩
 · exact ⟨h1, .inr ⟨g, cap, cur, rfl, hg, (hk g rfl).trans hh, r⟩⟩
theorem ApX.keep {w w' : World} {B k M : Nat} {l : List Ex} {v : Value} (h : ApX w B l k v M) (hk : ∀ b, B ≤ b → b < M → w'.heap[b]? = w.heap[b]?) : ApX w' B l k v M := by
 obtain ⟨cs, Fs, h1, h2, h3, h4, h5, h6⟩ := h
 refine ⟨cs, Fs, ownsRow_keepF h1 (fun g hg => hk g (World.ownsRow.lt h1 g hg).1 (h2 g hg)), h2, h3, h4, h5, fun i hi => (h6 i hi).keep (fun b hb => ?_)⟩
 obtain ⟨q1, q2, _⟩ := h5 b (getD_flat hb)
 exact hk b q1 q2
theorem ApX.later {w w' : World} {B k M : Nat} {l : List Ex} {v : Value} (h : ApX w B l k v M) (hb : Below w.heap.size w w') (hM : M ≤ w.heap.size) : ApX w' B l k v M := h.keep (fun b _ h2 => hb.block b (by omega))
theorem ApX.far {w : World} {B k M : Nat} {l : List Ex} {v : Value} (h : ApX w B l k v M) (p : Addr) (u : Value) (hp : p.block < B) : ApX (w.setCell p u) B l k v M := h.keep (fun b h1 _ => heap_setCell_other w p b u (by omega))
theorem ApX.nil (w : World) (B : Nat) (l : List Ex) (M : Nat) : ApX w B l 0 (.slice none 0 0) M := ⟨[], [], World.ownsRow_nil _ _ _ _, (fun g h => by simp [Value.ownBlock] at h), rfl, List.nodup_nil, (fun b hb => by simp at hb), fun i hi => by omega⟩
theorem ApX.step {w w' : World} {B k M M' : Nat} {l : List Ex} {v : Value} {cs : List Value} {Fs : List (List Nat)} {q : Option Addr} {cp g cap : Nat} (h1 : w.ownsRow B 43 4 v k cs) (h2 : ∀ g, v.ownBlock = some g → g < M) (h3 : Fs.length = k) (h4 : Fs.flatten.Nodup) (h5 : ∀ b ∈ Fs.flatten, B ≤ b ∧ b < M ∧ v.ownBlock ≠ some b) (h6 : ∀ i, i < k → OwIn w cs i (xAt l i) (Fs.getD i []))
  (hx : HalfX w M M' (xAt l k) q) (hBM : B ≤ M) (hM : M ≤ M') (hM' : M' ≤ w.heap.size) (ho : w'.ownsRow B 43 4 (.slice (some ⟨g, 0, none⟩) (k + 1) cap) (k + 1) (cs ++ exL (xAt l k) q cp)) (hg : w.grownBy w' v.ownBlock) (hw : v.ownBlock = some g ∨ g = w.heap.size) : ApX w' B l (k + 1) (.slice (some ⟨g, 0, none⟩) (k + 1 : Nat) cap) w'.heap.size := by
 obtain ⟨F, x1, x2, x3⟩ := hx
 have hl := h1.1
 refine ⟨_, Fs ++ [F], ho, (fun g' e => by
  have := World.ownsRow.lt ho g' e
  exact this.2), by simp [h3], ?_, ?_, ?_⟩
 ·
  rw [flat_snoc]
  exact nodup_snoc h4 x2 (fun b hb => (h5 b hb).2.1) (fun b hb => (x3 b hb).1)
 ·
  intro b hb
  rw [flat_snoc] at hb
  have hs := hg.size
  rcases List.mem_append.1 hb with hb | hb
  ·
   obtain ⟨q1, q2, q3⟩ := h5 b hb
   refine ⟨q1, by omega, fun e => ?_⟩
   have e : g = b := by simpa [Value.ownBlock] using e
   rcases hw with hw | hw
   · exact q3 (by rw [hw, e])
   · omega
  ·
   obtain ⟨q1, q2⟩ := x3 b hb
   refine ⟨by omega, by omega, fun e => ?_⟩
   have e : g = b := by simpa [Value.ownBlock] using e
   rcases hw with hw | hw
   ·
    have := h2 g hw
    omega
   · omega
 ·
  intro i hi
  by_cases hik : i < k
  ·
   rw [getD_snoc_lt (by omega)]
   obtain ⟨c0, c1, c2, c, cp', c3, c4⟩ := h6 i hik
   refine ⟨by rw [List.getElem?_append_left (by omega)]; exact c0, by rw [List.getElem?_append_left (by omega)]; exact c1, by rw [List.getElem?_append_left (by omega)]; exact c2, c, cp', by rw [List.getElem?_append_left (by omega)]; exact c3, ?_⟩
   refine OwX.keep _ _ _ (fun b hb => ?_) c4
   obtain ⟨q1, q2, q3⟩ := h5 b (getD_flat hb)
   exact hg.block b (by omega) (fun e => q3 e.symm)
  ·
   obtain rfl : i = k := by omega
   rw [getD_snoc_eq (by omega)]
   have hj : ∀ j, j < 4 → (cs ++ exL (xAt l i) q cp)[i * 4 + j]? = (exL (xAt l i) q cp)[j]? := fun j hj => by
    rw [List.getElem?_append_right (by omega), hl]
    congr 1
    omega
   refine ⟨(hj 0 (by omega)).trans rfl, (hj 1 (by omega)).trans rfl, (hj 2 (by omega)).trans rfl, q, cp, (hj 3 (by omega)).trans rfl, ?_⟩
   refine OwX.keep _ _ _ (fun b hb => ?_) x1
   obtain ⟨q1, q2⟩ := x3 b hb
   exact hg.block b (by omega) (fun e => by have := h2 b e.symm; omega)
theorem ApX.done {w : World} {B M n cap : Nat} {l : List Ex} {a : Option Addr} (h : ApX w B l l.length (.slice a n cap) M) (k m : Int) (s : ByteArray) : PX w (B ≤ ·) ⟨k, m, s, l⟩ a ∧ n = l.length := by
 obtain ⟨cs, Fs, h1, h2, h3, h4, h5, h6⟩ := h
 have h1' := h1
 obtain ⟨hl, ⟨e, h0⟩ | ⟨g, cap', cur, e, hg, hh, hn, hm, hz, ht⟩⟩ := h1
 ·
  cases e
  have : l = [] := List.length_eq_zero_iff.1 h0
  subst this
  exact ⟨PX.leaf _ _ _ _ _ _, rfl⟩
 ·
  cases e
  obtain ⟨cur, hh, hz, hg, hc⟩ := row_take h1'
  refine ⟨⟨g :: Fs.flatten, (OwX_eq _ _ _ _).2 (.inr ⟨g, cur, _, Fs, rfl, hh, hz, h3, rfl, fun i hi => ?_⟩), List.nodup_cons.2 ⟨fun hb => (h5 g hb).2.2 rfl, h4⟩, fun b hb => ?_⟩, rfl⟩
  ·
   obtain ⟨c0, c1, c2, c, cp', c3, c4⟩ := h6 i hi
   have hi : i < l.length := hi
   exact ⟨(hc _ (by omega)).trans c0, (hc _ (by omega)).trans c1, (hc _ (by omega)).trans c2, c, cp', (hc _ (by omega)).trans c3, c4⟩
  ·
   rcases List.mem_cons.1 hb with rfl | hb
   · exact hg
   · exact (h5 b hb).1
section
theorem cell_newF (W : World) (cs : Array Value) (t : TypeId) : ∀ j u, cs.toList[j]? = some u → (W.alloc (.cells cs t)).cell? ((⟨W.heap.size, 0, none⟩ : Addr).add j) = some u := by
 intro j u hu
 have h : (W.alloc (.cells cs t)).cell? ⟨W.heap.size, j, none⟩ = some u := by rw [World.cell?_alloc_at _ _ _ _ rfl]; simpa using hu
 unfold Addr.add
 by_cases h0 : j = 0
 · subst h0; simpa using h
 · simpa [h0] using h
structure Cz (w wr : World) (pr : Array Value) (k n : Int) (s : ByteArray) (v : Value) : Prop where
 bel : Below w.heap.size w wr
 lt : w.heap.size + 3 ≤ wr.heap.size
 box : wr.heap[w.heap.size]? = some (.cells pr 43 (0, 0))
 res : wr.heap[w.heap.size + 1]? = some (.cells #[.int .i64 0, .int .i64 0, .string ⟨#[]⟩, .slice none 0 0] 43 (0, 0))
 out : wr.heap[w.heap.size + 2]? = some (.cells #[.int .i64 k, .int .i64 n, .string s, v] 43 (0, 0))
section
variable {w wr w' : World} {pr : Array Value} {k n : Int} {s : ByteArray} {v : Value}
theorem Cz.later (h : Cz w wr pr k n s v) (hb : Below wr.heap.size wr w') : Cz w w' pr k n s v := ⟨h.bel.trans (hb.mono h.bel.size), Nat.le_trans h.lt hb.size, row_keep h.box hb, row_keep h.res hb, row_keep h.out hb⟩
theorem Cz.grown {o : Option Nat} (h : Cz w wr pr k n s v) (hg : wr.grownBy w' o) (ho : ∀ g, o = some g → w.heap.size + 3 ≤ g) : Cz w w' pr k n s v := by
 have ne : ∀ b, b < w.heap.size + 3 → some b ≠ o := fun b hb e => by have := ho b e.symm; omega
 exact ⟨h.bel.grown hg h.bel.size (fun q e => by have := ho q e; omega), Nat.le_trans h.lt hg.size, (hg.block _ (Array.getElem?_eq_some_iff.1 h.box).1 (ne _ (by omega))).trans h.box, (hg.block _ (Array.getElem?_eq_some_iff.1 h.res).1 (ne _ (by omega))).trans h.res, (hg.block _ (Array.getElem?_eq_some_iff.1 h.out).1 (ne _ (by omega))).trans h.out⟩
theorem Cz.set3 (h : Cz w wr pr k n s v) (x : Value) : Cz w (wr.setCell ⟨w.heap.size + 2, 3, none⟩ x) pr k n s x := by
 have ne : ∀ b, b < w.heap.size + 2 → (wr.setCell ⟨w.heap.size + 2, 3, none⟩ x).heap[b]? = wr.heap[b]? := fun b hb => heap_setCell_other wr ⟨w.heap.size + 2, 3, none⟩ b _ (fun e => by have e' : b = w.heap.size + 2 := e; omega)
 refine ⟨h.bel.setCell (p := ⟨w.heap.size + 2, 3, none⟩) (by show w.heap.size ≤ w.heap.size + 2; omega) _, by simp; exact h.lt, (ne _ (by omega)).trans h.box, (ne _ (by omega)).trans h.res, ?_⟩
 rw [heap_setCell_same wr (w.heap.size + 2) 3 _ 43 x h.out]
 rfl
theorem Cz.new (w : World) (pr : Array Value) : Cz w (((w.alloc (.cells pr 43)).alloc (.cells #[.int .i64 0, .int .i64 0, .string ⟨#[]⟩, .slice none 0 0] 43)).alloc (.cells #[.int .i64 k, .int .i64 n, .string s, v] 43)) pr k n s v := by
 have hb := (((Below.refl w.heap.size w).alloc (Nat.le_refl _) (.cells pr 43)).alloc (by simp) (.cells #[.int .i64 0, .int .i64 0, .string ⟨#[]⟩, .slice none 0 0] 43)).alloc (by simp; omega) (.cells #[.int .i64 k, .int .i64 n, .string s, v] 43)
 have h1 : (w.alloc (.cells pr 43)).heap.size = w.heap.size + 1 := by simp
 have h2 : ((w.alloc (.cells pr 43)).alloc (.cells #[.int .i64 0, .int .i64 0, .string ⟨#[]⟩, .slice none 0 0] 43)).heap.size = w.heap.size + 2 := by simp
 refine ⟨hb, by simp, ?_, ?_, ?_⟩
 · exact row_keep (row_keep (heap_alloc_new w _) (below_new _ _)) (below_new _ _)
 ·
  refine row_keep ?_ (below_new _ _)
  rw [← h1]; exact Array.getElem?_push_size
 · rw [← h2]; exact Array.getElem?_push_size
end
theorem copy_fin {e : Ex} {w w' : World} {a : Option Addr} {n cp M : Nat} {pr : Array Value} (row : Array Value) (hc : Cz w w' pr e.k e.n e.s (.slice a n cp)) (h : ApX w' (w.heap.size + 3) e.l e.l.length (.slice a n cp) M) : GiR e (w.heap.size ≤ ·) w (.returned (.agg #[.int .i64 e.k, .int .i64 e.n, .string e.s, .slice a n cp])) (w'.setRow (w.heap.size + 1) row) := by
 obtain ⟨k, m, s, l⟩ := e
 obtain ⟨hd, rfl⟩ := h.done k m s
 exact ⟨a, cp, rfl, (PX.row (g := w.heap.size + 1) hd row (by show ¬ (w.heap.size + 3 ≤ w.heap.size + 1); omega)).mono (Q := fun x => w.heap.size ≤ x) (fun b (hb : w.heap.size + 3 ≤ b) => by show w.heap.size ≤ b; omega), hc.bel.grown (grownBy_row _) hc.bel.size (fun k e => by cases e; omega)⟩
def CoP (e : Ex) : Prop := ∀ (b : Option Addr) (cap : Nat) (w : World), RdX w 0 e b → e.sz ≤ 1048576 → Calls Tryd.prog 41 #[.agg (e.cs b cap)] w (GiR e (w.heap.size ≤ ·) w)
theorem copyS_of (e : Ex) (ih : ∀ i, i < e.l.length → CoP (xAt e.l i)) : CoP e := by
 intro b cap w hr hz
 have hsz := sz_is e
 rw [RdX_eq] at hr
 have hp : ∀ i, i < e.l.length → (xAt e.l i).sz ≤ 1048576 := fun i hi => by have := sz_part hi; omega
 have hm : e.l.length ≤ 1048576 := by omega
 have FN := hide (fun (w' : World) (a : Option Addr) (n cp : Nat) (pr : Array Value) (row : Array Value) (M : Nat) => copy_fin (e := e) (w := w) (w' := w') (a := a) (n := n) (cp := cp) (pr := pr) (M := M) row)
 clear hsz hz
 unfold Ex.cs
 generalize GiR e (w.heap.size ≤ ·) w = X at *
 generalize e.k = ek at *
 generalize e.n = en at *
 generalize e.s = es at *
 generalize e.l = l at *
 obtain ⟨len, hl⟩ : ∃ len, l.length = len := ⟨_, rfl⟩
 rw [hl] at hm ih hr hp FN ⊢
 obtain ⟨i0, hi, hz0, hz1, hz2⟩ := info_parts infoX
 have C0 := hide (Cz.new (k := ek) (n := en) (s := es) (v := .slice none 0 0) w #[.int .i64 ek, .int .i64 en, .string es, .slice b len cap])
 go_enter Tryd.func41, Tryd.ntmps41
 go_wp2
 generalize ((w.alloc (.cells #[.int .i64 ek, .int .i64 en, .string es, .slice b len cap] 43)).alloc (.cells #[.int .i64 0, .int .i64 0, .string ⟨#[]⟩, .slice none 0 0] 43)).alloc (.cells #[.int .i64 ek, .int .i64 en, .string es, .slice none 0 0] 43) = W at *
 go_loopw [4] (fun i wr => ∃ (k : Nat) (v : Value), k ≤ len ∧ i = .int .i64 k ∧ Cz w wr #[.int .i64 ek, .int .i64 en, .string es, .slice b len cap] ek en es v ∧ ApX wr (w.heap.size + 3) l k v wr.heap.size) (fun i _ => len - (intOf i).toNat)
 case atStart => exact ⟨0, _, Nat.zero_le _, rfl, uh C0, ApX.nil _ _ _ _⟩
 case round =>
  clear C0
  obtain ⟨k, v, hk, rfl, hcz, hap⟩ := hrel
  have B1 := hcz.bel
  by_cases hlt : k < len
  ·
   rcases hr with h0 | ⟨p, off, rfl, _, hbl, hc⟩
   · rw [h0] at hl; simp at hl; omega
   obtain ⟨c0, c1, c2, c, cap', c3, c4⟩ := hc k (by omega)
   have d0 : wr.cell? ⟨p, off + k * 4, none⟩ = _ := (B1.cell (p := ⟨p, _, none⟩) hbl).trans c0
   have d1 : wr.cell? ⟨p, off + k * 4 + 1, none⟩ = _ := (B1.cell (p := ⟨p, _, none⟩) hbl).trans c1
   have d2 : wr.cell? ⟨p, off + k * 4 + 2, none⟩ = _ := (B1.cell (p := ⟨p, _, none⟩) hbl).trans c2
   have d3 : wr.cell? ⟨p, off + k * 4 + 3, none⟩ = _ := (B1.cell (p := ⟨p, _, none⟩) hbl).trans c3
   have b3 := Lib.cell_of_heap hcz.box 3
   have HT := hide (ih k hlt c cap' wr (c4.later B1) (hp k hlt))
   unfold GiR Ex.cs at HT
   have CZ := hide hcz
   have AP := hide hap
   have AS := hide (fun (w1 w2 : World) (g cp M' : Nat) (q : Option Addr) (cq : Nat) cs Fs h1 h2 h3 h4 h5 h6 hx hBM hM hM' ho hg hw => ApX.step (w := w1) (w' := w2) (B := w.heap.size + 3) (k := k) (M := wr.heap.size) (M' := M') (l := l) (v := v) (cs := cs) (Fs := Fs) (q := q) (cp := cq) (g := g) (cap := cp) h1 h2 h3 h4 h5 h6 hx hBM hM hM' ho hg hw)
   clear c0 c1 c2 c3 c4 hc hcz hap B1
   unfold exL at AS
   generalize (xAt l k).s = ss at d2 HT AS
   generalize (xAt l k).k = kk at d0 HT AS
   generalize (xAt l k).n = nn at d1 HT AS
   generalize (xAt l k).l.length = ll at d3 HT AS
   go_wp2_with fail
   refine (uh HT).mono ?_
   rintro e w1 ⟨q, cq, rfl, hq, hb1⟩
   have hb2 := below_new w1 (.cells #[.int .i64 kk, .int .i64 nn, .string ss, .slice q ll cq] 43)
   have hb3 := below_new (w1.alloc (.cells #[.int .i64 kk, .int .i64 nn, .string ss, .slice q ll cq] 43)) (.cells #[.int .i64 kk, .int .i64 nn, .string ss, .slice q ll cq] 43)
   have hb12 := hb1.trans (hb2.mono hb1.size)
   have hb13 := hb12.trans (hb3.mono hb12.size)
   have hb23 := hb2.trans (hb3.mono hb2.size)
   have hz2' : (w1.alloc (.cells #[.int .i64 kk, .int .i64 nn, .string ss, .slice q ll cq] 43)).heap.size = w1.heap.size + 1 := by simp
   have hz3' : ((w1.alloc (.cells #[.int .i64 kk, .int .i64 nn, .string ss, .slice q ll cq] 43)).alloc (.cells #[.int .i64 kk, .int .i64 nn, .string ss, .slice q ll cq] 43)).heap.size = w1.heap.size + 2 := by simp
   have C2 := (uh CZ).later hb12
   have C3 := hide ((uh CZ).later hb13)
   have G2 := hide (show (w1.alloc (.cells #[.int .i64 kk, .int .i64 nn, .string ss, .slice q ll cq] 43)).heap[w1.heap.size]? = some (.cells #[.int .i64 kk, .int .i64 nn, .string ss, .slice q ll cq] 43 (0, 0)) from Array.getElem?_push_size)
   have o3 := Lib.cell_of_heap C2.out 3
   have A3 := hide ((uh AP).later hb13 (Nat.le_refl _))
   have CN' := cell_newF (w1.alloc (.cells #[.int .i64 kk, .int .i64 nn, .string ss, .slice q ll cq] 43)) #[.int .i64 kk, .int .i64 nn, .string ss, .slice q ll cq] 43
   rw [hz2'] at CN'
   have CN := hide CN'
   have HX := hide ((show NewX w1 wr.heap.size (xAt l k) q from hq).half.later hb23)
   have SZ := hide hz3'
   have S1 := hide hb1.size
   clear hq hb1 hb2 hb3 hb12 hb13 hb23 hz2' hz3' CN' C2 HT
   obtain ⟨cs, Fs, a1, a2, a3, a4, a5, a6⟩ := uh A3
   have OW := hide a1
   have SP := hide (fun w2 g cp => uh AS ((w1.alloc (.cells #[.int .i64 kk, .int .i64 nn, .string ss, .slice q ll cq] 43)).alloc (.cells #[.int .i64 kk, .int .i64 nn, .string ss, .slice q ll cq] 43)) w2 g cp w1.heap.size q cq cs Fs a1 a2 a3 a4 a5 a6 (uh HX) (by have := (uh CZ).lt; omega) (uh S1) (by have := uh SZ; omega))
   have BA := hide (show w.heap.size + 3 ≤ ((w1.alloc (.cells #[.int .i64 kk, .int .i64 nn, .string ss, .slice q ll cq] 43)).alloc (.cells #[.int .i64 kk, .int .i64 nn, .string ss, .slice q ll cq] 43)).heap.size from (uh C3).lt)
   have WB := hide (show ∀ g, v.ownBlock = some g → w.heap.size + 3 ≤ g from fun g hg => (World.ownsRow.lt a1 g hg).1)
   have ON := hide (show ∀ u ∈ ([.int .i64 kk, .int .i64 nn, .string ss, .slice q ll cq] : List Value), u.oneCell' = true by intro u hu; simp only [List.mem_cons, List.not_mem_nil, or_false] at hu; rcases hu with rfl | rfl | rfl | rfl <;> rfl)
   clear a1 a2 a3 a4 a5 a6 A3 AS HX
   go_wp2_with (first | (refine wpList_load_row rfl 43 _ rfl w1.heap.size rfl 43 #[.int .i64 kk, .int .i64 nn, .string ss, .slice q ll cq] (0, 0) _ (uh G2) Tryd.underlying43 rfl (by kernel_rfl) ?_) | (at_builtin; go_must (refine wpList_append_to rfl (.tmp 27) (.tmp 29) 37 rfl (w.heap.size + 3) 43 i0 (.agg #[.int .i64 0, .int .i64 0, .string ⟨#[]⟩, .slice none 0 0]) 4 56 Tryd.underlying37 hi hz0 hz1 hz2 rfl (by decide) v k cs rfl (uh OW) ⟨w1.heap.size + 1, 0, none⟩ 1 1 [.int .i64 kk, .int .i64 nn, .string ss, .slice q ll cq] rfl rfl (uh CN) (uh ON) (by unfold maxLen; omega) (by omega) (uh BA) (by omega) ?_; intro g4 cap4 w4 hown4 hgrow4 hwh4; have A4 := hide (uh SP w4 g4 cap4 hown4 hgrow4 hwh4); have C4 := (uh C3).grown hgrow4 (uh WB); have f4 : w4.frozen? ⟨w.heap.size + 2, 3, none⟩ = false := (by simp [World.frozen?, C4.out]); have o4 := Lib.cell_of_heap C4.out 3; have C5 := hide (C4.set3 (.slice (some ⟨g4, 0, none⟩) (k + 1 : Nat) cap4)); clear hown4 hgrow4 hwh4 C4)))
   go_roundw
   case rel => exact ⟨k + 1, _, by omega, by go_num, uh C5, by
    rw [show (w4.setCell ⟨w.heap.size + 2, 3, none⟩ (.slice (some ⟨g4, 0, none⟩) (k + 1 : Nat) cap4)).heap.size = w4.heap.size by simp]
    exact (uh A4).far ⟨w.heap.size + 2, 3, none⟩ _ (by show w.heap.size + 2 < w.heap.size + 3; omega)⟩
   case measure => simp [intOf]; omega
  ·
   obtain rfl : k = len := by omega
   have b3 := Lib.cell_of_heap hcz.box 3
   obtain ⟨a5, n5, c5, rfl⟩ : ∃ a n c, v = .slice a n c := by
    obtain ⟨_, _, ⟨_, ⟨e, _⟩ | ⟨g, cap', cur, e, _⟩⟩, _⟩ := hap
    · exact ⟨_, _, _, e⟩
    · exact ⟨_, _, _, e⟩
   have CZ := hide hcz
   have AP := hide hap
   clear hcz hap
   go_wp2_with (first | (refine wpList_load_row rfl 43 _ rfl (w.heap.size + 2) rfl 43 #[.int .i64 ek, .int .i64 en, .string es, .slice a5 n5 c5] (0, 0) _ ((uh CZ).out) Tryd.underlying43 rfl (by kernel_rfl) ?_) | (refine wpList_store_row rfl 43 _ _ rfl (w.heap.size + 1) #[.int .i64 ek, .int .i64 en, .string es, .slice a5 n5 c5] rfl rfl 43 _ (uh CZ).res szE rfl (ex_one _ _ _ _ _ _) ?_))
   refine bodyPost_ret (results_cell_row (P := Tryd.prog) rfl _ _ (w.heap.size + 1) 43 #[.int .i64 ek, .int .i64 en, .string es, .slice a5 n5 c5] (0, 0) _ rfl (setRow_heap _ _ _ _ _ _ (uh CZ).res) Tryd.underlying43 rfl szE) rfl ?_
   exact uh FN _ _ _ _ _ _ _ (uh CZ) (uh AP)
theorem copyS_any (e : Ex) : CoP e := by
 induction e using Ex.ind with
 | h k n s l ih => exact copyS_of _ (fun i hi => ih _ (xAt_mem hi))
end
theorem ft_num (n : Int) (w : World) : Calls Tryd.prog 50 #[.iface 115 (.agg #[.int .i64 n])] w (VaR (.iface 115 (.agg #[.int .i64 n])) w) := by
 have FN := hide (fun r w' (h : r = .returned (.iface 115 (.agg #[.int .i64 n]))) (hb : Below w.heap.size w w') => (show VaR _ w r w' from ⟨h, hb⟩))
 generalize VaR (.iface 115 (.agg #[.int .i64 n])) w = R at *
 have m := me_num (.int .i64 n)
 have P0 := hide (parts0 w)
 go_enter Tryd.func50, Tryd.ntmps50
 go_wp2_with (go_at_call 93; refine (uh P0).mono ?_; rintro r w1 ⟨rfl, hb⟩)
 (first | go_ret2 | go_ret | skip)
 exact uh FN _ _ rfl hb
theorem ft_sym (s : ByteArray) (w : World) : Calls Tryd.prog 50 #[.iface 107 (.agg #[.string s])] w (VaR (.iface 107 (.agg #[.string s])) w) := by
 have FN := hide (fun r w' (h : r = .returned (.iface 107 (.agg #[.string s]))) (hb : Below w.heap.size w w') => (show VaR _ w r w' from ⟨h, hb⟩))
 generalize VaR (.iface 107 (.agg #[.string s])) w = R at *
 have m := me_sym (.string s)
 have P0 := hide (parts0 w)
 go_enter Tryd.func50, Tryd.ntmps50
 go_wp2_with (go_at_call 93; refine (uh P0).mono ?_; rintro r w1 ⟨rfl, hb⟩)
 (first | go_ret2 | go_ret | skip)
 exact uh FN _ _ rfl hb
theorem ft_here  (w : World) : Calls Tryd.prog 50 #[.iface 109 (.agg #[])] w (VaR (.iface 109 (.agg #[])) w) := by
 have FN := hide (fun r w' (h : r = .returned (.iface 109 (.agg #[]))) (hb : Below w.heap.size w w') => (show VaR _ w r w' from ⟨h, hb⟩))
 generalize VaR (.iface 109 (.agg #[])) w = R at *
 have m := me_here
 have P0 := hide (parts0 w)
 go_enter Tryd.func50, Tryd.ntmps50
 go_wp2_with (go_at_call 93; refine (uh P0).mono ?_; rintro r w1 ⟨rfl, hb⟩)
 (first | go_ret2 | go_ret | skip)
 exact uh FN _ _ rfl hb
theorem ft_sect (n : Int) (w : World) : Calls Tryd.prog 50 #[.iface 111 (.agg #[.int .i64 n])] w (VaR (.iface 111 (.agg #[.int .i64 n])) w) := by
 have FN := hide (fun r w' (h : r = .returned (.iface 111 (.agg #[.int .i64 n]))) (hb : Below w.heap.size w w') => (show VaR _ w r w' from ⟨h, hb⟩))
 generalize VaR (.iface 111 (.agg #[.int .i64 n])) w = R at *
 have m := me_sect (.int .i64 n)
 have P0 := hide (parts0 w)
 go_enter Tryd.func50, Tryd.ntmps50
 go_wp2_with (go_at_call 93; refine (uh P0).mono ?_; rintro r w1 ⟨rfl, hb⟩)
 (first | go_ret2 | go_ret | skip)
 exact uh FN _ _ rfl hb
theorem ft_glob (s : ByteArray) (w : World) : Calls Tryd.prog 50 #[.iface 116 (.agg #[.string s])] w (VaR (.iface 116 (.agg #[.string s])) w) := by
 have FN := hide (fun r w' (h : r = .returned (.iface 116 (.agg #[.string s]))) (hb : Below w.heap.size w w') => (show VaR _ w r w' from ⟨h, hb⟩))
 generalize VaR (.iface 116 (.agg #[.string s])) w = R at *
 have m := me_glob (.string s)
 have P0 := hide (parts0 w)
 go_enter Tryd.func50, Tryd.ntmps50
 go_wp2_with (go_at_call 93; refine (uh P0).mono ?_; rintro r w1 ⟨rfl, hb⟩)
 (first | go_ret2 | go_ret | skip)
 exact uh FN _ _ rfl hb
theorem ft_neg (t : TypeId) (x : Value) (tu : TypeId) (xu : Value) (V : Value) (h1 : ∀ w, Calls Tryd.prog 50 #[.iface t x] w (VaR (.iface tu xu) w)) (h2 : ∀ w, Calls Tryd.prog 63 #[.iface tu xu] w (VaR V w)) (w : World) : Calls Tryd.prog 50 #[.iface 96 (.agg #[.iface t x])] w (VaR V w) := by
 have FN := hide (fun r w' (h : r = .returned V) (hb : Below w.heap.size w w') => (show VaR _ w r w' from ⟨h, hb⟩))
 generalize hR : VaR V w = R at *
 clear hR
 have m := me_neg (.iface t x)
 have P1 := hide (parts1 t x w)
 have H1 := hide h1
 have H2 := hide h2
 unfold VaR at H1 H2
 clear h1 h2
 go_enter Tryd.func50, Tryd.ntmps50
 go_wp2_with (go_at_call 91; refine (uh P1).mono ?_; rintro r w1 ⟨g, rfl, hg, hb⟩; have c0 := Lib.cell_of_heap hg 0; have B1 := hide hb; clear hg hb)
 refine (uh H1 _).mono ?_
 rintro r w2 ⟨rfl, hb2⟩
 have B2 := hide ((uh B1).trans (hb2.mono (uh B1).size))
 clear hb2 c0 H1 P1 B1
 go_wp2_with fail
 refine (uh H2 _).mono ?_
 rintro r w3 ⟨rfl, hb3⟩
 have B3 := hide ((uh B2).trans (hb3.mono (uh B2).size))
 clear hb3 H2 B2
 go_wp2
 (first | go_ret2 | go_ret | skip)
 exact uh FN _ _ rfl (uh B3)
theorem ft_two (T : TypeId) (k : Int) (t u : TypeId) (x y : Value) (tu uu : TypeId) (xu yu : Value) (V : Value) (m : ∀ w, (method 248 T (.agg #[.iface t x, .iface u y]) "loop.example/g00329/impl.parts").run Tryd.prog w = .ok (92, .agg #[.iface t x, .iface u y]) w) (kd : ∀ w, Calls Tryd.prog 65 #[.iface T (.agg #[.iface t x, .iface u y])] w fun r w' => r = .returned (.int .i64 k) ∧ w' = w) (h1 : ∀ w, Calls Tryd.prog 50 #[.iface t x] w (VaR (.iface tu xu) w)) (h2 : ∀ w, Calls Tryd.prog 50 #[.iface u y] w (VaR (.iface uu yu) w)) (h3 : ∀ w, Calls Tryd.prog 64 #[.int .i64 k, .agg #[.iface tu xu, .iface uu yu]] w (VaR V w)) (w : World) : Calls Tryd.prog 50 #[.iface T (.agg #[.iface t x, .iface u y])] w (VaR V w) := by
 have FN := hide (fun r w' (h : r = .returned V) (hb : Below w.heap.size w w') => (show VaR _ w r w' from ⟨h, hb⟩))
 generalize hR : VaR V w = R at *
 clear hR
 have P1 := hide (parts2 t u x y w)
 have H1 := hide h1
 have H2 := hide h2
 have H3 := hide h3
 have KD := hide kd
 unfold VaR at H1 H2 H3
 clear h1 h2 h3 kd
 go_enter Tryd.func50, Tryd.ntmps50
 go_wp2_with (go_at_call 92; refine (uh P1).mono ?_; rintro r w1 ⟨g, rfl, hg, hb⟩; have G1 := hide hg; have B1 := hide hb; clear hg hb)
 have y0 : ∀ y : Sub w1.heap.size w1, y.w.cell? ⟨g, 0, none⟩ = some (.iface t x) := fun y => (y.h.cell (p := ⟨g, 0, none⟩) (Array.getElem?_eq_some_iff.1 (uh G1)).1).trans (Lib.cell_of_heap (uh G1) 0)
 have y1 : ∀ z : Sub w1.heap.size w1, z.w.cell? ⟨g, 1, none⟩ = some (.iface u y) := fun z => (z.h.cell (p := ⟨g, 1, none⟩) (Array.getElem?_eq_some_iff.1 (uh G1)).1).trans (Lib.cell_of_heap (uh G1) 1)
 have ne := Sub.ne w1.heap.size w1
 have HZ := hide (Nat.le_refl w1.heap.size)
 have HB := hide (fun y : Sub w1.heap.size w1 => (uh B1).trans (y.h.mono (uh B1).size))
 clear P1 B1 G1
 refine wp_region_sub (⟨w1, Below.refl _ _⟩ : Sub w1.heap.size w1) (by kernel_rfl) (by kernel_rfl) ?_
 (repeat (go_big_quiet_step (first | (go_at_call 65; exact Sub.same (uh KD _)) | (go_at_call 64; exact Sub.call (uh HZ) (uh H3 _)) | (go_at_call_of 50 x; exact Sub.call (uh HZ) (uh H1 _)) | (go_at_call_of 50 y; exact Sub.call (uh HZ) (uh H2 _)))))
 refine wpQuiet_nil ?_
 intro y
 go_wp2
 (first | go_ret2 | go_ret | skip)
 exact uh FN _ _ rfl (uh HB _)
def FtP (d : Nat) : Prop := ∀ (e : Ex) (w : World), okF d false e = true → Calls Tryd.prog 50 #[tv e] w (VaR (tv (foldX e)) w)
theorem ft_all : ∀ d : Nat, FtP d := by
 intro d
 induction d with
 | zero => intro e w h; cases h
 | succ d ih =>
  intro e w h
  rcases ok_cases h with ⟨n, hn, rfl⟩ | ⟨s, hs, rfl⟩ | rfl | ⟨a, ha, rfl⟩ | ⟨k, a, b, hk, ha, hb, rfl⟩ | ⟨n, hn, rfl⟩ | ⟨s, hs, rfl⟩
  · rw [fold_leaf, tv_num]; exact ft_num n w
  · rw [fold_leaf, tv_sym]; exact ft_sym s w
  · rw [fold_leaf, tv_here]; exact ft_here w
  ·
   rw [fold_neg, tv_neg]
   obtain ⟨c, rfl⟩ := ok_pos ha
   have h1 := fun w => ih a w ha
   have h2 := fun w => negI_any (fold_ok _ a ha) w
   obtain ⟨t, x, e1⟩ := tv_if a
   obtain ⟨u, y, e2⟩ := tv_if (foldX a)
   rw [e1, e2] at h1
   rw [e2] at h2
   rw [e1]
   exact ft_neg t x u y _ h1 h2 w
  ·
   rw [fold_two, tv_two hk]
   obtain ⟨c, rfl⟩ := ok_pos ha
   have h1 := fun w => ih a w ha
   have h2 := fun w => ih b w hb
   have h3 := fun w => foldPI_any hk (fold_ok _ a ha) (fold_ok _ b hb) w
   obtain ⟨t, x, e1⟩ := tv_if a
   obtain ⟨u, y, e2⟩ := tv_if b
   obtain ⟨tu, xu, e3⟩ := tv_if (foldX a)
   obtain ⟨uu, yu, e4⟩ := tv_if (foldX b)
   rw [e1, e3] at h1
   rw [e2, e4] at h2
   rw [e3, e4] at h3
   rw [e1, e2]
   have : k = 5 ∨ k = 6 ∨ k = 7 ∨ k = 8 ∨ k = 9 ∨ k = 10 := by omega
   rcases this with rfl | rfl | rfl | rfl | rfl | rfl
   · exact ft_two 118 5 t u x y tu uu xu yu _ (me_add (.iface t x) (.iface u y)) (fun w => kind_add 0 E0 t u x y w) h1 h2 h3 w
   · exact ft_two 119 6 t u x y tu uu xu yu _ (me_sub (.iface t x) (.iface u y)) (fun w => kind_sub 0 E0 t u x y w) h1 h2 h3 w
   · exact ft_two 120 7 t u x y tu uu xu yu _ (me_mul (.iface t x) (.iface u y)) (fun w => kind_mul 0 E0 t u x y w) h1 h2 h3 w
   · exact ft_two 121 8 t u x y tu uu xu yu _ (me_div (.iface t x) (.iface u y)) (fun w => kind_div 0 E0 t u x y w) h1 h2 h3 w
   · exact ft_two 122 9 t u x y tu uu xu yu _ (me_and (.iface t x) (.iface u y)) (fun w => kind_and 0 E0 t u x y w) h1 h2 h3 w
   · exact ft_two 123 10 t u x y tu uu xu yu _ (me_or (.iface t x) (.iface u y)) (fun w => kind_or 0 E0 t u x y w) h1 h2 h3 w
  · rw [fold_leaf, tv_sect]; exact ft_sect n w
  · rw [fold_leaf, tv_glob]; exact ft_glob s w
def Up (w : World) (b : Nat) : Prop := w.heap.size ≤ b
def FoR (e : Ex) : Prop := ∀ (b : Option Addr) (cap : Nat) (w : World), RdX w 0 e b → Calls Tryd.prog 42 #[.agg (e.cs b cap)] w (GiR (foldX e) (Up w) w)
theorem up_ow {w : World} {b : Nat} (h : w.heap.size + 2 ≤ b) : Ow w (Up w) b := ⟨Nat.le_trans (Nat.le_add_right _ _) h, .inr h⟩
theorem foldS_leaf (k n : Int) (s : ByteArray) (hs : s.size ≤ 1048576) : FoR ⟨k, n, s, []⟩ := by
 intro b cap w hr
 rw [fold_leaf]
 have X0 := hide (Bx.new w #[.int .i64 k, .int .i64 n, .string s, .slice b 0 cap])
 have CP := hide (copyS_any ⟨k, n, s, []⟩ b cap _ (hr.later (uh X0).bel) (by rw [sz_leaf]; exact hs))
 generalize hX : GiR ⟨k, n, s, []⟩ (Up w) w = X
 have HX := hide hX
 unfold GiR Ex.cs at CP
 show Calls Tryd.prog 42 #[.agg #[.int .i64 k, .int .i64 n, .string s, .slice b 0 cap]] w X
 clear hX hr
 go_enter Tryd.func42, Tryd.ntmps42
 go_wp2_with fail
 generalize (w.alloc (.cells #[.int .i64 k, .int .i64 n, .string s, .slice b 0 cap] 43)).alloc (.cells #[.int .i64 0, .int .i64 0, .string ⟨#[]⟩, .slice none 0 0] 43) = W at *
 refine (uh CP).mono ?_
 rintro r w1 ⟨c, cp, rfl, hx, hb1⟩
 have X1 := hide ((uh X0).later hb1)
 have A1 := hide (PX.leaf w1 (Ow w (Up w)) k n s c)
 clear hx hb1 X0 CP
 go_wp2_with (refine wpList_store_row rfl 43 _ _ rfl (w.heap.size + 1) #[.int .i64 k, .int .i64 n, .string s, .slice c 0 cp] rfl rfl 43 _ ((uh X1).res) szE rfl (ex_one _ _ _ _ _ _) ?_)
 refine bodyPost_ret (results_cell_row (P := Tryd.prog) rfl _ _ (w.heap.size + 1) 43 #[.int .i64 k, .int .i64 n, .string s, .slice c 0 cp] (0, 0) _ rfl (setRow_heap _ _ _ _ _ _ ((uh X1).res)) Tryd.underlying43 rfl szE) rfl ?_
 rw [← uh HX]
 exact Bx.end (x := ⟨k, n, s, []⟩) (uh X1) (uh A1) _
theorem RdX.at {w : World} {e : Ex} {a : Option Addr} (h : RdX w 0 e a) (hl : e.l ≠ []) : ∃ p off, a = some ⟨p, off, none⟩ ∧ p < w.heap.size ∧ ∀ i, i < e.l.length → OneX w 0 p (off + i * 4) (xAt e.l i) := by
 rcases (RdX_eq _ _ _ _).1 h with h0 | ⟨p, off, ha, _, hp, hc⟩
 · exact absurd h0 hl
 · exact ⟨p, off, ha, hp, hc⟩
theorem foldS_neg1 (a : Ex) (ih : FoR a) (hk : ((foldX a).k == 1) = true) (hn : 0 ≤ (foldX a).n ∧ (foldX a).n ≤ 65535 ∨ (foldX a).k ≠ 1) : FoR ⟨4, 0, ⟨#[]⟩, [a]⟩ := by
 intro b cap w hr
 rw [fold_neg]
 obtain ⟨p, off, rfl, hpl, hc⟩ := hr.at (by simp)
 obtain ⟨c0, c1, c2, q0, qp0, c3, r0⟩ := hc 0 (by simp)
 have X0 := hide (Bx.new w #[.int .i64 4, .int .i64 0, .string ⟨#[]⟩, .slice (some ⟨p, off, none⟩) 1 cap])
 have IH := hide (ih q0 qp0 _ (RdX.later r0 (uh X0).bel))
 have d0 := ((uh X0).bel.cell (p := ⟨p, off + 0 * 4, none⟩) hpl).trans c0
 have d1 := ((uh X0).bel.cell (p := ⟨p, off + 0 * 4 + 1, none⟩) hpl).trans c1
 have d2 := ((uh X0).bel.cell (p := ⟨p, off + 0 * 4 + 2, none⟩) hpl).trans c2
 have d3 := ((uh X0).bel.cell (p := ⟨p, off + 0 * 4 + 3, none⟩) hpl).trans c3
 simp only [Nat.zero_mul, Nat.add_zero] at d0 d1 d2 d3
 have EQ := hide (show negX (foldX a) = numX (-(foldX a).n) by unfold negX; rw [if_pos (beq_iff_eq.1 hk)])
 rw [uh EQ]
 have xa : xAt (Ex.mk 4 0 ⟨#[]⟩ [a]).l 0 = a := rfl
 rw [xa] at d0 d1 d2 d3
 have hn2 : 0 ≤ (foldX a).n ∧ (foldX a).n ≤ 65535 := hn.resolve_right (fun h => h (beq_iff_eq.1 hk))
 generalize hX : GiR _ (Up w) w = X
 have HX := hide hX
 unfold GiR Ex.cs at IH
 show Calls Tryd.prog 42 #[.agg #[.int .i64 4, .int .i64 0, .string ⟨#[]⟩, .slice (some ⟨p, off, none⟩) 1 cap]] w X
 generalize foldX a = x at *
 clear hX hr hc c0 c1 c2 c3 r0 ih EQ hn xa
 go_enter Tryd.func42, Tryd.ntmps42
 go_wp2_with fail
 generalize (w.alloc (.cells #[.int .i64 4, .int .i64 0, .string ⟨#[]⟩, .slice (some ⟨p, off, none⟩) 1 cap] 43)).alloc (.cells #[.int .i64 0, .int .i64 0, .string ⟨#[]⟩, .slice none 0 0] 43) = W at *
 clear d0 d1 d2 d3
 refine (uh IH).mono ?_
 rintro r w1 ⟨ca, cpa, rfl, hx, hb1⟩
 have hb2 := below_new w1 (.cells #[.int .i64 x.k, .int .i64 x.n, .string x.s, .slice ca x.l.length cpa] 43)
 have hb12 := hb1.trans (hb2.mono hb1.size)
 have X2 := hide ((uh X0).later hb12)
 have hzW := (uh X0).lt
 have A1 := (show PX w1 (Ow w (Up w)) x ca from hx.mono (fun b (h : W.heap.size ≤ b) => up_ow (Nat.le_trans hzW h)))
 have A2 := hide (A1.later hb2)
 have G2 := hide (show (w1.alloc (.cells #[.int .i64 x.k, .int .i64 x.n, .string x.s, .slice ca x.l.length cpa] 43)).heap[w1.heap.size]? = some (.cells #[.int .i64 x.k, .int .i64 x.n, .string x.s, .slice ca x.l.length cpa] 43 (0, 0)) from Array.getElem?_push_size)
 have y0 := Lib.cell_of_heap (uh G2) 0
 have y1 := Lib.cell_of_heap (uh G2) 1
 have z0 := Lib.cell_of_heap (uh X2).box 0
 clear hx hb1 hb2 hb12 A1 X0 IH
 go_wp2_with fail
 generalize w1.alloc (.cells #[.int .i64 x.k, .int .i64 x.n, .string x.s, .slice ca x.l.length cpa] 43) = w2 at *
 clear y0 y1 z0
 refine (numD (-x.n) w2).mono ?_
 rintro r w3 ⟨rfl, hb3⟩
 have X3 := hide ((uh X2).later hb3)
 have A3 := hide (PX.leaf w3 (Ow w (Up w)) 1 (-x.n % 65536) (⟨#[]⟩ : ByteArray) none)
 clear hb3 X2 A2 G2
 go_wp2_with (refine wpList_store_row rfl 43 _ _ rfl (w.heap.size + 1) #[.int .i64 1, .int .i64 (-x.n % 65536), .string ⟨#[]⟩, .slice none 0 0] rfl rfl 43 _ ((uh X3).res) szE rfl (ex_one _ _ _ _ _ _) ?_)
 refine bodyPost_ret (results_cell_row (P := Tryd.prog) rfl _ _ (w.heap.size + 1) 43 #[.int .i64 1, .int .i64 (-x.n % 65536), .string ⟨#[]⟩, .slice none 0 0] (0, 0) _ rfl (setRow_heap _ _ _ _ _ _ ((uh X3).res)) Tryd.underlying43 rfl szE) rfl ?_
 rw [← uh HX]
 exact Bx.end (x := numX (-x.n)) (uh X3) (uh A3) _
theorem foldS_neg0 (a : Ex) (ih : FoR a) (hk : ((foldX a).k == 1) = false) (hn : 0 ≤ (foldX a).n ∧ (foldX a).n ≤ 65535 ∨ (foldX a).k ≠ 1) : FoR ⟨4, 0, ⟨#[]⟩, [a]⟩ := by
 intro b cap w hr
 rw [fold_neg]
 obtain ⟨p, off, rfl, hpl, hc⟩ := hr.at (by simp)
 obtain ⟨c0, c1, c2, q0, qp0, c3, r0⟩ := hc 0 (by simp)
 have X0 := hide (Bx.new w #[.int .i64 4, .int .i64 0, .string ⟨#[]⟩, .slice (some ⟨p, off, none⟩) 1 cap])
 have IH := hide (ih q0 qp0 _ (RdX.later r0 (uh X0).bel))
 have d0 := ((uh X0).bel.cell (p := ⟨p, off + 0 * 4, none⟩) hpl).trans c0
 have d1 := ((uh X0).bel.cell (p := ⟨p, off + 0 * 4 + 1, none⟩) hpl).trans c1
 have d2 := ((uh X0).bel.cell (p := ⟨p, off + 0 * 4 + 2, none⟩) hpl).trans c2
 have d3 := ((uh X0).bel.cell (p := ⟨p, off + 0 * 4 + 3, none⟩) hpl).trans c3
 simp only [Nat.zero_mul, Nat.add_zero] at d0 d1 d2 d3
 have EQ := hide (show negX (foldX a) = ⟨4, 0, ⟨#[]⟩, [foldX a]⟩ by unfold negX; rw [if_neg (beq_eq_false_iff_ne.1 hk)]; rfl)
 rw [uh EQ]
 have xa : xAt (Ex.mk 4 0 ⟨#[]⟩ [a]).l 0 = a := rfl
 rw [xa] at d0 d1 d2 d3
 have hn2 : True := trivial
 generalize hX : GiR _ (Up w) w = X
 have HX := hide hX
 unfold GiR Ex.cs at IH
 show Calls Tryd.prog 42 #[.agg #[.int .i64 4, .int .i64 0, .string ⟨#[]⟩, .slice (some ⟨p, off, none⟩) 1 cap]] w X
 generalize foldX a = x at *
 clear hX hr hc c0 c1 c2 c3 r0 ih EQ hn xa
 go_enter Tryd.func42, Tryd.ntmps42
 go_wp2_with fail
 generalize (w.alloc (.cells #[.int .i64 4, .int .i64 0, .string ⟨#[]⟩, .slice (some ⟨p, off, none⟩) 1 cap] 43)).alloc (.cells #[.int .i64 0, .int .i64 0, .string ⟨#[]⟩, .slice none 0 0] 43) = W at *
 clear d0 d1 d2 d3
 refine (uh IH).mono ?_
 rintro r w1 ⟨ca, cpa, rfl, hx, hb1⟩
 have hb2 := below_new w1 (.cells #[.int .i64 x.k, .int .i64 x.n, .string x.s, .slice ca x.l.length cpa] 43)
 have hb12 := hb1.trans (hb2.mono hb1.size)
 have X2 := hide ((uh X0).later hb12)
 have hzW := (uh X0).lt
 have A1 := (show PX w1 (Ow w (Up w)) x ca from hx.mono (fun b (h : W.heap.size ≤ b) => up_ow (Nat.le_trans hzW h)))
 have A2 := hide (A1.later hb2)
 have G2 := hide (show (w1.alloc (.cells #[.int .i64 x.k, .int .i64 x.n, .string x.s, .slice ca x.l.length cpa] 43)).heap[w1.heap.size]? = some (.cells #[.int .i64 x.k, .int .i64 x.n, .string x.s, .slice ca x.l.length cpa] 43 (0, 0)) from Array.getElem?_push_size)
 have y0 := Lib.cell_of_heap (uh G2) 0
 have y1 := Lib.cell_of_heap (uh G2) 1
 have z0 := Lib.cell_of_heap (uh X2).box 0
 clear hx hb1 hb2 hb12 A1 X0 IH
 have hb3 := below_new (w1.alloc (.cells #[.int .i64 x.k, .int .i64 x.n, .string x.s, .slice ca x.l.length cpa] 43)) (.cells #[.int .i64 x.k, .int .i64 x.n, .string x.s, .slice ca x.l.length cpa] 43)
 have X3 := hide ((uh X2).later hb3)
 have hz3 : (w1.alloc (.cells #[.int .i64 x.k, .int .i64 x.n, .string x.s, .slice ca x.l.length cpa] 43)).heap.size = w1.heap.size + 1 := by simp
 have A3' := (show PX ((w1.alloc (.cells #[.int .i64 x.k, .int .i64 x.n, .string x.s, .slice ca x.l.length cpa] 43)).alloc (.cells #[.int .i64 x.k, .int .i64 x.n, .string x.s, .slice ca x.l.length cpa] 43)) (Ow w (Up w)) ⟨4, 0, ⟨#[]⟩, [x]⟩ (some ⟨(w1.alloc (.cells #[.int .i64 x.k, .int .i64 x.n, .string x.s, .slice ca x.l.length cpa] 43)).heap.size, 0, none⟩) from (uh A2).one (up_ow (uh X2).lt) 4 0 ⟨#[]⟩ 43)
 rw [hz3] at A3'
 have A3 := hide A3'
 clear hb3 hz3 A3'
 go_wp2_with (first | (refine wpList_load_row rfl 43 _ rfl w1.heap.size rfl 43 #[.int .i64 x.k, .int .i64 x.n, .string x.s, .slice ca x.l.length cpa] (0, 0) _ (uh G2) Tryd.underlying43 rfl (by kernel_rfl) ?_) | (refine wpList_store_row rfl 43 _ _ rfl (w.heap.size + 1) #[.int .i64 4, .int .i64 0, .string ⟨#[]⟩, .slice (some ⟨w1.heap.size + 1, 0, none⟩) 1 1] rfl rfl 43 _ ((uh X3).res) szE rfl (ex_one _ _ _ _ _ _) ?_))
 refine bodyPost_ret (results_cell_row (P := Tryd.prog) rfl _ _ (w.heap.size + 1) 43 #[.int .i64 4, .int .i64 0, .string ⟨#[]⟩, .slice (some ⟨w1.heap.size + 1, 0, none⟩) 1 1] (0, 0) _ rfl (setRow_heap _ _ _ _ _ _ ((uh X3).res)) Tryd.underlying43 rfl szE) rfl ?_
 rw [← uh HX]
 exact Bx.end (x := ⟨4, 0, ⟨#[]⟩, [x]⟩) (uh X3) (uh A3) _
end Go.Proofs.YtoilipfipmoljaaDoor
