/- A word written by the program; over this seat's translation; conditions stand as hypotheses of each. -/
import Derived.Test.YtboedaofbchdkaaDoorMacL
namespace Go.Proofs.YtboedaofbchdkaaDoor
open Go.ChangeShapes Go.WideShapes Go.ChangeAt Go.RowKit
set_option linter.unusedVariables false
set_option maxRecDepth 8000
set_option linter.unusedSimpArgs false

theorem results_row2 {P : Program} {fn : Func} {p u : Tmp} {ty : TypeId} (h : fn.results = #[.cell p ty, .tmp u]) (tmps : Array Value) (w : World) (g : Nat) (t : TypeId) (cs : Array Value) (fr : Nat × Nat) (d : TypeDesc)
    (hp : tmps.getD p undef = .pointer (some ⟨g, 0, none⟩)) (hg : w.heap[g]? = some (.cells cs t fr))
    (hu : P.underlying ty = some d) (hd : (match d with | .struct _ | .array _ _ => true | _ => false) = true) (hi : (P.info? ty).map (·.size) = some cs.size) :
    (results fn tmps).run P w = .ok (.tuple #[.agg cs, tmps.getD u undef]) w := by
  have hp' : tmps[p]?.getD undef = .pointer (some ⟨g, 0, none⟩) := by simpa using hp
  simp [results, h, hp', asAddr, run_loadVar_row w g t ty cs fr d hg hu hd hi]

/-- What stands behind a write. -/
def Md.put (d : Md) (a n : Int) : Md := if d.has a = true then ⟨d.m.set (a / 2).toNat (n % 65536), d.r, d.i, d.o⟩ else d
theorem back_same (ns : List Int) : (laidM ns z256).take ns.length ++ ns.drop 256 = ns := by
  unfold laidM
  by_cases h : ns.length ≤ 256
  · rw [List.take_of_length_le h, List.drop_eq_nil_of_le h, List.append_nil, List.take_append_of_le_length (Nat.le_refl _), List.take_of_length_le (Nat.le_refl _)]
  · have hz : z256.drop ns.length = [] := List.drop_eq_nil_of_le (by rw [z256_len]; omega)
    rw [hz, List.append_nil, List.take_of_length_le (by rw [List.length_take]; omega), List.take_append_drop]
theorem back_set (ns : List Int) (k : Nat) (v : Int) (h : k < 256) (hk : k < ns.length) : ((laidM ns z256).set k v).take ns.length ++ ns.drop 256 = ns.set k v := by
  have hb := back_same ns
  rw [List.take_set, ← List.set_append_left _ _ (by rw [List.length_take, laidM_len z256_len]; omega), hb]
theorem Cc.pastR {w wr w' : World} {x : Mv} {row : Option Nat} (h : Cc w wr x) (hg : wr.grownBy w' row) (hr : ∀ g, row = some g → w.heap.size + 2 ≤ g) : Cc w w' x :=
  ⟨(hg.block _ (row_lt h.bx) (fun e => by have := hr _ e.symm; omega)).trans h.bx, (hg.block _ (row_lt h.re) (fun e => by have := hr _ e.symm; omega)).trans h.re, h.bel.grown hg h.bel.size (fun k e => by have := hr _ e; omega), Nat.le_trans h.sz hg.size⟩
/-- Rows that the machine's lists do not lie in may be written. -/
theorem OwnM.pastN {w w' w1 : World} {B B' : Nat} {x : Mv} {d d' : Md} (h : OwnM w B x d) (h0 : OwnM w1 B' x d') (hg : w.grownBy w' (some w1.heap.size)) : OwnM w' B x d :=
  { h with
    m := h.m.keep fun q hv hq => hg.block q hq (by have := (h0.m.lt hv).2; simp; omega)
    r := h.r.keep fun q hv hq => hg.block q hq (by have := (h0.r.lt hv).2; simp; omega)
    i := h.i.keep fun q hv hq => hg.block q hq (by have := (h0.i.lt hv).2; simp; omega)
    o := h.o.keep fun q hv hq => hg.block q hq (by have := (h0.o.lt hv).2; simp; omega) }

set_option maxHeartbeats 2000000 in
theorem writeI_any (x : Mv) (d : Md) (a n : Int) (w : World) (hs : x.small) (hz : x.nz) (hr : RdM w x d) : Calls Tryd.prog 11 #[.agg x.cs, .int .i64 a, .int .i64 n] w fun e w' => ∃ y : Mv, e = .returned (.tuple #[.agg y.cs, .bool (d.has a)]) ∧ y.fl = x.fl ∧ OwnM w' (w.heap.size + 2) y (d.put a n) ∧ Below w.heap.size w w' := by
  have C := hide (cc_new w x)
  have X := hide (hr.later (unhide C).bel)
  have M := hide (machineOf_any x d _ hs hz (unhide X))
  have HT := hide (has_t (d := d) (a := a))
  have S := hide hs
  have HL := hide hr.ml
  unfold Md.put
  obtain ⟨q, hq⟩ : ∃ q, d.has a = q := ⟨_, rfl⟩
  rw [hq] at HT ⊢
  have HQ := hide hq
  clear hr hs hz hq
  go_enter Tryd.func11, Tryd.ntmps11
  go_wp2_with (refine wpList_load_row rfl 32 _ rfl w.heap.size rfl 32 x.cs (0, 0) _ (unhide C).bx Tryd.underlying32 rfl (by kernel_rfl) ?_)
  refine (unhide M).mono ?_
  rintro e w1 ⟨y, rfl, fy, oy, hb⟩
  have FY := hide fy
  have O1 := hide (oy.base (C := w.heap.size + 2) (by have := (unhide C).sz; omega))
  have C1 := hide (((unhide C).later hb).later (below_new w1 (.cells (bigA (laidM d.m z256) y) 55)))
  have H1 := hide (has_any x d a (w1.alloc (.cells (bigA (laidM d.m z256) y) 55)) (unhide HL) (unhide S).1)
  rw [unhide HQ] at H1
  have G1 := hide (heap_alloc_last w1 (.cells (bigA (laidM d.m z256) y) 55))
  have Z1 := hide (Nat.le_trans (unhide C).sz hb.size)
  clear fy oy hb M C X
  go_wp2_with (first | (refine wpList_alloc60 rfl rfl ?_) | (refine wpList_store60 rfl _ _ rfl (laidM d.m z256) y (laidM_len z256_len) rfl rfl ?_) | (refine wpList_load_row rfl 32 _ rfl w.heap.size rfl 32 x.cs (0, 0) _ (unhide C1).bx Tryd.underlying32 rfl (by kernel_rfl) ?_))
  refine (unhide H1).mono ?_
  rintro e w2 ⟨rfl, hb⟩
  have C2 := hide ((unhide C1).later hb)
  have G2 := hide (row_lat (unhide G1) hb)
  have O2 := hide (((unhide O1).later (below_new w1 (.cells (bigA (laidM d.m z256) y) 55))).later hb)
  clear hb C1 G1 H1
  cases q
  · have A := hide (answer_any w1.heap.size (w.heap.size + 2) (laidM d.m z256) y d w2 (laidM_len z256_len) (unhide G2) (unhide O2) (own_ne (unhide O1).m (.inr (Nat.le_refl _))))
    go_wp2_with fail
    refine (unhide A).mono ?_
    rintro e w3 ⟨rfl, o3, g3⟩
    rw [back_same] at o3
    have C3 := hide ((unhide C2).pastR g3 (fun b e => ((unhide O2).m.lt e).1))
    have O3 := hide o3
    clear o3 g3 A
    go_wp2_with (refine wpList_store_row rfl 32 _ _ rfl (w.heap.size + 1) y.cs rfl rfl 32 zMv.cs (unhide C3).re (by kernel_rfl) rfl (Mv.cs_one _) ?_)
    refine bodyPost_ret (results_row2 (P := Tryd.prog) rfl _ _ (w.heap.size + 1) 32 y.cs (0, 0) _ rfl (setRow_heap w3 _ _ _ 32 _ (unhide C3).re) Tryd.underlying32 rfl (by kernel_rfl)) rfl ?_
    exact ⟨y, rfl, unhide FY, (unhide O3).row (by omega) _, below_setRow (unhide C3).bel (by omega) _⟩
  · obtain ⟨ta, tl⟩ := unhide HT (by trivial)
    obtain ⟨t0, t1, _⟩ := adB_t ta
    clear ta HT
    have W2 := hide (setWord_any w1.heap.size a n (laidM d.m z256) y w2 t0 (by omega) (laidM_len z256_len) (unhide G2))
    have TL := hide tl
    clear tl
    go_wp2_with fail
    refine (unhide W2).mono ?_
    rintro e w3 ⟨rfl, r3, g3⟩
    have G3 := hide r3
    have O3 := hide ((unhide O2).pastN (unhide O1) g3)
    have C3 := hide ((unhide C2).pastR g3 (fun b e => by cases e; exact unhide Z1))
    have A := hide (answer_any w1.heap.size (w.heap.size + 2) ((laidM d.m z256).set (a / 2).toNat (n % 65536)) y d w3 (by rw [List.length_set, laidM_len z256_len]) (unhide G3) (unhide O3) (own_ne (unhide O1).m (.inr (Nat.le_refl _))))
    rw [back_set d.m (a / 2).toNat (n % 65536) (by omega) (by have := unhide TL; omega)] at A
    clear r3 g3 W2 C2 O2 G2
    go_wp2_with fail
    refine (unhide A).mono ?_
    rintro e w4 ⟨rfl, o4, g4⟩
    have C4 := hide ((unhide C3).pastR g4 (fun b e => ((unhide O3).m.lt e).1))
    have O4 := hide o4
    clear o4 g4 A
    go_wp2_with (refine wpList_store_row rfl 32 _ _ rfl (w.heap.size + 1) y.cs rfl rfl 32 zMv.cs (unhide C4).re (by kernel_rfl) rfl (Mv.cs_one _) ?_)
    refine bodyPost_ret (results_row2 (P := Tryd.prog) rfl _ _ (w.heap.size + 1) 32 y.cs (0, 0) _ rfl (setRow_heap w4 _ _ _ 32 _ (unhide C4).re) Tryd.underlying32 rfl (by kernel_rfl)) rfl ?_
    exact ⟨y, rfl, unhide FY, (unhide O4).row (by omega) _, below_setRow (unhide C4).bel (by omega) _⟩
end Go.Proofs.YtboedaofbchdkaaDoor
