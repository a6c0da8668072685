/- Contracts over this seat's translation, laid together; conditions stand as hypotheses of each. -/
import Derived.Test.YtboedaofbchdkaaGreatDoorRsX
import Derived.Test.YtboedaofbchdkaaGreatDoorRows
import Derived.Lib.LaidTab
import Derived.MakeChecks
import Derived.Lib.SmallJoins
namespace Go.Proofs.YtboedaofbchdkaaGreatDoor
open Go.ChangeShapes Go.WideShapes Go.ChangeAt Go.RowKit
set_option maxHeartbeats 16000000
set_option linter.unusedVariables false
set_option maxRecDepth 8000
section
section
variable {H : Type} {enc : TypeId × Value → H} {W : World} {b0 base : Nat} {held : Bool}
theorem sl_of_trod {n : Nat} {c : Value} {y : DataW H × List MemPlace} (h : DataW.trod enc Tryz.prog W base (fun _ => true) held n 22 [c] = some y) : ∃ (s : Sl) (ns : List Int), c = .slice s.a s.n s.c ∧ RdN W s.a ns ∧ ns.length = s.n ∧ s.n ≤ maxLen := by
 rcases open_ints Tryz.underlying22 Tryz.underlying3 (by kernel_rfl) h with ⟨hcs, _⟩ | ⟨x, l, k, zs, hcs, _, hl, hm, hz, _, hcell, hwz⟩
 ·
  simp at hcs
  exact ⟨⟨none, 0, 0⟩, [], hcs, .inl rfl, rfl, Nat.zero_le _⟩
 ·
  simp at hcs
  have hrow : IsRow .i64 W (some x) l k zs := .inr ⟨x, rfl, hl, hm, by simpa using hz, hcell, hwz⟩
  obtain ⟨ns, h1, h2, h3, h4, _⟩ := rdN_of_row hrow
  exact ⟨⟨some x, l, k⟩, ns, hcs, h4, h1, Nat.le_trans hl hm⟩
theorem bool_of_trod {n : Nat} {c : Value} {y : DataW H × List MemPlace} (h : DataW.trod enc Tryz.prog W base (fun _ => true) held n 4 [c] = some y) : ∃ b : Bool, c = .bool b := by
 obtain ⟨b, hb, _⟩ := DataW.trod_bool Tryz.underlying4 h
 simp at hb
 exact ⟨b, hb⟩
theorem int_of_trod {n : Nat} {c : Value} {y : DataW H × List MemPlace} (h : DataW.trod enc Tryz.prog W base (fun _ => true) held n 3 [c] = some y) : ∃ x : Int, c = .int .i64 x ∧ (Lit.int .i64 x).wf = true := by
 obtain ⟨x, hx, _, hw⟩ := DataW.trod_int Tryz.underlying3 h
 simp at hx
 exact ⟨x, hx, hw⟩
theorem some_of_get {α : Type} {xs : List α} {o : Option α} {i : Nat} (h : o = xs[i]?) (hi : i < xs.length) : ∃ y, o = some y := ⟨xs[i], by rw [h, List.getElem?_eq_getElem hi]⟩
theorem open_mv {r : Reach} {v : Value} {d : DataW H} {p : List MemPlace} (hv : Value.okWide Tryz.prog W r b0 24 v) (h : DataW.Trod enc Tryz.prog W base (fun _ => true) held 24 v d p) : ∃ (x : Mv) (e : Md), v = .agg x.cs ∧ RdM W x e ∧ x.lens := by
 obtain ⟨cs, rfl, hsz⟩ := okWide_struct Tryz.underlying24 hv
 obtain ⟨fuel, hf⟩ := h
 obtain ⟨xs, n, _, _, hl, hlen, hg⟩ := DataW.trod_struct Tryz.underlying24 hf
 have hc : Tryz.prog.cellsOf 24 = 9 := by kernel_rfl
 have hc3 : Tryz.prog.cellsOf 3 = 1 := by kernel_rfl
 have hc4 : Tryz.prog.cellsOf 4 = 1 := by kernel_rfl
 have hc24 : Tryz.prog.cellsOf 22 = 1 := by kernel_rfl
 rw [hc] at hsz
 obtain ⟨l⟩ := cs
 match l, hsz with
 | [k0, k1, k2, k3, k4, k5, k6, k7, k8], _ =>
  have hlen' : xs.length = 9 := hlen
  have g0 := hg 0 (Field.mk "Mem" 22 0 false "" "" 0) rfl
  have g1 := hg 1 (Field.mk "R" 22 1 false "" "" 24) rfl
  have g2 := hg 2 (Field.mk "N" 4 2 false "" "" 48) rfl
  have g3 := hg 3 (Field.mk "Z" 4 3 false "" "" 49) rfl
  have g4 := hg 4 (Field.mk "V" 4 4 false "" "" 50) rfl
  have g5 := hg 5 (Field.mk "C" 4 5 false "" "" 51) rfl
  have g6 := hg 6 (Field.mk "In" 22 6 false "" "" 56) rfl
  have g7 := hg 7 (Field.mk "Out" 22 7 false "" "" 80) rfl
  have g8 := hg 8 (Field.mk "Stop" 3 8 false "" "" 104) rfl
  simp only [hc3, hc4, hc24, Value.cells] at g0 g1 g2 g3 g4 g5 g6 g7 g8
  obtain ⟨y0, e0⟩ := some_of_get g0 (by omega)
  obtain ⟨y1, e1⟩ := some_of_get g1 (by omega)
  obtain ⟨y2, e2⟩ := some_of_get g2 (by omega)
  obtain ⟨y3, e3⟩ := some_of_get g3 (by omega)
  obtain ⟨y4, e4⟩ := some_of_get g4 (by omega)
  obtain ⟨y5, e5⟩ := some_of_get g5 (by omega)
  obtain ⟨y6, e6⟩ := some_of_get g6 (by omega)
  obtain ⟨y7, e7⟩ := some_of_get g7 (by omega)
  obtain ⟨y8, e8⟩ := some_of_get g8 (by omega)
  simp only [List.drop_succ_cons, List.drop_zero, List.take_succ_cons, List.take_zero] at e0 e1 e2 e3 e4 e5 e6 e7 e8
  obtain ⟨s0, n0, rfl, r0, l0, m0⟩ := sl_of_trod e0
  obtain ⟨s1, n1, rfl, r1, l1, m1⟩ := sl_of_trod e1
  obtain ⟨q2, rfl⟩ := bool_of_trod e2
  obtain ⟨q3, rfl⟩ := bool_of_trod e3
  obtain ⟨q4, rfl⟩ := bool_of_trod e4
  obtain ⟨q5, rfl⟩ := bool_of_trod e5
  obtain ⟨s6, n6, rfl, r6, l6, m6⟩ := sl_of_trod e6
  obtain ⟨s7, n7, rfl, r7, l7, m7⟩ := sl_of_trod e7
  obtain ⟨x8, rfl, _⟩ := int_of_trod e8
  exact ⟨⟨s0, s1, q2, q3, q4, q5, s6, s7, x8⟩, ⟨n0, n1, n6, n7⟩, rfl, ⟨r0, r1, r6, r7, l0, l1, l6, l7⟩, m0, m1, m6, m7⟩
end
end
theorem own : ownKnob Tryz.prog.godebug = none := by kernel_rfl
theorem laidOut : laidOutB Tryz.prog = true := by kernel_rfl
theorem gTab : Tryz.prog.globalNamed "loop.example/g00329/impl.firstWords" = some 0 := by kernel_rfl
theorem tTab : (Tryz.prog.globals[0]?).map (·.type) = some 106 := by kernel_rfl
theorem tabL_eq : (Rows.laid_loop_example_g00329_impl_firstWords : DataW Unit) = Lib.tabData .i64 baseL := by kernel_rfl
theorem tab_of_laid {W : World} (h : laidMetH Tryz.prog [("loop.example/g00329/impl.firstWords", Rows.laid_loop_example_g00329_impl_firstWords)] W) : Tab W := by
 rw [MakeChecks.laidMetH_plain _ _ _ (by kernel_rfl)] at h
 rw [tabL_eq] at h
 have h2 := Lib.tabIs_of_head gTab tTab Tryz.underlying106 Tryz.underlying3 (by kernel_rfl) (by kernel_rfl) h
 have hc : ∀ k, k < 24 → W.cell? ⟨0, k, none⟩ = some (.int .i64 (baseAt k)) := fun k hk => by
  have hk' : k < baseL.length := hk
  rw [h2.cell gTab k hk']; rfl
 exact ⟨World.block_lt_of_cell? W _ (hc 0 (by omega)), hc⟩
theorem ms_of_fl {x y : Mv} (d : Md) (h : y.fl = x.fl) : y.ms d = x.ms d := by
 unfold Mv.ms
 rw [fl_n h, fl_z h, fl_v h, fl_c h]
end Go.Proofs.YtboedaofbchdkaaGreatDoor
