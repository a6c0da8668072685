/- Three answers laid into two boxes and a flag, by a region that draws its order; over this seat's translation; conditions stand as hypotheses of each. -/
import Derived.Test.YtfkmibgamkignaaLawF
import Derived.Test.YtfkmibgamkignaaAsg
namespace Go.Proofs.Ytfkmibgamkignaa
open Go.ChangeShapes Go.WideShapes Go.ChangeAt Go.RowKit
set_option linter.unusedVariables false
set_option maxRecDepth 8000
set_option linter.unusedSimpArgs false

theorem cf40 : ∀ vs w, (callFunc 40 vs).run Try.prog w = .ok (.enter 40 vs) w := fun _ _ => by simp [go_sem]
theorem cf42 : ∀ vs w, (callFunc 42 vs).run Try.prog w = .ok (.enter 42 vs) w := fun _ _ => by simp [go_sem]
theorem cf23 : ∀ vs w, (callFunc 23 vs).run Try.prog w = .ok (.enter 23 vs) w := fun _ _ => by simp [go_sem]
/-- What holds of a region, whatever part of it has come up. -/
structure Ra (x : Mv) (d D : Md) (om orr ox pr pa : Int) (ok : Bool) (Wb w : World) (f : Nat → Bool) (v0 v1 v2 v3 v4 v5 v6 v7 v8 v9 v10 v13 : Value) : Prop where
  bel : Below Wb.heap.size Wb w
  h0 : f 0 = true → v0 = .agg x.cs
  h1 : f 1 = true → ∃ y : Mv, v1 = .agg y.cs ∧ y.fl = x.fl ∧ OwnM w Wb.heap.size y d
  h2 : f 2 = true → v2 = .agg #[.int .i64 om, .int .i64 orr, .int .i64 ox]
  h3 : f 3 = true → v3 = .agg #[.int .i64 om, .int .i64 orr, .int .i64 ox]
  h4 : f 4 = true → ∃ s : Mv, v4 = .tuple #[.agg s.cs, .agg #[.int .i64 pr, .int .i64 pa], .bool ok] ∧ s.fl = x.fl ∧ OwnM w Wb.heap.size s D
  h5 : f 5 = true → v5 = v4
  h6 : f 6 = true → ∃ s : Mv, v4 = .tuple #[.agg s.cs, .agg #[.int .i64 pr, .int .i64 pa], .bool ok] ∧ v6 = .agg s.cs
  h7 : f 7 = true → v7 = .agg #[.int .i64 pr, .int .i64 pa]
  h8 : f 8 = true → v8 = .bool ok
  h9 : f 9 = true → ∃ g : Nat, v9 = .pointer (some ⟨g, 0, none⟩) ∧ Wb.heap.size ≤ g ∧ (f 11 = false → w.heap[g]? = some (.cells zMv.cs 28 (0, 0)))
  h10 : f 10 = true → ∃ g : Nat, v10 = .pointer (some ⟨g, 0, none⟩) ∧ Wb.heap.size ≤ g ∧ (f 12 = false → w.heap[g]? = some (.cells #[.int .i64 0, .int .i64 0] 44 (0, 0)))
  h11 : f 11 = true → ∃ g : Nat, v9 = .pointer (some ⟨g, 0, none⟩) ∧ Wb.heap.size ≤ g ∧ ∃ s : Mv, v4 = .tuple #[.agg s.cs, .agg #[.int .i64 pr, .int .i64 pa], .bool ok] ∧ w.heap[g]? = some (.cells s.cs 28 (0, 0))
  h12 : f 12 = true → ∃ g : Nat, v10 = .pointer (some ⟨g, 0, none⟩) ∧ Wb.heap.size ≤ g ∧ w.heap[g]? = some (.cells #[.int .i64 pr, .int .i64 pa] 44 (0, 0))
  h13 : f 13 = true → v13 = .bool ok
section
variable {x : Mv} {d D : Md} {om orr ox pr pa : Int} {ok : Bool} {Wb w w2 : World} {f : Nat → Bool} {v0 v1 v2 v3 v4 v5 v6 v7 v8 v9 v10 v13 : Value}
theorem Ra.mk0 (h : Below Wb.heap.size Wb w) : Ra x d D om orr ox pr pa ok Wb w (fun _ => false) v0 v1 v2 v3 v4 v5 v6 v7 v8 v9 v10 v13 := ⟨h, fun h => no h, fun h => no h, fun h => no h, fun h => no h, fun h => no h, fun h => no h, fun h => no h, fun h => no h, fun h => no h, fun h => no h, fun h => no h, fun h => no h, fun h => no h, fun h => no h⟩
theorem Ra.lat (J : Ra x d D om orr ox pr pa ok Wb w f v0 v1 v2 v3 v4 v5 v6 v7 v8 v9 v10 v13) (hb : Below w.heap.size w w2) : Ra x d D om orr ox pr pa ok Wb w2 f v0 v1 v2 v3 v4 v5 v6 v7 v8 v9 v10 v13 :=
  ⟨J.bel.trans (hb.mono J.bel.size), (J.h0),
    (fun h => by obtain ⟨y, e, k, o⟩ := (J.h1 h); exact ⟨y, e, k, o.later hb⟩),
    (J.h2),
    (J.h3),
    (fun h => by obtain ⟨y, e, k, o⟩ := (J.h4 h); exact ⟨y, e, k, o.later hb⟩),
    (J.h5),
    (J.h6),
    (J.h7),
    (J.h8),
    (fun h => by obtain ⟨g, e, l, r⟩ := J.h9 h; exact ⟨g, e, l, fun k => row_lat (r k) hb⟩),
    (fun h => by obtain ⟨g, e, l, r⟩ := J.h10 h; exact ⟨g, e, l, fun k => row_lat (r k) hb⟩),
    (fun h => by obtain ⟨g, e, l, s, e2, r⟩ := J.h11 h; exact ⟨g, e, l, s, e2, row_lat r hb⟩),
    (fun h => by obtain ⟨g, e, l, r⟩ := J.h12 h; exact ⟨g, e, l, row_lat r hb⟩),
    (J.h13)⟩
theorem Ra.p0 (J : Ra x d D om orr ox pr pa ok Wb w f v0 v1 v2 v3 v4 v5 v6 v7 v8 v9 v10 v13)  {u : Value} (hu : u = .agg x.cs) : Ra x d D om orr ox pr pa ok Wb w (fun j => if j = 0 then true else f j) u v1 v2 v3 v4 v5 v6 v7 v8 v9 v10 v13 :=
  ⟨J.bel, (fun _ => hu), (J.h1), (J.h2), (J.h3), (J.h4), (J.h5), (J.h6), (J.h7), (J.h8), (J.h9), (J.h10), (J.h11), (J.h12), (J.h13)⟩
theorem Ra.p1 (J : Ra x d D om orr ox pr pa ok Wb w f v0 v1 v2 v3 v4 v5 v6 v7 v8 v9 v10 v13)  {u : Value} (hu : ∃ y : Mv, u = .agg y.cs ∧ y.fl = x.fl ∧ OwnM w Wb.heap.size y d) : Ra x d D om orr ox pr pa ok Wb w (fun j => if j = 1 then true else f j) v0 u v2 v3 v4 v5 v6 v7 v8 v9 v10 v13 :=
  ⟨J.bel, (J.h0), (fun _ => hu), (J.h2), (J.h3), (J.h4), (J.h5), (J.h6), (J.h7), (J.h8), (J.h9), (J.h10), (J.h11), (J.h12), (J.h13)⟩
theorem Ra.p2 (J : Ra x d D om orr ox pr pa ok Wb w f v0 v1 v2 v3 v4 v5 v6 v7 v8 v9 v10 v13)  {u : Value} (hu : u = .agg #[.int .i64 om, .int .i64 orr, .int .i64 ox]) : Ra x d D om orr ox pr pa ok Wb w (fun j => if j = 2 then true else f j) v0 v1 u v3 v4 v5 v6 v7 v8 v9 v10 v13 :=
  ⟨J.bel, (J.h0), (J.h1), (fun _ => hu), (J.h3), (J.h4), (J.h5), (J.h6), (J.h7), (J.h8), (J.h9), (J.h10), (J.h11), (J.h12), (J.h13)⟩
theorem Ra.p3 (J : Ra x d D om orr ox pr pa ok Wb w f v0 v1 v2 v3 v4 v5 v6 v7 v8 v9 v10 v13)  {u : Value} (hu : u = .agg #[.int .i64 om, .int .i64 orr, .int .i64 ox]) : Ra x d D om orr ox pr pa ok Wb w (fun j => if j = 3 then true else f j) v0 v1 v2 u v4 v5 v6 v7 v8 v9 v10 v13 :=
  ⟨J.bel, (J.h0), (J.h1), (J.h2), (fun _ => hu), (J.h4), (J.h5), (J.h6), (J.h7), (J.h8), (J.h9), (J.h10), (J.h11), (J.h12), (J.h13)⟩
theorem Ra.p4 (J : Ra x d D om orr ox pr pa ok Wb w f v0 v1 v2 v3 v4 v5 v6 v7 v8 v9 v10 v13) (n5 : f 5 = false) (n6 : f 6 = false) (n11 : f 11 = false) {u : Value} (hu : ∃ s : Mv, u = .tuple #[.agg s.cs, .agg #[.int .i64 pr, .int .i64 pa], .bool ok] ∧ s.fl = x.fl ∧ OwnM w Wb.heap.size s D) : Ra x d D om orr ox pr pa ok Wb w (fun j => if j = 4 then true else f j) v0 v1 v2 v3 u v5 v6 v7 v8 v9 v10 v13 :=
  ⟨J.bel, (J.h0), (J.h1), (J.h2), (J.h3), (fun _ => hu), (fun h => no (n5.symm.trans h)), (fun h => no (n6.symm.trans h)), (J.h7), (J.h8), (J.h9), (J.h10), (fun h => no (n11.symm.trans h)), (J.h12), (J.h13)⟩
theorem Ra.p5 (J : Ra x d D om orr ox pr pa ok Wb w f v0 v1 v2 v3 v4 v5 v6 v7 v8 v9 v10 v13)  {u : Value} (hu : u = v4) : Ra x d D om orr ox pr pa ok Wb w (fun j => if j = 5 then true else f j) v0 v1 v2 v3 v4 u v6 v7 v8 v9 v10 v13 :=
  ⟨J.bel, (J.h0), (J.h1), (J.h2), (J.h3), (J.h4), (fun _ => hu), (J.h6), (J.h7), (J.h8), (J.h9), (J.h10), (J.h11), (J.h12), (J.h13)⟩
theorem Ra.p6 (J : Ra x d D om orr ox pr pa ok Wb w f v0 v1 v2 v3 v4 v5 v6 v7 v8 v9 v10 v13)  {u : Value} (hu : ∃ s : Mv, v4 = .tuple #[.agg s.cs, .agg #[.int .i64 pr, .int .i64 pa], .bool ok] ∧ u = .agg s.cs) : Ra x d D om orr ox pr pa ok Wb w (fun j => if j = 6 then true else f j) v0 v1 v2 v3 v4 v5 u v7 v8 v9 v10 v13 :=
  ⟨J.bel, (J.h0), (J.h1), (J.h2), (J.h3), (J.h4), (J.h5), (fun _ => hu), (J.h7), (J.h8), (J.h9), (J.h10), (J.h11), (J.h12), (J.h13)⟩
theorem Ra.p7 (J : Ra x d D om orr ox pr pa ok Wb w f v0 v1 v2 v3 v4 v5 v6 v7 v8 v9 v10 v13)  {u : Value} (hu : u = .agg #[.int .i64 pr, .int .i64 pa]) : Ra x d D om orr ox pr pa ok Wb w (fun j => if j = 7 then true else f j) v0 v1 v2 v3 v4 v5 v6 u v8 v9 v10 v13 :=
  ⟨J.bel, (J.h0), (J.h1), (J.h2), (J.h3), (J.h4), (J.h5), (J.h6), (fun _ => hu), (J.h8), (J.h9), (J.h10), (J.h11), (J.h12), (J.h13)⟩
theorem Ra.p8 (J : Ra x d D om orr ox pr pa ok Wb w f v0 v1 v2 v3 v4 v5 v6 v7 v8 v9 v10 v13)  {u : Value} (hu : u = .bool ok) : Ra x d D om orr ox pr pa ok Wb w (fun j => if j = 8 then true else f j) v0 v1 v2 v3 v4 v5 v6 v7 u v9 v10 v13 :=
  ⟨J.bel, (J.h0), (J.h1), (J.h2), (J.h3), (J.h4), (J.h5), (J.h6), (J.h7), (fun _ => hu), (J.h9), (J.h10), (J.h11), (J.h12), (J.h13)⟩
theorem Ra.p9 (J : Ra x d D om orr ox pr pa ok Wb w f v0 v1 v2 v3 v4 v5 v6 v7 v8 v9 v10 v13) (n11 : f 11 = false) (ns : f 11 = false) {u : Value} (hu : ∃ g : Nat, u = .pointer (some ⟨g, 0, none⟩) ∧ Wb.heap.size ≤ g ∧ (f 11 = false → w.heap[g]? = some (.cells zMv.cs 28 (0, 0)))) : Ra x d D om orr ox pr pa ok Wb w (fun j => if j = 9 then true else f j) v0 v1 v2 v3 v4 v5 v6 v7 v8 u v10 v13 :=
  ⟨J.bel, (J.h0), (J.h1), (J.h2), (J.h3), (J.h4), (J.h5), (J.h6), (J.h7), (J.h8), (fun _ => hu), (J.h10), (fun h => no (n11.symm.trans h)), (J.h12), (J.h13)⟩
theorem Ra.a9 (J : Ra x d D om orr ox pr pa ok Wb w f v0 v1 v2 v3 v4 v5 v6 v7 v8 v9 v10 v13) (n11 : f 11 = false) (ns : f 11 = false) : Ra x d D om orr ox pr pa ok Wb (w.alloc (.cells zMv.cs 28)) (fun j => if j = 9 then true else f j) v0 v1 v2 v3 v4 v5 v6 v7 v8 (.pointer (some ⟨w.heap.size, 0, none⟩)) v10 v13 :=
  (J.lat (below_new w _)).p9 n11 ns ⟨_, rfl, J.bel.size, fun _ => heap_alloc_last w _⟩
theorem Ra.p10 (J : Ra x d D om orr ox pr pa ok Wb w f v0 v1 v2 v3 v4 v5 v6 v7 v8 v9 v10 v13) (n12 : f 12 = false) (ns : f 12 = false) {u : Value} (hu : ∃ g : Nat, u = .pointer (some ⟨g, 0, none⟩) ∧ Wb.heap.size ≤ g ∧ (f 12 = false → w.heap[g]? = some (.cells #[.int .i64 0, .int .i64 0] 44 (0, 0)))) : Ra x d D om orr ox pr pa ok Wb w (fun j => if j = 10 then true else f j) v0 v1 v2 v3 v4 v5 v6 v7 v8 v9 u v13 :=
  ⟨J.bel, (J.h0), (J.h1), (J.h2), (J.h3), (J.h4), (J.h5), (J.h6), (J.h7), (J.h8), (J.h9), (fun _ => hu), (J.h11), (fun h => no (n12.symm.trans h)), (J.h13)⟩
theorem Ra.a10 (J : Ra x d D om orr ox pr pa ok Wb w f v0 v1 v2 v3 v4 v5 v6 v7 v8 v9 v10 v13) (n12 : f 12 = false) (ns : f 12 = false) : Ra x d D om orr ox pr pa ok Wb (w.alloc (.cells #[.int .i64 0, .int .i64 0] 44)) (fun j => if j = 10 then true else f j) v0 v1 v2 v3 v4 v5 v6 v7 v8 v9 (.pointer (some ⟨w.heap.size, 0, none⟩)) v13 :=
  (J.lat (below_new w _)).p10 n12 ns ⟨_, rfl, J.bel.size, fun _ => heap_alloc_last w _⟩
theorem Ra.p13 (J : Ra x d D om orr ox pr pa ok Wb w f v0 v1 v2 v3 v4 v5 v6 v7 v8 v9 v10 v13)  {u : Value} (hu : u = .bool ok) : Ra x d D om orr ox pr pa ok Wb w (fun j => if j = 13 then true else f j) v0 v1 v2 v3 v4 v5 v6 v7 v8 v9 v10 u :=
  ⟨J.bel, (J.h0), (J.h1), (J.h2), (J.h3), (J.h4), (J.h5), (J.h6), (J.h7), (J.h8), (J.h9), (J.h10), (J.h11), (J.h12), (fun _ => hu)⟩
theorem Ra.s11 (J : Ra x d D om orr ox pr pa ok Wb w f v0 v1 v2 v3 v4 v5 v6 v7 v8 v9 v10 v13) {g : Nat} (ev : v9 = .pointer (some ⟨g, 0, none⟩)) (lo : Wb.heap.size ≤ g) (hg : w.heap[g]? = some (.cells zMv.cs 28 (0, 0))) {s : Mv} (es : v4 = .tuple #[.agg s.cs, .agg #[.int .i64 pr, .int .i64 pa], .bool ok]) : Ra x d D om orr ox pr pa ok Wb (w.setRow g s.cs) (fun j => if j = 11 then true else f j) v0 v1 v2 v3 v4 v5 v6 v7 v8 v9 v10 v13 :=
  ⟨below_setRow J.bel lo _, (J.h0),
    (fun h => by obtain ⟨y, e, k, o⟩ := (J.h1 h); exact ⟨y, e, k, o.lay hg (by decide) _⟩),
    (J.h2),
    (J.h3),
    (fun h => by obtain ⟨y, e, k, o⟩ := (J.h4 h); exact ⟨y, e, k, o.lay hg (by decide) _⟩),
    (J.h5),
    (J.h6),
    (J.h7),
    (J.h8),
    (fun h => ⟨g, ev, lo, fun k => no k.symm⟩),
    (fun h => by obtain ⟨g2, e, l, r⟩ := J.h10 h; exact ⟨g2, e, l, fun k => row_lay (r k) hg (by decide)⟩),
    (fun _ => ⟨g, ev, lo, s, es, setRow_heap w g _ _ 28 _ hg⟩),
    (fun h => by obtain ⟨g2, e, l, r⟩ := J.h12 h; exact ⟨g2, e, l, row_lay r hg (by decide)⟩),
    (J.h13)⟩
theorem Ra.s12 (J : Ra x d D om orr ox pr pa ok Wb w f v0 v1 v2 v3 v4 v5 v6 v7 v8 v9 v10 v13) {g : Nat} (ev : v10 = .pointer (some ⟨g, 0, none⟩)) (lo : Wb.heap.size ≤ g) (hg : w.heap[g]? = some (.cells #[.int .i64 0, .int .i64 0] 44 (0, 0))) : Ra x d D om orr ox pr pa ok Wb (w.setRow g #[.int .i64 pr, .int .i64 pa]) (fun j => if j = 12 then true else f j) v0 v1 v2 v3 v4 v5 v6 v7 v8 v9 v10 v13 :=
  ⟨below_setRow J.bel lo _, (J.h0),
    (fun h => by obtain ⟨y, e, k, o⟩ := (J.h1 h); exact ⟨y, e, k, o.lay hg (by decide) _⟩),
    (J.h2),
    (J.h3),
    (fun h => by obtain ⟨y, e, k, o⟩ := (J.h4 h); exact ⟨y, e, k, o.lay hg (by decide) _⟩),
    (J.h5),
    (J.h6),
    (J.h7),
    (J.h8),
    (fun h => by obtain ⟨g2, e, l, r⟩ := J.h9 h; exact ⟨g2, e, l, fun k => row_lay (r k) hg (by decide)⟩),
    (fun h => ⟨g, ev, lo, fun k => no k.symm⟩),
    (fun h => by obtain ⟨g2, e, l, s2, e2, r⟩ := J.h11 h; exact ⟨g2, e, l, s2, e2, row_lay r hg (by decide)⟩),
    (fun _ => ⟨g, ev, lo, setRow_heap w g _ _ 44 _ hg⟩),
    (J.h13)⟩
end
/-- What holds of a region, whatever part of it has come up. -/
structure Rb (x : Mv) (d D : Md) (om orr ox pr pa : Int) (ok : Bool) (Wb w : World) (f : Nat → Bool) (v0 v1 v2 v3 v4 v5 v6 v7 v8 v9 v12 : Value) : Prop where
  bel : Below Wb.heap.size Wb w
  h0 : f 0 = true → v0 = .agg x.cs
  h1 : f 1 = true → v1 = .agg #[.int .i64 om, .int .i64 orr, .int .i64 ox]
  h2 : f 2 = true → v2 = .agg #[.int .i64 om, .int .i64 orr, .int .i64 ox]
  h3 : f 3 = true → ∃ s : Mv, v3 = .tuple #[.agg s.cs, .agg #[.int .i64 pr, .int .i64 pa], .bool ok] ∧ s.fl = x.fl ∧ OwnM w Wb.heap.size s D
  h4 : f 4 = true → v4 = v3
  h5 : f 5 = true → ∃ s : Mv, v3 = .tuple #[.agg s.cs, .agg #[.int .i64 pr, .int .i64 pa], .bool ok] ∧ v5 = .agg s.cs
  h6 : f 6 = true → v6 = .agg #[.int .i64 pr, .int .i64 pa]
  h7 : f 7 = true → v7 = .bool ok
  h8 : f 8 = true → ∃ g : Nat, v8 = .pointer (some ⟨g, 0, none⟩) ∧ Wb.heap.size ≤ g ∧ (f 10 = false → w.heap[g]? = some (.cells zMv.cs 28 (0, 0)))
  h9 : f 9 = true → ∃ g : Nat, v9 = .pointer (some ⟨g, 0, none⟩) ∧ Wb.heap.size ≤ g ∧ (f 11 = false → w.heap[g]? = some (.cells #[.int .i64 0, .int .i64 0] 44 (0, 0)))
  h10 : f 10 = true → ∃ g : Nat, v8 = .pointer (some ⟨g, 0, none⟩) ∧ Wb.heap.size ≤ g ∧ ∃ s : Mv, v3 = .tuple #[.agg s.cs, .agg #[.int .i64 pr, .int .i64 pa], .bool ok] ∧ w.heap[g]? = some (.cells s.cs 28 (0, 0))
  h11 : f 11 = true → ∃ g : Nat, v9 = .pointer (some ⟨g, 0, none⟩) ∧ Wb.heap.size ≤ g ∧ w.heap[g]? = some (.cells #[.int .i64 pr, .int .i64 pa] 44 (0, 0))
  h12 : f 12 = true → v12 = .bool ok
section
variable {x : Mv} {d D : Md} {om orr ox pr pa : Int} {ok : Bool} {Wb w w2 : World} {f : Nat → Bool} {v0 v1 v2 v3 v4 v5 v6 v7 v8 v9 v12 : Value}
theorem Rb.mk0 (h : Below Wb.heap.size Wb w) : Rb x d D om orr ox pr pa ok Wb w (fun _ => false) v0 v1 v2 v3 v4 v5 v6 v7 v8 v9 v12 := ⟨h, fun h => no h, fun h => no h, fun h => no h, fun h => no h, fun h => no h, fun h => no h, fun h => no h, fun h => no h, fun h => no h, fun h => no h, fun h => no h, fun h => no h, fun h => no h⟩
theorem Rb.lat (J : Rb x d D om orr ox pr pa ok Wb w f v0 v1 v2 v3 v4 v5 v6 v7 v8 v9 v12) (hb : Below w.heap.size w w2) : Rb x d D om orr ox pr pa ok Wb w2 f v0 v1 v2 v3 v4 v5 v6 v7 v8 v9 v12 :=
  ⟨J.bel.trans (hb.mono J.bel.size), (J.h0),
    (J.h1),
    (J.h2),
    (fun h => by obtain ⟨y, e, k, o⟩ := (J.h3 h); exact ⟨y, e, k, o.later hb⟩),
    (J.h4),
    (J.h5),
    (J.h6),
    (J.h7),
    (fun h => by obtain ⟨g, e, l, r⟩ := J.h8 h; exact ⟨g, e, l, fun k => row_lat (r k) hb⟩),
    (fun h => by obtain ⟨g, e, l, r⟩ := J.h9 h; exact ⟨g, e, l, fun k => row_lat (r k) hb⟩),
    (fun h => by obtain ⟨g, e, l, s, e2, r⟩ := J.h10 h; exact ⟨g, e, l, s, e2, row_lat r hb⟩),
    (fun h => by obtain ⟨g, e, l, r⟩ := J.h11 h; exact ⟨g, e, l, row_lat r hb⟩),
    (J.h12)⟩
theorem Rb.p0 (J : Rb x d D om orr ox pr pa ok Wb w f v0 v1 v2 v3 v4 v5 v6 v7 v8 v9 v12)  {u : Value} (hu : u = .agg x.cs) : Rb x d D om orr ox pr pa ok Wb w (fun j => if j = 0 then true else f j) u v1 v2 v3 v4 v5 v6 v7 v8 v9 v12 :=
  ⟨J.bel, (fun _ => hu), (J.h1), (J.h2), (J.h3), (J.h4), (J.h5), (J.h6), (J.h7), (J.h8), (J.h9), (J.h10), (J.h11), (J.h12)⟩
theorem Rb.p1 (J : Rb x d D om orr ox pr pa ok Wb w f v0 v1 v2 v3 v4 v5 v6 v7 v8 v9 v12)  {u : Value} (hu : u = .agg #[.int .i64 om, .int .i64 orr, .int .i64 ox]) : Rb x d D om orr ox pr pa ok Wb w (fun j => if j = 1 then true else f j) v0 u v2 v3 v4 v5 v6 v7 v8 v9 v12 :=
  ⟨J.bel, (J.h0), (fun _ => hu), (J.h2), (J.h3), (J.h4), (J.h5), (J.h6), (J.h7), (J.h8), (J.h9), (J.h10), (J.h11), (J.h12)⟩
theorem Rb.p2 (J : Rb x d D om orr ox pr pa ok Wb w f v0 v1 v2 v3 v4 v5 v6 v7 v8 v9 v12)  {u : Value} (hu : u = .agg #[.int .i64 om, .int .i64 orr, .int .i64 ox]) : Rb x d D om orr ox pr pa ok Wb w (fun j => if j = 2 then true else f j) v0 v1 u v3 v4 v5 v6 v7 v8 v9 v12 :=
  ⟨J.bel, (J.h0), (J.h1), (fun _ => hu), (J.h3), (J.h4), (J.h5), (J.h6), (J.h7), (J.h8), (J.h9), (J.h10), (J.h11), (J.h12)⟩
theorem Rb.p3 (J : Rb x d D om orr ox pr pa ok Wb w f v0 v1 v2 v3 v4 v5 v6 v7 v8 v9 v12) (n4 : f 4 = false) (n5 : f 5 = false) (n10 : f 10 = false) {u : Value} (hu : ∃ s : Mv, u = .tuple #[.agg s.cs, .agg #[.int .i64 pr, .int .i64 pa], .bool ok] ∧ s.fl = x.fl ∧ OwnM w Wb.heap.size s D) : Rb x d D om orr ox pr pa ok Wb w (fun j => if j = 3 then true else f j) v0 v1 v2 u v4 v5 v6 v7 v8 v9 v12 :=
  ⟨J.bel, (J.h0), (J.h1), (J.h2), (fun _ => hu), (fun h => no (n4.symm.trans h)), (fun h => no (n5.symm.trans h)), (J.h6), (J.h7), (J.h8), (J.h9), (fun h => no (n10.symm.trans h)), (J.h11), (J.h12)⟩
theorem Rb.p4 (J : Rb x d D om orr ox pr pa ok Wb w f v0 v1 v2 v3 v4 v5 v6 v7 v8 v9 v12)  {u : Value} (hu : u = v3) : Rb x d D om orr ox pr pa ok Wb w (fun j => if j = 4 then true else f j) v0 v1 v2 v3 u v5 v6 v7 v8 v9 v12 :=
  ⟨J.bel, (J.h0), (J.h1), (J.h2), (J.h3), (fun _ => hu), (J.h5), (J.h6), (J.h7), (J.h8), (J.h9), (J.h10), (J.h11), (J.h12)⟩
theorem Rb.p5 (J : Rb x d D om orr ox pr pa ok Wb w f v0 v1 v2 v3 v4 v5 v6 v7 v8 v9 v12)  {u : Value} (hu : ∃ s : Mv, v3 = .tuple #[.agg s.cs, .agg #[.int .i64 pr, .int .i64 pa], .bool ok] ∧ u = .agg s.cs) : Rb x d D om orr ox pr pa ok Wb w (fun j => if j = 5 then true else f j) v0 v1 v2 v3 v4 u v6 v7 v8 v9 v12 :=
  ⟨J.bel, (J.h0), (J.h1), (J.h2), (J.h3), (J.h4), (fun _ => hu), (J.h6), (J.h7), (J.h8), (J.h9), (J.h10), (J.h11), (J.h12)⟩
theorem Rb.p6 (J : Rb x d D om orr ox pr pa ok Wb w f v0 v1 v2 v3 v4 v5 v6 v7 v8 v9 v12)  {u : Value} (hu : u = .agg #[.int .i64 pr, .int .i64 pa]) : Rb x d D om orr ox pr pa ok Wb w (fun j => if j = 6 then true else f j) v0 v1 v2 v3 v4 v5 u v7 v8 v9 v12 :=
  ⟨J.bel, (J.h0), (J.h1), (J.h2), (J.h3), (J.h4), (J.h5), (fun _ => hu), (J.h7), (J.h8), (J.h9), (J.h10), (J.h11), (J.h12)⟩
theorem Rb.p7 (J : Rb x d D om orr ox pr pa ok Wb w f v0 v1 v2 v3 v4 v5 v6 v7 v8 v9 v12)  {u : Value} (hu : u = .bool ok) : Rb x d D om orr ox pr pa ok Wb w (fun j => if j = 7 then true else f j) v0 v1 v2 v3 v4 v5 v6 u v8 v9 v12 :=
  ⟨J.bel, (J.h0), (J.h1), (J.h2), (J.h3), (J.h4), (J.h5), (J.h6), (fun _ => hu), (J.h8), (J.h9), (J.h10), (J.h11), (J.h12)⟩
theorem Rb.p8 (J : Rb x d D om orr ox pr pa ok Wb w f v0 v1 v2 v3 v4 v5 v6 v7 v8 v9 v12) (n10 : f 10 = false) (ns : f 10 = false) {u : Value} (hu : ∃ g : Nat, u = .pointer (some ⟨g, 0, none⟩) ∧ Wb.heap.size ≤ g ∧ (f 10 = false → w.heap[g]? = some (.cells zMv.cs 28 (0, 0)))) : Rb x d D om orr ox pr pa ok Wb w (fun j => if j = 8 then true else f j) v0 v1 v2 v3 v4 v5 v6 v7 u v9 v12 :=
  ⟨J.bel, (J.h0), (J.h1), (J.h2), (J.h3), (J.h4), (J.h5), (J.h6), (J.h7), (fun _ => hu), (J.h9), (fun h => no (n10.symm.trans h)), (J.h11), (J.h12)⟩
theorem Rb.a8 (J : Rb x d D om orr ox pr pa ok Wb w f v0 v1 v2 v3 v4 v5 v6 v7 v8 v9 v12) (n10 : f 10 = false) (ns : f 10 = false) : Rb x d D om orr ox pr pa ok Wb (w.alloc (.cells zMv.cs 28)) (fun j => if j = 8 then true else f j) v0 v1 v2 v3 v4 v5 v6 v7 (.pointer (some ⟨w.heap.size, 0, none⟩)) v9 v12 :=
  (J.lat (below_new w _)).p8 n10 ns ⟨_, rfl, J.bel.size, fun _ => heap_alloc_last w _⟩
theorem Rb.p9 (J : Rb x d D om orr ox pr pa ok Wb w f v0 v1 v2 v3 v4 v5 v6 v7 v8 v9 v12) (n11 : f 11 = false) (ns : f 11 = false) {u : Value} (hu : ∃ g : Nat, u = .pointer (some ⟨g, 0, none⟩) ∧ Wb.heap.size ≤ g ∧ (f 11 = false → w.heap[g]? = some (.cells #[.int .i64 0, .int .i64 0] 44 (0, 0)))) : Rb x d D om orr ox pr pa ok Wb w (fun j => if j = 9 then true else f j) v0 v1 v2 v3 v4 v5 v6 v7 v8 u v12 :=
  ⟨J.bel, (J.h0), (J.h1), (J.h2), (J.h3), (J.h4), (J.h5), (J.h6), (J.h7), (J.h8), (fun _ => hu), (J.h10), (fun h => no (n11.symm.trans h)), (J.h12)⟩
theorem Rb.a9 (J : Rb x d D om orr ox pr pa ok Wb w f v0 v1 v2 v3 v4 v5 v6 v7 v8 v9 v12) (n11 : f 11 = false) (ns : f 11 = false) : Rb x d D om orr ox pr pa ok Wb (w.alloc (.cells #[.int .i64 0, .int .i64 0] 44)) (fun j => if j = 9 then true else f j) v0 v1 v2 v3 v4 v5 v6 v7 v8 (.pointer (some ⟨w.heap.size, 0, none⟩)) v12 :=
  (J.lat (below_new w _)).p9 n11 ns ⟨_, rfl, J.bel.size, fun _ => heap_alloc_last w _⟩
theorem Rb.p12 (J : Rb x d D om orr ox pr pa ok Wb w f v0 v1 v2 v3 v4 v5 v6 v7 v8 v9 v12)  {u : Value} (hu : u = .bool ok) : Rb x d D om orr ox pr pa ok Wb w (fun j => if j = 12 then true else f j) v0 v1 v2 v3 v4 v5 v6 v7 v8 v9 u :=
  ⟨J.bel, (J.h0), (J.h1), (J.h2), (J.h3), (J.h4), (J.h5), (J.h6), (J.h7), (J.h8), (J.h9), (J.h10), (J.h11), (fun _ => hu)⟩
theorem Rb.s10 (J : Rb x d D om orr ox pr pa ok Wb w f v0 v1 v2 v3 v4 v5 v6 v7 v8 v9 v12) {g : Nat} (ev : v8 = .pointer (some ⟨g, 0, none⟩)) (lo : Wb.heap.size ≤ g) (hg : w.heap[g]? = some (.cells zMv.cs 28 (0, 0))) {s : Mv} (es : v3 = .tuple #[.agg s.cs, .agg #[.int .i64 pr, .int .i64 pa], .bool ok]) : Rb x d D om orr ox pr pa ok Wb (w.setRow g s.cs) (fun j => if j = 10 then true else f j) v0 v1 v2 v3 v4 v5 v6 v7 v8 v9 v12 :=
  ⟨below_setRow J.bel lo _, (J.h0),
    (J.h1),
    (J.h2),
    (fun h => by obtain ⟨y, e, k, o⟩ := (J.h3 h); exact ⟨y, e, k, o.lay hg (by decide) _⟩),
    (J.h4),
    (J.h5),
    (J.h6),
    (J.h7),
    (fun h => ⟨g, ev, lo, fun k => no k.symm⟩),
    (fun h => by obtain ⟨g2, e, l, r⟩ := J.h9 h; exact ⟨g2, e, l, fun k => row_lay (r k) hg (by decide)⟩),
    (fun _ => ⟨g, ev, lo, s, es, setRow_heap w g _ _ 28 _ hg⟩),
    (fun h => by obtain ⟨g2, e, l, r⟩ := J.h11 h; exact ⟨g2, e, l, row_lay r hg (by decide)⟩),
    (J.h12)⟩
theorem Rb.s11 (J : Rb x d D om orr ox pr pa ok Wb w f v0 v1 v2 v3 v4 v5 v6 v7 v8 v9 v12) {g : Nat} (ev : v9 = .pointer (some ⟨g, 0, none⟩)) (lo : Wb.heap.size ≤ g) (hg : w.heap[g]? = some (.cells #[.int .i64 0, .int .i64 0] 44 (0, 0))) : Rb x d D om orr ox pr pa ok Wb (w.setRow g #[.int .i64 pr, .int .i64 pa]) (fun j => if j = 11 then true else f j) v0 v1 v2 v3 v4 v5 v6 v7 v8 v9 v12 :=
  ⟨below_setRow J.bel lo _, (J.h0),
    (J.h1),
    (J.h2),
    (fun h => by obtain ⟨y, e, k, o⟩ := (J.h3 h); exact ⟨y, e, k, o.lay hg (by decide) _⟩),
    (J.h4),
    (J.h5),
    (J.h6),
    (J.h7),
    (fun h => by obtain ⟨g2, e, l, r⟩ := J.h8 h; exact ⟨g2, e, l, fun k => row_lay (r k) hg (by decide)⟩),
    (fun h => ⟨g, ev, lo, fun k => no k.symm⟩),
    (fun h => by obtain ⟨g2, e, l, s2, e2, r⟩ := J.h10 h; exact ⟨g2, e, l, s2, e2, row_lay r hg (by decide)⟩),
    (fun _ => ⟨g, ev, lo, setRow_heap w g _ _ 44 _ hg⟩),
    (J.h12)⟩
end
end Go.Proofs.Ytfkmibgamkignaa
