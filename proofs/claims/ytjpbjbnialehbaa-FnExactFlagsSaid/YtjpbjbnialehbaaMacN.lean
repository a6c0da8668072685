/- A machine copied, and a word written, by the model; over this seat's translation; conditions stand as hypotheses of each. -/
import Derived.Test.YtjpbjbnialehbaaMacM
namespace Go.Proofs.Ytjpbjbnialehbaa
open Go.ChangeShapes Go.WideShapes Go.ChangeAt Go.RowKit
set_option linter.unusedVariables false
set_option maxRecDepth 8000
set_option linter.unusedSimpArgs false

theorem cm_copy0 (w : World) (x : Mv) : Cm w (((w.alloc (.cells x.cs 38)).alloc (.cells zMv.cs 38)).alloc (.cells x.cs 38)) 38 x x := by
  have z1 : (w.alloc (.cells x.cs 38)).heap.size = w.heap.size + 1 := by simp
  have z2 : ((w.alloc (.cells x.cs 38)).alloc (.cells zMv.cs 38)).heap.size = w.heap.size + 1 + 1 := by simp
  have a1 := row_lat (row_lat (heap_alloc_last w (.cells x.cs 38)) (below_new _ (.cells zMv.cs 38))) (below_new _ (.cells x.cs 38))
  have a2 := row_lat (heap_alloc_last (w.alloc (.cells x.cs 38)) (.cells zMv.cs 38)) (below_new _ (.cells x.cs 38))
  have a3 := heap_alloc_last ((w.alloc (.cells x.cs 38)).alloc (.cells zMv.cs 38)) (.cells x.cs 38)
  rw [z1] at a2
  rw [z2] at a3
  exact ⟨a1, a2, a3, (((Below.refl _ _).alloc (Nat.le_refl _) _).alloc (by omega) _).alloc (by omega) _, by simp⟩
theorem cm_copy (w : World) (x : Mv) : Cm w (((w.alloc (.cells x.cs 38)).alloc (.cells #[Value.slice none 0 0, Value.slice none 0 0, Value.bool false, Value.bool false, Value.bool false, Value.bool false, Value.slice none 0 0, Value.slice none 0 0, Value.int .i64 0] 38)).alloc (.cells x.cs 38)) 38 x x := cm_copy0 w x
theorem wpList_store_newG {P : Program} {ops : Array Oper} {rest : List Oper} {o : Oper} {a : Act} {w : World} {Q : Exit → Act → World → Prop} (hgd : o.guard = none) (ty : TypeId) (x y : Operand) (ho : o.op = .store ty x y)
    (cells : Array Value) (g : Nat) (hgz : w.heap.size = g) (hx : a.eval x = .pointer (some ⟨g, 0, none⟩)) (hy : a.eval y = .agg cells) (old : Array Value) (hi : (P.info? ty).map (·.size) = some cells.size)
    (hold : old.size = cells.size) (h1 : cells.all (·.oneCell') = true) (h : wpList P ops Q rest (a.put o.dst undef) (w.alloc (.cells cells ty))) : wpList P ops Q (o :: rest) a (w.alloc (.cells old ty)) := by
  subst hgz
  exact wpList_store_new hgd ty x y ho cells hx hy old hi hold h1 h
theorem Cm.past {w wr w' : World} {tb : TypeId} {x o : Mv} {row : Option Nat} (h : Cm w wr tb x o) (hg : wr.grownBy w' row) (hr : ∀ g, row = some g → w.heap.size + 3 ≤ g) : Cm w w' tb x o :=
  ⟨(hg.block _ (row_lt h.bx) (fun e => by have := hr _ e.symm; omega)).trans h.bx, (hg.block _ (row_lt h.re) (fun e => by have := hr _ e.symm; omega)).trans h.re, (hg.block _ (row_lt h.out) (fun e => by have := hr _ e.symm; omega)).trans h.out, h.bel.grown hg h.bel.size (fun k e => by have := hr _ e; omega), Nat.le_trans h.sz hg.size⟩
theorem RdN.pastR {w w' : World} {a : Option Addr} {ns : List Int} {row : Option Nat} (h : RdN w a ns) (hg : w.grownBy w' row) (hne : ∀ b, row = some b → ns = [] ∨ ∀ ad, a = some ad → ad.block ≠ b) : RdN w' a ns := by
  rcases h with h | ⟨c, off, rfl, hlt, hc⟩
  · exact .inl h
  · by_cases h0 : ns = []
    · exact .inl h0
    exact .inr ⟨c, off, rfl, Nat.lt_of_lt_of_le hlt hg.size, fun i hi => (World.cell?_of_block (w := w) (hg.block c hlt (fun e => by
      rcases hne c e.symm with h1 | h1
      · exact h0 h1
      · exact h1 _ rfl rfl))).trans (hc i hi)⟩
/-- What came in reads on while rows made behind it are written. -/
theorem RdM.pastR {w wr w' : World} {x : Mv} {d : Md} {row : Option Nat} (h : RdM wr x d) (hw : RdM w x d) (hg : wr.grownBy w' row) (hr : ∀ g, row = some g → w.heap.size ≤ g) : RdM w' x d := by
  have key : ∀ {a : Option Addr} {ns : List Int}, RdN w a ns → ∀ b, row = some b → ns = [] ∨ ∀ ad, a = some ad → ad.block ≠ b := fun hr' b e => by
    rcases hr' with h0 | ⟨b', off, rfl, hb', _⟩
    · exact .inl h0
    · exact .inr fun ad e' => by cases e'; have := hr b e; show b' ≠ b; omega
  exact ⟨h.m.pastR hg (key hw.m), h.r.pastR hg (key hw.r), h.i.pastR hg (key hw.i), h.o.pastR hg (key hw.o), h.ml, h.rl, h.il, h.ol⟩
/-- A list of no element, made for a copy. -/
theorem ownN_new (w : World) (B g : Nat) (hg : w.heap.size = g) (hB : B ≤ w.heap.size) : OwnN (w.alloc (.cells #[] 3)) B (.slice (some ⟨g, 0, none⟩) 0 0) [] := by
  subst hg
  exact (ownN_empty w).base hB

set_option maxHeartbeats 4000000 in
theorem copyS_any (x : Mv) (d : Md) (w : World) (hs : x.small) (hz : x.nz) (hr : RdM w x d) : Calls Try.prog 49 #[.agg x.cs] w fun e w' => ∃ y : Mv, e = .returned (.agg y.cs) ∧ y.fl = x.fl ∧ OwnM w' (w.heap.size + 3) y d ∧ Below w.heap.size w w' := by
  obtain ⟨s0, s1, s2, s3⟩ := hs
  have NZ := hide hz
  have C := hide (cm_copy w x)
  have HR := hide hr
  have R := hide (hr.later (unhide C).bel)
  have R0 : Hid (((w.alloc (.cells x.cs 38)).alloc (.cells #[Value.slice none 0 0, Value.slice none 0 0, Value.bool false, Value.bool false, Value.bool false, Value.bool false, Value.slice none 0 0, Value.slice none 0 0, Value.int .i64 0] 38)).heap[w.heap.size]? = some (.cells x.cs 38 (0, 0))) := hide (row_lat (heap_alloc_last w (.cells x.cs 38)) (below_new _ (.cells #[Value.slice none 0 0, Value.slice none 0 0, Value.bool false, Value.bool false, Value.bool false, Value.bool false, Value.slice none 0 0, Value.slice none 0 0, Value.int .i64 0] 38)))
  clear hr hz
  go_enter Try.func49, Try.ntmps49
  have E := hide (below_new (((w.alloc (.cells x.cs 38)).alloc (.cells #[Value.slice none 0 0, Value.slice none 0 0, Value.bool false, Value.bool false, Value.bool false, Value.bool false, Value.slice none 0 0, Value.slice none 0 0, Value.int .i64 0] 38)).alloc (.cells x.cs 38)) (.cells #[] 3))
  have SZ : Hid ((((w.alloc (.cells x.cs 38)).alloc (.cells #[Value.slice none 0 0, Value.slice none 0 0, Value.bool false, Value.bool false, Value.bool false, Value.bool false, Value.slice none 0 0, Value.slice none 0 0, Value.int .i64 0] 38)).alloc (.cells x.cs 38)).heap.size = w.heap.size + 1 + 1 + 1) := hide (by simp)
  have q0 := row_m ((unhide C).later (unhide E)).bx
  have STAGE0 := hide trivial
  go_wp2_with (first
    | (have hst := STAGE0; refine wpList_load_row rfl 38 _ rfl w.heap.size rfl 38 x.cs (0, 0) _ (unhide R0) Try.underlying38 rfl (by kernel_rfl) ?_)
    | (have hst := STAGE0; refine wpList_store_newG rfl 38 _ _ rfl x.cs (w.heap.size + 1 + 1) (by simp) rfl rfl _ (by kernel_rfl) rfl (Mv.cs_one _) ?_)
    | (at_builtin; have hst := STAGE0; clear hst STAGE0; go_must (
      refine wpList_app rfl _ _ rfl (w.heap.size + 1 + 1 + 1) (.slice (some ⟨w.heap.size + 1 + 1 + 1, 0, none⟩) 0 0) [] rfl (ownN_new _ _ _ (unhide SZ) (Nat.le_of_eq (unhide SZ).symm)) x.m d.m rfl ((unhide R).later (unhide E)).m (unhide R).ml (unhide NZ).1 (by simp; omega) (Nat.le_trans (Nat.le_of_eq (unhide SZ).symm) (unhide E).size) ?_
      intro v w0 ho hg
      rw [List.nil_append] at ho
      obtain ⟨a0, n0, c0, rfl⟩ : ∃ a n c, v = .slice a n c := (by obtain ⟨a, c, e, _⟩ := ho.rd; exact ⟨_, _, _, e⟩)
      have hgr := fun b (e : (Value.slice (some ⟨w.heap.size + 1 + 1 + 1, 0, none⟩) 0 0).ownBlock = some b) => (show w.heap.size + 3 ≤ b by simp [Value.ownBlock] at e; have := unhide SZ; have := (unhide C).sz; omega)
      have Cn := hide (((unhide C).later (unhide E)).past hg hgr)
      have Rn := hide (((unhide R).later (unhide E)).pastR (unhide HR) hg (fun b e => by have := hgr b e; omega))
      have o0 := row_m (unhide Cn).out
      have f0 := row_fz (unhide Cn).out 0
      have O0 := hide (OwnN.base ho (B' := w.heap.size + 3) (by have := unhide SZ; have := (unhide C).sz; omega))
      clear ho hg hgr C R E SZ q0
      have C := hide ((unhide Cn).put 0 (.slice a0 n0 c0) (⟨⟨a0, n0, c0⟩, x.r, x.n, x.z, x.v, x.c, x.i, x.o, x.st⟩ : Mv) rfl)
      have R := hide ((unhide Rn).setB (unhide HR) (by omega : w.heap.size ≤ w.heap.size + 1 + 1) 0 (.slice a0 n0 c0))
      have On := hide ((unhide O0).put (b := w.heap.size + 1 + 1) (j := 0) (u := .slice a0 n0 c0) (by omega))
      clear O0
      have O0 := hide (unhide On)
      clear On
      clear Cn Rn
      have E := hide (below_new (w0.setCell ⟨w.heap.size + 1 + 1, 0, none⟩ (.slice a0 n0 c0)) (.cells #[] 3))
      have SZ : Hid ((w0.setCell ⟨w.heap.size + 1 + 1, 0, none⟩ (.slice a0 n0 c0)).heap.size = w0.heap.size) := hide (by simp)
      have q1 := row_r ((unhide C).later (unhide E)).bx
      have STAGE1 := hide trivial
      skip))
    | (at_builtin; have hst := STAGE1; clear hst STAGE1; go_must (
      refine wpList_app rfl _ _ rfl (w0.heap.size) (.slice (some ⟨w0.heap.size, 0, none⟩) 0 0) [] rfl (ownN_new _ _ _ (unhide SZ) (Nat.le_of_eq (unhide SZ).symm)) x.r d.r rfl ((unhide R).later (unhide E)).r (unhide R).rl (unhide NZ).2.1 (by simp; omega) (Nat.le_trans (Nat.le_of_eq (unhide SZ).symm) (unhide E).size) ?_
      intro v w1 ho hg
      rw [List.nil_append] at ho
      obtain ⟨a1, n1, c1, rfl⟩ : ∃ a n c, v = .slice a n c := (by obtain ⟨a, c, e, _⟩ := ho.rd; exact ⟨_, _, _, e⟩)
      have hgr := fun b (e : (Value.slice (some ⟨w0.heap.size, 0, none⟩) 0 0).ownBlock = some b) => (show w.heap.size + 3 ≤ b by simp [Value.ownBlock] at e; have := unhide SZ; have := (unhide C).sz; omega)
      have Cn := hide (((unhide C).later (unhide E)).past hg hgr)
      have Rn := hide (((unhide R).later (unhide E)).pastR (unhide HR) hg (fun b e => by have := hgr b e; omega))
      have o1 := row_r (unhide Cn).out
      have f1 := row_fz (unhide Cn).out 1
      have O1 := hide (OwnN.base ho (B' := w.heap.size + 3) (by have := unhide SZ; have := (unhide C).sz; omega))
      have On := hide ((((unhide O0).later (unhide E)).keep (fun g hv hl => hg.block g hl (fun e => by have := ((unhide O0).lt hv).2; have := unhide SZ; simp [Value.ownBlock] at e; omega))))
      have A01 : Hid (Ap ⟨a0, n0, c0⟩ ⟨a1, n1, c1⟩) := hide (fun g e1 e2 => by
        have := ((unhide O0).lt e1).2
        have := (ho.lt e2).1
        have := unhide SZ
        omega)
      clear O0
      have O0 := hide (unhide On)
      clear On
      clear ho hg hgr C R E SZ q1
      have C := hide ((unhide Cn).put 1 (.slice a1 n1 c1) (⟨⟨a0, n0, c0⟩, ⟨a1, n1, c1⟩, x.n, x.z, x.v, x.c, x.i, x.o, x.st⟩ : Mv) rfl)
      have R := hide ((unhide Rn).setB (unhide HR) (by omega : w.heap.size ≤ w.heap.size + 1 + 1) 1 (.slice a1 n1 c1))
      have On := hide ((unhide O0).put (b := w.heap.size + 1 + 1) (j := 1) (u := .slice a1 n1 c1) (by omega))
      clear O0
      have O0 := hide (unhide On)
      clear On
      have On := hide ((unhide O1).put (b := w.heap.size + 1 + 1) (j := 1) (u := .slice a1 n1 c1) (by omega))
      clear O1
      have O1 := hide (unhide On)
      clear On
      clear Cn Rn
      have E := hide (below_new (w1.setCell ⟨w.heap.size + 1 + 1, 1, none⟩ (.slice a1 n1 c1)) (.cells #[] 3))
      have SZ : Hid ((w1.setCell ⟨w.heap.size + 1 + 1, 1, none⟩ (.slice a1 n1 c1)).heap.size = w1.heap.size) := hide (by simp)
      have q2 := row_i ((unhide C).later (unhide E)).bx
      have STAGE2 := hide trivial
      skip))
    | (at_builtin; have hst := STAGE2; clear hst STAGE2; go_must (
      refine wpList_app rfl _ _ rfl (w1.heap.size) (.slice (some ⟨w1.heap.size, 0, none⟩) 0 0) [] rfl (ownN_new _ _ _ (unhide SZ) (Nat.le_of_eq (unhide SZ).symm)) x.i d.i rfl ((unhide R).later (unhide E)).i (unhide R).il (unhide NZ).2.2.1 (by simp; omega) (Nat.le_trans (Nat.le_of_eq (unhide SZ).symm) (unhide E).size) ?_
      intro v w2 ho hg
      rw [List.nil_append] at ho
      obtain ⟨a2, n2, c2, rfl⟩ : ∃ a n c, v = .slice a n c := (by obtain ⟨a, c, e, _⟩ := ho.rd; exact ⟨_, _, _, e⟩)
      have hgr := fun b (e : (Value.slice (some ⟨w1.heap.size, 0, none⟩) 0 0).ownBlock = some b) => (show w.heap.size + 3 ≤ b by simp [Value.ownBlock] at e; have := unhide SZ; have := (unhide C).sz; omega)
      have Cn := hide (((unhide C).later (unhide E)).past hg hgr)
      have Rn := hide (((unhide R).later (unhide E)).pastR (unhide HR) hg (fun b e => by have := hgr b e; omega))
      have o6 := row_i (unhide Cn).out
      have f6 := row_fz (unhide Cn).out 6
      have O2 := hide (OwnN.base ho (B' := w.heap.size + 3) (by have := unhide SZ; have := (unhide C).sz; omega))
      have On := hide ((((unhide O0).later (unhide E)).keep (fun g hv hl => hg.block g hl (fun e => by have := ((unhide O0).lt hv).2; have := unhide SZ; simp [Value.ownBlock] at e; omega))))
      have A02 : Hid (Ap ⟨a0, n0, c0⟩ ⟨a2, n2, c2⟩) := hide (fun g e1 e2 => by
        have := ((unhide O0).lt e1).2
        have := (ho.lt e2).1
        have := unhide SZ
        omega)
      clear O0
      have O0 := hide (unhide On)
      clear On
      have On := hide ((((unhide O1).later (unhide E)).keep (fun g hv hl => hg.block g hl (fun e => by have := ((unhide O1).lt hv).2; have := unhide SZ; simp [Value.ownBlock] at e; omega))))
      have A12 : Hid (Ap ⟨a1, n1, c1⟩ ⟨a2, n2, c2⟩) := hide (fun g e1 e2 => by
        have := ((unhide O1).lt e1).2
        have := (ho.lt e2).1
        have := unhide SZ
        omega)
      clear O1
      have O1 := hide (unhide On)
      clear On
      clear ho hg hgr C R E SZ q2
      have C := hide ((unhide Cn).put 6 (.slice a2 n2 c2) (⟨⟨a0, n0, c0⟩, ⟨a1, n1, c1⟩, x.n, x.z, x.v, x.c, ⟨a2, n2, c2⟩, x.o, x.st⟩ : Mv) rfl)
      have R := hide ((unhide Rn).setB (unhide HR) (by omega : w.heap.size ≤ w.heap.size + 1 + 1) 6 (.slice a2 n2 c2))
      have On := hide ((unhide O0).put (b := w.heap.size + 1 + 1) (j := 6) (u := .slice a2 n2 c2) (by omega))
      clear O0
      have O0 := hide (unhide On)
      clear On
      have On := hide ((unhide O1).put (b := w.heap.size + 1 + 1) (j := 6) (u := .slice a2 n2 c2) (by omega))
      clear O1
      have O1 := hide (unhide On)
      clear On
      have On := hide ((unhide O2).put (b := w.heap.size + 1 + 1) (j := 6) (u := .slice a2 n2 c2) (by omega))
      clear O2
      have O2 := hide (unhide On)
      clear On
      clear Cn Rn
      have E := hide (below_new (w2.setCell ⟨w.heap.size + 1 + 1, 6, none⟩ (.slice a2 n2 c2)) (.cells #[] 3))
      have SZ : Hid ((w2.setCell ⟨w.heap.size + 1 + 1, 6, none⟩ (.slice a2 n2 c2)).heap.size = w2.heap.size) := hide (by simp)
      have q3 := row_o ((unhide C).later (unhide E)).bx
      have STAGE3 := hide trivial
      skip))
    | (at_builtin; have hst := STAGE3; clear hst STAGE3; go_must (
      refine wpList_app rfl _ _ rfl (w2.heap.size) (.slice (some ⟨w2.heap.size, 0, none⟩) 0 0) [] rfl (ownN_new _ _ _ (unhide SZ) (Nat.le_of_eq (unhide SZ).symm)) x.o d.o rfl ((unhide R).later (unhide E)).o (unhide R).ol (unhide NZ).2.2.2 (by simp; omega) (Nat.le_trans (Nat.le_of_eq (unhide SZ).symm) (unhide E).size) ?_
      intro v w3 ho hg
      rw [List.nil_append] at ho
      obtain ⟨a3, n3, c3, rfl⟩ : ∃ a n c, v = .slice a n c := (by obtain ⟨a, c, e, _⟩ := ho.rd; exact ⟨_, _, _, e⟩)
      have hgr := fun b (e : (Value.slice (some ⟨w2.heap.size, 0, none⟩) 0 0).ownBlock = some b) => (show w.heap.size + 3 ≤ b by simp [Value.ownBlock] at e; have := unhide SZ; have := (unhide C).sz; omega)
      have Cn := hide (((unhide C).later (unhide E)).past hg hgr)
      have Rn := hide (((unhide R).later (unhide E)).pastR (unhide HR) hg (fun b e => by have := hgr b e; omega))
      have o7 := row_o (unhide Cn).out
      have f7 := row_fz (unhide Cn).out 7
      have O3 := hide (OwnN.base ho (B' := w.heap.size + 3) (by have := unhide SZ; have := (unhide C).sz; omega))
      have On := hide ((((unhide O0).later (unhide E)).keep (fun g hv hl => hg.block g hl (fun e => by have := ((unhide O0).lt hv).2; have := unhide SZ; simp [Value.ownBlock] at e; omega))))
      have A03 : Hid (Ap ⟨a0, n0, c0⟩ ⟨a3, n3, c3⟩) := hide (fun g e1 e2 => by
        have := ((unhide O0).lt e1).2
        have := (ho.lt e2).1
        have := unhide SZ
        omega)
      clear O0
      have O0 := hide (unhide On)
      clear On
      have On := hide ((((unhide O1).later (unhide E)).keep (fun g hv hl => hg.block g hl (fun e => by have := ((unhide O1).lt hv).2; have := unhide SZ; simp [Value.ownBlock] at e; omega))))
      have A13 : Hid (Ap ⟨a1, n1, c1⟩ ⟨a3, n3, c3⟩) := hide (fun g e1 e2 => by
        have := ((unhide O1).lt e1).2
        have := (ho.lt e2).1
        have := unhide SZ
        omega)
      clear O1
      have O1 := hide (unhide On)
      clear On
      have On := hide ((((unhide O2).later (unhide E)).keep (fun g hv hl => hg.block g hl (fun e => by have := ((unhide O2).lt hv).2; have := unhide SZ; simp [Value.ownBlock] at e; omega))))
      have A23 : Hid (Ap ⟨a2, n2, c2⟩ ⟨a3, n3, c3⟩) := hide (fun g e1 e2 => by
        have := ((unhide O2).lt e1).2
        have := (ho.lt e2).1
        have := unhide SZ
        omega)
      clear O2
      have O2 := hide (unhide On)
      clear On
      clear ho hg hgr C R E SZ q3
      have C := hide ((unhide Cn).put 7 (.slice a3 n3 c3) (⟨⟨a0, n0, c0⟩, ⟨a1, n1, c1⟩, x.n, x.z, x.v, x.c, ⟨a2, n2, c2⟩, ⟨a3, n3, c3⟩, x.st⟩ : Mv) rfl)
      have R := hide ((unhide Rn).setB (unhide HR) (by omega : w.heap.size ≤ w.heap.size + 1 + 1) 7 (.slice a3 n3 c3))
      have On := hide ((unhide O0).put (b := w.heap.size + 1 + 1) (j := 7) (u := .slice a3 n3 c3) (by omega))
      clear O0
      have O0 := hide (unhide On)
      clear On
      have On := hide ((unhide O1).put (b := w.heap.size + 1 + 1) (j := 7) (u := .slice a3 n3 c3) (by omega))
      clear O1
      have O1 := hide (unhide On)
      clear On
      have On := hide ((unhide O2).put (b := w.heap.size + 1 + 1) (j := 7) (u := .slice a3 n3 c3) (by omega))
      clear O2
      have O2 := hide (unhide On)
      clear On
      have On := hide ((unhide O3).put (b := w.heap.size + 1 + 1) (j := 7) (u := .slice a3 n3 c3) (by omega))
      clear O3
      have O3 := hide (unhide On)
      clear On
      clear Cn Rn
      skip))
    | (refine wpList_load_row rfl 38 _ rfl (w.heap.size + 1 + 1) rfl 38 (Mv.cs (⟨⟨a0, n0, c0⟩, ⟨a1, n1, c1⟩, x.n, x.z, x.v, x.c, ⟨a2, n2, c2⟩, ⟨a3, n3, c3⟩, x.st⟩ : Mv)) (0, 0) _ (unhide C).out Try.underlying38 rfl (by kernel_rfl) ?_)
    | (refine wpList_store_row rfl 38 _ _ rfl (w.heap.size + 1) (Mv.cs (⟨⟨a0, n0, c0⟩, ⟨a1, n1, c1⟩, x.n, x.z, x.v, x.c, ⟨a2, n2, c2⟩, ⟨a3, n3, c3⟩, x.st⟩ : Mv)) rfl rfl 38 zMv.cs (unhide C).re (by kernel_rfl) rfl (Mv.cs_one _) ?_))
  refine bodyPost_ret (results_cell_row (P := Try.prog) rfl _ _ (w.heap.size + 1) 38 (Mv.cs (⟨⟨a0, n0, c0⟩, ⟨a1, n1, c1⟩, x.n, x.z, x.v, x.c, ⟨a2, n2, c2⟩, ⟨a3, n3, c3⟩, x.st⟩ : Mv)) (0, 0) _ rfl (unhide C).done.re Try.underlying38 rfl (by kernel_rfl)) rfl ?_
  exact ⟨(⟨⟨a0, n0, c0⟩, ⟨a1, n1, c1⟩, x.n, x.z, x.v, x.c, ⟨a2, n2, c2⟩, ⟨a3, n3, c3⟩, x.st⟩ : Mv), rfl, rfl, ⟨(unhide O0).row (by omega) _, (unhide O1).row (by omega) _, (unhide O2).row (by omega) _, (unhide O3).row (by omega) _, unhide A01, unhide A02, unhide A03, unhide A12, unhide A13, unhide A23⟩, (unhide C).done.bel⟩
end Go.Proofs.Ytjpbjbnialehbaa
