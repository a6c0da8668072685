/- Contracts over this seat's translation, laid together; conditions stand as hypotheses of each. -/
import Derived.Test.YtjpbjbnialehbaaDoorAsB
import Derived.Maps.AppendAt
import Derived.Orders
import Derived.RegionTactic

namespace Go.Proofs.YtjpbjbnialehbaaDoor
open Go.ChangeShapes Go.WideShapes Go.ChangeAt Go.RowKit
set_option linter.unusedVariables false
set_option maxRecDepth 8000
set_option linter.unusedSimpArgs false
theorem big_cell {w : World} {g : Nat} {mem : List Int} {y : Mv} (h : w.heap[g]? = some (.cells (bigA mem y) 45 (0, 0))) (hm : mem.length = 256) (k : Nat) (v : Value) (hv : y.cs[k]? = some v) : w.cell? ⟨g, 256 + k, none⟩ = some v :=
  (cell_of_row w g _ _ 45 _ h).trans ((bigA_mach y hm).trans hv)
/-- One list written: the others stay. -/
theorem OwnM.putM {w w' : World} {B : Nat} {x : Mv} {d : Md} {ns : List Int} (h : OwnM w B x d) (hg : w.grownBy w' x.m.v.ownBlock) (hn : OwnN w' B x.m.v ns) : OwnM w' B x ⟨ns, d.r, d.i, d.o⟩ :=
  { h with
    m := hn
    r := h.r.keep fun q hv hq => hg.block q hq (fun e => h.mr q e.symm hv)
    i := h.i.keep fun q hv hq => hg.block q hq (fun e => h.mi q e.symm hv)
    o := h.o.keep fun q hv hq => hg.block q hq (fun e => h.mo q e.symm hv) }
theorem OwnM.rowN {w w2 : World} {B B' : Nat} {x : Mv} {d d' : Md} (h : OwnM w2 B x d) (h0 : OwnM w B' x d') (cs : Array Value) : OwnM (w2.setRow w.heap.size cs) B x d :=
  { h with
    m := h.m.keep fun q hv _ => setRow_other w2 _ q cs (by have := (h0.m.lt hv).2; omega)
    r := h.r.keep fun q hv _ => setRow_other w2 _ q cs (by have := (h0.r.lt hv).2; omega)
    i := h.i.keep fun q hv _ => setRow_other w2 _ q cs (by have := (h0.i.lt hv).2; omega)
    o := h.o.keep fun q hv _ => setRow_other w2 _ q cs (by have := (h0.o.lt hv).2; omega) }
def zC : Array Value := #[Value.slice none 0 0, Value.slice none 0 0, Value.bool false, Value.bool false, Value.bool false, Value.bool false, Value.slice none 0 0, Value.slice none 0 0, Value.int .i64 0]
theorem own_ne {w : World} {B g : Nat} {s : Sl} {ns : List Int} (h : OwnN w B s.v ns) (hg : g < B ∨ w.heap.size ≤ g) : some g ≠ s.v.ownBlock := fun e => by
  have := h.lt e.symm
  omega
set_option maxHeartbeats 2000000 in
theorem answer_any (g B : Nat) (mem : List Int) (y : Mv) (d : Md) (w : World) (hm : mem.length = 256) (hg : w.heap[g]? = some (.cells (bigA mem y) 45 (0, 0))) (ho : OwnM w B y d) (hB : some g ≠ y.m.v.ownBlock) :
    Calls Tryd.prog 19 #[.pointer (some ⟨g, 0, none⟩)] w fun e w' => e = .returned (.agg y.cs) ∧ OwnM w' B y ⟨mem.take d.m.length ++ d.m.drop 256, d.r, d.i, d.o⟩ ∧ w.grownBy w' y.m.v.ownBlock := by
  have b1 := (below_new w (.cells #[Value.slice none 0 0, Value.slice none 0 0, Value.bool false, Value.bool false, Value.bool false, Value.bool false, Value.slice none 0 0, Value.slice none 0 0, Value.int .i64 0] 32)).trans ((below_drew (w := w.alloc (.cells #[Value.slice none 0 0, Value.slice none 0 0, Value.bool false, Value.bool false, Value.bool false, Value.bool false, Value.slice none 0 0, Value.slice none 0 0, Value.int .i64 0] 32))).mono (below_new w (.cells #[Value.slice none 0 0, Value.slice none 0 0, Value.bool false, Value.bool false, Value.bool false, Value.bool false, Value.slice none 0 0, Value.slice none 0 0, Value.int .i64 0] 32)).size)
  have g1 := row_lat hg b1
  have r1 : (w.alloc (.cells #[Value.slice none 0 0, Value.slice none 0 0, Value.bool false, Value.bool false, Value.bool false, Value.bool false, Value.slice none 0 0, Value.slice none 0 0, Value.int .i64 0] 32)).drew.heap[w.heap.size]? = some (.cells #[Value.slice none 0 0, Value.slice none 0 0, Value.bool false, Value.bool false, Value.bool false, Value.bool false, Value.slice none 0 0, Value.slice none 0 0, Value.int .i64 0] 32 (0, 0)) := heap_alloc_last w _
  have o1 := ho.later b1
  obtain ⟨w2, k, hcp, hn, hgr⟩ := copy_out y.m d.m mem y g B (w.alloc (.cells #[Value.slice none 0 0, Value.slice none 0 0, Value.bool false, Value.bool false, Value.bool false, Value.bool false, Value.slice none 0 0, Value.slice none 0 0, Value.int .i64 0] 32)).drew g1 hm o1.m
  have O2 := hide (o1.putM hgr hn)
  have G2 := hide ((hgr.block g (row_lt g1) hB).trans g1)
  have R2 := hide ((hgr.block w.heap.size (row_lt r1) (own_ne ho.m (.inr (Nat.le_refl _)))).trans r1)
  have GR := hide (grownBy_trans (grownBy_below b1) hgr)
  have HO := hide ho
  have C1 := hide (big_cell g1 hm 0 _ rfl)
  have CP := hide hcp
  clear hcp hn hgr o1 r1 b1 ho hg
  go_enter Tryd.func19, Tryd.ntmps19
  go_wp2_with fail
  refine wp_region_held_drew (S := fun w' => w'.cell? ⟨g, 256, none⟩ = some (.slice y.m.a y.m.n y.m.c)) (by kernel_rfl) (unhide C1) (fun hS => ?_)
  have HS := hide hS
  clear hS
  refine wpAnyH_take (i := 0) (v := .pointer (some ⟨g, 0, none⟩)) rfl (by kernel_rfl) (by kernel_rfl) (by kernel_rfl) (fun _ _ _ h => h) (Or.inl ⟨by rfl, fun w hc => ?_⟩) (unhide HS) ?_
  · clear hc; go_simp
  go_simp
  refine wpAnyH_take (i := 1) (v := .pointer (some ⟨g, 0, none⟩)) rfl (by kernel_rfl) (by kernel_rfl) (by kernel_rfl) (fun _ _ _ h => h) (Or.inl ⟨by rfl, fun w hc => ?_⟩) (unhide HS) ?_
  · clear hc; go_simp
  go_simp
  refine wpAnyH_take (i := 2) (v := .pointer (some ⟨g, 256, none⟩)) rfl (by kernel_rfl) (by kernel_rfl) (by kernel_rfl) (fun _ _ _ h => h) (Or.inl ⟨by rfl, fun w hc => ?_⟩) (unhide HS) ?_
  · clear hc; go_simp
  go_simp
  refine wpAnyH_take (i := 3) (v := .pointer (some ⟨g, 256, none⟩)) rfl (by kernel_rfl) (by kernel_rfl) (by kernel_rfl) (fun _ _ _ h => h) (Or.inl ⟨by rfl, fun w hc => ?_⟩) (unhide HS) ?_
  · clear hc; go_simp
  go_simp
  refine wpAnyH_take (i := 4) (v := .slice y.m.a y.m.n y.m.c) rfl (by kernel_rfl) (by kernel_rfl) (by kernel_rfl) (fun _ _ _ h => h) (Or.inl ⟨by rfl, fun w hc => ?_⟩) (unhide HS) ?_
  · go_simp
  go_simp
  refine wpAnyH_take (i := 5) (v := .pointer (some ⟨g, 0, none⟩)) rfl (by kernel_rfl) (by kernel_rfl) (by kernel_rfl) (fun _ _ _ h => h) (Or.inl ⟨by rfl, fun w hc => ?_⟩) (unhide HS) ?_
  · clear hc; go_simp
  go_simp
  refine wpAnyH_take (i := 6) (v := .pointer (some ⟨g, 0, none⟩)) rfl (by kernel_rfl) (by kernel_rfl) (by kernel_rfl) (fun _ _ _ h => h) (Or.inl ⟨by rfl, fun w hc => ?_⟩) (unhide HS) ?_
  · clear hc; go_simp
  go_simp
  refine wpAnyH_take (i := 7) (v := .pointer (some ⟨g, 0, none⟩)) rfl (by kernel_rfl) (by kernel_rfl) (by kernel_rfl) (fun _ _ _ h => h) (Or.inl ⟨by rfl, fun w hc => ?_⟩) (unhide HS) ?_
  · clear hc; go_simp
  go_simp
  refine wpAnyH_take (i := 8) (v := .slice (some ⟨g, 0, none⟩) 256 256) rfl (by kernel_rfl) (by kernel_rfl) (by kernel_rfl) (fun _ _ _ h => h) (Or.inl ⟨by rfl, fun w hc => ?_⟩) (unhide HS) ?_
  · clear hc; go_simp
  go_simp
  refine wpAnyH_ready (rs := [9]) (by kernel_rfl) (by simp) ?_
  refine AllReadyH.cons rfl (fun K hK => ?_) AllReadyH.nil
  have hcp := unhide CP
  go_simp
  refine hK.out _ _ (big_cell (unhide G2) hm 0 _ rfl) (fun _ => ?_)
  clear hK K hcp CP HS C1
  refine wpAnyH_done (by kernel_rfl) ?_ _
  have c0 : w2.cell? ⟨g, 256, none⟩ = some (.slice y.m.a y.m.n y.m.c) := big_cell (unhide G2) hm 0 _ rfl
  have c1 : w2.cell? ⟨g, 257, none⟩ = some (.slice y.r.a y.r.n y.r.c) := big_cell (unhide G2) hm 1 _ rfl
  have c2 : w2.cell? ⟨g, 258, none⟩ = some (.bool y.n) := big_cell (unhide G2) hm 2 _ rfl
  have c3 : w2.cell? ⟨g, 259, none⟩ = some (.bool y.z) := big_cell (unhide G2) hm 3 _ rfl
  have c4 : w2.cell? ⟨g, 260, none⟩ = some (.bool y.v) := big_cell (unhide G2) hm 4 _ rfl
  have c5 : w2.cell? ⟨g, 261, none⟩ = some (.bool y.c) := big_cell (unhide G2) hm 5 _ rfl
  have c6 : w2.cell? ⟨g, 262, none⟩ = some (.slice y.i.a y.i.n y.i.c) := big_cell (unhide G2) hm 6 _ rfl
  have c7 : w2.cell? ⟨g, 263, none⟩ = some (.slice y.o.a y.o.n y.o.c) := big_cell (unhide G2) hm 7 _ rfl
  have c8 : w2.cell? ⟨g, 264, none⟩ = some (.int .i64 y.st) := big_cell (unhide G2) hm 8 _ rfl
  go_wp2_with (refine wpList_store_row rfl 32 _ _ rfl w.heap.size y.cs rfl rfl 32 zC (unhide R2) (by kernel_rfl) rfl (Mv.cs_one _) ?_)
  refine bodyPost_ret (results_cell_row (P := Tryd.prog) rfl _ _ w.heap.size 32 y.cs (0, 0) _ rfl (setRow_heap w2 _ _ _ 32 _ (unhide R2)) Tryd.underlying32 rfl (by kernel_rfl)) rfl ?_
  exact ⟨rfl, (unhide O2).rowN (unhide HO) _, grownBy_own (unhide GR) (grownBy_setRow _) (fun b e => by cases e; exact Nat.le_refl _)⟩
end Go.Proofs.YtjpbjbnialehbaaDoor

namespace Go.Proofs.YtjpbjbnialehbaaDoor
open Go.ChangeShapes Go.WideShapes Go.ChangeAt Go.RowKit
set_option linter.unusedVariables false
set_option maxRecDepth 8000
set_option linter.unusedSimpArgs false
theorem results_row2 {P : Program} {fn : Func} {p u : Tmp} {ty : TypeId} (h : fn.results = #[.cell p ty, .tmp u]) (tmps : Array Value) (w : World) (g : Nat) (t : TypeId) (cs : Array Value) (fr : Nat × Nat) (d : TypeDesc)
    (hp : tmps.getD p undef = .pointer (some ⟨g, 0, none⟩)) (hg : w.heap[g]? = some (.cells cs t fr))
    (hu : P.underlying ty = some d) (hd : (match d with | .struct _ | .array _ _ => true | _ => false) = true) (hi : (P.info? ty).map (·.size) = some cs.size) :
    (results fn tmps).run P w = .ok (.tuple #[.agg cs, tmps.getD u undef]) w := by
  have hp' : tmps[p]?.getD undef = .pointer (some ⟨g, 0, none⟩) := by simpa using hp
  simp [results, h, hp', asAddr, run_loadVar_row w g t ty cs fr d hg hu hd hi]
/-- What stands behind a write. -/
def Md.put (d : Md) (a n : Int) : Md := if d.has a = true then ⟨d.m.set (a / 2).toNat (n % 65536), d.r, d.i, d.o⟩ else d
end Go.Proofs.YtjpbjbnialehbaaDoor

namespace Go.Proofs.YtjpbjbnialehbaaDoor
open Go.ChangeShapes Go.WideShapes Go.ChangeAt Go.RowKit
set_option linter.unusedVariables false
set_option maxRecDepth 8000
set_option linter.unusedSimpArgs false
theorem RdN.pastR {w w' : World} {a : Option Addr} {ns : List Int} {row : Option Nat} (h : RdN w a ns) (hg : w.grownBy w' row) (hne : ∀ b, row = some b → ns = [] ∨ ∀ ad, a = some ad → ad.block ≠ b) : RdN w' a ns := by
  rcases h with h | ⟨c, off, rfl, hlt, hc⟩
  · exact .inl h
  · by_cases h0 : ns = []
    · exact .inl h0
    exact .inr ⟨c, off, rfl, Nat.lt_of_lt_of_le hlt hg.size, fun i hi => (World.cell?_of_block (w := w) (hg.block c hlt (fun e => by
      rcases hne c e.symm with h1 | h1
      · exact h0 h1
      · exact h1 _ rfl rfl))).trans (hc i hi)⟩
end Go.Proofs.YtjpbjbnialehbaaDoor

namespace Go.Proofs.YtjpbjbnialehbaaDoor
open Go.ChangeShapes Go.WideShapes Go.ChangeAt Go.RowKit
set_option linter.unusedVariables false
set_option maxRecDepth 8000
set_option linter.unusedSimpArgs false
/-- One number of an owned list written. -/
theorem OwnN.set {w : World} {B b n cap : Nat} {ns : List Int} (h : OwnN w B (.slice (some ⟨b, 0, none⟩) n cap) ns) (k : Nat) (v : Int) (hk : k < ns.length) :
    OwnN (w.setCell ⟨b, k, none⟩ (.int .i64 v)) B (.slice (some ⟨b, 0, none⟩) n cap) (ns.set k v) ∧ w.grownBy (w.setCell ⟨b, k, none⟩ (.int .i64 v)) (some b) := by
  have hl : ns.length = n := by obtain ⟨a, c, e, _⟩ := h.rd; simp at e; omega
  subst hl
  have st := World.ownsRow.stored h k (.int .i64 v)
  refine ⟨?_, st.2⟩
  have e : cellsN (ns.set k v) = (cellsN ns).set k (.int .i64 v) := by unfold cellsN; rw [List.map_set]
  unfold OwnN
  rw [List.length_set, e]
  exact st.1
theorem OwnN.cellAt {w : World} {B b n cap : Nat} {ns : List Int} (h : OwnN w B (.slice (some ⟨b, 0, none⟩) n cap) ns) (k : Nat) (hk : k < ns.length) : w.cell? ⟨b, k, none⟩ = some (.int .i64 (nAt ns k)) ∧ w.frozen? ⟨b, k, none⟩ = false := by
  have hl : ns.length = n := by obtain ⟨a, c, e, _⟩ := h.rd; simp at e; omega
  subst hl
  refine ⟨?_, World.ownsRow.frozenAt h k⟩
  rw [World.ownsRow.cellAt h k (by omega)]
  simp only [cellsN, List.getElem?_map, List.getElem?_eq_getElem hk, Option.map_some, nAt, List.getD_eq_getElem?_getD, Option.getD_some]
end Go.Proofs.YtjpbjbnialehbaaDoor

namespace Go.Proofs.YtjpbjbnialehbaaDoor
open Go.ChangeShapes Go.WideShapes Go.ChangeAt Go.RowKit
set_option linter.unusedVariables false
set_option maxRecDepth 8000
set_option linter.unusedSimpArgs false
def Md.small (d : Md) : Prop := d.m.length ≤ 1048576 ∧ d.r.length ≤ 1048576 ∧ d.i.length ≤ 1048576 ∧ d.o.length ≤ 1048576
/-- The blocks that a machine's lists lie in. -/
def Mv.at (x : Mv) (b : Nat) : Prop := x.m.v.ownBlock = some b ∨ x.r.v.ownBlock = some b ∨ x.i.v.ownBlock = some b ∨ x.o.v.ownBlock = some b
section
variable {w w' w1 : World} {B : Nat} {x y : Mv} {d : Md} {s : Sl} {row : Option Nat}
theorem OwnM.lo (h : OwnM w B x d) {b : Nat} (hb : x.at b) : B ≤ b ∧ b < w.heap.size := by
  rcases hb with hb | hb | hb | hb
  · exact h.m.lt hb
  · exact h.r.lt hb
  · exact h.i.lt hb
  · exact h.o.lt hb
theorem OwnM.keepH (h : OwnM w B x d) (hs : ∀ g, x.at g → g < w.heap.size → w'.heap[g]? = w.heap[g]?) : OwnM w' B x d :=
  { h with m := h.m.keep fun g hv hg => hs g (.inl hv) hg, r := h.r.keep fun g hv hg => hs g (.inr (.inl hv)) hg, i := h.i.keep fun g hv hg => hs g (.inr (.inr (.inl hv))) hg, o := h.o.keep fun g hv hg => hs g (.inr (.inr (.inr hv))) hg }
end
end Go.Proofs.YtjpbjbnialehbaaDoor

namespace Go.Proofs.YtjpbjbnialehbaaDoor
open Go.ChangeShapes Go.WideShapes Go.ChangeAt Go.RowKit
set_option linter.unusedVariables false
set_option maxRecDepth 8000
set_option linter.unusedSimpArgs false
theorem small_mv {w : World} {x : Mv} {d : Md} (h : RdM w x d) (hs : d.small) : x.small := ⟨by rw [← h.ml]; exact hs.1, by rw [← h.rl]; exact hs.2.1, by rw [← h.il]; exact hs.2.2.1, by rw [← h.ol]; exact hs.2.2.2⟩
theorem alloc_size (w : World) (o : Obj) : (w.alloc o).heap.size = w.heap.size + 1 := by simp
end Go.Proofs.YtjpbjbnialehbaaDoor

namespace Go.Proofs.YtjpbjbnialehbaaDoor
theorem countP_one (p p' : Nat → Bool) (i : Nat) (hp : p i = true) (hi : p' i = false) (hj : ∀ j, j ≠ i → p' j = p j) : ∀ l : List Nat, l.Nodup → i ∈ l → l.countP p' + 1 = l.countP p
  | [], _, h => by cases h
  | b :: l, hn, h => by
    rw [List.nodup_cons] at hn
    by_cases hb : b = i
    · subst hb
      have e : l.countP p' = l.countP p := List.countP_congr fun j hjl => by
        have : j ≠ b := fun e => hn.1 (e ▸ hjl)
        rw [hj j this]
      rw [List.countP_cons, List.countP_cons, hp, hi, e]
      simp
    · have ih := countP_one p p' i hp hi hj l hn.2 (by rcases List.mem_cons.1 h with h | h; exact absurd h.symm hb; exact h)
      rw [List.countP_cons, List.countP_cons, hj b hb]
      omega
theorem getD_set (listed : Array Bool) (i : Nat) (hi : i < listed.size) : (fun j => (listed.setIfInBounds i true).getD j false) = fun j => if j = i then true else listed.getD j false := by
  funext j
  by_cases h : j = i
  · subst h; simp [hi]
  · simp only [Array.getD_eq_getD_getElem?, if_neg h]
    rw [Array.getElem?_setIfInBounds_ne (fun e => h e.symm)]
section
variable {P : Program} {ops : Array Oper} {Q : Exit → Act → World → Prop}
theorem wpAny_inv (I : (Nat → Bool) → Act → World → Prop)
    (hstep : ∀ (i : Nat) (o : Oper), ops[i]? = some o → ∀ (f : Nat → Bool) (a : Act) (w : World), I f a w → f i = false → (∀ e ∈ o.after, Region.binds .any e = true → f e.on = true) →
      ∀ K : Act → World → Prop, (∀ a' w', I (fun j => if j = i then true else f j) a' w' → K a' w') → if Region.wanted o (yielded ops a.tmps) = true then Oper.wp P o a w K Q else K (a.put o.dst undef) w)
    (hdone : ∀ (f : Nat → Bool) (a : Act) (w : World), I f a w → (∀ i, i < ops.size → f i = true) → Q .normal a w)
    (hac : ∀ (i : Nat) (o : Oper), ops[i]? = some o → ∀ e ∈ o.after, e.on < i) :
    ∀ (fuel : Nat) (listed : Array Bool) (a : Act) (w : World), listed.size = ops.size → (List.range ops.size).countP (fun j => !listed.getD j false) ≤ fuel → I (fun j => listed.getD j false) a w → wpAny P .any ops Q fuel listed a w := by
  have hnil : ∀ (listed : Array Bool), listed.size = ops.size → Region.ready .any ops listed = [] → ∀ i, i < ops.size → listed.getD i false = true := by
    intro listed hsz hr i
    induction i using Nat.strongRecOn with
    | ind i ih =>
      intro hi
      cases hb : listed.getD i false with
      | true => rfl
      | false =>
        have hm : i ∈ Region.ready .any ops listed := mem_ready.2 ⟨by
          have hi' : i < listed.size := by omega
          simpa [hi'] using hb, ops[i], by simp [hi], fun e he _ => ih e.on (hac i _ (by simp [hi]) e he) (Nat.lt_trans (hac i _ (by simp [hi]) e he) hi)⟩
        rw [hr] at hm
        cases hm
  intro fuel
  induction fuel with
  | zero =>
    intro listed a w hsz hc hI
    have hall : ∀ i, i < ops.size → listed.getD i false = true := fun i hi => by
      have h0 : (List.range ops.size).countP (fun j => !listed.getD j false) = 0 := by omega
      rw [List.countP_eq_zero] at h0
      have := h0 i (List.mem_range.2 hi)
      simpa using this
    refine ⟨?_, hdone _ a w hI hall⟩
    apply List.eq_nil_iff_forall_not_mem.2
    intro i hi
    obtain ⟨h1, o, ho, _⟩ := mem_ready.1 hi
    have hi' := (Array.getElem?_eq_some_iff.1 ho).1
    have := hall i hi'
    have hi'' : i < listed.size := by omega
    simp [hi''] at this h1
    rw [this] at h1
    cases h1
  | succ fuel ih =>
    intro listed a w hsz hc hI
    refine ⟨fun hr => hdone _ a w hI (hnil listed hsz hr), fun i hi => ?_⟩
    obtain ⟨h1, o, ho, hd⟩ := mem_ready.1 hi
    have hi' := (Array.getElem?_eq_some_iff.1 ho).1
    have hi'' : i < listed.size := by omega
    have hf : listed.getD i false = false := by simpa [hi''] using h1
    refine wpOp_step ho fun K hK => ?_
    refine hstep i o ho _ a w hI hf (fun e he hb => hd e he hb) K fun a' w' hI' => hK a' w' ?_
    refine ih _ a' w' (by simpa using hsz) ?_ (by rw [getD_set listed i hi'']; exact hI')
    have := countP_one (fun j => !listed.getD j false) (fun j => !(listed.setIfInBounds i true).getD j false) i (by simp [hf]) (by
      have := congrFun (getD_set listed i hi'') i
      simp only [if_true] at this
      rw [this]; rfl) (fun j hj => by
      have := congrFun (getD_set listed i hi'') j
      simp only [if_neg hj] at this
      rw [this]) (List.range ops.size) List.nodup_range (List.mem_range.2 hi')
    omega
/-- Each operation waits for earlier ones alone. -/
def waitsB (ops : Array Oper) : Bool := (List.range ops.size).all fun i => ((ops[i]?).map fun o => o.after.all fun e => decide (e.on < i)).getD true
theorem waits_of (h : waitsB ops = true) : ∀ (i : Nat) (o : Oper), ops[i]? = some o → ∀ e ∈ o.after, e.on < i := by
  intro i o ho e he
  unfold waitsB at h
  rw [List.all_eq_true] at h
  have := h i (List.mem_range.2 (Array.getElem?_eq_some_iff.1 ho).1)
  rw [ho] at this
  simp only [Option.map_some, Option.getD_some] at this
  have := Array.all_eq_true_iff_forall_mem.1 this e he
  simpa using this
/-- The whole region: what holds of it at its beginning, behind each operation, and what that gives at its end. -/
theorem wp_region_inv {id : Nat} {a : Act} {w : World} (I : (Nat → Bool) → Act → World → Prop) (hm : P.follows .mixedOrders = true) (h0 : I (fun _ => false) a w.drew)
    (hac : waitsB ops = true)
    (hstep : ∀ (i : Nat) (o : Oper), ops[i]? = some o → ∀ (f : Nat → Bool) (a : Act) (w : World), I f a w → f i = false → (∀ e ∈ o.after, Region.binds .any e = true → f e.on = true) →
      ∀ K : Act → World → Prop, (∀ a' w', I (fun j => if j = i then true else f j) a' w' → K a' w') → if Region.wanted o (yielded ops a.tmps) = true then Oper.wp P o a w K Q else K (a.put o.dst undef) w)
    (hdone : ∀ (f : Nat → Bool) (a : Act) (w : World), I f a w → (∀ i, i < ops.size → f i = true) → Q .normal a w) : (Code.region id ops true).wp P Q a w := by
  refine wp_region_any hm ?_
  refine wpAny_inv I hstep hdone (waits_of hac) ops.size _ a _ (by simp) ?_ ?_
  · exact Nat.le_trans (List.countP_le_length) (by simp)
  · have e : (fun j => (Array.replicate ops.size false).getD j false) = fun _ => false := by
      funext j
      simp only [Array.getD_eq_getD_getElem?]
      by_cases hj : j < ops.size
      · rw [Array.getElem?_eq_getElem (by simpa using hj)]; simp
      · rw [Array.getElem?_eq_none (by simpa using hj)]; rfl
    rw [e]
    exact h0
end
end Go.Proofs.YtjpbjbnialehbaaDoor

namespace Go.Proofs.YtjpbjbnialehbaaDoor
open Go.ChangeShapes Go.WideShapes Go.ChangeAt Go.RowKit
set_option linter.unusedVariables false
set_option maxRecDepth 8000
set_option linter.unusedSimpArgs false
/-- Can a machine be made of this? -/
def newB (im : List Int) (a st : Int) (ins : List Int) : Bool :=
  inB a 0 510 && ((a % 2 == 0) && (decide ((im.length : Int) ≤ 256 - a / 2) && (wdB im && (inB st 0 65535 && (decide ((ins.length : Int) ≤ 50) && wdB ins)))))
/-- Numbers laid over a list from a place on. -/
def over (ns : List Int) (k : Nat) (im : List Int) : List Int := ns.take k ++ (im ++ ns.drop (k + im.length))
def newR (st : Int) : List Int := [0, 0, 0, 0, 0, 0, 512, st]
/-- What a new machine holds. -/
def newD (im : List Int) (a st : Int) (ins : List Int) : Md := if newB im a st ins = true then ⟨over z256 (a / 2).toNat im, newR st, ins, []⟩ else ⟨[], [], [], []⟩
theorem ap_none (s t : Sl) (h : s.a = none) : Ap s t := fun g e _ => by unfold Sl.v at e; rw [h] at e; simp [Value.ownBlock] at e
theorem own_zero (w : World) (B : Nat) : OwnM w B zMv ⟨[], [], [], []⟩ :=
  ⟨ownN_none _ _, ownN_none _ _, ownN_none _ _, ownN_none _ _, ap_none _ _ rfl, ap_none _ _ rfl, ap_none _ _ rfl, ap_none _ _ rfl, ap_none _ _ rfl, ap_none _ _ rfl⟩
theorem inB_t (x a b : Int) (h : a ≤ x ∧ x ≤ b) : inB x a b = true := by simp [inB, h]
theorem inB_b {x a b : Int} (h : inB x a b = true) : a ≤ x ∧ x ≤ b := by unfold inB at h; simpa using h
end Go.Proofs.YtjpbjbnialehbaaDoor

namespace Go.Proofs.YtjpbjbnialehbaaDoor
open Go.ChangeShapes Go.WideShapes Go.ChangeAt Go.RowKit
set_option linter.unusedVariables false
set_option maxRecDepth 8000
set_option linter.unusedSimpArgs false
/-- The cells of so many noughts. -/
def zA (n : Nat) : Array Value := (cellsN (List.replicate n 0)).toArray
theorem zA_size (n : Nat) : (zA n).size = n := by simp [zA, cellsN]
theorem made256 : madeCells #[Value.int .i64 0] 256 = zA 256 := by kernel_rfl
theorem made8 : madeCells #[Value.int .i64 0] 8 = zA 8 := by kernel_rfl
section
variable {o : Oper} {a : Act} {w : World} {K : Act → World → Prop} {Q : Exit → Act → World → Prop}
theorem wp_make (n : Nat) (hn : madeCells #[Value.int .i64 0] n = zA n) (hb : n ≤ 1048576) (ho : o.op = .makeSlice 25 (.const (.int .i64 (n : Int))) (.const (.int .i64 (n : Int))))
    (h : K (a.put o.dst (.slice (some ⟨w.heap.size, 0, none⟩) n n)) (w.alloc (.cells (zA n) 3))) : o.wp Tryd.prog a w K Q := by
  have hr := run_make_row' (P := Tryd.prog) 25 3 (.int .i64 0) 8 Tryd.underlying25 info3 rfl .i64 .i64 n (by omega) (by omega) w
  rw [hn] at hr
  unfold Oper.wp execOp
  simp only [ho, Act.eval, hr, Sem.run_bind, Sem.run_pure, Result.andThen_ok]
  exact h
/-- 'append(v, s...)' as one operation: where the answer lies, too. -/
theorem wp_app (p q : Operand) (ho : o.op = .call { callee := .builtin .append, args := #[p, q], argTypes := #[25, 25] })
    (B : Nat) (v : Value) (xs : List Int) (hs : a.eval p = v) (hown : OwnN w B v xs) (s : Sl) (ns : List Int) (hx : a.eval q = .slice s.a s.n s.c) (hr : RdN w s.a ns) (hl : ns.length = s.n) (hz : s.nz) (hm : xs.length + s.n ≤ 4194304) (hB : B ≤ w.heap.size)
    (h : ∀ v' w', OwnN w' B v' (xs ++ ns) → w.grownBy w' v.ownBlock → (v'.ownBlock = v.ownBlock ∨ v'.ownBlock = some w.heap.size) → K (a.put o.dst v') w') : o.wp Tryd.prog a w K Q := by
  obtain ⟨i0, hi, hz0, hz1, hz2⟩ := info_parts info3
  obtain ⟨sa, sn, sc⟩ := s
  simp only at hx hr hl hm
  cases sa with
  | none =>
    have h0 : ns = [] := by
      rcases hr with h0 | ⟨_, _, e, _⟩
      · exact h0
      · cases e
    subst h0
    have hn : sn = 0 := by simp at hl; omega
    have hc : sc = 0 := hz rfl
    subst hn hc
    have hrun := run_append_owned_none (P := Tryd.prog) (w := w) B 25 o.type 3 i0 1 Tryd.underlying25 hi v xs.length (cellsN xs) hown
    have hk := h v w (by rw [List.append_nil]; exact hown) (World.grownBy.refl _ _) (.inl rfl)
    unfold Oper.wp
    simp [execOp, ho, resolve, invoke, builtin, hs, hx, hrun, Result.andThen]
    exact hk
  | some ad =>
    obtain ⟨v', w', hr', h2, h3, _, h5⟩ := run_append_own_at (P := Tryd.prog) w B 25 o.type 3 i0 (.int .i64 0) 1 8 Tryd.underlying25 hi hz0 hz1 hz2 rfl (by decide) v xs.length (cellsN xs) hown ad sn sc (cellsN ns) (by rw [cellsN_length]; omega) (rdN_cells hr) (cellsN_one _) (by unfold maxLen; omega) (by omega) hB
    unfold Oper.wp execOp
    simp only [ho, resolve, invoke, builtin, Sem.run_bind, Sem.run_pure, Result.andThen_ok, List.map_toArray, List.map_cons, List.map_nil, hs, hx, hr']
    refine h v' w' ?_ h3 h5
    unfold OwnN
    rw [cellsN_append, List.length_append, hl]
    exact h2
theorem wp_move (x : Operand) (ho : o.op = .move x) (h : K (a.put o.dst (a.eval x)) w) : o.wp Tryd.prog a w K Q := by
  unfold Oper.wp execOp
  simp only [ho, Sem.run_bind, Sem.run_pure, Result.andThen_ok]
  exact h
end
theorem own_made {w : World} {g n B : Nat} (h : w.heap[g]? = some (.cells (zA n) 3 (0, 0))) (hB : B ≤ g) (hn : n ≤ 1048576) : OwnN w B (.slice (some ⟨g, 0, none⟩) n n) (List.replicate n 0) := by
  unfold OwnN
  rw [List.length_replicate]
  refine ⟨by rw [cellsN_length, List.length_replicate]; omega, .inr ⟨g, n, zA n, rfl, hB, h, Nat.le_refl _, by unfold maxLen; omega, by rw [zA_size]; omega, ?_⟩⟩
  unfold zA
  rw [List.toList_toArray, List.take_of_length_le (by rw [cellsN_length, List.length_replicate]; omega)]
end Go.Proofs.YtjpbjbnialehbaaDoor

namespace Go.Proofs.YtjpbjbnialehbaaDoor
open Go.ChangeShapes Go.WideShapes Go.ChangeAt Go.RowKit
set_option linter.unusedVariables false
set_option maxRecDepth 8000
set_option linter.unusedSimpArgs false
theorem newB_parts {im : List Int} {a st : Int} {ins : List Int} (h : newB im a st ins = true) : inB a 0 510 = true ∧ a % 2 = 0 ∧ (im.length : Int) ≤ 256 - a / 2 ∧ wdB im = true ∧ inB st 0 65535 = true ∧ (ins.length : Int) ≤ 50 ∧ wdB ins = true := by
  unfold newB at h
  simpa using h
section
variable {w w' : World} {ins : Sl} {nn : List Int} {b0 b1 b2 b3 b4 b5 b6 b7 : Bool} {v9 v48 v49 v50 v51 v52 v53 : Value}
end
end Go.Proofs.YtjpbjbnialehbaaDoor

namespace Go.Proofs.YtjpbjbnialehbaaDoor
open Go.ChangeShapes Go.WideShapes Go.ChangeAt Go.RowKit
set_option linter.unusedVariables false
set_option maxRecDepth 8000
set_option linter.unusedSimpArgs false
theorem no {p : Prop} (h : false = true) : p := by cases h
theorem f_no {b c : Bool} (h : b = true → c = true) (hc : c = false) : b = false := by
  cases hb : b
  · rfl
  · rw [h hb] at hc; cases hc
theorem built28 (s0 s1 s2 : Sl) : Tryd.prog.built 32 [(0, s0.v), (1, s1.v), (6, s2.v)] = some #[s0.v, s1.v, .bool false, .bool false, .bool false, .bool false, s2.v, .slice none 0 0, .int .i64 0] := by kernel_rfl
theorem wp_build28 {o : Oper} {a : Act} {w : World} {K : Act → World → Prop} {Q : Exit → Act → World → Prop} (x0 x1 x2 : Operand) (ho : o.op = .build 32 #[(0, x0), (1, x1), (6, x2)]) (s0 s1 s2 : Sl) (h0 : a.eval x0 = s0.v) (h1 : a.eval x1 = s1.v) (h2 : a.eval x2 = s2.v)
    (h : K (a.put o.dst (.agg #[s0.v, s1.v, .bool false, .bool false, .bool false, .bool false, s2.v, .slice none 0 0, .int .i64 0])) w) : o.wp Tryd.prog a w K Q := by
  have e : Tryd.prog.built 32 ((#[(0, x0), (1, x1), (6, x2)] : Array (Nat × Operand)).map fun (i, x) => (i, a.eval x)).toList = some #[s0.v, s1.v, .bool false, .bool false, .bool false, .bool false, s2.v, .slice none 0 0, .int .i64 0] := by
    simp only [List.map_toArray, List.map_cons, List.map_nil, h0, h1, h2]
    exact built28 s0 s1 s2
  refine wp_build 32 _ ho (by rw [e]; rfl) ?_
  rw [e]
  exact h
theorem over_nil (ns : List Int) (k : Nat) : over ns k [] = ns := by simp [over]
theorem over_len (ns im : List Int) (k : Nat) (h : k + im.length ≤ ns.length) : (over ns k im).length = ns.length := by
  unfold over
  simp only [List.length_append, List.length_take, List.length_drop]
  omega
theorem over_set (ns im : List Int) (k j : Nat) (hj : j < im.length) (h : k + im.length ≤ ns.length) : (over ns k (im.take j)).set (k + j) (nAt im j) = over ns k (im.take (j + 1)) := by
  have e1 : (im.take j).length = j := by rw [List.length_take]; omega
  have e2 : (im.take (j + 1)).length = j + 1 := by rw [List.length_take]; omega
  have e3 : (ns.take k).length = k := by rw [List.length_take]; omega
  unfold over
  rw [e1, e2, take_nAt im j hj]
  have e4 : ns.drop (k + j) = ns[k + j]'(by omega) :: ns.drop (k + (j + 1)) := List.drop_eq_getElem_cons (by omega)
  rw [e4, List.set_append_right _ _ (by omega), e3, List.set_append_right _ _ (by omega), e1, show k + j - k - j = 0 by omega, List.set_cons_zero, List.append_assoc]
  rfl
theorem OwnM.putR {w w' : World} {B : Nat} {x : Mv} {d : Md} {ns : List Int} (h : OwnM w B x d) (hg : w.grownBy w' x.r.v.ownBlock) (hn : OwnN w' B x.r.v ns) : OwnM w' B x ⟨d.m, ns, d.i, d.o⟩ :=
  { h with
    r := hn
    m := h.m.keep fun q hv hq => hg.block q hq (fun e => h.mr q hv e.symm)
    i := h.i.keep fun q hv hq => hg.block q hq (fun e => h.ri q e.symm hv)
    o := h.o.keep fun q hv hq => hg.block q hq (fun e => h.ro q e.symm hv) }
section
variable {w w' : World} {ins : Sl} {nn : List Int} {f : Nat → Bool} {v9 v48 v49 v50 v51 v52 v53 : Value}
end
end Go.Proofs.YtjpbjbnialehbaaDoor

namespace Go.Proofs.YtjpbjbnialehbaaDoor
open Go.ChangeShapes Go.WideShapes Go.ChangeAt Go.RowKit
set_option linter.unusedVariables false
set_option maxRecDepth 8000
set_option linter.unusedSimpArgs false
/-- What is there behind a store. -/
def Md.stD (d : Md) (r a n : Int) : Md := if r = -1 then d.put a n else if d.ldB r a = true then ⟨d.m, d.r.set r.toNat (n % 65536), d.i, d.o⟩ else d
section
variable {w wr w' : World} {x : Mv} {r a : Int}
end
theorem sl_formP {w : World} {B : Nat} {s : Sl} {ns : List Int} (h : OwnN w B s.v ns) (h0 : 0 < ns.length) : ∃ g c, s = ⟨some ⟨g, 0, none⟩, ns.length, c⟩ := by
  obtain ⟨sa, sn, sc⟩ := s
  rcases h.form with ⟨_, e0⟩ | ⟨g, cap, e, _⟩
  · rw [e0] at h0; simp at h0
  · unfold Sl.v at e
    simp at e
    exact ⟨g, cap, by rw [e.1, e.2.1, e.2.2]⟩
/-- One register of an owned machine written. -/
theorem own_setR {w : World} {B gr n c : Nat} {y : Mv} {d : Md} (O : OwnM w B y d) (e : y.r = ⟨some ⟨gr, 0, none⟩, n, c⟩) (k : Nat) (v : Int) (hk : k < d.r.length) :
    OwnM (w.setCell ⟨gr, k, none⟩ (.int .i64 v)) B y ⟨d.m, d.r.set k v, d.i, d.o⟩ ∧ w.grownBy (w.setCell ⟨gr, k, none⟩ (.int .i64 v)) (some gr) ∧ B ≤ gr ∧ gr < w.heap.size ∧ w.cell? ⟨gr, k, none⟩ = some (.int .i64 (nAt d.r k)) ∧ w.frozen? ⟨gr, k, none⟩ = false := by
  have ev : y.r.v = .slice (some ⟨gr, 0, none⟩) n c := by rw [e]; rfl
  have o := O.r
  rw [ev] at o
  obtain ⟨c1, c2⟩ := o.cellAt k hk
  have st := o.set k v hk
  have lt := o.lt (g := gr) rfl
  exact ⟨O.putR (by rw [ev]; exact st.2) (by rw [ev]; exact st.1), st.2, lt.1, lt.2, c1, c2⟩
theorem row_past {w w' : World} {g gr : Nat} {o : Obj} (h : w.heap[g]? = some o) (hg : w.grownBy w' (some gr)) (hne : gr ≠ g) : w'.heap[g]? = some o := (hg.block g (row_lt h) (fun e => hne (by cases e; rfl))).trans h
end Go.Proofs.YtjpbjbnialehbaaDoor

namespace Go.Proofs.YtjpbjbnialehbaaDoor
open Go.ChangeShapes Go.WideShapes Go.ChangeAt Go.RowKit
set_option linter.unusedVariables false
set_option maxRecDepth 8000
set_option linter.unusedSimpArgs false
/-- A register set. -/
def Md.reg (d : Md) (k : Nat) (v : Int) : Md := ⟨d.m, d.r.set k v, d.i, d.o⟩
/-- Behind a fetch. -/
def Md.fet (d : Md) : Md := if d.has (nAt d.r 7) = true then d.reg 7 ((nAt d.r 7 + 2) % 65536) else d
section
variable {w w' : World} {g B gr rc : Nat} {x : Mv} {d : Md}
end
end Go.Proofs.YtjpbjbnialehbaaDoor

namespace Go.Proofs.YtjpbjbnialehbaaDoor
open Go.ChangeShapes Go.WideShapes Go.ChangeAt Go.RowKit
set_option linter.unusedVariables false
set_option maxRecDepth 8000
set_option linter.unusedSimpArgs false
theorem nAt_set_same (l : List Int) (k : Nat) (v : Int) (h : k < l.length) : nAt (l.set k v) k = v := by
  unfold nAt
  simp [List.getElem?_set, h]
/-- The registers are eight words. -/
def Md.R8 (d : Md) : Prop := d.r.length = 8 ∧ ∀ j, j < 8 → 0 ≤ nAt d.r j ∧ nAt d.r j ≤ 65535
theorem nAt_set_ne (l : List Int) (k j : Nat) (v : Int) (h : j ≠ k) : nAt (l.set k v) j = nAt l j := by
  unfold nAt
  rw [List.getD_eq_getElem?_getD, List.getD_eq_getElem?_getD, List.getElem?_set, if_neg (fun e => h e.symm)]
theorem reg_r8 {d : Md} (h : d.R8) (k : Nat) (v : Int) : (d.reg k (v % 65536)).R8 := by
  refine ⟨by unfold Md.reg; rw [List.length_set]; exact h.1, fun j hj => ?_⟩
  unfold Md.reg
  by_cases e : j = k
  · subst e
    simp only
    rw [nAt_set_same _ _ _ (by rw [h.1]; exact hj)]
    omega
  · simp only
    rw [nAt_set_ne _ _ _ _ e]
    exact h.2 j hj
/-- Behind an address by a mode; the address; is it there. -/
def Md.adD (d : Md) (mo re : Nat) : Md := if mo = 1 then d else if mo = 2 ∨ mo = 3 then d.reg re ((nAt d.r re + 2) % 65536) else if mo = 4 ∨ mo = 5 then d.reg re ((nAt d.r re - 2) % 65536) else d.fet
def Md.adV (d : Md) (mo re : Nat) : Int := if mo = 1 then nAt d.r re else if mo = 2 ∨ mo = 3 then nAt d.r re else if mo = 4 ∨ mo = 5 then (nAt d.r re - 2) % 65536 else (d.get (nAt d.r 7) + nAt d.fet.r re) % 65536
def Md.adO (d : Md) (mo re : Nat) : Bool := if mo = 1 then true else if mo = 2 ∨ mo = 3 then true else if mo = 4 ∨ mo = 5 then true else d.has (nAt d.r 7)
section
variable (g B gr rc mo re : Nat) (X : Int) (x : Mv) (d : Md) (w : World)
end
end Go.Proofs.YtjpbjbnialehbaaDoor

namespace Go.Proofs.YtjpbjbnialehbaaDoor
open Go.ChangeShapes Go.WideShapes Go.ChangeAt Go.RowKit
set_option linter.unusedVariables false
set_option maxRecDepth 8000
set_option linter.unusedSimpArgs false
theorem regPlace_any (r : Int) (w : World) : Calls Tryd.prog 94 #[.int .i64 r] w fun e w' => e = .returned (.agg #[.int .i64 r, .int .i64 (-1)]) ∧ Below w.heap.size w w' := by
  have HB := hide (below_new w (.cells #[.int .i64 r, .int .i64 (-1)] 98))
  have R0 := hide (heap_alloc_last w (.cells #[.int .i64 r, .int .i64 (-1)] 98))
  go_enter Tryd.func94, Tryd.ntmps94
  go_wp2
  refine bodyPost_ret (results_cell_row (P := Tryd.prog) rfl _ _ w.heap.size 98 #[.int .i64 r, .int .i64 (-1)] (0, 0) _ rfl (unhide R0) Tryd.underlying98 rfl (by kernel_rfl)) rfl ?_
  exact ⟨rfl, unhide HB⟩
theorem adPlace_any (r : Int) (w : World) : Calls Tryd.prog 84 #[.int .i64 r] w fun e w' => e = .returned (.agg #[.int .i64 (-1), .int .i64 r]) ∧ Below w.heap.size w w' := by
  have HB := hide (below_new w (.cells #[.int .i64 (-1), .int .i64 r] 98))
  have R0 := hide (heap_alloc_last w (.cells #[.int .i64 (-1), .int .i64 r] 98))
  go_enter Tryd.func84, Tryd.ntmps84
  go_wp2
  refine bodyPost_ret (results_cell_row (P := Tryd.prog) rfl _ _ w.heap.size 98 #[.int .i64 (-1), .int .i64 r] (0, 0) _ rfl (unhide R0) Tryd.underlying98 rfl (by kernel_rfl)) rfl ?_
  exact ⟨rfl, unhide HB⟩
def regB (n : Nat) (r : Int) : Bool := decide (0 ≤ r) && (decide (r ≤ 7) && decide (r < (n : Int)))
set_option maxHeartbeats 1000000 in
theorem hasReg_any (x : Mv) (r : Int) (w : World) (hs : x.small) : Calls Tryd.prog 91 #[.agg x.cs, .int .i64 r] w fun e w' => e = .returned (.bool (regB x.r.n r)) ∧ Below w.heap.size w w' := by
  have HB := hide (below_new w (.cells x.cs 32))
  have R0 := heap_alloc_last w (.cells x.cs 32)
  have c1 := row_r R0
  have hn := hs.2.1
  unfold regB
  clear hs R0
  by_cases h1 : 0 ≤ r
  · by_cases h2 : r ≤ 7
    · go_enter Tryd.func91, Tryd.ntmps91
      go_wp2
      go_ret
      exact ⟨by simp [h1, h2], unhide HB⟩
    · go_enter Tryd.func91, Tryd.ntmps91
      go_wp2
      go_ret
      exact ⟨by simp [h1, h2]; omega, unhide HB⟩
  · go_enter Tryd.func91, Tryd.ntmps91
    go_wp2
    go_ret
    exact ⟨by simp [h1]; omega, unhide HB⟩
/-- Where a place of the program's machine is. -/
def rchI (g gr : Nat) (d : Md) (r a : Int) : Option Addr := if a = -1 ∧ regB d.r.length r = true then some ⟨gr, r.toNat, none⟩ else if r = -1 ∧ d.has a = true then some ⟨g, (a / 2).toNat, none⟩ else none
section
variable {w wr w' : World} {g : Nat} {mem : List Int} {y : Mv} {r a : Int}
end
end Go.Proofs.YtjpbjbnialehbaaDoor
