/- Contracts over this seat's translation, laid together; conditions stand as hypotheses of each. -/
import Derived.Test.YtkolflcjkofleaaDoorTxK
import Derived.OwnWalk
import Derived.Laws.MakeOwn
import Derived.Deep.LoopGhost
import Derived.Deep.CutRange

namespace Go.Proofs.YtkolflcjkofleaaDoor
open Go.ChangeShapes Go.WideShapes Go.ChangeAt Go.RowKit
set_option linter.unusedVariables false
set_option maxRecDepth 8000
set_option linter.unusedSimpArgs false

theorem infoP : (Tryd.prog.info? 77).map (fun i => (i.zero, i.size, i.bytes)) = some (some (.agg #[.int .i64 0, .int .i64 0, .string ⟨#[]⟩, .slice none 0 0, .int .i64 0, .int .i64 0, .string ⟨#[]⟩, .slice none 0 0]), 8, 112) := by kernel_rfl
/-- v is a slice of the call's own (blocks from B on) that holds these pairs. -/
def OwnP (w : World) (B : Nat) (v : Value) (L : List Pr) : Prop := w.ownsRow B 77 8 v L.length (cellsP L)
section
variable {w w' : World} {B : Nat} {v : Value} {L : List Pr} {r : Pr}
theorem OwnP.keep (h : OwnP w B v L) (hs : ∀ g, v.ownBlock = some g → g < w.heap.size → w'.heap[g]? = w.heap[g]?) : OwnP w' B v L := by
  obtain ⟨h1, h2 | ⟨g, cap, cur, rfl, hg, hh, r⟩⟩ := h
  · exact ⟨h1, .inl h2⟩
  · exact ⟨h1, .inr ⟨g, cap, cur, rfl, hg, (hs g rfl (Array.getElem?_eq_some_iff.1 hh).1).trans hh, r⟩⟩
theorem OwnP.later (h : OwnP w B v L) (hb : Below w.heap.size w w') : OwnP w' B v L := h.keep fun g _ hg => hb.block g hg
theorem OwnP.lt (h : OwnP w B v L) {g : Nat} (hg : v.ownBlock = some g) : B ≤ g ∧ g < w.heap.size := World.ownsRow.lt h g hg
theorem OwnP.at (h : OwnP w B v (L ++ [r])) : ∃ g cap, v = .slice (some ⟨g, 0, none⟩) (L.length + 1) cap ∧ L.length + 1 ≤ cap ∧ cap ≤ maxLen ∧ g < w.heap.size ∧ (∀ j, j < 8 → w.cell? ⟨g, L.length * 8 + j, none⟩ = r.cs[j]?) ∧ OwnP w B (.slice (some ⟨g, 0, none⟩) L.length cap) L := by
  have hlen : (L ++ [r]).length = L.length + 1 := by simp
  obtain ⟨h1, ⟨rfl, h0⟩ | ⟨g, cap, cur, rfl, hg, hh, hn, hm, hz, ht⟩⟩ := h
  · simp at h0
  · rw [hlen] at hn ht
    refine ⟨g, cap, by rw [hlen], hn, hm, (Array.getElem?_eq_some_iff.1 hh).1, fun j hj => ?_, ?_⟩
    · rw [Lib.cell_of_heap hh, ← cellsP_last L r j hj, ← ht, List.getElem?_take, if_pos (by omega), Array.getElem?_toList]
    · refine ⟨cellsP_len L, .inr ⟨g, cap, cur, rfl, hg, hh, by omega, hm, hz, ?_⟩⟩
      have e : cellsP L = (cellsP (L ++ [r])).take (L.length * 8) := by
        rw [cellsP_app, List.take_append_of_le_length (by rw [cellsP_len]; exact Nat.le_refl _), List.take_of_length_le (by rw [cellsP_len]; exact Nat.le_refl _)]
      rw [e, ← ht, List.take_take]
      congr 1
      omega
theorem ownP_app (h : w.ownsRow B 77 8 v (L.length + 1) (cellsP L ++ r.cs)) : OwnP w B v (L ++ [r]) := by
  unfold OwnP
  rw [List.length_append, cellsP_app]
  simp only [cellsP, List.append_nil]
  exact h
end
theorem cellN (W : World) (cs : Array Value) (t : TypeId) : ∀ j u, cs.toList[j]? = some u → (W.alloc (.cells cs t)).cell? ((⟨W.heap.size, 0, none⟩ : Addr).add j) = some u := by
  intro j u hu
  have h : (W.alloc (.cells cs t)).cell? ⟨W.heap.size, j, none⟩ = some u := by rw [World.cell?_alloc_at _ _ _ _ rfl]; simpa using hu
  unfold Addr.add
  by_cases h0 : j = 0
  · subst h0; simpa using h
  · simpa [h0] using h
theorem pr_one (r : Pr) : ∀ u ∈ r.cs, u.oneCell' = true := by
  intro u hu
  simp only [Pr.cs, List.mem_cons, List.not_mem_nil, or_false] at hu
  rcases hu with rfl | rfl | rfl | rfl | rfl | rfl | rfl | rfl <;> rfl
theorem OwnP.row {w w' : World} {B : Nat} {v : Value} {L : List Pr} (h : OwnP w B v L) (hg : w.grownBy w' v.ownBlock) {gx : Nat} {cs : Array Value} {fr : Nat × Nat} (hx : w.heap[gx]? = some (.cells cs 26 fr)) : w'.heap[gx]? = some (.cells cs 26 fr) := by
  refine (hg.block gx (Array.getElem?_eq_some_iff.1 hx).1 (fun e => ?_)).trans hx
  obtain ⟨_, ⟨rfl, _⟩ | ⟨g, cap, cur, rfl, _, hh, _⟩⟩ := h
  · simp [Value.ownBlock] at e
  · simp [Value.ownBlock] at e
    subst e
    rw [hh] at hx
    cases hx
theorem kids.snoc {w : World} {x y : Ex} {k : Ky} {m : Nat} {M : List Pr} (h : kids w x y k m M) {c d : Option Addr} {cc cd : Nat} (c1 : w.cell? ⟨k.a, m * 4 + 3, none⟩ = some (.slice c (xAt x.l m).l.length cc)) (c2 : w.cell? ⟨k.b, m * 4 + 3, none⟩ = some (.slice d (xAt y.l m).l.length cd)) (o1 : ∃ F, OwX w (xAt x.l m) c F) (o2 : ∃ G, OwX w (xAt y.l m) d G) : kids w x y k (m + 1) (M ++ [⟨xAt x.l m, xAt y.l m, c, d, cc, cd⟩]) := by
  refine ⟨by rw [List.length_append, h.1]; rfl, fun i hi => ?_⟩
  by_cases e : i = m
  · subst e
    refine ⟨c, d, cc, cd, ?_, c1, c2, o1, o2⟩
    rw [List.getElem?_append_right (by rw [h.1]; exact Nat.le_refl _), h.1]
    simp
  · obtain ⟨c', d', cc', cd', m1, r⟩ := h.2 i (by omega)
    exact ⟨c', d', cc', cd', by rw [List.getElem?_append_left (by rw [h.1]; omega)]; exact m1, r⟩
/-- While pairs wait: the map of what was met, the pairs. -/
structure Cs (w wr : World) (mb : Nat) (v : Value) (L : List Pr) (ks : List Ky) : Prop where
  bel : Below w.heap.size w wr
  mp : IsMp wr mb ks
  mbB : w.heap.size ≤ mb
  own : OwnP wr w.heap.size v L
section
variable {w wr w' : World} {mb : Nat} {v : Value} {L : List Pr} {ks : List Ky}
theorem IsMp.lt (h : IsMp wr mb ks) : mb < wr.heap.size := (Array.getElem?_eq_some_iff.1 h).1
theorem Cs.later (h : Cs w wr mb v L ks) (hb : Below wr.heap.size wr w') : Cs w w' mb v L ks :=
  ⟨h.bel.trans (hb.mono h.bel.size), (hb.block _ h.mp.lt).trans h.mp, h.mbB, h.own.later hb⟩
theorem Cs.apart (h : Cs w wr mb v L ks) : v.ownBlock ≠ some mb := by
  intro e
  obtain ⟨_, ⟨rfl, _⟩ | ⟨g, cap, cur, rfl, hg, hh, _⟩⟩ := h.own
  · simp [Value.ownBlock] at e
  · simp [Value.ownBlock] at e
    subst e
    have := h.mp
    unfold IsMp at this
    rw [hh] at this
    cases this
theorem Clean.later {k : Nat} (h : Clean w k) (hb : Below w.heap.size w w') : Clean w' k := by
  obtain ⟨cs, t, h⟩ := h
  exact ⟨cs, t, (hb.block _ (Array.getElem?_eq_some_iff.1 h).1).trans h⟩
theorem Cs.put {k : Ky} (h : Cs w wr mb v L ks) (hm : IsMp w' mb (ks ++ [k])) (hz : w'.heap.size = wr.heap.size) (ho : ∀ g, g ≠ mb → w'.heap[g]? = wr.heap[g]?) (h1 : w'.os = wr.os) (h2 : w'.tape = wr.tape) (h3 : w'.output = wr.output) : Cs w w' mb v L (ks ++ [k]) :=
  ⟨⟨h1.trans h.bel.os, h2.trans h.bel.tape, h3.trans h.bel.output, by rw [hz]; exact h.bel.size, fun g hg => (ho g (by have := h.mbB; omega)).trans (h.bel.block g hg)⟩, hm, h.mbB, h.own.keep fun g hg _ => ho g (fun e => h.apart (by rw [hg, e]))⟩
theorem Cs.app {L' : List Pr} {v' : Value} (h : Cs w wr mb v L ks) (hg : wr.grownBy w' v.ownBlock) (ho : OwnP w' w.heap.size v' L') : Cs w w' mb v' L' ks :=
  ⟨h.bel.grown hg h.bel.size (fun g e => (h.own.lt e).1), (hg.block _ h.mp.lt (fun e => h.apart e.symm)).trans h.mp, h.mbB, ho⟩
end
end Go.Proofs.YtkolflcjkofleaaDoor

namespace Go.Proofs.YtkolflcjkofleaaDoor
open Go.ChangeShapes Go.WideShapes Go.ChangeAt Go.RowKit
set_option linter.unusedVariables false
set_option maxRecDepth 8000
set_option linter.unusedSimpArgs false

theorem below_set {B : Nat} {w w' : World} (h : Below B w w') {g : Nat} (hg : B ≤ g) (cs : Array Value) : Below B w (w'.setRow g cs) :=
  ⟨h.os, h.tape, h.output, by simpa [World.setRow] using h.size, fun k hk => (setRow_other w' g k cs (by omega)).trans (h.block k hk)⟩
theorem x_one (k n : Int) (s : ByteArray) (p : Option Addr) (l c : Nat) : (#[Value.int .i64 k, .int .i64 n, .string s, .slice p l c].all fun v => v.oneCell') = true := by
  simp [Value.oneCell']
theorem k_one (p q : Option Addr) (n : Int) : (#[Value.pointer p, .pointer q, .int .i64 n].all fun v => v.oneCell') = true := by
  simp [Value.oneCell']
theorem run_mk (w : World) : (Instr.makeMap 76 none).run Tryd.prog w = .ok (.map (some w.heap.size)) (w.alloc (.map #[] 0)) := by kernel_rfl
set_option maxHeartbeats 8000000 in
theorem sameI_any (a b : Ex) (pa pb : Option Addr) (ca cb : Nat) (w : World) (ha : ∃ F, OwX w a pa F) (hb : ∃ G, OwX w b pb G) (hza : a.sz ≤ 1048576) : Calls Tryd.prog 15 #[.agg (a.cs pa ca), .agg (b.cs pb cb)] w fun r w' => r = .returned (.bool (sameX a b)) ∧ Below w.heap.size w w' := by
  have C0 := hide (Cmp.start (ca := ca) (cb := cb) ha hb)
  have EN := hide (fun ks (h : Cmp w a b pa pb ca cb [] ks) => h.end ha hb)
  have NO := hide (fun L r ks (h : Cmp w a b pa pb ca cb (L ++ [r]) ks) hh => h.no hh)
  have mk := run_mk
  obtain ⟨i0, hi, hz0, hz1, hz2⟩ := info_parts infoP
  unfold Ex.cs
  generalize hT : sameX a b = T at *
  have S0 : Cs w ((((w.alloc (.cells #[.int .i64 a.k, .int .i64 a.n, .string a.s, .slice pa a.l.length ca] 26)).alloc (.cells #[.int .i64 b.k, .int .i64 b.n, .string b.s, .slice pb b.l.length cb] 26)).alloc (.map #[] 0)).alloc (.cells #[.int .i64 a.k, .int .i64 a.n, .string a.s, .slice pa a.l.length ca, .int .i64 b.k, .int .i64 b.n, .string b.s, .slice pb b.l.length cb] 77)) (w.heap.size + 2) (.slice (some ⟨w.heap.size + 3, 0, none⟩) 1 1) [⟨a, b, pa, pb, ca, cb⟩] [] := by
    have z0 : (w.alloc (.cells #[.int .i64 a.k, .int .i64 a.n, .string a.s, .slice pa a.l.length ca] 26)).heap.size = w.heap.size + 1 := by simp
    have z1 : ((w.alloc (.cells #[.int .i64 a.k, .int .i64 a.n, .string a.s, .slice pa a.l.length ca] 26)).alloc (.cells #[.int .i64 b.k, .int .i64 b.n, .string b.s, .slice pb b.l.length cb] 26)).heap.size = w.heap.size + 2 := by simp
    have hb0 : Below w.heap.size w ((w.alloc (.cells #[.int .i64 a.k, .int .i64 a.n, .string a.s, .slice pa a.l.length ca] 26)).alloc (.cells #[.int .i64 b.k, .int .i64 b.n, .string b.s, .slice pb b.l.length cb] 26)) := ((Below.refl _ _).alloc (Nat.le_refl _) _).alloc (by simp) _
    generalize (w.alloc (.cells #[.int .i64 a.k, .int .i64 a.n, .string a.s, .slice pa a.l.length ca] 26)).alloc (.cells #[.int .i64 b.k, .int .i64 b.n, .string b.s, .slice pb b.l.length cb] 26) = W at *
    have z2 : (W.alloc (.map #[] 0)).heap.size = w.heap.size + 3 := by simp [z1]
    have hm : (W.alloc (.map #[] 0)).heap[w.heap.size + 2]? = some (.map #[] 0) := by rw [← z1]; exact Array.getElem?_push_size
    refine ⟨(hb0.alloc (by omega) _).alloc (by omega) _, ?_, by omega, ?_⟩
    · exact (((Below.refl (W.alloc (.map #[] 0)).heap.size (W.alloc (.map #[] 0))).alloc (Nat.le_refl _) _).block _ (by omega)).trans hm
    · refine ⟨rfl, .inr ⟨w.heap.size + 3, 1, #[.int .i64 a.k, .int .i64 a.n, .string a.s, .slice pa a.l.length ca, .int .i64 b.k, .int .i64 b.n, .string b.s, .slice pb b.l.length cb], rfl, by omega, ?_, Nat.le_refl _, by unfold maxLen; omega, rfl, rfl⟩⟩
      rw [← z2]
      exact Array.getElem?_push_size
  have H0 := hide S0
  clear S0 ha hb hT
  go_enter Tryd.func15, Tryd.ntmps15
  go_wp2
  go_loopg [6] (1 + a.sz) (fun k v wr => ∃ L ks, waitN L = k ∧ k ≤ 1048577 ∧ Cmp w a b pa pb ca cb L ks ∧ Cs w wr (w.heap.size + 2) v L ks)
  case atStart => exact ⟨_, _, rfl, by omega, unhide C0, unhide H0⟩
  case round =>
    clear C0 H0
    obtain ⟨L, ks, hk, hkm, hC, hS⟩ := hrel
    rcases List.eq_nil_or_concat L with rfl | ⟨L, r, rfl⟩
    · have E := hide (unhide EN ks hC)
      have BL := hide hS.bel
      have hv : ∃ pv cv, u6 = .slice pv 0 cv := by
        obtain ⟨_, ⟨h1, _⟩ | ⟨g, cap, cur, h1, _⟩⟩ := hS.own
        · exact ⟨_, _, h1⟩
        · exact ⟨_, _, h1⟩
      obtain ⟨pv, cv, rfl⟩ := hv
      clear hC hS hk
      go_wp2
      go_ret
      exact ⟨by rw [unhide E]; rfl, unhide BL⟩
    · rw [List.concat_eq_append] at hk hC hS
      have hwn := waitN_app L [r]
      have hwl := waitN_len L
      have hw1 : waitN [r] = 1 + r.x.sz := by simp [waitN]
      obtain ⟨g, cap, hv, hcap, hmx, hgl, hcell, hown⟩ := hS.own.at
      subst hv
      have hS2 : Cs w wr (w.heap.size + 2) (.slice (some ⟨g, 0, none⟩) L.length cap) L ks := ⟨hS.bel, hS.mp, hS.mbB, hown⟩
      have SS := hide hS2
      have CC := hide hC
      have c0 := hcell 0 (by omega)
      have c1 := hcell 1 (by omega)
      have c2 := hcell 2 (by omega)
      have c3 := hcell 3 (by omega)
      have c4 := hcell 4 (by omega)
      have c5 := hcell 5 (by omega)
      have c6 := hcell 6 (by omega)
      have c7 := hcell 7 (by omega)
      unfold maxLen at hmx
      generalize hn : L.length = n at *
      obtain ⟨x, y, p, q, c, d⟩ := r
      have QX := hide (sz_is x)
      simp only [Pr.cs] at c0 c1 c2 c3 c4 c5 c6 c7
      simp only at hw1
      have KN := hide (show 1 + x.sz + waitN L = gk by omega)
      have hnb : n ≤ 1048577 := by omega
      have hnn : ¬ ((n : Int) + 1 ≤ (n : Int)) := by omega
      have U0 := hide (fun w1 (hb : Below wr.heap.size wr w1) => (hb.cell (p := ⟨g, n * 8, none⟩) hgl).trans c0)
      have U1 := hide (fun w1 (hb : Below wr.heap.size wr w1) => (hb.cell (p := ⟨g, n * 8 + 1, none⟩) hgl).trans c1)
      have U2 := hide (fun w1 (hb : Below wr.heap.size wr w1) => (hb.cell (p := ⟨g, n * 8 + 2, none⟩) hgl).trans c2)
      have U3 := hide (fun w1 (hb : Below wr.heap.size wr w1) => (hb.cell (p := ⟨g, n * 8 + 3, none⟩) hgl).trans c3)
      have U4 := hide (fun w1 (hb : Below wr.heap.size wr w1) => (hb.cell (p := ⟨g, n * 8 + 4, none⟩) hgl).trans c4)
      have U5 := hide (fun w1 (hb : Below wr.heap.size wr w1) => (hb.cell (p := ⟨g, n * 8 + 4 + 1, none⟩) hgl).trans c5)
      have U6 := hide (fun w1 (hb : Below wr.heap.size wr w1) => (hb.cell (p := ⟨g, n * 8 + 4 + 2, none⟩) hgl).trans c6)
      have U7 := hide (fun w1 (hb : Below wr.heap.size wr w1) => (hb.cell (p := ⟨g, n * 8 + 4 + 3, none⟩) hgl).trans c7)
      clear hcell hown hS hC hS2 c0 c1 c2 c3 c4 c5 c6 c7 hk hwn hwl hw1 hgl
      generalize hxk : x.k = xk at *
      generalize hxn : x.n = xn at *
      generalize hxs : x.s = xs at *
      generalize hxl : x.l.length = xl at *
      generalize hyk : y.k = yk at *
      generalize hyn : y.n = yn at *
      generalize hys : y.s = ys at *
      generalize hyl : y.l.length = yl at *
      have XE := hide (show x.k = xk ∧ x.n = xn ∧ x.s = xs ∧ x.l.length = xl ∧ y.k = yk ∧ y.n = yn ∧ y.s = ys ∧ y.l.length = yl from ⟨hxk, hxn, hxs, hxl, hyk, hyn, hys, hyl⟩)
      clear hxk hxn hxs hxl hyk hyn hys hyl
      go_upto_region 5 with fail
      go_cut [8, 9] from 25 to 34 (fun v8 v9 w5 => ∃ gx gy, v8 = .pointer (some ⟨gx, 0, none⟩) ∧ v9 = .pointer (some ⟨gy, 0, none⟩) ∧ w5.heap[gx]? = some (.cells #[.int .i64 xk, .int .i64 xn, .string xs, .slice p xl c] 26 (0, 0)) ∧ w5.heap[gy]? = some (.cells #[.int .i64 yk, .int .i64 yn, .string ys, .slice q yl d] 26 (0, 0)) ∧ gx ≠ gy ∧ Below wr.heap.size wr w5)
      case first =>
        rename_i J7 K7 hJ7 hM7
        have D0 := hide (show Below wr.heap.size wr wr.drew from below_drew)
        refine wp_region_held_drew (S := fun w' => Below wr.heap.size wr w') (by kernel_rfl) (unhide D0) (fun hS => ?_)
        have HS := hide hS
        clear hS
        refine wpAnyH_take (i := 0) (v := .slice (some ⟨g, 0, none⟩) (n + 1) cap) rfl (by kernel_rfl) (by kernel_rfl) (by kernel_rfl) (fun _ _ _ h => h) (Or.inl ⟨by rfl, fun w hc => ?_⟩) (unhide HS) ?_
        · clear hc; go_simp
        go_simp
        refine wpAnyH_take (i := 1) (v := .int .i64 n) rfl (by kernel_rfl) (by kernel_rfl) (by kernel_rfl) (fun _ _ _ h => h) (Or.inl ⟨by rfl, fun w hc => ?_⟩) (unhide HS) ?_
        · clear hc; go_simp
        go_simp
        refine wpAnyH_take (i := 2) (v := .pointer (some ⟨g, n * 8, none⟩)) rfl (by kernel_rfl) (by kernel_rfl) (by kernel_rfl) (fun _ _ _ h => h) (Or.inl ⟨by rfl, fun w hc => ?_⟩) (unhide HS) ?_
        · clear hc; go_simp
        go_simp
        refine wpAnyH_take (i := 3) (v := .pointer (some ⟨g, n * 8, none⟩)) rfl (by kernel_rfl) (by kernel_rfl) (by kernel_rfl) (fun _ _ _ h => h) (Or.inl ⟨by rfl, fun w hc => ?_⟩) (unhide HS) ?_
        · clear hc; go_simp
        go_simp
        refine wpAnyH_take (i := 4) (v := .agg #[.int .i64 xk, .int .i64 xn, .string xs, .slice p xl c]) rfl (by kernel_rfl) (by kernel_rfl) (by kernel_rfl) (fun _ _ _ h => h) (Or.inl ⟨by rfl, fun w hc => ?_⟩) (unhide HS) ?_
        · have q0 := unhide U0 _ hc; have q1 := unhide U1 _ hc; have q2 := unhide U2 _ hc; have q3 := unhide U3 _ hc; clear hc; go_simp
        go_simp
        refine wpAnyH_take (i := 5) (v := .slice (some ⟨g, 0, none⟩) (n + 1) cap) rfl (by kernel_rfl) (by kernel_rfl) (by kernel_rfl) (fun _ _ _ h => h) (Or.inl ⟨by rfl, fun w hc => ?_⟩) (unhide HS) ?_
        · clear hc; go_simp
        go_simp
        refine wpAnyH_take (i := 6) (v := .int .i64 n) rfl (by kernel_rfl) (by kernel_rfl) (by kernel_rfl) (fun _ _ _ h => h) (Or.inl ⟨by rfl, fun w hc => ?_⟩) (unhide HS) ?_
        · clear hc; go_simp
        go_simp
        refine wpAnyH_take (i := 7) (v := .pointer (some ⟨g, n * 8, none⟩)) rfl (by kernel_rfl) (by kernel_rfl) (by kernel_rfl) (fun _ _ _ h => h) (Or.inl ⟨by rfl, fun w hc => ?_⟩) (unhide HS) ?_
        · clear hc; go_simp
        go_simp
        refine wpAnyH_take (i := 8) (v := .pointer (some ⟨g, n * 8 + 4, none⟩)) rfl (by kernel_rfl) (by kernel_rfl) (by kernel_rfl) (fun _ _ _ h => h) (Or.inl ⟨by rfl, fun w hc => ?_⟩) (unhide HS) ?_
        · clear hc; go_simp
        go_simp
        refine wpAnyH_take (i := 9) (v := .agg #[.int .i64 yk, .int .i64 yn, .string ys, .slice q yl d]) rfl (by kernel_rfl) (by kernel_rfl) (by kernel_rfl) (fun _ _ _ h => h) (Or.inl ⟨by rfl, fun w hc => ?_⟩) (unhide HS) ?_
        · have q0 := unhide U4 _ hc; have q1 := unhide U5 _ hc; have q2 := unhide U6 _ hc; have q3 := unhide U7 _ hc; clear hc; go_simp
        go_simp
        refine wpAnyH_ready (rs := [10, 11]) (by kernel_rfl) (by simp) ?_
        refine AllReadyH.cons rfl (fun K2 hK => ?_) (AllReadyH.cons rfl (fun K2 hK => ?_) AllReadyH.nil)
        · go_simp
          have R1 := hide (show ((wr.alloc (.cells #[.int .i64 0, .int .i64 0, .string ⟨#[]⟩, .slice none 0 0] 26)).drew).heap[wr.heap.size]? = some (.cells #[.int .i64 0, .int .i64 0, .string ⟨#[]⟩, .slice none 0 0] 26 (0, 0)) from Array.getElem?_push_size)
          have D1 := hide (show Below wr.heap.size wr ((wr.alloc (.cells #[.int .i64 0, .int .i64 0, .string ⟨#[]⟩, .slice none 0 0] 26)).drew) from (((Below.refl wr.heap.size wr).alloc (Nat.le_refl _) (.cells #[.int .i64 0, .int .i64 0, .string ⟨#[]⟩, .slice none 0 0] 26)).trans ((below_drew (w := wr.alloc (.cells #[.int .i64 0, .int .i64 0, .string ⟨#[]⟩, .slice none 0 0] 26))).mono (by simp))))
          have z1 : ((wr.alloc (.cells #[.int .i64 0, .int .i64 0, .string ⟨#[]⟩, .slice none 0 0] 26)).drew).heap.size = wr.heap.size + 1 := show (wr.alloc (.cells #[.int .i64 0, .int .i64 0, .string ⟨#[]⟩, .slice none 0 0] 26)).heap.size = _ by simp
          generalize (wr.alloc (.cells #[.int .i64 0, .int .i64 0, .string ⟨#[]⟩, .slice none 0 0] 26)).drew = w1 at *
          refine hK.out _ _ (unhide D1) (fun hS => ?_)
          clear HS
          have HS := hide hS
          clear hS hK K2
          refine wpAnyH_ready (rs := [11]) (by kernel_rfl) (by simp) ?_
          refine AllReadyH.cons rfl (fun K2 hK => ?_) AllReadyH.nil
          go_simp
          have R2 := hide (show (w1.alloc (.cells #[.int .i64 0, .int .i64 0, .string ⟨#[]⟩, .slice none 0 0] 26)).heap[w1.heap.size]? = some (.cells #[.int .i64 0, .int .i64 0, .string ⟨#[]⟩, .slice none 0 0] 26 (0, 0)) from Array.getElem?_push_size)
          have D2 := hide ((unhide D1).alloc (unhide D1).size (.cells #[.int .i64 0, .int .i64 0, .string ⟨#[]⟩, .slice none 0 0] 26))
          have R1b := hide (row_keep (unhide R1) ((Below.refl w1.heap.size w1).alloc (Nat.le_refl _) (.cells #[.int .i64 0, .int .i64 0, .string ⟨#[]⟩, .slice none 0 0] 26)))
          rw [z1] at R2
          clear R1 D1
          generalize w1.alloc (.cells #[.int .i64 0, .int .i64 0, .string ⟨#[]⟩, .slice none 0 0] 26) = w2 at *
          refine hK.out _ _ (unhide D2) (fun hS => ?_)
          clear HS
          have HS := hide hS
          clear hS hK K2
          refine wpAnyH_ready (rs := [12]) (by kernel_rfl) (by simp) ?_
          refine AllReadyH.cons rfl (fun K2 hK => ?_) AllReadyH.nil
          rw [if_pos (by rfl)]
          refine wp_store_row 26 _ _ rfl wr.heap.size #[.int .i64 xk, .int .i64 xn, .string xs, .slice p xl c] rfl rfl 26 #[.int .i64 0, .int .i64 0, .string ⟨#[]⟩, .slice none 0 0] (unhide R1b) (by kernel_rfl) rfl (x_one _ _ _ _ _ _) ?_
          have D3 := hide (below_set (unhide D2) (g := wr.heap.size) (by omega) #[.int .i64 xk, .int .i64 xn, .string xs, .slice p xl c])
          refine hK.out _ _ (unhide D3) (fun hS => ?_)
          clear HS
          have HS := hide hS
          clear hS hK K2
          have RY := hide ((setRow_other w2 wr.heap.size (wr.heap.size + 1) #[.int .i64 xk, .int .i64 xn, .string xs, .slice p xl c] (by omega)).trans (unhide R2))
          have RX := hide (setRow_heap w2 wr.heap.size #[.int .i64 0, .int .i64 0, .string ⟨#[]⟩, .slice none 0 0] #[.int .i64 xk, .int .i64 xn, .string xs, .slice p xl c] 26 (0, 0) (unhide R1b))
          clear R1b R2
          generalize w2.setRow wr.heap.size #[.int .i64 xk, .int .i64 xn, .string xs, .slice p xl c] = w3 at *
          refine wpAnyH_ready (rs := [13]) (by kernel_rfl) (by simp) ?_
          refine AllReadyH.cons rfl (fun K2 hK => ?_) AllReadyH.nil
          rw [if_pos (by rfl)]
          refine wp_store_row 26 _ _ rfl (wr.heap.size + 1) #[.int .i64 yk, .int .i64 yn, .string ys, .slice q yl d] rfl rfl 26 #[.int .i64 0, .int .i64 0, .string ⟨#[]⟩, .slice none 0 0] (unhide RY) (by kernel_rfl) rfl (x_one _ _ _ _ _ _) ?_
          have D4 := hide (below_set (unhide D3) (g := (wr.heap.size + 1)) (by omega) #[.int .i64 yk, .int .i64 yn, .string ys, .slice q yl d])
          refine hK.out _ _ (unhide D4) (fun hS => ?_)
          clear HS
          have HS := hide hS
          clear hS hK K2
          have RX2 := (setRow_other w3 (wr.heap.size + 1) wr.heap.size #[.int .i64 yk, .int .i64 yn, .string ys, .slice q yl d] (by omega)).trans (unhide RX)
          have RY2 := setRow_heap w3 (wr.heap.size + 1) #[.int .i64 0, .int .i64 0, .string ⟨#[]⟩, .slice none 0 0] #[.int .i64 yk, .int .i64 yn, .string ys, .slice q yl d] 26 (0, 0) (unhide RY)
          refine wpAnyH_done (by kernel_rfl) ?_ _
          refine hM7 _ _ (Met.intro (hJ7 _ _ ?_))
          (repeat apply Exists.intro)
          refine ⟨?_, rfl⟩
          exact ⟨wr.heap.size, (wr.heap.size + 1), rfl, rfl, RX2, RY2, by omega, unhide D4⟩
        · go_simp
          have R1 := hide (show ((wr.alloc (.cells #[.int .i64 0, .int .i64 0, .string ⟨#[]⟩, .slice none 0 0] 26)).drew).heap[wr.heap.size]? = some (.cells #[.int .i64 0, .int .i64 0, .string ⟨#[]⟩, .slice none 0 0] 26 (0, 0)) from Array.getElem?_push_size)
          have D1 := hide (show Below wr.heap.size wr ((wr.alloc (.cells #[.int .i64 0, .int .i64 0, .string ⟨#[]⟩, .slice none 0 0] 26)).drew) from (((Below.refl wr.heap.size wr).alloc (Nat.le_refl _) (.cells #[.int .i64 0, .int .i64 0, .string ⟨#[]⟩, .slice none 0 0] 26)).trans ((below_drew (w := wr.alloc (.cells #[.int .i64 0, .int .i64 0, .string ⟨#[]⟩, .slice none 0 0] 26))).mono (by simp))))
          have z1 : ((wr.alloc (.cells #[.int .i64 0, .int .i64 0, .string ⟨#[]⟩, .slice none 0 0] 26)).drew).heap.size = wr.heap.size + 1 := show (wr.alloc (.cells #[.int .i64 0, .int .i64 0, .string ⟨#[]⟩, .slice none 0 0] 26)).heap.size = _ by simp
          generalize (wr.alloc (.cells #[.int .i64 0, .int .i64 0, .string ⟨#[]⟩, .slice none 0 0] 26)).drew = w1 at *
          refine hK.out _ _ (unhide D1) (fun hS => ?_)
          clear HS
          have HS := hide hS
          clear hS hK K2
          refine wpAnyH_ready (rs := [10]) (by kernel_rfl) (by simp) ?_
          refine AllReadyH.cons rfl (fun K2 hK => ?_) AllReadyH.nil
          go_simp
          have R2 := hide (show (w1.alloc (.cells #[.int .i64 0, .int .i64 0, .string ⟨#[]⟩, .slice none 0 0] 26)).heap[w1.heap.size]? = some (.cells #[.int .i64 0, .int .i64 0, .string ⟨#[]⟩, .slice none 0 0] 26 (0, 0)) from Array.getElem?_push_size)
          have D2 := hide ((unhide D1).alloc (unhide D1).size (.cells #[.int .i64 0, .int .i64 0, .string ⟨#[]⟩, .slice none 0 0] 26))
          have R1b := hide (row_keep (unhide R1) ((Below.refl w1.heap.size w1).alloc (Nat.le_refl _) (.cells #[.int .i64 0, .int .i64 0, .string ⟨#[]⟩, .slice none 0 0] 26)))
          rw [z1] at R2
          clear R1 D1
          generalize w1.alloc (.cells #[.int .i64 0, .int .i64 0, .string ⟨#[]⟩, .slice none 0 0] 26) = w2 at *
          refine hK.out _ _ (unhide D2) (fun hS => ?_)
          clear HS
          have HS := hide hS
          clear hS hK K2
          refine wpAnyH_ready (rs := [12]) (by kernel_rfl) (by simp) ?_
          refine AllReadyH.cons rfl (fun K2 hK => ?_) AllReadyH.nil
          rw [if_pos (by rfl)]
          refine wp_store_row 26 _ _ rfl (wr.heap.size + 1) #[.int .i64 xk, .int .i64 xn, .string xs, .slice p xl c] rfl rfl 26 #[.int .i64 0, .int .i64 0, .string ⟨#[]⟩, .slice none 0 0] (unhide R2) (by kernel_rfl) rfl (x_one _ _ _ _ _ _) ?_
          have D3 := hide (below_set (unhide D2) (g := (wr.heap.size + 1)) (by omega) #[.int .i64 xk, .int .i64 xn, .string xs, .slice p xl c])
          refine hK.out _ _ (unhide D3) (fun hS => ?_)
          clear HS
          have HS := hide hS
          clear hS hK K2
          have RY := hide ((setRow_other w2 (wr.heap.size + 1) wr.heap.size #[.int .i64 xk, .int .i64 xn, .string xs, .slice p xl c] (by omega)).trans (unhide R1b))
          have RX := hide (setRow_heap w2 (wr.heap.size + 1) #[.int .i64 0, .int .i64 0, .string ⟨#[]⟩, .slice none 0 0] #[.int .i64 xk, .int .i64 xn, .string xs, .slice p xl c] 26 (0, 0) (unhide R2))
          clear R1b R2
          generalize w2.setRow (wr.heap.size + 1) #[.int .i64 xk, .int .i64 xn, .string xs, .slice p xl c] = w3 at *
          refine wpAnyH_ready (rs := [13]) (by kernel_rfl) (by simp) ?_
          refine AllReadyH.cons rfl (fun K2 hK => ?_) AllReadyH.nil
          rw [if_pos (by rfl)]
          refine wp_store_row 26 _ _ rfl wr.heap.size #[.int .i64 yk, .int .i64 yn, .string ys, .slice q yl d] rfl rfl 26 #[.int .i64 0, .int .i64 0, .string ⟨#[]⟩, .slice none 0 0] (unhide RY) (by kernel_rfl) rfl (x_one _ _ _ _ _ _) ?_
          have D4 := hide (below_set (unhide D3) (g := wr.heap.size) (by omega) #[.int .i64 yk, .int .i64 yn, .string ys, .slice q yl d])
          refine hK.out _ _ (unhide D4) (fun hS => ?_)
          clear HS
          have HS := hide hS
          clear hS hK K2
          have RX2 := (setRow_other w3 wr.heap.size (wr.heap.size + 1) #[.int .i64 yk, .int .i64 yn, .string ys, .slice q yl d] (by omega)).trans (unhide RX)
          have RY2 := setRow_heap w3 wr.heap.size #[.int .i64 0, .int .i64 0, .string ⟨#[]⟩, .slice none 0 0] #[.int .i64 yk, .int .i64 yn, .string ys, .slice q yl d] 26 (0, 0) (unhide RY)
          refine wpAnyH_done (by kernel_rfl) ?_ _
          refine hM7 _ _ (Met.intro (hJ7 _ _ ?_))
          (repeat apply Exists.intro)
          refine ⟨?_, rfl⟩
          exact ⟨(wr.heap.size + 1), wr.heap.size, rfl, rfl, RX2, RY2, by omega, unhide D4⟩
      case rest =>
        obtain ⟨gx, gy, rfl, rfl, hgx, hgy, hne, hbc⟩ := hcut
        have S1 := hide ((unhide SS).later hbc)
        have X0 := Lib.cell_of_heap hgx 0
        have X1 := Lib.cell_of_heap hgx 1
        have X2 := Lib.cell_of_heap hgx 2
        have X3 := Lib.cell_of_heap hgx 3
        have Y0 := Lib.cell_of_heap hgy 0
        have Y1 := Lib.cell_of_heap hgy 1
        have Y2 := Lib.cell_of_heap hgy 2
        have Y3 := Lib.cell_of_heap hgy 3
        have GX := hide hgx
        have GY := hide hgy
        have NQ := hide (fun h => unhide NO L _ ks (unhide CC) h)
        have HI := hide (headX_iff x y)
        rw [(unhide XE).1, (unhide XE).2.1, (unhide XE).2.2.1, (unhide XE).2.2.2.1, (unhide XE).2.2.2.2.1, (unhide XE).2.2.2.2.2.1, (unhide XE).2.2.2.2.2.2.1, (unhide XE).2.2.2.2.2.2.2] at HI
        have HF := hide (show ¬ (xk = yk ∧ xn = yn ∧ xs = ys ∧ xl = yl) → headX x y = false from fun h => by
          cases e : headX x y with
          | false => rfl
          | true => exact absurd ((unhide HI).1 e) h)
        clear SS U0 U1 U2 U3 U4 U5 U6 U7 hgx hgy hbc
        by_cases e1 : xk = yk
        rotate_left
        · have q1 : (xk == yk) = false := beq_eq_false_iff_ne.2 e1
          have E := hide (unhide NQ (unhide HF (fun h => e1 h.1)))
          have BB := hide (unhide S1).bel
          go_wp2
          go_ret
          exact ⟨by rw [unhide E]; rfl, unhide BB⟩
        subst e1
        by_cases e2 : xn = yn
        rotate_left
        · have q1 : (xn == yn) = false := beq_eq_false_iff_ne.2 e2
          have E := hide (unhide NQ (unhide HF (fun h => e2 h.2.1)))
          have BB := hide (unhide S1).bel
          go_wp2
          go_ret
          exact ⟨by rw [unhide E]; rfl, unhide BB⟩
        subst e2
        by_cases e3 : xs = ys
        rotate_left
        · have q1 : (xs.toList == ys.toList) = false := str_ne e3
          have E := hide (unhide NQ (unhide HF (fun h => e3 h.2.2.1)))
          have BB := hide (unhide S1).bel
          go_wp2
          go_ret
          exact ⟨by rw [unhide E]; rfl, unhide BB⟩
        subst e3
        by_cases e4 : xl = yl
        rotate_left
        · have q1 : ((xl : Int) == (yl : Int)) = false := beq_eq_false_iff_ne.2 (by omega)
          have q2 : (xl : Int) ≠ (yl : Int) := by omega
          have E := hide (unhide NQ (unhide HF (fun h => e4 h.2.2.2)))
          have BB := hide (unhide S1).bel
          go_wp2
          go_ret
          exact ⟨by rw [unhide E]; rfl, unhide BB⟩
        subst e4
        have HH := hide ((unhide HI).2 ⟨rfl, rfl, rfl, rfl⟩)
        clear HI HF NQ
        by_cases h0 : xl = 0
        · subst h0
          have CD := hide ((unhide CC).drop ⟨unhide HH, .inl (unhide XE).2.2.2.1⟩)
          have WN := hide (show waitN L < gk ∧ waitN L ≤ 1048577 by have := unhide KN; omega)
          go_wp2
          go_roundg (waitN L)
          case measure => exact (unhide WN).1
          case rel => exact ⟨L, ks, rfl, (unhide WN).2, unhide CD, unhide S1⟩
        · have hC := unhide CC
          obtain ⟨⟨F1, o1⟩, ⟨F2, o2⟩⟩ := hC.ok _ (List.mem_append.2 (.inr (List.mem_singleton.2 rfl)))
          simp only at o1 o2
          obtain ⟨A, ep, clA⟩ := OwX.at o1 (by rw [(unhide XE).2.2.2.1]; omega)
          obtain ⟨A2, eq, clA2⟩ := OwX.at o2 (by rw [(unhide XE).2.2.2.2.2.2.2]; omega)
          subst ep eq
          have O1 := hide o1
          have O2 := hide o2
          have BW := hide (unhide S1).bel
          have CA := hide clA
          have CA2 := hide clA2
          have KC := hide hC.clean
          clear o1 o2 hC clA clA2
          have hp0 : (0 : Int) < (xl : Int) := by omega
          have hp1 : ¬ ((xl : Int) ≤ 0) := by omega
          have hpz : ((xl : Int) == 0) = false := beq_eq_false_iff_ne.2 (by omega)
          have hxb : xl ≤ 1048577 := by have := unhide KN; have := unhide QX; have := (unhide XE).2.2.2.1; omega
          have V3 := hide (fun w1 (hb : Below wc.heap.size wc w1) => (hb.cell (p := ⟨gx, 3, none⟩) (Array.getElem?_eq_some_iff.1 (unhide GX)).1).trans X3)
          have W3 := hide (fun w1 (hb : Below wc.heap.size wc w1) => (hb.cell (p := ⟨gy, 3, none⟩) (Array.getElem?_eq_some_iff.1 (unhide GY)).1).trans Y3)
          go_upto_region 10 with fail
          have D0 := hide (show Below wc.heap.size wc wc.drew from below_drew)
          refine wp_region_held_drew (S := fun w' => Below wc.heap.size wc w') (by kernel_rfl) (unhide D0) (fun hS => ?_)
          have HS := hide hS
          clear hS
          refine wpAnyH_take (i := 0) (v := .pointer (some ⟨gx, 3, none⟩)) rfl (by kernel_rfl) (by kernel_rfl) (by kernel_rfl) (fun _ _ _ h => h) (Or.inl ⟨by rfl, fun w hc => ?_⟩) (unhide HS) ?_
          · clear hc; go_simp
          go_simp
          refine wpAnyH_take (i := 1) (v := .slice (some ⟨A, 0, none⟩) xl c) rfl (by kernel_rfl) (by kernel_rfl) (by kernel_rfl) (fun _ _ _ h => h) (Or.inl ⟨by rfl, fun w hc => ?_⟩) (unhide HS) ?_
          · have q := unhide V3 _ hc; clear hc; go_simp
          go_simp
          refine wpAnyH_take (i := 2) (v := .pointer (some ⟨A, 0, none⟩)) rfl (by kernel_rfl) (by kernel_rfl) (by kernel_rfl) (fun _ _ _ h => h) (Or.inl ⟨by rfl, fun w hc => ?_⟩) (unhide HS) ?_
          · clear hc; go_simp
          go_simp
          refine wpAnyH_take (i := 3) (v := .pointer (some ⟨gy, 3, none⟩)) rfl (by kernel_rfl) (by kernel_rfl) (by kernel_rfl) (fun _ _ _ h => h) (Or.inl ⟨by rfl, fun w hc => ?_⟩) (unhide HS) ?_
          · clear hc; go_simp
          go_simp
          refine wpAnyH_take (i := 4) (v := .slice (some ⟨A2, 0, none⟩) xl d) rfl (by kernel_rfl) (by kernel_rfl) (by kernel_rfl) (fun _ _ _ h => h) (Or.inl ⟨by rfl, fun w hc => ?_⟩) (unhide HS) ?_
          · have q := unhide W3 _ hc; clear hc; go_simp
          go_simp
          refine wpAnyH_take (i := 5) (v := .pointer (some ⟨A2, 0, none⟩)) rfl (by kernel_rfl) (by kernel_rfl) (by kernel_rfl) (fun _ _ _ h => h) (Or.inl ⟨by rfl, fun w hc => ?_⟩) (unhide HS) ?_
          · clear hc; go_simp
          go_simp
          refine wpAnyH_take (i := 6) (v := .pointer (some ⟨gx, 3, none⟩)) rfl (by kernel_rfl) (by kernel_rfl) (by kernel_rfl) (fun _ _ _ h => h) (Or.inl ⟨by rfl, fun w hc => ?_⟩) (unhide HS) ?_
          · clear hc; go_simp
          go_simp
          refine wpAnyH_take (i := 7) (v := .slice (some ⟨A, 0, none⟩) xl c) rfl (by kernel_rfl) (by kernel_rfl) (by kernel_rfl) (fun _ _ _ h => h) (Or.inl ⟨by rfl, fun w hc => ?_⟩) (unhide HS) ?_
          · have q := unhide V3 _ hc; clear hc; go_simp
          go_simp
          refine wpAnyH_take (i := 8) (v := .int .i64 xl) rfl (by kernel_rfl) (by kernel_rfl) (by kernel_rfl) (fun _ _ _ h => h) (Or.inl ⟨by rfl, fun w hc => ?_⟩) (unhide HS) ?_
          · clear hc; go_simp
          go_simp
          refine wpAnyH_take (i := 9) (v := .agg #[.pointer (some ⟨A, 0, none⟩), .pointer (some ⟨A2, 0, none⟩), .int .i64 xl]) rfl (by kernel_rfl) (by kernel_rfl) (by kernel_rfl) (fun _ _ _ h => h) (Or.inl ⟨by rfl, fun w hc => ?_⟩) (unhide HS) ?_
          · clear hc; go_simp
          go_simp
          refine wpAnyH_ready (rs := [10]) (by kernel_rfl) (by simp) ?_
          refine AllReadyH.cons rfl (fun K2 hK => ?_) AllReadyH.nil
          go_simp
          have R1 := hide (show ((wc.alloc (.cells #[.pointer none, .pointer none, .int .i64 0] 81)).drew).heap[wc.heap.size]? = some (.cells #[.pointer none, .pointer none, .int .i64 0] 81 (0, 0)) from Array.getElem?_push_size)
          have D1 := hide (show Below wc.heap.size wc ((wc.alloc (.cells #[.pointer none, .pointer none, .int .i64 0] 81)).drew) from (((Below.refl wc.heap.size wc).alloc (Nat.le_refl _) (.cells #[.pointer none, .pointer none, .int .i64 0] 81)).trans ((below_drew (w := wc.alloc (.cells #[.pointer none, .pointer none, .int .i64 0] 81))).mono (by simp))))
          generalize (wc.alloc (.cells #[.pointer none, .pointer none, .int .i64 0] 81)).drew = w1 at *
          refine hK.out _ _ (unhide D1) (fun hS => ?_)
          clear HS
          have HS := hide hS
          clear hS hK K2
          refine wpAnyH_ready (rs := [11]) (by kernel_rfl) (by simp) ?_
          refine AllReadyH.cons rfl (fun K2 hK => ?_) AllReadyH.nil
          rw [if_pos (by rfl)]
          refine wp_store_row 81 _ _ rfl wc.heap.size #[.pointer (some ⟨A, 0, none⟩), .pointer (some ⟨A2, 0, none⟩), .int .i64 xl] rfl rfl 81 #[.pointer none, .pointer none, .int .i64 0] (unhide R1) (by kernel_rfl) rfl (k_one _ _ _) ?_
          have D2 := hide (below_set (unhide D1) (g := wc.heap.size) (Nat.le_refl _) #[.pointer (some ⟨A, 0, none⟩), .pointer (some ⟨A2, 0, none⟩), .int .i64 xl])
          have R2 := hide (setRow_heap w1 wc.heap.size #[.pointer none, .pointer none, .int .i64 0] #[.pointer (some ⟨A, 0, none⟩), .pointer (some ⟨A2, 0, none⟩), .int .i64 xl] 81 (0, 0) (unhide R1))
          clear D1 R1
          generalize w1.setRow wc.heap.size #[.pointer (some ⟨A, 0, none⟩), .pointer (some ⟨A2, 0, none⟩), .int .i64 xl] = w2 at *
          refine hK.out _ _ (unhide D2) (fun hS => ?_)
          clear HS
          have HS := hide hS
          clear hS hK K2
          refine wpAnyH_done (by kernel_rfl) ?_ _
          clear HS D0
          have S2 := hide ((unhide S1).later (unhide D2))
          have l0 := Lib.cell_of_heap (unhide R2) 0
          have l1 := Lib.cell_of_heap (unhide R2) 1
          have l2 := Lib.cell_of_heap (unhide R2) 2
          have B2 := hide ((unhide BW).trans ((unhide D2).mono (unhide BW).size))
          have GX2 := hide (row_keep (unhide GX) (unhide D2))
          have GY2 := hide (row_keep (unhide GY) (unhide D2))
          have LK := run_look (unhide S2).mp ⟨A, A2, xl⟩ ((unhide CA).later (unhide B2)) ((unhide CA2).later (unhide B2)) (fun l hl => ⟨(unhide KC l hl).1.later (unhide B2), (unhide KC l hl).2.later (unhide B2)⟩)
          unfold Ky.v at LK
          simp only at LK
          clear S1 GX GY V3 W3 X0 X1 X2 X3 Y0 Y1 Y2 Y3 BW
          cases hq : hasK ks ⟨A, A2, xl⟩ with
          | true =>
            rw [hq] at LK
            have CD := hide ((unhide CC).drop ⟨unhide HH, .inr ⟨A, A2, rfl, rfl, by simp only; rw [(unhide XE).2.2.2.1]; exact (hasK_iff _ _).1 hq⟩⟩)
            have WN := hide (show waitN L < gk ∧ waitN L ≤ 1048577 by have := unhide KN; omega)
            clear hq
            go_wp2
            go_roundg (waitN L)
            case measure => exact (unhide WN).1
            case rel => exact ⟨L, ks, rfl, (unhide WN).2, unhide CD, (unhide S2).later ((Below.refl _ _).alloc (Nat.le_refl _) _)⟩
          | false =>
            rw [hq] at LK
            have HQ := hide hq
            clear hq
            have hb3 : Below w2.heap.size w2 (w2.alloc (.cells #[] 82)) := (Below.refl _ _).alloc (Nat.le_refl _) _
            have S3 := hide ((unhide S2).later hb3)
            have B3 := hide ((unhide B2).trans (hb3.mono (unhide B2).size))
            have GX3 := hide (row_keep (unhide GX2) hb3)
            have GY3 := hide (row_keep (unhide GY2) hb3)
            have m0 := Lib.cell_of_heap (row_keep (unhide R2) hb3) 0
            have m1 := Lib.cell_of_heap (row_keep (unhide R2) hb3) 1
            have m2 := Lib.cell_of_heap (row_keep (unhide R2) hb3) 2
            obtain ⟨w4, hput, hm4, hz4, ho4, s41, s42, s43⟩ := run_put (unhide S3).mp ⟨A, A2, xl⟩ ((unhide CA).later (unhide B3)) ((unhide CA2).later (unhide B3)) (fun l hl => ⟨(unhide KC l hl).1.later (unhide B3), (unhide KC l hl).2.later (unhide B3)⟩) (unhide HQ)
            have hneX : gx ≠ w.heap.size + 2 := fun e => by have h1 := unhide GX3; have h2 := (unhide S3).mp; unfold IsMp at h2; rw [e, h2] at h1; cases h1
            have hneY : gy ≠ w.heap.size + 2 := fun e => by have h1 := unhide GY3; have h2 := (unhide S3).mp; unfold IsMp at h2; rw [e, h2] at h1; cases h1
            have S4 := hide ((unhide S3).put hm4 hz4 ho4 s41 s42 s43)
            have GX4 := hide ((ho4 gx hneX).trans (unhide GX3))
            have GY4 := hide ((ho4 gy hneY).trans (unhide GY3))
            have g43 := Lib.cell_of_heap (unhide GX4) 3
            unfold Ky.v at hput
            simp only at hput
            clear hb3 S2 B2 GX2 GY2 hm4 hz4 ho4 s41 s42 s43 hneX hneY S3 B3 GX3 GY3 CA CA2 KC HQ D2
            go_wp2
            clear hput LK m0 m1 m2 g43 l0 l1 l2 R2
            go_loopw [6, 93] (fun v i wq => ∃ (j : Nat) (M : List Pr), j ≤ xl ∧ i = .int .i64 j ∧ kids w x y ⟨A, A2, xl⟩ j M ∧ waitN M = j + szX (x.l.take j) ∧ Cs w wq (w.heap.size + 2) v (L ++ M) (ks ++ [⟨A, A2, xl⟩]) ∧ wq.heap[gx]? = some (.cells #[.int .i64 xk, .int .i64 xn, .string xs, .slice (some ⟨A, 0, none⟩) xl c] 26 (0, 0)) ∧ wq.heap[gy]? = some (.cells #[.int .i64 xk, .int .i64 xn, .string xs, .slice (some ⟨A2, 0, none⟩) xl d] 26 (0, 0))) (fun _ i _ => xl - (intOf i).toNat)
            case atStart => exact ⟨0, [], Nat.zero_le _, rfl, ⟨rfl, fun i hi => by omega⟩, by simp [waitN, szX], by rw [List.append_nil]; exact unhide S4, unhide GX4, unhide GY4⟩
            case round =>
              clear S4 GX4 GY4
              obtain ⟨j, M, hj, rfl, hkid, hwm, hcs, hgx, hgy⟩ := hrel
              by_cases hlt : j < xl
              · obtain ⟨c1, cc1, G1, a0, a1, a2, a3, oe1⟩ := OwX.cell (unhide O1) (i := j) (by rw [(unhide XE).2.2.2.1]; omega)
                obtain ⟨d1, cd1, G2, b0, b1, b2, b3, oe2⟩ := OwX.cell (unhide O2) (i := j) (by rw [(unhide XE).2.2.2.2.2.2.2]; omega)
                have lA : A < w.heap.size := World.block_lt_of_cell? w _ a0
                have lB : A2 < w.heap.size := World.block_lt_of_cell? w _ b0
                have KD := hide (hkid.snoc a3 b3 ⟨_, oe1⟩ ⟨_, oe2⟩)
                have WM := hide (show waitN (M ++ [⟨xAt x.l j, xAt y.l j, c1, d1, cc1, cd1⟩]) = (j + 1) + szX (x.l.take (j + 1)) by
                  rw [waitN_app, hwm, szX_take _ _ (by rw [(unhide XE).2.2.2.1]; exact hlt)]
                  simp only [waitN]
                  omega)
                have PC := hide (fun (w' : World) (v : Value) (h : w'.ownsRow w.heap.size 77 8 v ((L ++ M).length + 1) (cellsP (L ++ M) ++ (Pr.mk (xAt x.l j) (xAt y.l j) c1 d1 cc1 cd1).cs)) => ownP_app h)
                have AS := hide (List.append_assoc L M [⟨xAt x.l j, xAt y.l j, c1, d1, cc1, cd1⟩])
                have P1 := hide (pr_one ⟨xAt x.l j, xAt y.l j, c1, d1, cc1, cd1⟩)
                have LN := hide (show (L ++ M).length = n + j by rw [List.length_append, hn, hkid.1])
                have I0 := hide (fun w1 (hb : Below w.heap.size w w1) => (hb.cell (p := ⟨A, j * 4, none⟩) lA).trans a0)
                have I1 := hide (fun w1 (hb : Below w.heap.size w w1) => (hb.cell (p := ⟨A, j * 4 + 1, none⟩) lA).trans a1)
                have I2 := hide (fun w1 (hb : Below w.heap.size w w1) => (hb.cell (p := ⟨A, j * 4 + 2, none⟩) lA).trans a2)
                have I3 := hide (fun w1 (hb : Below w.heap.size w w1) => (hb.cell (p := ⟨A, j * 4 + 3, none⟩) lA).trans a3)
                have J0 := hide (fun w1 (hb : Below w.heap.size w w1) => (hb.cell (p := ⟨A2, j * 4, none⟩) lB).trans b0)
                have J1 := hide (fun w1 (hb : Below w.heap.size w w1) => (hb.cell (p := ⟨A2, j * 4 + 1, none⟩) lB).trans b1)
                have J2 := hide (fun w1 (hb : Below w.heap.size w w1) => (hb.cell (p := ⟨A2, j * 4 + 2, none⟩) lB).trans b2)
                have J3 := hide (fun w1 (hb : Below w.heap.size w w1) => (hb.cell (p := ⟨A2, j * 4 + 3, none⟩) lB).trans b3)
                simp only [Pr.cs] at PC P1
                have hjn : ¬ ((xl : Int) ≤ (j : Int)) := by omega
                have HC := hide hcs
                have D0 := hide (show (fun w' => w'.heap[gx]? = some (.cells #[.int .i64 xk, .int .i64 xn, .string xs, .slice (some ⟨A, 0, none⟩) xl c] 26 (0, 0)) ∧ w'.heap[gy]? = some (.cells #[.int .i64 xk, .int .i64 xn, .string xs, .slice (some ⟨A2, 0, none⟩) xl d] 26 (0, 0)) ∧ Below w.heap.size w w') wr.drew from ⟨row_keep hgx below_drew, row_keep hgy below_drew, hcs.bel.trans ((below_drew (w := wr)).mono hcs.bel.size)⟩)
                clear a0 a1 a2 a3 b0 b1 b2 b3 oe1 oe2 lA lB hkid hwm hcs hgx hgy
                generalize Pr.mk (xAt x.l j) (xAt y.l j) c1 d1 cc1 cd1 = pr at *
                generalize (xAt x.l j).k = ek at *
                generalize (xAt x.l j).n = en at *
                generalize (xAt x.l j).s = es at *
                generalize (xAt x.l j).l.length = el at *
                generalize (xAt y.l j).k = fk at *
                generalize (xAt y.l j).n = fn at *
                generalize (xAt y.l j).s = fs at *
                generalize (xAt y.l j).l.length = fl at *
                go_upto_region 17 with fail
                refine wp_region_held_drew (S := fun w' => w'.heap[gx]? = some (.cells #[.int .i64 xk, .int .i64 xn, .string xs, .slice (some ⟨A, 0, none⟩) xl c] 26 (0, 0)) ∧ w'.heap[gy]? = some (.cells #[.int .i64 xk, .int .i64 xn, .string xs, .slice (some ⟨A2, 0, none⟩) xl d] 26 (0, 0)) ∧ Below w.heap.size w w') (by kernel_rfl) (unhide D0) (fun hS => ?_)
                have HS := hide hS
                clear hS
                refine wpAnyH_take (i := 0) (v := u6) rfl (by kernel_rfl) (by kernel_rfl) (by kernel_rfl) (fun _ _ _ h => h) (Or.inl ⟨by rfl, fun w hc => ?_⟩) (unhide HS) ?_
                · clear hc; go_simp
                go_simp
                refine wpAnyH_take (i := 1) (v := .pointer (some ⟨gx, 3, none⟩)) rfl (by kernel_rfl) (by kernel_rfl) (by kernel_rfl) (fun _ _ _ h => h) (Or.inl ⟨by rfl, fun w hc => ?_⟩) (unhide HS) ?_
                · clear hc; go_simp
                go_simp
                refine wpAnyH_take (i := 2) (v := .slice (some ⟨A, 0, none⟩) xl c) rfl (by kernel_rfl) (by kernel_rfl) (by kernel_rfl) (fun _ _ _ h => h) (Or.inl ⟨by rfl, fun w hc => ?_⟩) (unhide HS) ?_
                · have q := Lib.cell_of_heap hc.1 3; clear hc; go_simp
                go_simp
                refine wpAnyH_take (i := 3) (v := .int .i64 j) rfl (by kernel_rfl) (by kernel_rfl) (by kernel_rfl) (fun _ _ _ h => h) (Or.inl ⟨by rfl, fun w hc => ?_⟩) (unhide HS) ?_
                · clear hc; go_simp
                go_simp
                refine wpAnyH_take (i := 4) (v := .pointer (some ⟨A, j * 4, none⟩)) rfl (by kernel_rfl) (by kernel_rfl) (by kernel_rfl) (fun _ _ _ h => h) (Or.inl ⟨by rfl, fun w hc => ?_⟩) (unhide HS) ?_
                · clear hc; go_simp
                go_simp
                refine wpAnyH_take (i := 5) (v := .agg #[.int .i64 ek, .int .i64 en, .string es, .slice c1 el cc1]) rfl (by kernel_rfl) (by kernel_rfl) (by kernel_rfl) (fun _ _ _ h => h) (Or.inl ⟨by rfl, fun w hc => ?_⟩) (unhide HS) ?_
                · have q0 := unhide I0 _ hc.2.2; have q1 := unhide I1 _ hc.2.2; have q2 := unhide I2 _ hc.2.2; have q3 := unhide I3 _ hc.2.2; clear hc; go_simp
                go_simp
                refine wpAnyH_take (i := 6) (v := .pointer (some ⟨gy, 3, none⟩)) rfl (by kernel_rfl) (by kernel_rfl) (by kernel_rfl) (fun _ _ _ h => h) (Or.inl ⟨by rfl, fun w hc => ?_⟩) (unhide HS) ?_
                · clear hc; go_simp
                go_simp
                refine wpAnyH_take (i := 7) (v := .slice (some ⟨A2, 0, none⟩) xl d) rfl (by kernel_rfl) (by kernel_rfl) (by kernel_rfl) (fun _ _ _ h => h) (Or.inl ⟨by rfl, fun w hc => ?_⟩) (unhide HS) ?_
                · have q := Lib.cell_of_heap hc.2.1 3; clear hc; go_simp
                go_simp
                refine wpAnyH_take (i := 8) (v := .int .i64 j) rfl (by kernel_rfl) (by kernel_rfl) (by kernel_rfl) (fun _ _ _ h => h) (Or.inl ⟨by rfl, fun w hc => ?_⟩) (unhide HS) ?_
                · clear hc; go_simp
                go_simp
                refine wpAnyH_take (i := 9) (v := .pointer (some ⟨A2, j * 4, none⟩)) rfl (by kernel_rfl) (by kernel_rfl) (by kernel_rfl) (fun _ _ _ h => h) (Or.inl ⟨by rfl, fun w hc => ?_⟩) (unhide HS) ?_
                · clear hc; go_simp
                go_simp
                refine wpAnyH_take (i := 10) (v := .agg #[.int .i64 fk, .int .i64 fn, .string fs, .slice d1 fl cd1]) rfl (by kernel_rfl) (by kernel_rfl) (by kernel_rfl) (fun _ _ _ h => h) (Or.inl ⟨by rfl, fun w hc => ?_⟩) (unhide HS) ?_
                · have q0 := unhide J0 _ hc.2.2; have q1 := unhide J1 _ hc.2.2; have q2 := unhide J2 _ hc.2.2; have q3 := unhide J3 _ hc.2.2; clear hc; go_simp
                go_simp
                refine wpAnyH_take (i := 11) (v := .agg #[.int .i64 ek, .int .i64 en, .string es, .slice c1 el cc1, .int .i64 fk, .int .i64 fn, .string fs, .slice d1 fl cd1]) rfl (by kernel_rfl) (by kernel_rfl) (by kernel_rfl) (fun _ _ _ h => h) (Or.inl ⟨by rfl, fun w hc => ?_⟩) (unhide HS) ?_
                · clear hc; go_simp
                go_simp
                refine wpAnyH_ready (rs := [12]) (by kernel_rfl) (by simp) ?_
                refine AllReadyH.cons rfl (fun K2 hK => ?_) AllReadyH.nil
                go_simp
                have hb5 : Below wr.heap.size wr ((wr.alloc (.cells #[.int .i64 ek, .int .i64 en, .string es, .slice c1 el cc1, .int .i64 fk, .int .i64 fn, .string fs, .slice d1 fl cd1] 77)).drew) := ((Below.refl wr.heap.size wr).alloc (Nat.le_refl _) (.cells #[.int .i64 ek, .int .i64 en, .string es, .slice c1 el cc1, .int .i64 fk, .int .i64 fn, .string fs, .slice d1 fl cd1] 77)).trans ((below_drew (w := wr.alloc (.cells #[.int .i64 ek, .int .i64 en, .string es, .slice c1 el cc1, .int .i64 fk, .int .i64 fn, .string fs, .slice d1 fl cd1] 77))).mono (by simp))
                have H5 := hide ((unhide HC).later hb5)
                have D5 := hide (show (fun w' => w'.heap[gx]? = some (.cells #[.int .i64 xk, .int .i64 xn, .string xs, .slice (some ⟨A, 0, none⟩) xl c] 26 (0, 0)) ∧ w'.heap[gy]? = some (.cells #[.int .i64 xk, .int .i64 xn, .string xs, .slice (some ⟨A2, 0, none⟩) xl d] 26 (0, 0)) ∧ Below w.heap.size w w') ((wr.alloc (.cells #[.int .i64 ek, .int .i64 en, .string es, .slice c1 el cc1, .int .i64 fk, .int .i64 fn, .string fs, .slice d1 fl cd1] 77)).drew) from ⟨row_keep (show wr.heap[gx]? = _ from (unhide D0).1) hb5, row_keep (show wr.heap[gy]? = _ from (unhide D0).2.1) hb5, (unhide H5).bel⟩)
                have C5 := hide (show ∀ k u, [.int .i64 ek, .int .i64 en, .string es, .slice c1 el cc1, .int .i64 fk, .int .i64 fn, .string fs, .slice d1 fl cd1][k]? = some u → ((wr.alloc (.cells #[.int .i64 ek, .int .i64 en, .string es, .slice c1 el cc1, .int .i64 fk, .int .i64 fn, .string fs, .slice d1 fl cd1] 77)).drew).cell? ((⟨wr.heap.size, 0, none⟩ : Addr).add k) = some u from cellN wr #[.int .i64 ek, .int .i64 en, .string es, .slice c1 el cc1, .int .i64 fk, .int .i64 fn, .string fs, .slice d1 fl cd1] 77)
                clear hb5 HC D0
                generalize wr.heap.size = g5 at *
                generalize (wr.alloc (.cells #[.int .i64 ek, .int .i64 en, .string es, .slice c1 el cc1, .int .i64 fk, .int .i64 fn, .string fs, .slice d1 fl cd1] 77)).drew = w5 at *
                refine hK.out _ _ (unhide D5) (fun hS => ?_)
                clear HS
                have HS := hide hS
                clear hS hK K2
                refine wpAnyH_ready (rs := [13]) (by kernel_rfl) (by simp) ?_
                refine AllReadyH.cons rfl (fun K2 hK => ?_) AllReadyH.nil
                rw [if_pos (by rfl)]
                refine wp_append_own _ (.tmp 96) (.tmp 108) 78 rfl w.heap.size 77 i0 (.agg #[.int .i64 0, .int .i64 0, .string ⟨#[]⟩, .slice none 0 0, .int .i64 0, .int .i64 0, .string ⟨#[]⟩, .slice none 0 0]) 8 112 Tryd.underlying78 hi hz0 hz1 hz2 rfl (by decide) u6 (L ++ M).length (cellsP (L ++ M)) rfl (unhide H5).own ⟨g5, 0, none⟩ 1 1 [.int .i64 ek, .int .i64 en, .string es, .slice c1 el cc1, .int .i64 fk, .int .i64 fn, .string fs, .slice d1 fl cd1] rfl rfl (unhide C5) (unhide P1) (by rw [unhide LN]; unfold maxLen; omega) (by rw [unhide LN]; omega) (unhide H5).bel.size ?_
                intro v6 w6 hown6 hgrow6 _
                have O6 := hide (unhide PC w6 v6 hown6)
                rw [unhide AS] at O6
                have H6 := hide ((unhide H5).app hgrow6 (unhide O6))
                have D6 := hide (show (fun w' => w'.heap[gx]? = some (.cells #[.int .i64 xk, .int .i64 xn, .string xs, .slice (some ⟨A, 0, none⟩) xl c] 26 (0, 0)) ∧ w'.heap[gy]? = some (.cells #[.int .i64 xk, .int .i64 xn, .string xs, .slice (some ⟨A2, 0, none⟩) xl d] 26 (0, 0)) ∧ Below w.heap.size w w') w6 from ⟨(unhide H5).own.row hgrow6 (unhide D5).1, (unhide H5).own.row hgrow6 (unhide D5).2.1, (unhide H6).bel⟩)
                refine hK.out _ _ (unhide D6) (fun hS => ?_)
                clear HS
                have HS := hide hS
                clear hS hK K2
                clear hown6 hgrow6 H5 D5 C5
                refine wpAnyH_take (i := 14) (v := v6) rfl (by kernel_rfl) (by kernel_rfl) (by kernel_rfl) (fun _ _ _ h => h) (Or.inl ⟨by rfl, fun w hc => ?_⟩) (unhide HS) ?_
                · clear hc; go_simp
                go_simp
                refine wpAnyH_done (by kernel_rfl) ?_ _
                clear HS
                go_wp2
                go_roundw
                case rel => exact ⟨j + 1, M ++ [pr], by omega, by go_num, unhide KD, unhide WM, unhide H6, (unhide D6).1, (unhide D6).2.1⟩
                case measure => simp [intOf]; omega
              · obtain rfl : j = xl := by omega
                have CO := hide ((unhide CC).open (unhide HH) ⟨A, A2, j⟩ rfl rfl (unhide XE).2.2.2.1.symm (show 0 < j by omega) hkid)
                have WN := hide (show waitN (L ++ M) < gk ∧ waitN (L ++ M) ≤ 1048577 by
                  rw [waitN_app, hwm]
                  have h1 := unhide KN
                  have h2 := unhide QX
                  have h3 := (unhide XE).2.2.2.1
                  have h4 := szX_le x.l j
                  omega)
                have HC := hide hcs
                clear hkid hwm hcs hgx hgy
                go_wp2
                go_roundg (waitN (L ++ M))
                case measure => exact (unhide WN).1
                case rel => exact ⟨L ++ M, ks ++ [⟨A, A2, j⟩], rfl, (unhide WN).2, unhide CO, unhide HC⟩
end Go.Proofs.YtkolflcjkofleaaDoor

namespace Go.Proofs.YtkolflcjkofleaaDoor
set_option linter.unusedVariables false
theorem sameX_self (a : Ex) : sameX a a = true := (sameX_iff a a).2 rfl
theorem sameX_comm (a b : Ex) : sameX a b = sameX b a := by rw [Bool.eq_iff_iff, sameX_iff, sameX_iff]; exact ⟨Eq.symm, Eq.symm⟩
end Go.Proofs.YtkolflcjkofleaaDoor
