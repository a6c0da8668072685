/- Contracts over this seat's translation, laid together; conditions stand as hypotheses of each. -/
import Derived.Test.YtkolflcjkofleaaDoorTxB
import Derived.Test.YtkolflcjkofleaaDoorTxC
import Derived.Test.YtkolflcjkofleaaDoorTxE
import Derived.Test.YtkolflcjkofleaaDoorTxI
import Derived.Test.YtkolflcjkofleaaDoorTxJ
import Derived.Deep.RegionWith
import Derived.LaidEqlPtr
import Derived.Laws.StructEq
import Derived.MapKept
import Derived.Carry

namespace Go.Proofs.YtkolflcjkofleaaDoor
open Go.ChangeShapes Go.WideShapes Go.ChangeAt Go.RowKit
set_option linter.unusedVariables false
set_option maxRecDepth 8000

def HeldP (e : Ex) : Prop := ∀ (a : Option Addr) (cap K : Nat) (y : Ex) (w : World), MkX e K y → RdX w 0 y a → 0 < K → K + 3 * e.ct ≤ 8000000 → Calls Tryd.prog 64 #[.slice a e.l.length cap, .int .i64 K] w fun r w' => r = .returned (.int .i64 ((K + 3 * e.ct : Nat) : Int)) ∧ Below w.heap.size w w'
set_option maxHeartbeats 2000000 in
theorem heldXS_of (e : Ex) (ih : ∀ i, i < e.l.length → HeldP (xAt e.l i)) : HeldP e := by
  intro a cap K y w hy hr hK hbd
  have hct := ct_is e
  rw [MkX_eq] at hy
  rw [RdX_eq] at hr
  generalize e.l = l at *
  rw [hct] at hbd ⊢
  obtain ⟨hyl, hy⟩ := hy
  generalize y.l = ys at *
  have hcl : l.length ≤ ctX l := by unfold ctX; omega
  obtain ⟨n, hn⟩ : ∃ n, l.length = n := ⟨_, rfl⟩
  have hnl : n ≤ 8000000 := by omega
  have PE := hide (posX_end l K)
  have P0 := hide (posX_0 l K)
  clear hct hcl
  rw [hn] at ih PE hy hyl ⊢
  rw [← unhide PE]
  go_enter Tryd.func64, Tryd.ntmps64
  go_wp2
  go_loopw [1, 5] (fun kv i wr => ∃ (k : Nat) (x : Sub w.heap.size w), k ≤ n ∧ i = .int .i64 k ∧ kv = .int .i64 ((posX l K k : Nat) : Int) ∧ wr = x.w) (fun _ i _ => n - (intOf i).toNat)
  case atStart => exact ⟨0, ⟨w, Below.refl _ _⟩, Nat.zero_le _, rfl, by rw [unhide P0], rfl⟩
  case round =>
    obtain ⟨k, x, hk, rfl, rfl, rfl⟩ := hrel
    by_cases hlt : k < n
    · rcases hr with h0 | ⟨p, po, rfl, _, hp, hpc⟩
      · rw [h0] at hyl; simp at hyl; omega
      obtain ⟨e0, e1, e2, c, cp, e3, e4⟩ := hpc k (by omega)
      obtain ⟨m0, m1, m2, m3⟩ := hy k hlt
      rw [m0] at e0
      rw [m1] at e1
      rw [m2] at e2
      rw [m3.len] at e3
      have d0 : ∀ z : Sub w.heap.size w, z.w.cell? ⟨p, po + k * 4, none⟩ = _ := fun z => (z.h.cell (p := ⟨p, _, none⟩) hp).trans e0
      have d1 : ∀ z : Sub w.heap.size w, z.w.cell? ⟨p, po + k * 4 + 1, none⟩ = _ := fun z => (z.h.cell (p := ⟨p, _, none⟩) hp).trans e1
      have d2 : ∀ z : Sub w.heap.size w, z.w.cell? ⟨p, po + k * 4 + 2, none⟩ = _ := fun z => (z.h.cell (p := ⟨p, _, none⟩) hp).trans e2
      have d3 : ∀ z : Sub w.heap.size w, z.w.cell? ⟨p, po + k * 4 + 3, none⟩ = _ := fun z => (z.h.cell (p := ⟨p, _, none⟩) hp).trans e3
      have hPl := posX_le l K k (by omega)
      have hPs := posX_s l K k (by omega)
      have MX := hide (fun W => markTx_any (posX l K k + 2) (by omega) (by omega) W)
      have HC := hide (fun z : Sub w.heap.size w => ih k hlt c cp (posX l K k + 3) (xAt ys k) z.w m3 (e4.later z.h) (by omega) (by omega))
      have ne := Sub.ne w.heap.size w
      have HZ := hide (Nat.le_refl w.heap.size)
      have EN : ((posX l K k : Nat) : Int) + 1 = ((posX l K k + 1 : Nat) : Int) := by omega
      have EM : ((posX l K k + 1 : Nat) : Int) + 1 = ((posX l K k + 2 : Nat) : Int) := by omega
      have EP : ((posX l K k + 2 : Nat) : Int) + 1 = ((posX l K k + 3 : Nat) : Int) := by omega
      have EQ := hide (show ((posX l K k + 3 + 3 * (xAt l k).ct : Nat) : Int) = ((posX l K (k + 1) : Nat) : Int) by rw [hPs])
      have bA : 0 ≤ ((posX l K k : Nat) : Int) ∧ ((posX l K k : Nat) : Int) ≤ 8000000 := by omega
      have bA2 : 0 ≤ ((posX l K k + 1 : Nat) : Int) ∧ ((posX l K k + 1 : Nat) : Int) ≤ 8000001 := by omega
      have bA3 : 0 ≤ ((posX l K k + 2 : Nat) : Int) ∧ ((posX l K k + 2 : Nat) : Int) ≤ 8000002 := by omega
      have bA5 : 0 ≤ ((posX l K k + 3 + 3 * (xAt l k).ct : Nat) : Int) := by omega
      clear e0 e1 e2 e3 e4 m0 m1 m2 m3 hpc hy hPl hPs ih
      generalize (xAt l k).l.length = ll at *
      generalize hE : ((posX l K k + 3 + 3 * (xAt l k).ct : Nat) : Int) = A5 at *
      generalize hA : ((posX l K k : Nat) : Int) = A at *
      generalize hB2 : ((posX l K k + 1 : Nat) : Int) = A2 at *
      generalize hC : ((posX l K k + 2 : Nat) : Int) = A3 at *
      generalize hD : ((posX l K k + 3 : Nat) : Int) = A4 at *
      generalize mkTx (posX l K k + 2) = X at *
      go_wp2_with fail
      refine wp_region_sub x (by kernel_rfl) (by kernel_rfl) ?_
      repeat (go_big_quiet_step (first | (go_at_call 65; exact Sub.call (unhide HZ) (unhide MX _))))
      refine wpQuiet_nil ?_
      intro z
      go_wp2_with fail
      refine (Sub.call (unhide HZ) (unhide HC _)).mono ?_
      rintro e _ ⟨rfl, z2, rfl⟩
      go_wp2
      go_roundw
      case rel => exact ⟨k + 1, z2, by omega, by go_num, congrArg (Value.int .i64) (unhide EQ), rfl⟩
      case measure => simp [intOf]; omega
    · obtain rfl : k = n := by omega
      go_wp2
      go_ret
      exact ⟨rfl, x.h⟩
theorem heldXS_any (e : Ex) : HeldP e := by
  induction e using Ex.ind with
  | h k n s l ih => exact heldXS_of _ (fun i hi => ih _ (xAt_mem hi))
set_option maxHeartbeats 1000000 in
theorem markX_any (e : Ex) (a : Option Addr) (cap k B : Nat) (w : World) (ho : NewX w B e a) (hB : B ≤ w.heap.size) (hk : 0 < k) (hb : k + 3 * e.ct ≤ 8000000) : Calls Tryd.prog 29 #[.agg (e.cs a cap), .int .i64 k] w fun r w' => ∃ y : Ex, r = .returned (.int .i64 ((k + 3 * e.ct : Nat) : Int)) ∧ MkX e k y ∧ NewX w' B y a ∧ Below B w w' := by
  obtain ⟨F, o1, o2, o3⟩ := ho
  have hbW : Below w.heap.size w (w.alloc (.cells (e.cs a cap) 26)) := (Below.refl _ _).alloc (Nat.le_refl _) _
  have MS := (markXS_any e a cap k F B (w.alloc (.cells (e.cs a cap) 26)) (o1.later hbW) o2 o3 (Nat.le_trans hB hbW.size) hk hb).mono (R' := fun r w' => ∃ y : Ex, r = .returned (.int .i64 ((k + 3 * e.ct : Nat) : Int)) ∧ MkX e k y ∧ NewX w' B y a ∧ Below B w w') (by
    rintro r w' ⟨y, rfl, h1, h2, h3, _⟩
    exact ⟨y, rfl, h1, ⟨F, h2, o2, o3⟩, (hbW.mono hB).trans h3⟩)
  have M := hide MS
  unfold Ex.cs at M ⊢
  clear o1 o2 o3 hbW MS
  generalize hc : ((k + 3 * e.ct : Nat) : Int) = C at *
  generalize e.l.length = ll at *
  go_enter Tryd.func29, Tryd.ntmps29
  go_wp2_with (go_at_call 38; refine (unhide M).mono ?_; rintro e w1 ⟨y, rfl, h1, h2, h3⟩)
  go_ret
  exact ⟨y, rfl, h1, h2, h3⟩
set_option maxHeartbeats 1000000 in
theorem heldX_any (e : Ex) (a : Option Addr) (cap k : Nat) (y : Ex) (w : World) (hm : MkX e k y) (hr : RdX w 0 y a) (hk : 0 < k) (hb : k + 3 * e.ct ≤ 8000000) (q n : Int) (s : ByteArray) : Calls Tryd.prog 30 #[.agg #[.int .i64 q, .int .i64 n, .string s, .slice a e.l.length cap], .int .i64 k] w fun r w' => r = .returned (.int .i64 ((k + 3 * e.ct : Nat) : Int)) ∧ Below w.heap.size w w' := by
  have hbW : Below w.heap.size w (w.alloc (.cells #[.int .i64 q, .int .i64 n, .string s, .slice a e.l.length cap] 26)) := (Below.refl _ _).alloc (Nat.le_refl _) _
  have MS := (heldXS_any e a cap k y (w.alloc (.cells #[.int .i64 q, .int .i64 n, .string s, .slice a e.l.length cap] 26)) hm (hr.later hbW) hk hb).mono (R' := fun r w' => r = .returned (.int .i64 ((k + 3 * e.ct : Nat) : Int)) ∧ Below w.heap.size w w') (by
    rintro r w' ⟨rfl, h1⟩
    exact ⟨rfl, hbW.trans (h1.mono hbW.size)⟩)
  have M := hide MS
  have hp : 0 ≤ ((k + 3 * e.ct : Nat) : Int) := by omega
  clear hbW MS hm hr
  generalize hc : ((k + 3 * e.ct : Nat) : Int) = C at *
  generalize e.l.length = ll at *
  go_enter Tryd.func30, Tryd.ntmps30
  go_wp2_with (go_at_call 64; refine (unhide M).mono ?_; rintro e w1 ⟨rfl, h1⟩)
  go_ret
  exact ⟨rfl, h1⟩
end Go.Proofs.YtkolflcjkofleaaDoor

namespace Go.Proofs.YtkolflcjkofleaaDoor
open Go.ChangeShapes Go.WideShapes Go.ChangeAt Go.RowKit
set_option linter.unusedVariables false
set_option maxRecDepth 8000
set_option linter.unusedSimpArgs false

theorem HalfX.below {w w' : World} {B C : Nat} {e : Ex} {a : Option Addr} (h : HalfX w B C e a) (hb : Below C w w') : HalfX w' B C e a := by
  obtain ⟨F, h1, h2, h3⟩ := h
  exact ⟨F, OwX.keep e a F (fun b hF => hb.block b (h3 b hF).2) h1, h2, h3⟩
theorem HalfX.rd {w : World} {B C : Nat} {e : Ex} {a : Option Addr} (h : HalfX w B C e a) : RdX w 0 e a := h.new.rd.lower (Nat.zero_le _) _ _
set_option maxHeartbeats 1000000 in
theorem markX_keep (e : Ex) (a : Option Addr) (cap k B C : Nat) (w : World) (ho : HalfX w B C e a) (hB : B ≤ w.heap.size) (hk : 0 < k) (hb : k + 3 * e.ct ≤ 8000000) : Calls Tryd.prog 29 #[.agg (e.cs a cap), .int .i64 k] w fun r w' => ∃ y : Ex, r = .returned (.int .i64 ((k + 3 * e.ct : Nat) : Int)) ∧ MkX e k y ∧ HalfX w' B C y a ∧ Below B w w' ∧ ∀ g, C ≤ g → g < w.heap.size → w'.heap[g]? = w.heap[g]? := by
  obtain ⟨F, o1, o2, o3⟩ := ho
  have hbW : Below w.heap.size w (w.alloc (.cells (e.cs a cap) 26)) := (Below.refl _ _).alloc (Nat.le_refl _) _
  have MS := (markXS_any e a cap k F B (w.alloc (.cells (e.cs a cap) 26)) (o1.later hbW) o2 (fun b hb => (o3 b hb).1) (Nat.le_trans hB hbW.size) hk hb).mono (R' := fun r w' => ∃ y : Ex, r = .returned (.int .i64 ((k + 3 * e.ct : Nat) : Int)) ∧ MkX e k y ∧ HalfX w' B C y a ∧ Below B w w' ∧ ∀ g, C ≤ g → g < w.heap.size → w'.heap[g]? = w.heap[g]?) (by
    rintro r w' ⟨y, rfl, h1, h2, h3, h4⟩
    exact ⟨y, rfl, h1, ⟨F, h2, o2, o3⟩, (hbW.mono hB).trans h3, fun g hg hl => (h4 g (Nat.lt_of_lt_of_le hl hbW.size) (fun hF => by have := (o3 g hF).2; omega)).trans (hbW.block g hl)⟩)
  have M := hide MS
  unfold Ex.cs at M ⊢
  clear o1 o2 o3 hbW MS
  generalize hc : ((k + 3 * e.ct : Nat) : Int) = C' at *
  generalize e.l.length = ll at *
  go_enter Tryd.func29, Tryd.ntmps29
  go_wp2_with (go_at_call 38; refine (unhide M).mono ?_; rintro e w1 ⟨y, rfl, h1, h2, h3, h4⟩)
  go_ret
  exact ⟨y, rfl, h1, h2, h3, h4⟩
end Go.Proofs.YtkolflcjkofleaaDoor

namespace Go.Proofs.YtkolflcjkofleaaDoor
open Go.ChangeShapes Go.WideShapes Go.ChangeAt Go.RowKit
set_option linter.unusedVariables false
set_option maxRecDepth 8000
set_option linter.unusedSimpArgs false

set_option maxHeartbeats 32000000 in
theorem putI_c3 (here : Ex) (L : List ByteArray) (vals : List Ex) (e : Ex) (b hb : Option Addr) (cap hcp : Nat) (an : Option Addr) (cn gv off cv : Nat) (w : World) (hr : RdX w 0 e b) (hh : RdX w 0 here hb) (rn : RdU w an L) (rv : RdX w 0 ⟨0, 0, E0, vals⟩ (some ⟨gv, off, none⟩)) (hze : e.sz ≤ 1048576) (hzh : here.sz ≤ 1048576) (hL : L.length ≤ 1048576) (hV : vals.length ≤ 1048576) (hzv : ∀ i, i < vals.length → (xAt vals i).sz ≤ 1048576) (ht : TabK w) (heq : L.length = vals.length) (hno : okL (e :: here :: vals) = true) : Calls Tryd.prog 22 #[.agg (e.cs b cap), .agg (here.cs hb hcp), .slice an L.length cn, .slice (some ⟨gv, off, none⟩) vals.length cv] w (XoR (putA here L vals e) w) := by
  have hall : okF 6 false e = true ∧ okF 6 false here = true ∧ ∀ i, i < vals.length → okF 6 false (xAt vals i) = true := by
    have h := hno
    unfold okL at h
    rw [List.all_cons, List.all_cons, Bool.and_eq_true, Bool.and_eq_true, List.all_eq_true] at h
    exact ⟨h.1, h.2.1, fun i hi => h.2.2 _ (xAt_mem hi)⟩
  have HY := hide (show okF 6 false (putX here L vals e) = true → XoR (putX here L vals e) w = XoR (putA here L vals e) w from fun h => by unfold putA; rw [if_pos ⟨hall.1, hall.2.1, heq, hall.2.2, h⟩])
  have HN := hide (show okF 6 false (putX here L vals e) = false → XoR zX w = XoR (putA here L vals e) w from fun h => by rw [putA_no (fun q => by rw [h] at q; exact absurd q.2.2.2.2 (by decide))])
  have PL := hide (fun wr (h : Below w.heap.size w wr) => places_any an vals.length cn L wr heq (by omega) (rn.later h))
  obtain ⟨th, xh, hth⟩ := tv_if here
  obtain ⟨te, xe, hte⟩ := tv_if e
  obtain ⟨tp, xp, htp⟩ := tv_if (putX here L vals e)
  have IJ := hide (fun (g6 o6 cap6 mb : Nat) (ps : List (ByteArray × Nat)) wr (h : Fi wr mb ps g6 o6 vals) (hps : ∀ s, lkS ps s = plS L s) => ij_all here L vals heq (by omega) 6 e hall.1 th xh mb g6 o6 (cap6 - 2) ps wr hth h hps)
  unfold VaR at IJ
  have hpo := put_ok hall.2.1 hall.2.2 heq 6 e hall.1
  have XO := hide (fun wr => xo_all _ (putX here L vals e) wr hpo)
  unfold XoR at XO
  have hps : (putX here L vals e).sz ≤ 1048576 := by
    have h1 := put_sz (here := here) (L := L) (vals := vals) (Nat.le_trans (ok_sz 6 here hall.2.1) (by decide)) (fun i => by
      by_cases hi : i < vals.length
      · exact Nat.le_trans (ok_sz 6 _ (hall.2.2 i hi)) (by decide)
      · unfold xAt; rw [List.getD_eq_getElem?_getD, List.getElem?_eq_none (by omega)]; show X0.sz ≤ 504; unfold X0; rw [sz_leaf]; decide) 6 e hall.1
    exact Nat.le_trans h1 (by decide)
  have OI := hide (fun c cp wr (hb : Below w.heap.size w wr) (h : RdX wr 0 (putX here L vals e) c) => okI_any (putX here L vals e) c cp wr h hps (ht.next hb))
  rw [hte, htp] at IJ
  rw [htp] at XO
  have MT := hide (show (e :: here :: vals).map tv = .iface te xe :: .iface th xh :: vals.map tv by rw [List.map_cons, List.map_cons, hte, hth])
  have P0 := hide (Pb.new w #[.int .i64 e.k, .int .i64 e.n, .string e.s, .slice b e.l.length cap] #[.int .i64 here.k, .int .i64 here.n, .string here.s, .slice hb here.l.length hcp])
  obtain ⟨i0, hi, hz0, hz1, hz2⟩ := info_parts infoX
  obtain ⟨ts, hts0, hcs, hrs⟩ := rdx_cells rv
  have hts : ts.map Tc.x = vals := hts0
  have hlen : ts.length = vals.length := by rw [← hts]; simp
  have LL := hide (show ([(⟨e, b, cap⟩ : Tc), ⟨here, hb, hcp⟩] ++ ts).map Tc.x = e :: here :: vals by simp [hts])
  have RR := hide (fun wr (h : Below w.heap.size w wr) => (show ∀ t ∈ [(⟨e, b, cap⟩ : Tc), ⟨here, hb, hcp⟩] ++ ts, RdX wr 0 t.x t.a from fun t ht => by
    rcases List.mem_append.1 ht with ht | ht
    · simp only [List.mem_cons, List.not_mem_nil, or_false] at ht
      rcases ht with rfl | rfl
      · exact hr.later h
      · exact hh.later h
    · exact (hrs t ht).later h))
  have CC := hide (fun wr (h : Below w.heap.size w wr) => (show ∀ j u, (cellsX ts)[j]? = some u → wr.cell? ((⟨gv, off, none⟩ : Addr).add j) = some u from fun j u hu => by
    have q := hcs j u hu
    have q2 := (h.cell (p := ⟨gv, off + j, none⟩) (World.block_lt_of_cell? w _ q)).trans q
    unfold Addr.add
    by_cases h0 : j = 0
    · subst h0; simpa using q2
    · simpa [h0] using q2))
  have TS := hide (fun (a : Option Addr) (n c : Nat) wr (h : Below w.heap.size w wr) (hn : vals.length + 2 = n) (hrd : RdX wr 0 ⟨0, 0, E0, e :: here :: vals⟩ a) => termsI_any (e :: here :: vals) a n c wr (by simp; omega) (by omega) (fun i hi => by
    match i with
    | 0 => exact hze
    | 1 => exact hzh
    | (i + 2) => exact hzv i (by omega)) hrd (ht.next h))
  unfold TsR at TS
  have RN := hide (fun wr (h : Below w.heap.size w wr) => rn.later h)
  have TB := hide (fun wr (h : Below w.heap.size w wr) => ht.next h)
  have OWN := hide (fun (wr : World) (g n cp : Nat) (h : wr.ownsRow (w.heap.size + 3) 26 4 (.slice (some ⟨g, 0, none⟩) n cp) n (cellsX ([(⟨e, b, cap⟩ : Tc), ⟨here, hb, hcp⟩] ++ ts))) (hn : vals.length + 2 = n) (hbel : Below w.heap.size w wr) => (by
    have q := own_rdx h (by simp [hlen]; omega) (unhide RR wr hbel)
    rw [unhide LL] at q
    exact q : RdX wr 0 ⟨0, 0, E0, e :: here :: vals⟩ (some ⟨g, 0, none⟩)))
  have CL := hide (show (cellsX ts).length = vals.length * 4 by rw [cellsX_len, hlen])
  have CO := hide (cellsX_one ts)
  have XX := hide (show cellsX ([(⟨e, b, cap⟩ : Tc), ⟨here, hb, hcp⟩] ++ ts) = [.int .i64 e.k, .int .i64 e.n, .string e.s, .slice b e.l.length cap, .int .i64 here.k, .int .i64 here.n, .string here.s, .slice hb here.l.length hcp] ++ cellsX ts by rw [cellsX_app]; rfl)
  rw [unhide XX] at OWN
  generalize cellsX ts = news at *
  have heq2 : ((L.length : Int) == (vals.length : Int)) = true := beq_iff_eq.2 (by omega)
  unfold Ex.cs
  clear hr hh rn rv ht hzv hcs hrs hts hts0 hlen LL RR XX ts
  rw [hno] at TS
  simp only [forall_const] at TS
  generalize hX : XoR (putA here L vals e) w = X at HY HN ⊢
  clear hX hno hpo hps hall hth hte htp
  unfold Ex.cs at OI
  generalize putX here L vals e = y at *
  go_enter Tryd.func22, Tryd.ntmps22
  have hb4 := below_new (((w.alloc (.cells #[.int .i64 e.k, .int .i64 e.n, .string e.s, .slice b e.l.length cap] 26)).alloc (.cells #[.int .i64 here.k, .int .i64 here.n, .string here.s, .slice hb here.l.length hcp] 26)).alloc (.cells #[.int .i64 0, .int .i64 0, .string ⟨#[]⟩, .slice none 0 0] 26)) (.cells #[.int .i64 e.k, .int .i64 e.n, .string e.s, .slice b e.l.length cap, .int .i64 here.k, .int .i64 here.n, .string here.s, .slice hb here.l.length hcp] 26)
  have P4 := hide ((unhide P0).later hb4)
  have O4 := hide (own_eight (t := 26) (unhide P0).lt (show (#[.int .i64 e.k, .int .i64 e.n, .string e.s, .slice b e.l.length cap, .int .i64 here.k, .int .i64 here.n, .string here.s, .slice hb here.l.length hcp] : Array Value).size = 8 from rfl))
  rw [show (((w.alloc (.cells #[.int .i64 e.k, .int .i64 e.n, .string e.s, .slice b e.l.length cap] 26)).alloc (.cells #[.int .i64 here.k, .int .i64 here.n, .string here.s, .slice hb here.l.length hcp] 26)).alloc (.cells #[.int .i64 0, .int .i64 0, .string ⟨#[]⟩, .slice none 0 0] 26)).heap.size = w.heap.size + 1 + 1 + 1 by simp] at O4
  clear hb4
  go_wp2_with (first | (refine wpList_load_row rfl 26 _ rfl w.heap.size rfl 26 #[.int .i64 e.k, .int .i64 e.n, .string e.s, .slice b e.l.length cap] (0, 0) _ ((unhide P0).be) Tryd.underlying26 rfl (by kernel_rfl) ?_) | (refine wpList_load_row rfl 26 _ rfl (w.heap.size + 1) rfl 26 #[.int .i64 here.k, .int .i64 here.n, .string here.s, .slice hb here.l.length hcp] (0, 0) _ ((unhide P0).bh) Tryd.underlying26 rfl (by kernel_rfl) ?_) | (at_builtin; go_must (refine wpList_append_own _ rfl (.tmp 21) (.tmp 22) 24 rfl (w.heap.size + 3) 26 i0 (.agg #[.int .i64 0, .int .i64 0, .string ⟨#[]⟩, .slice none 0 0]) 4 56 Tryd.underlying24 hi hz0 hz1 hz2 rfl (by decide) (.slice (some ⟨w.heap.size + 1 + 1 + 1, 0, none⟩) 2 2) 2 [.int .i64 e.k, .int .i64 e.n, .string e.s, .slice b e.l.length cap, .int .i64 here.k, .int .i64 here.n, .string here.s, .slice hb here.l.length hcp] rfl (unhide O4) ⟨gv, off, none⟩ vals.length cv news rfl (unhide CL) (unhide CC _ (unhide P4).bel) (unhide CO) (by unfold maxLen; omega) (by omega) (unhide P4).lt ?_; intro v5 w5 hown5 hgrow5 _; obtain ⟨g5, cp5, rfl⟩ := own_form hown5 (by omega); have P5 := hide ((unhide P4).grown hgrow5 (show w.heap.size + 3 ≤ w.heap.size + 1 + 1 + 1 by omega)); have R5 := hide (unhide OWN w5 g5 (2 + vals.length) cp5 hown5 (by omega) (unhide P5).bel); have T5 := hide (unhide TS (some ⟨g5, 0, none⟩) (2 + vals.length) cp5 w5 (unhide P5).bel (by omega) (unhide R5)); clear hown5 hgrow5 P4 O4 R5)))
  refine (unhide T5).mono ?_
  rintro r w6 ⟨v6, rfl, hv6, hb6⟩
  have P6 := hide ((unhide P5).later hb6)
  obtain ⟨g6, cap6, rfl⟩ := own_form hv6 (by simp)
  obtain ⟨cur, hg6, hc6, hcur⟩ : ∃ cur : Array Value, w6.heap[g6]? = some (.cells cur 66 (0, 0)) ∧ vals.length + 2 ≤ cap6 ∧ ∀ j, j < vals.length + 2 → cur[j]? = (Value.iface te xe :: .iface th xh :: vals.map tv)[j]? := by
    obtain ⟨_, ⟨q, _⟩ | ⟨g', cap', cur, q, q1, q2, q3, q4, q5, q6⟩⟩ := hv6
    · cases q
    · cases q
      refine ⟨cur, q2, by simpa using q3, fun j hj => ?_⟩
      rw [← unhide MT, ← q6]
      rw [List.getElem?_take_of_lt (by simp; omega)]
      simp
  have k0 := (hcur 0 (by omega)).trans (show _ = some (Value.iface te xe) from rfl)
  have k1 := (hcur 1 (by omega)).trans (show _ = some (Value.iface th xh) from rfl)
  obtain ⟨o6, ho6, hcv⟩ : ∃ o6, (if cap6 = 2 then some (⟨g6, 0, none⟩ : Addr) else some ⟨g6, 2, none⟩) = some ⟨g6, o6, none⟩ ∧ ∀ wr : World, wr.heap[g6]? = some (.cells cur 66 (0, 0)) → ∀ i, i < vals.length → wr.cell? ⟨g6, o6 + i, none⟩ = some (tv (xAt vals i)) := by
    by_cases h2 : cap6 = 2
    · exact ⟨0, by rw [if_pos h2], fun wr h i hi => by omega⟩
    · refine ⟨2, by rw [if_neg h2], fun wr h i hi => ?_⟩
      rw [Lib.cell_of_heap h, hcur (2 + i) (by omega), show 2 + i = i + 1 + 1 by omega, List.getElem?_cons_succ, List.getElem?_cons_succ, List.getElem?_map, List.getElem?_eq_getElem hi, xAt_get hi]
      rfl
  have CV := hide hcv
  clear hcv
  have IJ := hide (unhide IJ g6 o6 cap6)
  have hln : (e :: here :: vals).length = vals.length + 2 := by simp
  simp only [hln]
  have G6 := hide hg6
  clear hv6 hb6 T5 P5 TS OWN CC CL CO hcur MT hg6 hln
  go_wp2_with fail
  have hb7 := below_drew (w := w6)
  have P7 := hide ((unhide P6).later hb7)
  have G7 := hide (row_keep (unhide G6) hb7)
  clear hb7 P6 G6
  refine wp_region_held_drew (S := fun v => v.heap[g6]? = some (.cells cur 66 (0, 0))) (by kernel_rfl) (unhide G7) (fun hS => ?_)
  have HS := hide hS
  clear hS
  generalize w6.drew = w7 at *
  have hq2 : ¬ ((vals.length : Int) + 2 ≤ 1) := by omega
  have hq3 : (2 : Int) ≤ (vals.length : Int) + 2 := by omega
  have hq4 : ¬ ((vals.length : Int) + 2 ≤ 0) := by omega
  refine wpAnyH_take (i := 0) (v := .slice (some ⟨g6, 0, none⟩) (vals.length + 2) cap6) rfl (by kernel_rfl) (by kernel_rfl) (by kernel_rfl) (fun _ _ _ h => h) (Or.inl ⟨by rfl, fun w hc => ?_⟩) (unhide HS) ?_
  · clear hc; go_simp
  go_simp
  refine wpAnyH_take (i := 1) (v := .pointer (some ⟨g6, 1, none⟩)) rfl (by kernel_rfl) (by kernel_rfl) (by kernel_rfl) (fun _ _ _ h => h) (Or.inl ⟨by rfl, fun w hc => ?_⟩) (unhide HS) ?_
  · clear hc; go_simp
  go_simp
  refine wpAnyH_take (i := 2) (v := .iface th xh) rfl (by kernel_rfl) (by kernel_rfl) (by kernel_rfl) (fun _ _ _ h => h) (Or.inl ⟨by rfl, fun w hc => ?_⟩) (unhide HS) ?_
  · have q := (Lib.cell_of_heap hc 1).trans k1; clear hc; go_simp
  go_simp
  refine wpAnyH_take (i := 3) (v := .slice an vals.length cn) rfl (by kernel_rfl) (by kernel_rfl) (by kernel_rfl) (fun _ _ _ h => h) (Or.inl ⟨by rfl, fun w hc => ?_⟩) (unhide HS) ?_
  · clear hc; go_simp
  go_simp
  refine wpAnyH_take (i := 5) (v := .slice (some ⟨g6, 0, none⟩) (vals.length + 2) cap6) rfl (by kernel_rfl) (by kernel_rfl) (by kernel_rfl) (fun _ _ _ h => h) (Or.inl ⟨by rfl, fun w hc => ?_⟩) (unhide HS) ?_
  · clear hc; go_simp
  go_simp
  refine wpAnyH_take (i := 6) (v := .slice (some ⟨g6, o6, none⟩) vals.length (cap6 - 2)) rfl (by kernel_rfl) (by kernel_rfl) (by kernel_rfl) (fun _ _ _ h => h) (Or.inl ⟨by rfl, fun w hc => ?_⟩) (unhide HS) ?_
  · clear hc; go_simp
  go_simp
  refine wpAnyH_take (i := 8) (v := .slice (some ⟨g6, 0, none⟩) (vals.length + 2) cap6) rfl (by kernel_rfl) (by kernel_rfl) (by kernel_rfl) (fun _ _ _ h => h) (Or.inl ⟨by rfl, fun w hc => ?_⟩) (unhide HS) ?_
  · clear hc; go_simp
  go_simp
  refine wpAnyH_take (i := 9) (v := .pointer (some ⟨g6, 0, none⟩)) rfl (by kernel_rfl) (by kernel_rfl) (by kernel_rfl) (fun _ _ _ h => h) (Or.inl ⟨by rfl, fun w hc => ?_⟩) (unhide HS) ?_
  · clear hc; go_simp
  go_simp
  refine wpAnyH_take (i := 10) (v := .iface te xe) rfl (by kernel_rfl) (by kernel_rfl) (by kernel_rfl) (fun _ _ _ h => h) (Or.inl ⟨by rfl, fun w hc => ?_⟩) (unhide HS) ?_
  · have q := (Lib.cell_of_heap hc 0).trans k0; clear hc; go_simp
  go_simp
  refine wpAnyH_ready (rs := [4, 13]) (by kernel_rfl) (by simp) ?_
  refine AllReadyH.cons rfl (fun K2 hK => ?_) (AllReadyH.cons rfl (fun K2 hK => ?_) AllReadyH.nil)
  · go_simp
    refine (unhide PL w7 (unhide P7).bel).mono ?_
    rintro r w8 ⟨mb, ps, rfl, hmp, hps, hge, hbb⟩
    have M8 := hide hmp
    have LK := hide hps
    clear hmp hps hge
    have P8 := hide ((unhide P7).later hbb)
    have G8 := hide (row_keep (unhide G7) hbb)
    clear hbb P7 G7
    refine hK.out _ _ (unhide G8) (fun hS => ?_)
    clear HS
    have HS := hide hS
    clear hS hK K2
    refine wpAnyH_take (i := 7) (v := .agg #[.iface th xh, .map (some mb), .slice (some ⟨g6, o6, none⟩) vals.length (cap6 - 2)]) rfl (by kernel_rfl) (by kernel_rfl) (by kernel_rfl) (fun _ _ _ h => h) (Or.inl ⟨by rfl, fun w hc => ?_⟩) (unhide HS) ?_
    · clear hc; go_simp
    go_simp
    refine wpAnyH_ready (rs := [11, 13]) (by kernel_rfl) (by simp) ?_
    refine AllReadyH.cons rfl (fun K2 hK => ?_) (AllReadyH.cons rfl (fun K2 hK => ?_) AllReadyH.nil)
    · go_simp
      refine (unhide IJ mb ps w8 ⟨unhide M8, (Array.getElem?_eq_some_iff.1 (unhide G8)).1, unhide CV w8 (unhide G8)⟩ (unhide LK)).mono ?_
      rintro r w9 ⟨rfl, hbb⟩
      have P9 := hide ((unhide P8).later hbb)
      have G9 := hide (row_keep (unhide G8) hbb)
      have M9 := hide ((unhide M8).later hbb)
      clear hbb P8 G8 M8
      refine hK.out _ _ (unhide G9) (fun hS => ?_)
      clear HS
      have HS := hide hS
      clear hS hK K2
      refine wpAnyH_ready (rs := [12, 13]) (by kernel_rfl) (by simp) ?_
      refine AllReadyH.cons rfl (fun K2 hK => ?_) (AllReadyH.cons rfl (fun K2 hK => ?_) AllReadyH.nil)
      · go_simp
        refine (unhide XO w9).mono ?_
        rintro r w10 ⟨c, cp, rfl, hnx, hbb⟩
        unfold Ex.cs
        have N10 := hide (hnx.half)
        have hl12 := (unhide P9).lt
        have hs12 := hbb.size
        clear hnx
        have P10 := hide ((unhide P9).later hbb)
        have G10 := hide (row_keep (unhide G9) hbb)
        have M10 := hide ((unhide M9).later hbb)
        clear hbb P9 G9 M9
        have hz12 := Nat.le_refl w10.heap.size
        generalize w9.heap.size = bx at *
        generalize hcx : w10.heap.size = cx at N10
        have HCX := hide hcx
        clear hcx
        refine hK.out _ _ (unhide G10) (fun hS => ?_)
        clear HS
        have HS := hide hS
        clear hS hK K2
        refine wpAnyH_ready (rs := [13]) (by kernel_rfl) (by simp) ?_
        refine AllReadyH.cons rfl (fun K2 hK => ?_) AllReadyH.nil
        go_simp
        have hbb := below_new w10 (.cells #[.int .i64 0, .int .i64 0, .string ⟨#[]⟩, .slice none 0 0] 26)
        have A11 := hide (show (w10.alloc (.cells #[.int .i64 0, .int .i64 0, .string ⟨#[]⟩, .slice none 0 0] 26)).heap[w10.heap.size]? = some (.cells #[.int .i64 0, .int .i64 0, .string ⟨#[]⟩, .slice none 0 0] 26 (0, 0)) from Array.getElem?_push_size)
        have ga3 : w.heap.size + 3 ≤ w10.heap.size := (unhide P10).lt
        have gac : cx ≤ w10.heap.size := Nat.le_of_eq (unhide HCX).symm
        have P11 := hide ((unhide P10).later hbb)
        have G11 := hide (row_keep (unhide G10) hbb)
        have M11 := hide ((unhide M10).later hbb)
        have N11 := hide ((unhide N10).later hbb)
        clear hbb P10 G10 M10 N10
        generalize w10.alloc (.cells #[.int .i64 0, .int .i64 0, .string ⟨#[]⟩, .slice none 0 0] 26) = w11 at *
        generalize w10.heap.size = ga at *
        refine hK.out _ _ (unhide G11) (fun hS => ?_)
        clear HS
        have HS := hide hS
        clear hS hK K2
        refine wpAnyH_ready (rs := [14]) (by kernel_rfl) (by simp) ?_
        refine AllReadyH.cons rfl (fun K2 hK => ?_) AllReadyH.nil
        rw [if_pos (by rfl)]
        have hg6a : g6 ≠ ga := fun q => by have h1 := unhide G11; rw [q, unhide A11] at h1; cases h1
        refine wp_store_row 26 _ _ rfl ga #[.int .i64 y.k, .int .i64 y.n, .string y.s, .slice c y.l.length cp] rfl rfl 26 _ (unhide A11) szE rfl (ex_one _ _ _ _ _ _) ?_
        have hgr := grownBy_row (W := w11) (g := ga) #[.int .i64 y.k, .int .i64 y.n, .string y.s, .slice c y.l.length cp]
        have P12 := hide ((unhide P11).grown hgr ga3)
        have Y12 := hide (setRow_heap w11 ga _ #[.int .i64 y.k, .int .i64 y.n, .string y.s, .slice c y.l.length cp] 26 _ (unhide A11))
        have N12 := hide ((unhide N11).beyond hgr gac)
        have G12 := hide ((hgr.block g6 (Array.getElem?_eq_some_iff.1 (unhide G11)).1 (fun q => by simp at q; exact hg6a q)).trans (unhide G11))
        refine hK.out _ _ (unhide G12) (fun hS => ?_)
        clear HS hS hK K2 hgr
        clear P11 A11 N11 G11
        refine wpAnyH_done (by kernel_rfl) ?_ _
        generalize w11.setRow ga #[.int .i64 y.k, .int .i64 y.n, .string y.s, .slice c y.l.length cp] = w12 at *
        have O12 := hide (unhide OI c cp w12 (unhide P12).bel (unhide N12).rd)
        go_wp2_with (refine wpList_load_row rfl 26 _ rfl ga rfl 26 #[.int .i64 y.k, .int .i64 y.n, .string y.s, .slice c y.l.length cp] (0, 0) _ (unhide Y12) Tryd.underlying26 rfl (by kernel_rfl) ?_)
        refine (unhide O12).mono ?_
        rintro r w13 ⟨rfl, hbb⟩
        have P13 := hide ((unhide P12).later hbb)
        have Y13 := hide (row_keep (unhide Y12) hbb)
        have N13 := hide ((unhide N12).later hbb)
        clear hbb O12 P12 Y12 N12 G12
        cases hq : okF 6 false y with
        | false =>
          have HX := hide (unhide HN hq)
          go_wp2_with (refine wpList_store_row rfl 26 _ _ rfl (w.heap.size + 2) #[.int .i64 0, .int .i64 0, .string ⟨#[]⟩, .slice none 0 0] rfl rfl 26 _ ((unhide P13).res) szE rfl (ex_one _ _ _ _ _ _) ?_)
          refine bodyPost_ret (results_cell_row (P := Tryd.prog) rfl _ _ (w.heap.size + 2) 26 #[.int .i64 0, .int .i64 0, .string ⟨#[]⟩, .slice none 0 0] (0, 0) _ rfl (setRow_heap _ _ _ _ _ _ ((unhide P13).res)) Tryd.underlying26 rfl szE) rfl ?_
          rw [← unhide HX]
          exact (unhide P13).end (x := zX) (NewX.nil _ _ _ _ _ _) _
        | true =>
          have HX := hide (unhide HY hq)
          go_wp2_with (first | (refine wpList_load_row rfl 26 _ rfl ga rfl 26 #[.int .i64 y.k, .int .i64 y.n, .string y.s, .slice c y.l.length cp] (0, 0) _ (unhide Y13) Tryd.underlying26 rfl (by kernel_rfl) ?_) | (refine wpList_store_row rfl 26 _ _ rfl (w.heap.size + 2) #[.int .i64 y.k, .int .i64 y.n, .string y.s, .slice c y.l.length cp] rfl rfl 26 _ ((unhide P13).res) szE rfl (ex_one _ _ _ _ _ _) ?_))
          refine bodyPost_ret (results_cell_row (P := Tryd.prog) rfl _ _ (w.heap.size + 2) 26 #[.int .i64 y.k, .int .i64 y.n, .string y.s, .slice c y.l.length cp] (0, 0) _ rfl (setRow_heap _ _ _ _ _ _ ((unhide P13).res)) Tryd.underlying26 rfl szE) rfl ?_
          rw [← unhide HX]
          exact (unhide P13).end ((unhide N13).new.lower (by omega)) _
      · go_simp
        have hbb := below_new w9 (.cells #[.int .i64 0, .int .i64 0, .string ⟨#[]⟩, .slice none 0 0] 26)
        have A10 := hide (show (w9.alloc (.cells #[.int .i64 0, .int .i64 0, .string ⟨#[]⟩, .slice none 0 0] 26)).heap[w9.heap.size]? = some (.cells #[.int .i64 0, .int .i64 0, .string ⟨#[]⟩, .slice none 0 0] 26 (0, 0)) from Array.getElem?_push_size)
        have ga3 : w.heap.size + 3 ≤ w9.heap.size := (unhide P9).lt
        have P10 := hide ((unhide P9).later hbb)
        have G10 := hide (row_keep (unhide G9) hbb)
        have M10 := hide ((unhide M9).later hbb)
        clear hbb P9 G9 M9
        generalize w9.alloc (.cells #[.int .i64 0, .int .i64 0, .string ⟨#[]⟩, .slice none 0 0] 26) = w10 at *
        generalize w9.heap.size = ga at *
        refine hK.out _ _ (unhide G10) (fun hS => ?_)
        clear HS
        have HS := hide hS
        clear hS hK K2
        refine wpAnyH_ready (rs := [12]) (by kernel_rfl) (by simp) ?_
        refine AllReadyH.cons rfl (fun K2 hK => ?_) AllReadyH.nil
        go_simp
        refine (unhide XO w10).mono ?_
        rintro r w11 ⟨c, cp, rfl, hnx, hbb⟩
        unfold Ex.cs
        have N11 := hide (hnx.half)
        have hl12 := (unhide P10).lt
        have hs12 := hbb.size
        have ha12 := (Array.getElem?_eq_some_iff.1 (unhide A10)).1
        clear hnx
        have P11 := hide ((unhide P10).later hbb)
        have G11 := hide (row_keep (unhide G10) hbb)
        have M11 := hide ((unhide M10).later hbb)
        have A11 := hide (row_keep (unhide A10) hbb)
        clear hbb P10 G10 M10 A10
        generalize w10.heap.size = bx at *
        generalize w11.heap.size = cx at N11
        refine hK.out _ _ (unhide G11) (fun hS => ?_)
        clear HS
        have HS := hide hS
        clear hS hK K2
        refine wpAnyH_ready (rs := [14]) (by kernel_rfl) (by simp) ?_
        refine AllReadyH.cons rfl (fun K2 hK => ?_) AllReadyH.nil
        rw [if_pos (by rfl)]
        have hg6a : g6 ≠ ga := fun q => by have h1 := unhide G11; rw [q, unhide A11] at h1; cases h1
        refine wp_store_row 26 _ _ rfl ga #[.int .i64 y.k, .int .i64 y.n, .string y.s, .slice c y.l.length cp] rfl rfl 26 _ (unhide A11) szE rfl (ex_one _ _ _ _ _ _) ?_
        have hgr := grownBy_row (W := w11) (g := ga) #[.int .i64 y.k, .int .i64 y.n, .string y.s, .slice c y.l.length cp]
        have P12 := hide ((unhide P11).grown hgr ga3)
        have Y12 := hide (setRow_heap w11 ga _ #[.int .i64 y.k, .int .i64 y.n, .string y.s, .slice c y.l.length cp] 26 _ (unhide A11))
        have N12 := hide ((unhide N11).drawn hgr (by omega))
        have G12 := hide ((hgr.block g6 (Array.getElem?_eq_some_iff.1 (unhide G11)).1 (fun q => by simp at q; exact hg6a q)).trans (unhide G11))
        refine hK.out _ _ (unhide G12) (fun hS => ?_)
        clear HS hS hK K2 hgr
        clear P11 A11 N11 G11
        refine wpAnyH_done (by kernel_rfl) ?_ _
        generalize w11.setRow ga #[.int .i64 y.k, .int .i64 y.n, .string y.s, .slice c y.l.length cp] = w12 at *
        have O12 := hide (unhide OI c cp w12 (unhide P12).bel (unhide N12).rd)
        go_wp2_with (refine wpList_load_row rfl 26 _ rfl ga rfl 26 #[.int .i64 y.k, .int .i64 y.n, .string y.s, .slice c y.l.length cp] (0, 0) _ (unhide Y12) Tryd.underlying26 rfl (by kernel_rfl) ?_)
        refine (unhide O12).mono ?_
        rintro r w13 ⟨rfl, hbb⟩
        have P13 := hide ((unhide P12).later hbb)
        have Y13 := hide (row_keep (unhide Y12) hbb)
        have N13 := hide ((unhide N12).later hbb)
        clear hbb O12 P12 Y12 N12 G12
        cases hq : okF 6 false y with
        | false =>
          have HX := hide (unhide HN hq)
          go_wp2_with (refine wpList_store_row rfl 26 _ _ rfl (w.heap.size + 2) #[.int .i64 0, .int .i64 0, .string ⟨#[]⟩, .slice none 0 0] rfl rfl 26 _ ((unhide P13).res) szE rfl (ex_one _ _ _ _ _ _) ?_)
          refine bodyPost_ret (results_cell_row (P := Tryd.prog) rfl _ _ (w.heap.size + 2) 26 #[.int .i64 0, .int .i64 0, .string ⟨#[]⟩, .slice none 0 0] (0, 0) _ rfl (setRow_heap _ _ _ _ _ _ ((unhide P13).res)) Tryd.underlying26 rfl szE) rfl ?_
          rw [← unhide HX]
          exact (unhide P13).end (x := zX) (NewX.nil _ _ _ _ _ _) _
        | true =>
          have HX := hide (unhide HY hq)
          go_wp2_with (first | (refine wpList_load_row rfl 26 _ rfl ga rfl 26 #[.int .i64 y.k, .int .i64 y.n, .string y.s, .slice c y.l.length cp] (0, 0) _ (unhide Y13) Tryd.underlying26 rfl (by kernel_rfl) ?_) | (refine wpList_store_row rfl 26 _ _ rfl (w.heap.size + 2) #[.int .i64 y.k, .int .i64 y.n, .string y.s, .slice c y.l.length cp] rfl rfl 26 _ ((unhide P13).res) szE rfl (ex_one _ _ _ _ _ _) ?_))
          refine bodyPost_ret (results_cell_row (P := Tryd.prog) rfl _ _ (w.heap.size + 2) 26 #[.int .i64 y.k, .int .i64 y.n, .string y.s, .slice c y.l.length cp] (0, 0) _ rfl (setRow_heap _ _ _ _ _ _ ((unhide P13).res)) Tryd.underlying26 rfl szE) rfl ?_
          rw [← unhide HX]
          exact (unhide P13).end ((unhide N13).new.lower (by omega)) _
    · go_simp
      have hbb := below_new w8 (.cells #[.int .i64 0, .int .i64 0, .string ⟨#[]⟩, .slice none 0 0] 26)
      have A9 := hide (show (w8.alloc (.cells #[.int .i64 0, .int .i64 0, .string ⟨#[]⟩, .slice none 0 0] 26)).heap[w8.heap.size]? = some (.cells #[.int .i64 0, .int .i64 0, .string ⟨#[]⟩, .slice none 0 0] 26 (0, 0)) from Array.getElem?_push_size)
      have ga3 : w.heap.size + 3 ≤ w8.heap.size := (unhide P8).lt
      have P9 := hide ((unhide P8).later hbb)
      have G9 := hide (row_keep (unhide G8) hbb)
      have M9 := hide ((unhide M8).later hbb)
      clear hbb P8 G8 M8
      generalize w8.alloc (.cells #[.int .i64 0, .int .i64 0, .string ⟨#[]⟩, .slice none 0 0] 26) = w9 at *
      generalize w8.heap.size = ga at *
      refine hK.out _ _ (unhide G9) (fun hS => ?_)
      clear HS
      have HS := hide hS
      clear hS hK K2
      refine wpAnyH_ready (rs := [11]) (by kernel_rfl) (by simp) ?_
      refine AllReadyH.cons rfl (fun K2 hK => ?_) AllReadyH.nil
      go_simp
      refine (unhide IJ mb ps w9 ⟨unhide M9, (Array.getElem?_eq_some_iff.1 (unhide G9)).1, unhide CV w9 (unhide G9)⟩ (unhide LK)).mono ?_
      rintro r w10 ⟨rfl, hbb⟩
      have P10 := hide ((unhide P9).later hbb)
      have G10 := hide (row_keep (unhide G9) hbb)
      have M10 := hide ((unhide M9).later hbb)
      have A10 := hide (row_keep (unhide A9) hbb)
      clear hbb P9 G9 M9 A9
      refine hK.out _ _ (unhide G10) (fun hS => ?_)
      clear HS
      have HS := hide hS
      clear hS hK K2
      refine wpAnyH_ready (rs := [12]) (by kernel_rfl) (by simp) ?_
      refine AllReadyH.cons rfl (fun K2 hK => ?_) AllReadyH.nil
      go_simp
      refine (unhide XO w10).mono ?_
      rintro r w11 ⟨c, cp, rfl, hnx, hbb⟩
      unfold Ex.cs
      have N11 := hide (hnx.half)
      have hl12 := (unhide P10).lt
      have hs12 := hbb.size
      have ha12 := (Array.getElem?_eq_some_iff.1 (unhide A10)).1
      clear hnx
      have P11 := hide ((unhide P10).later hbb)
      have G11 := hide (row_keep (unhide G10) hbb)
      have M11 := hide ((unhide M10).later hbb)
      have A11 := hide (row_keep (unhide A10) hbb)
      clear hbb P10 G10 M10 A10
      generalize w10.heap.size = bx at *
      generalize w11.heap.size = cx at N11
      refine hK.out _ _ (unhide G11) (fun hS => ?_)
      clear HS
      have HS := hide hS
      clear hS hK K2
      refine wpAnyH_ready (rs := [14]) (by kernel_rfl) (by simp) ?_
      refine AllReadyH.cons rfl (fun K2 hK => ?_) AllReadyH.nil
      rw [if_pos (by rfl)]
      have hg6a : g6 ≠ ga := fun q => by have h1 := unhide G11; rw [q, unhide A11] at h1; cases h1
      refine wp_store_row 26 _ _ rfl ga #[.int .i64 y.k, .int .i64 y.n, .string y.s, .slice c y.l.length cp] rfl rfl 26 _ (unhide A11) szE rfl (ex_one _ _ _ _ _ _) ?_
      have hgr := grownBy_row (W := w11) (g := ga) #[.int .i64 y.k, .int .i64 y.n, .string y.s, .slice c y.l.length cp]
      have P12 := hide ((unhide P11).grown hgr ga3)
      have Y12 := hide (setRow_heap w11 ga _ #[.int .i64 y.k, .int .i64 y.n, .string y.s, .slice c y.l.length cp] 26 _ (unhide A11))
      have N12 := hide ((unhide N11).drawn hgr (by omega))
      have G12 := hide ((hgr.block g6 (Array.getElem?_eq_some_iff.1 (unhide G11)).1 (fun q => by simp at q; exact hg6a q)).trans (unhide G11))
      refine hK.out _ _ (unhide G12) (fun hS => ?_)
      clear HS hS hK K2 hgr
      clear P11 A11 N11 G11
      refine wpAnyH_done (by kernel_rfl) ?_ _
      generalize w11.setRow ga #[.int .i64 y.k, .int .i64 y.n, .string y.s, .slice c y.l.length cp] = w12 at *
      have O12 := hide (unhide OI c cp w12 (unhide P12).bel (unhide N12).rd)
      go_wp2_with (refine wpList_load_row rfl 26 _ rfl ga rfl 26 #[.int .i64 y.k, .int .i64 y.n, .string y.s, .slice c y.l.length cp] (0, 0) _ (unhide Y12) Tryd.underlying26 rfl (by kernel_rfl) ?_)
      refine (unhide O12).mono ?_
      rintro r w13 ⟨rfl, hbb⟩
      have P13 := hide ((unhide P12).later hbb)
      have Y13 := hide (row_keep (unhide Y12) hbb)
      have N13 := hide ((unhide N12).later hbb)
      clear hbb O12 P12 Y12 N12 G12
      cases hq : okF 6 false y with
      | false =>
        have HX := hide (unhide HN hq)
        go_wp2_with (refine wpList_store_row rfl 26 _ _ rfl (w.heap.size + 2) #[.int .i64 0, .int .i64 0, .string ⟨#[]⟩, .slice none 0 0] rfl rfl 26 _ ((unhide P13).res) szE rfl (ex_one _ _ _ _ _ _) ?_)
        refine bodyPost_ret (results_cell_row (P := Tryd.prog) rfl _ _ (w.heap.size + 2) 26 #[.int .i64 0, .int .i64 0, .string ⟨#[]⟩, .slice none 0 0] (0, 0) _ rfl (setRow_heap _ _ _ _ _ _ ((unhide P13).res)) Tryd.underlying26 rfl szE) rfl ?_
        rw [← unhide HX]
        exact (unhide P13).end (x := zX) (NewX.nil _ _ _ _ _ _) _
      | true =>
        have HX := hide (unhide HY hq)
        go_wp2_with (first | (refine wpList_load_row rfl 26 _ rfl ga rfl 26 #[.int .i64 y.k, .int .i64 y.n, .string y.s, .slice c y.l.length cp] (0, 0) _ (unhide Y13) Tryd.underlying26 rfl (by kernel_rfl) ?_) | (refine wpList_store_row rfl 26 _ _ rfl (w.heap.size + 2) #[.int .i64 y.k, .int .i64 y.n, .string y.s, .slice c y.l.length cp] rfl rfl 26 _ ((unhide P13).res) szE rfl (ex_one _ _ _ _ _ _) ?_))
        refine bodyPost_ret (results_cell_row (P := Tryd.prog) rfl _ _ (w.heap.size + 2) 26 #[.int .i64 y.k, .int .i64 y.n, .string y.s, .slice c y.l.length cp] (0, 0) _ rfl (setRow_heap _ _ _ _ _ _ ((unhide P13).res)) Tryd.underlying26 rfl szE) rfl ?_
        rw [← unhide HX]
        exact (unhide P13).end ((unhide N13).new.lower (by omega)) _
  · go_simp
    have hbb := below_new w7 (.cells #[.int .i64 0, .int .i64 0, .string ⟨#[]⟩, .slice none 0 0] 26)
    have A8 := hide (show (w7.alloc (.cells #[.int .i64 0, .int .i64 0, .string ⟨#[]⟩, .slice none 0 0] 26)).heap[w7.heap.size]? = some (.cells #[.int .i64 0, .int .i64 0, .string ⟨#[]⟩, .slice none 0 0] 26 (0, 0)) from Array.getElem?_push_size)
    have ga3 : w.heap.size + 3 ≤ w7.heap.size := (unhide P7).lt
    have P8 := hide ((unhide P7).later hbb)
    have G8 := hide (row_keep (unhide G7) hbb)
    clear hbb P7 G7
    generalize w7.alloc (.cells #[.int .i64 0, .int .i64 0, .string ⟨#[]⟩, .slice none 0 0] 26) = w8 at *
    generalize w7.heap.size = ga at *
    refine hK.out _ _ (unhide G8) (fun hS => ?_)
    clear HS
    have HS := hide hS
    clear hS hK K2
    refine wpAnyH_ready (rs := [4]) (by kernel_rfl) (by simp) ?_
    refine AllReadyH.cons rfl (fun K2 hK => ?_) AllReadyH.nil
    go_simp
    refine (unhide PL w8 (unhide P8).bel).mono ?_
    rintro r w9 ⟨mb, ps, rfl, hmp, hps, hge, hbb⟩
    have M9 := hide hmp
    have LK := hide hps
    clear hmp hps hge
    have P9 := hide ((unhide P8).later hbb)
    have G9 := hide (row_keep (unhide G8) hbb)
    have A9 := hide (row_keep (unhide A8) hbb)
    clear hbb P8 G8 A8
    refine hK.out _ _ (unhide G9) (fun hS => ?_)
    clear HS
    have HS := hide hS
    clear hS hK K2
    refine wpAnyH_take (i := 7) (v := .agg #[.iface th xh, .map (some mb), .slice (some ⟨g6, o6, none⟩) vals.length (cap6 - 2)]) rfl (by kernel_rfl) (by kernel_rfl) (by kernel_rfl) (fun _ _ _ h => h) (Or.inl ⟨by rfl, fun w hc => ?_⟩) (unhide HS) ?_
    · clear hc; go_simp
    go_simp
    refine wpAnyH_ready (rs := [11]) (by kernel_rfl) (by simp) ?_
    refine AllReadyH.cons rfl (fun K2 hK => ?_) AllReadyH.nil
    go_simp
    refine (unhide IJ mb ps w9 ⟨unhide M9, (Array.getElem?_eq_some_iff.1 (unhide G9)).1, unhide CV w9 (unhide G9)⟩ (unhide LK)).mono ?_
    rintro r w10 ⟨rfl, hbb⟩
    have P10 := hide ((unhide P9).later hbb)
    have G10 := hide (row_keep (unhide G9) hbb)
    have A10 := hide (row_keep (unhide A9) hbb)
    have M10 := hide ((unhide M9).later hbb)
    clear hbb P9 G9 A9 M9
    refine hK.out _ _ (unhide G10) (fun hS => ?_)
    clear HS
    have HS := hide hS
    clear hS hK K2
    refine wpAnyH_ready (rs := [12]) (by kernel_rfl) (by simp) ?_
    refine AllReadyH.cons rfl (fun K2 hK => ?_) AllReadyH.nil
    go_simp
    refine (unhide XO w10).mono ?_
    rintro r w11 ⟨c, cp, rfl, hnx, hbb⟩
    unfold Ex.cs
    have N11 := hide (hnx.half)
    have hl12 := (unhide P10).lt
    have hs12 := hbb.size
    have ha12 := (Array.getElem?_eq_some_iff.1 (unhide A10)).1
    clear hnx
    have P11 := hide ((unhide P10).later hbb)
    have G11 := hide (row_keep (unhide G10) hbb)
    have A11 := hide (row_keep (unhide A10) hbb)
    have M11 := hide ((unhide M10).later hbb)
    clear hbb P10 G10 A10 M10
    generalize w10.heap.size = bx at *
    generalize w11.heap.size = cx at N11
    refine hK.out _ _ (unhide G11) (fun hS => ?_)
    clear HS
    have HS := hide hS
    clear hS hK K2
    refine wpAnyH_ready (rs := [14]) (by kernel_rfl) (by simp) ?_
    refine AllReadyH.cons rfl (fun K2 hK => ?_) AllReadyH.nil
    rw [if_pos (by rfl)]
    have hg6a : g6 ≠ ga := fun q => by have h1 := unhide G11; rw [q, unhide A11] at h1; cases h1
    refine wp_store_row 26 _ _ rfl ga #[.int .i64 y.k, .int .i64 y.n, .string y.s, .slice c y.l.length cp] rfl rfl 26 _ (unhide A11) szE rfl (ex_one _ _ _ _ _ _) ?_
    have hgr := grownBy_row (W := w11) (g := ga) #[.int .i64 y.k, .int .i64 y.n, .string y.s, .slice c y.l.length cp]
    have P12 := hide ((unhide P11).grown hgr ga3)
    have Y12 := hide (setRow_heap w11 ga _ #[.int .i64 y.k, .int .i64 y.n, .string y.s, .slice c y.l.length cp] 26 _ (unhide A11))
    have N12 := hide ((unhide N11).drawn hgr (by omega))
    have G12 := hide ((hgr.block g6 (Array.getElem?_eq_some_iff.1 (unhide G11)).1 (fun q => by simp at q; exact hg6a q)).trans (unhide G11))
    refine hK.out _ _ (unhide G12) (fun hS => ?_)
    clear HS hS hK K2 hgr
    clear P11 A11 N11 G11
    refine wpAnyH_done (by kernel_rfl) ?_ _
    generalize w11.setRow ga #[.int .i64 y.k, .int .i64 y.n, .string y.s, .slice c y.l.length cp] = w12 at *
    have O12 := hide (unhide OI c cp w12 (unhide P12).bel (unhide N12).rd)
    go_wp2_with (refine wpList_load_row rfl 26 _ rfl ga rfl 26 #[.int .i64 y.k, .int .i64 y.n, .string y.s, .slice c y.l.length cp] (0, 0) _ (unhide Y12) Tryd.underlying26 rfl (by kernel_rfl) ?_)
    refine (unhide O12).mono ?_
    rintro r w13 ⟨rfl, hbb⟩
    have P13 := hide ((unhide P12).later hbb)
    have Y13 := hide (row_keep (unhide Y12) hbb)
    have N13 := hide ((unhide N12).later hbb)
    clear hbb O12 P12 Y12 N12 G12
    cases hq : okF 6 false y with
    | false =>
      have HX := hide (unhide HN hq)
      go_wp2_with (refine wpList_store_row rfl 26 _ _ rfl (w.heap.size + 2) #[.int .i64 0, .int .i64 0, .string ⟨#[]⟩, .slice none 0 0] rfl rfl 26 _ ((unhide P13).res) szE rfl (ex_one _ _ _ _ _ _) ?_)
      refine bodyPost_ret (results_cell_row (P := Tryd.prog) rfl _ _ (w.heap.size + 2) 26 #[.int .i64 0, .int .i64 0, .string ⟨#[]⟩, .slice none 0 0] (0, 0) _ rfl (setRow_heap _ _ _ _ _ _ ((unhide P13).res)) Tryd.underlying26 rfl szE) rfl ?_
      rw [← unhide HX]
      exact (unhide P13).end (x := zX) (NewX.nil _ _ _ _ _ _) _
    | true =>
      have HX := hide (unhide HY hq)
      go_wp2_with (first | (refine wpList_load_row rfl 26 _ rfl ga rfl 26 #[.int .i64 y.k, .int .i64 y.n, .string y.s, .slice c y.l.length cp] (0, 0) _ (unhide Y13) Tryd.underlying26 rfl (by kernel_rfl) ?_) | (refine wpList_store_row rfl 26 _ _ rfl (w.heap.size + 2) #[.int .i64 y.k, .int .i64 y.n, .string y.s, .slice c y.l.length cp] rfl rfl 26 _ ((unhide P13).res) szE rfl (ex_one _ _ _ _ _ _) ?_))
      refine bodyPost_ret (results_cell_row (P := Tryd.prog) rfl _ _ (w.heap.size + 2) 26 #[.int .i64 y.k, .int .i64 y.n, .string y.s, .slice c y.l.length cp] (0, 0) _ rfl (setRow_heap _ _ _ _ _ _ ((unhide P13).res)) Tryd.underlying26 rfl szE) rfl ?_
      rw [← unhide HX]
      exact (unhide P13).end ((unhide N13).new.lower (by omega)) _
theorem putI_any (here : Ex) (L : List ByteArray) (vals : List Ex) (e : Ex) (b hb : Option Addr) (cap hcp : Nat) (an : Option Addr) (cn gv off cv : Nat) (w : World) (hr : RdX w 0 e b) (hh : RdX w 0 here hb) (rn : RdU w an L) (rv : RdX w 0 ⟨0, 0, E0, vals⟩ (some ⟨gv, off, none⟩)) (hze : e.sz ≤ 1048576) (hzh : here.sz ≤ 1048576) (hL : L.length ≤ 1048576) (hV : vals.length ≤ 1048576) (hzv : ∀ i, i < vals.length → (xAt vals i).sz ≤ 1048576) (ht : TabK w) : Calls Tryd.prog 22 #[.agg (e.cs b cap), .agg (here.cs hb hcp), .slice an L.length cn, .slice (some ⟨gv, off, none⟩) vals.length cv] w (XoR (putA here L vals e) w) := by
  by_cases heq : L.length = vals.length
  · cases hno : okL (e :: here :: vals) with
    | true => exact putI_c3 here L vals e b hb cap hcp an cn gv off cv w hr hh rn rv hze hzh hL hV hzv ht heq hno
    | false =>
      rw [putA_no (fun q => by
        have : okL (e :: here :: vals) = true := by
          unfold okL
          rw [List.all_cons, List.all_cons, Bool.and_eq_true, Bool.and_eq_true, List.all_eq_true]
          refine ⟨q.1, q.2.1, fun x hx => ?_⟩
          obtain ⟨i, hi, rfl⟩ := List.getElem_of_mem hx
          rw [← xAt_get hi]
          exact q.2.2.2.1 i hi
        rw [hno] at this
        cases this)]
      exact putI_c2 here L vals e b hb cap hcp an cn gv off cv w hr hh rn rv hze hzh hL hV hzv ht heq hno
  · rw [putA_no (fun q => heq q.2.2.1)]
    exact putI_c1 here L vals e b hb cap hcp an cn gv off cv w hr hh rn rv hze hzh hL hV hzv ht heq
end Go.Proofs.YtkolflcjkofleaaDoor

namespace Go.Proofs.YtkolflcjkofleaaDoor
open Go.ChangeShapes Go.WideShapes Go.ChangeAt Go.RowKit
set_option linter.unusedVariables false
set_option maxRecDepth 8000
set_option linter.unusedSimpArgs false

/-- What is known elsewhere, as it lies. -/
structure Ew (w : World) (ab : Option Addr) (m : Nat) (av : Option Addr) (bs : List Int) (ps : List (ByteArray × Nat)) (vs : List Int) : Prop where
  b : RdN w ab bs
  m : IsMs w m ps
  v : RdN w av vs
theorem Ew.later {w w' : World} {ab av : Option Addr} {m : Nat} {bs vs : List Int} {ps : List (ByteArray × Nat)} (h : Ew w ab m av bs ps vs) (hb : Below w.heap.size w w') : Ew w' ab m av bs ps vs := ⟨h.b.later hb, h.m.later hb, h.v.later hb⟩
theorem inR_end {o : Option Int} {w w' : World} {r : Ending} {n : Int} {q : Bool} (ho : n = o.getD 0 ∧ q = o.isSome) (hr : r = .returned (.tuple #[.int .i64 n, .bool q])) (hb : Below w.heap.size w w') : InR o w r w' := ⟨by rw [hr, ho.1, ho.2], hb⟩
set_option maxHeartbeats 2000000 in
theorem wordAt_no (a : Option Addr) (n cap i : Nat) (hm : n ≤ 1099511627776) (hi : n ≤ i) (hi2 : i ≤ 1099511627776) (w : World) : Calls Tryd.prog 74 #[.slice a n cap, .int .i64 (i : Nat)] w (InR none w) := by
  have FN := hide (fun (r : Ending) (w' : World) (h : r = .returned (.tuple #[.int .i64 0, .bool false])) (hb : Below w.heap.size w w') => inR_end (o := none) ⟨rfl, rfl⟩ h hb)
  generalize InR none w = R at *
  have h1 : (n : Int) ≤ (i : Int) := by omega
  go_enter Tryd.func74, Tryd.ntmps74
  go_wp2
  (first | go_ret2 | go_ret | skip)
  exact unhide FN _ _ rfl (Below.refl _ _)
set_option maxHeartbeats 2000000 in
theorem wordAt_yes (a : Option Addr) (n cap i : Nat) (hm : n ≤ 1099511627776) (hi : i < n) (xs : List Int) (hl : xs.length = n) (w : World) (hr : RdN w a xs) : Calls Tryd.prog 74 #[.slice a n cap, .int .i64 (i : Nat)] w (InR (some (wr (nAt xs i))) w) := by
  have FN := hide (fun (r : Ending) (w' : World) (h : r = .returned (.tuple #[.int .i64 (wr (nAt xs i)), .bool true])) (hb : Below w.heap.size w w') => inR_end (o := some (wr (nAt xs i))) ⟨rfl, rfl⟩ h hb)
  generalize InR (some (wr (nAt xs i))) w = R at *
  unfold wr at FN
  have h1 : ¬ (n : Int) ≤ (i : Int) := by omega
  rcases hr with rfl | ⟨b, off, rfl, hb, hc⟩
  · simp at hl; omega
  have hcx := hc i (by omega)
  generalize nAt xs i = x at *
  clear hc hl
  go_enter Tryd.func74, Tryd.ntmps74
  go_wp2_with (go_at_call 75; refine (wrapI_any _ _).mono ?_; rintro e w0 ⟨rfl, hw0⟩; rw [hw0]; clear hw0 w0)
  (first | go_ret2 | go_ret | skip)
  exact unhide FN _ _ rfl (Below.refl _ _)
theorem wordAt_any (a : Option Addr) (cap i : Nat) (xs : List Int) (hm : xs.length ≤ 1099511627776) (hi : i ≤ 1099511627776) (w : World) (hr : RdN w a xs) : Calls Tryd.prog 74 #[.slice a xs.length cap, .int .i64 (i : Nat)] w (InR (seW xs i) w) := by
  by_cases h : i < xs.length
  · rw [show seW xs (i : Nat) = some (wr (nAt xs i)) by unfold seW; rw [if_pos (by omega)]; rfl]
    exact wordAt_yes a _ cap i hm h xs rfl w hr
  · rw [show seW xs (i : Nat) = none by unfold seW; rw [if_neg (by omega)]]
    exact wordAt_no a _ cap i hm (by omega) hi w
/-- What (worths).of answers of a term, whatever is known elsewhere. -/
def WoJ (bs : List Int) (L : List ByteArray) (vs : List Int) (e : Ex) : Prop := ∀ (ab av : Option Addr) (cb cv m : Nat) (ps : List (ByteArray × Nat)) (w : World), Ew w ab m av bs ps vs → (∀ s, lkS ps s = plS L s) → Calls Tryd.prog 50 #[.agg #[.slice ab bs.length cb, .map (some m), .slice av vs.length cv], tv e] w (InR (worthX (seW bs) (glW L vs) e) w)
theorem glW_pl (L : List ByteArray) (vs : List Int) (s : ByteArray) : glW L vs s = (plS L s).bind (fun i => seW vs (i : Nat)) := by
  unfold glW
  rw [plS_at]
  cases plS L s with
  | none => simp
  | some i =>
    simp only [Option.map_some, Option.getD_some, Option.bind_some, seW]
    by_cases h : (i : Int) < vs.length
    · rw [if_pos ⟨by omega, h⟩, if_pos h]
    · rw [if_neg (fun q => h q.2), if_neg h]
theorem pl_lt {L : List ByteArray} {s : ByteArray} {i : Nat} (h : plS L s = some i) : i < L.length := by
  unfold plS at h
  rw [List.findIdx?_eq_some_iff_getElem] at h
  exact h.1
set_option maxHeartbeats 4000000 in
theorem wj_num (bs : List Int) (L : List ByteArray) (vs : List Int) (hB : bs.length ≤ 1099511627776) (hV : vs.length ≤ 1099511627776) (hL : L.length ≤ 1099511627776) (n : Int) : WoJ bs L vs (⟨1, n, E0, []⟩) := by
  intro ab av cb cv m ps w hev hps
  rw [tv_num, show worthX (seW bs) (glW L vs) (⟨1, n, E0, []⟩) = some n from worth_num _ _]
  have FN := hide (fun (r : Ending) (w' : World) (z : Int) (q : Bool) (ho : z = (some n).getD 0 ∧ q = (some n).isSome) (h : r = .returned (.tuple #[.int .i64 z, .bool q])) (hb : Below w.heap.size w w') => inR_end ho h hb)
  generalize InR (some n) w = R at *
  have B0 := hide (below_new w (.cells #[.slice ab bs.length cb, .map (some m), .slice av vs.length cv] 74))
  have G0 := hide (show (w.alloc (.cells #[.slice ab bs.length cb, .map (some m), .slice av vs.length cv] 74)).heap[w.heap.size]? = some (.cells #[.slice ab bs.length cb, .map (some m), .slice av vs.length cv] 74 (0, 0)) from Array.getElem?_push_size)
  have V0 := hide (hev.later (unhide B0))
  clear hev
  have t1 := taY_num (.agg #[.int .i64 n])
  have T := hide (two_resG w (.cells #[.slice ab bs.length cb, .map (some m), .slice av vs.length cv] 74) (.cells #[.int .i64 n] 88))
  go_enter Tryd.func50, Tryd.ntmps50
  go_wp2
  (first | (generalize (w.alloc (.cells #[.slice ab bs.length cb, .map (some m), .slice av vs.length cv] 74)).alloc (.cells #[.int .i64 n] 88) = W at *; have c0 := Lib.cell_of_heap (unhide T).2.2 0; go_region; go_wp2) | skip)
  (first | go_ret2 | go_ret | skip)
  exact unhide FN _ _ _ _ ⟨rfl, rfl⟩ rfl (by first | exact below_dr (unhide T).1 | exact (unhide T).1)
set_option maxHeartbeats 4000000 in
theorem wj_sect (bs : List Int) (L : List ByteArray) (vs : List Int) (hB : bs.length ≤ 1099511627776) (hV : vs.length ≤ 1099511627776) (hL : L.length ≤ 1099511627776) (n : Nat) (hn : n ≤ 9) : WoJ bs L vs (⟨11, (n : Int), E0, []⟩) := by
  intro ab av cb cv m ps w hev hps
  rw [tv_sect, show worthX (seW bs) (glW L vs) (⟨11, (n : Int), E0, []⟩) = seW bs (n : Int) from worth_sect _ _]
  have FN := hide (fun (r : Ending) (w' : World) (z : Int) (q : Bool) (ho : z = (seW bs (n : Int)).getD 0 ∧ q = (seW bs (n : Int)).isSome) (h : r = .returned (.tuple #[.int .i64 z, .bool q])) (hb : Below w.heap.size w w') => inR_end ho h hb)
  generalize InR (seW bs (n : Int)) w = R at *
  have B0 := hide (below_new w (.cells #[.slice ab bs.length cb, .map (some m), .slice av vs.length cv] 74))
  have G0 := hide (show (w.alloc (.cells #[.slice ab bs.length cb, .map (some m), .slice av vs.length cv] 74)).heap[w.heap.size]? = some (.cells #[.slice ab bs.length cb, .map (some m), .slice av vs.length cv] 74 (0, 0)) from Array.getElem?_push_size)
  have V0 := hide (hev.later (unhide B0))
  clear hev
  have t0 := taN_num 115 (.agg #[.int .i64 (n : Int)]) (by decide)
  have t1 := taY_sect (.agg #[.int .i64 (n : Int)])
  have T := hide (two_resG w (.cells #[.slice ab bs.length cb, .map (some m), .slice av vs.length cv] 74) (.cells #[.int .i64 (n : Int)] 115))
  have WA := hide (fun wr (h : Ew wr ab m av bs ps vs) => wordAt_any ab cb n bs hB (by omega) wr h.b)
  unfold InR at WA
  have V1 := hide ((unhide V0).later (below_new _ (.cells #[.int .i64 (n : Int)] 115)))
  generalize seW bs (n : Int) = o at *
  go_enter Tryd.func50, Tryd.ntmps50
  go_wp2_with fail
  generalize (w.alloc (.cells #[.slice ab bs.length cb, .map (some m), .slice av vs.length cv] 74)).alloc (.cells #[.int .i64 (n : Int)] 115) = W at *
  refine (unhide WA _ (unhide V1)).mono ?_
  rintro r w1 ⟨rfl, hb1⟩
  have B1 := hide ((unhide T).1.trans (hb1.mono (unhide T).1.size))
  clear hb1
  go_wp2
  (first | go_ret2 | go_ret | skip)
  exact unhide FN _ _ _ _ ⟨rfl, rfl⟩ rfl (unhide B1)
set_option maxHeartbeats 4000000 in
theorem wj_globn (bs : List Int) (L : List ByteArray) (vs : List Int) (hB : bs.length ≤ 1099511627776) (hV : vs.length ≤ 1099511627776) (hL : L.length ≤ 1099511627776) (s : ByteArray) (hp : plS L s = none) : WoJ bs L vs (⟨12, 0, s, []⟩) := by
  intro ab av cb cv m ps w hev hps
  rw [tv_glob, show worthX (seW bs) (glW L vs) (⟨12, 0, s, []⟩) = none from (by rw [worth_glob, glW_pl, hp]; rfl)]
  have FN := hide (fun (r : Ending) (w' : World) (z : Int) (q : Bool) (ho : z = (none).getD 0 ∧ q = (none).isSome) (h : r = .returned (.tuple #[.int .i64 z, .bool q])) (hb : Below w.heap.size w w') => inR_end ho h hb)
  generalize InR (none) w = R at *
  have B0 := hide (below_new w (.cells #[.slice ab bs.length cb, .map (some m), .slice av vs.length cv] 74))
  have G0 := hide (show (w.alloc (.cells #[.slice ab bs.length cb, .map (some m), .slice av vs.length cv] 74)).heap[w.heap.size]? = some (.cells #[.slice ab bs.length cb, .map (some m), .slice av vs.length cv] 74 (0, 0)) from Array.getElem?_push_size)
  have V0 := hide (hev.later (unhide B0))
  clear hev
  have t0 := taN_num 118 (.agg #[.string s]) (by decide)
  have t2 := taN_sect 118 (.agg #[.string s]) (by decide)
  have t1 := taY_glob (.agg #[.string s])
  have T := hide (two_resG w (.cells #[.slice ab bs.length cb, .map (some m), .slice av vs.length cv] 74) (.cells #[.string s] 118))
  have V1 := hide ((unhide V0).later (below_new _ (.cells #[.string s] 118)))
  have LK := run_lookS (unhide V1).m s
  rw [hps, hp] at LK
  simp only [Option.getD_none, Option.isSome_none, Option.getD_some, Option.isSome_some] at LK
  clear hp hps
  go_enter Tryd.func50, Tryd.ntmps50
  go_wp2
  (first | go_ret2 | go_ret | skip)
  exact unhide FN _ _ _ _ ⟨rfl, rfl⟩ rfl (unhide T).1
set_option maxHeartbeats 4000000 in
theorem wj_globy (bs : List Int) (L : List ByteArray) (vs : List Int) (hB : bs.length ≤ 1099511627776) (hV : vs.length ≤ 1099511627776) (hL : L.length ≤ 1099511627776) (s : ByteArray) (i : Nat) (hp : plS L s = some i) : WoJ bs L vs (⟨12, 0, s, []⟩) := by
  intro ab av cb cv m ps w hev hps
  rw [tv_glob, show worthX (seW bs) (glW L vs) (⟨12, 0, s, []⟩) = seW vs (i : Int) from (by rw [worth_glob, glW_pl, hp]; rfl)]
  have FN := hide (fun (r : Ending) (w' : World) (z : Int) (q : Bool) (ho : z = (seW vs (i : Int)).getD 0 ∧ q = (seW vs (i : Int)).isSome) (h : r = .returned (.tuple #[.int .i64 z, .bool q])) (hb : Below w.heap.size w w') => inR_end ho h hb)
  generalize InR (seW vs (i : Int)) w = R at *
  have B0 := hide (below_new w (.cells #[.slice ab bs.length cb, .map (some m), .slice av vs.length cv] 74))
  have G0 := hide (show (w.alloc (.cells #[.slice ab bs.length cb, .map (some m), .slice av vs.length cv] 74)).heap[w.heap.size]? = some (.cells #[.slice ab bs.length cb, .map (some m), .slice av vs.length cv] 74 (0, 0)) from Array.getElem?_push_size)
  have V0 := hide (hev.later (unhide B0))
  clear hev
  have t0 := taN_num 118 (.agg #[.string s]) (by decide)
  have t2 := taN_sect 118 (.agg #[.string s]) (by decide)
  have t1 := taY_glob (.agg #[.string s])
  have T := hide (two_resG w (.cells #[.slice ab bs.length cb, .map (some m), .slice av vs.length cv] 74) (.cells #[.string s] 118))
  have V1 := hide ((unhide V0).later (below_new _ (.cells #[.string s] 118)))
  have LK := run_lookS (unhide V1).m s
  rw [hps, hp] at LK
  simp only [Option.getD_none, Option.isSome_none, Option.getD_some, Option.isSome_some] at LK
  have WA := hide (fun wr (h : Ew wr ab m av bs ps vs) => wordAt_any av cv i vs hV (by have := pl_lt hp; omega) wr h.v)
  unfold InR at WA
  generalize seW vs (i : Int) = o at *
  clear hp hps
  go_enter Tryd.func50, Tryd.ntmps50
  go_wp2_with fail
  generalize (w.alloc (.cells #[.slice ab bs.length cb, .map (some m), .slice av vs.length cv] 74)).alloc (.cells #[.string s] 118) = W at *
  refine (unhide WA _ (unhide V1)).mono ?_
  rintro r w1 ⟨rfl, hb1⟩
  have B1 := hide ((unhide T).1.trans (hb1.mono (unhide T).1.size))
  clear hb1 LK
  go_wp2
  (first | go_ret2 | go_ret | skip)
  exact unhide FN _ _ _ _ ⟨rfl, rfl⟩ rfl (unhide B1)
/-- What (worths).ofPair answers. -/
def WoK (bs : List Int) (L : List ByteArray) (vs : List Int) (e : Ex) : Prop := ∀ (ab av : Option Addr) (cb cv m : Nat) (ps : List (ByteArray × Nat)) (w : World), Ew w ab m av bs ps vs → (∀ s, lkS ps s = plS L s) → Calls Tryd.prog 76 #[.agg #[.slice ab bs.length cb, .map (some m), .slice av vs.length cv], tv e] w (InR (worthX (seW bs) (glW L vs) e) w)
set_option maxHeartbeats 4000000 in
theorem wk_sym (bs : List Int) (L : List ByteArray) (vs : List Int) (hB : bs.length ≤ 1099511627776) (hV : vs.length ≤ 1099511627776) (hL : L.length ≤ 1099511627776) (s : ByteArray) : WoK bs L vs (⟨2, 0, s, []⟩) := by
  intro ab av cb cv m ps w hev hps
  rw [tv_sym, show worthX (seW bs) (glW L vs) (⟨2, 0, s, []⟩) = none from worth_sym _ _]
  have FN := hide (fun (r : Ending) (w' : World) (z : Int) (q : Bool) (ho : z = (none).getD 0 ∧ q = (none).isSome) (h : r = .returned (.tuple #[.int .i64 z, .bool q])) (hb : Below w.heap.size w w') => inR_end ho h hb)
  generalize InR (none) w = R at *
  have B0 := hide (below_new w (.cells #[.slice ab bs.length cb, .map (some m), .slice av vs.length cv] 74))
  have G0 := hide (show (w.alloc (.cells #[.slice ab bs.length cb, .map (some m), .slice av vs.length cv] 74)).heap[w.heap.size]? = some (.cells #[.slice ab bs.length cb, .map (some m), .slice av vs.length cv] 74 (0, 0)) from Array.getElem?_push_size)
  have V0 := hide (hev.later (unhide B0))
  clear hev
  have m0 := me_sym (.string s)
  have P0 := hide (parts0 (w.alloc (.cells #[.slice ab bs.length cb, .map (some m), .slice av vs.length cv] 74)))
  go_enter Tryd.func76, Tryd.ntmps76
  go_wp2_with (go_at_call 121; refine (unhide P0).mono ?_; rintro r w1 ⟨rfl, hb1⟩; have B1 := hide ((unhide B0).trans (hb1.mono (unhide B0).size)); clear hb1)
  (first | go_ret2 | go_ret | skip)
  exact unhide FN _ _ _ _ ⟨rfl, rfl⟩ rfl (unhide B1)
set_option maxHeartbeats 4000000 in
theorem wj_sym (bs : List Int) (L : List ByteArray) (vs : List Int) (hB : bs.length ≤ 1099511627776) (hV : vs.length ≤ 1099511627776) (hL : L.length ≤ 1099511627776) (s : ByteArray) : WoJ bs L vs (⟨2, 0, s, []⟩) := by
  intro ab av cb cv m ps w hev hps
  rw [tv_sym, show worthX (seW bs) (glW L vs) (⟨2, 0, s, []⟩) = none from worth_sym _ _]
  have FN := hide (fun (r : Ending) (w' : World) (z : Int) (q : Bool) (ho : z = (none).getD 0 ∧ q = (none).isSome) (h : r = .returned (.tuple #[.int .i64 z, .bool q])) (hb : Below w.heap.size w w') => inR_end ho h hb)
  generalize InR (none) w = R at *
  have B0 := hide (below_new w (.cells #[.slice ab bs.length cb, .map (some m), .slice av vs.length cv] 74))
  have G0 := hide (show (w.alloc (.cells #[.slice ab bs.length cb, .map (some m), .slice av vs.length cv] 74)).heap[w.heap.size]? = some (.cells #[.slice ab bs.length cb, .map (some m), .slice av vs.length cv] 74 (0, 0)) from Array.getElem?_push_size)
  have V0 := hide (hev.later (unhide B0))
  clear hev
  have t0 := taN_num 117 (.agg #[.string s]) (by decide)
  have t1 := taN_sect 117 (.agg #[.string s]) (by decide)
  have t2 := taN_glob 117 (.agg #[.string s]) (by decide)
  have t3 := taN_neg 117 (.agg #[.string s]) (by decide)
  have WK := hide (wk_sym bs L vs hB hV hL s ab av cb cv m ps _ (unhide V0) hps)
  rw [tv_sym, worth_sym] at WK
  unfold InR at WK
  clear hps
  go_enter Tryd.func50, Tryd.ntmps50
  go_wp2_with (refine wpList_load_row rfl 74 _ rfl w.heap.size rfl 74 #[.slice ab bs.length cb, .map (some m), .slice av vs.length cv] (0, 0) _ (unhide G0) Tryd.underlying74 rfl (by kernel_rfl) ?_)
  generalize w.alloc (.cells #[.slice ab bs.length cb, .map (some m), .slice av vs.length cv] 74) = W at *
  refine (unhide WK).mono ?_
  rintro r w1 ⟨rfl, hb1⟩
  have B1 := hide ((unhide B0).trans (hb1.mono (unhide B0).size))
  clear hb1 WK
  go_wp2
  (first | go_ret2 | go_ret | skip)
  exact unhide FN _ _ _ _ ⟨rfl, rfl⟩ rfl (unhide B1)
set_option maxHeartbeats 4000000 in
theorem wk_here (bs : List Int) (L : List ByteArray) (vs : List Int) (hB : bs.length ≤ 1099511627776) (hV : vs.length ≤ 1099511627776) (hL : L.length ≤ 1099511627776)  : WoK bs L vs (⟨3, 0, E0, []⟩) := by
  intro ab av cb cv m ps w hev hps
  rw [tv_here, show worthX (seW bs) (glW L vs) (⟨3, 0, E0, []⟩) = none from worth_here _ _]
  have FN := hide (fun (r : Ending) (w' : World) (z : Int) (q : Bool) (ho : z = (none).getD 0 ∧ q = (none).isSome) (h : r = .returned (.tuple #[.int .i64 z, .bool q])) (hb : Below w.heap.size w w') => inR_end ho h hb)
  generalize InR (none) w = R at *
  have B0 := hide (below_new w (.cells #[.slice ab bs.length cb, .map (some m), .slice av vs.length cv] 74))
  have G0 := hide (show (w.alloc (.cells #[.slice ab bs.length cb, .map (some m), .slice av vs.length cv] 74)).heap[w.heap.size]? = some (.cells #[.slice ab bs.length cb, .map (some m), .slice av vs.length cv] 74 (0, 0)) from Array.getElem?_push_size)
  have V0 := hide (hev.later (unhide B0))
  clear hev
  have m0 := me_here
  have P0 := hide (parts0 (w.alloc (.cells #[.slice ab bs.length cb, .map (some m), .slice av vs.length cv] 74)))
  go_enter Tryd.func76, Tryd.ntmps76
  go_wp2_with (go_at_call 121; refine (unhide P0).mono ?_; rintro r w1 ⟨rfl, hb1⟩; have B1 := hide ((unhide B0).trans (hb1.mono (unhide B0).size)); clear hb1)
  (first | go_ret2 | go_ret | skip)
  exact unhide FN _ _ _ _ ⟨rfl, rfl⟩ rfl (unhide B1)
set_option maxHeartbeats 4000000 in
theorem wj_here (bs : List Int) (L : List ByteArray) (vs : List Int) (hB : bs.length ≤ 1099511627776) (hV : vs.length ≤ 1099511627776) (hL : L.length ≤ 1099511627776)  : WoJ bs L vs (⟨3, 0, E0, []⟩) := by
  intro ab av cb cv m ps w hev hps
  rw [tv_here, show worthX (seW bs) (glW L vs) (⟨3, 0, E0, []⟩) = none from worth_here _ _]
  have FN := hide (fun (r : Ending) (w' : World) (z : Int) (q : Bool) (ho : z = (none).getD 0 ∧ q = (none).isSome) (h : r = .returned (.tuple #[.int .i64 z, .bool q])) (hb : Below w.heap.size w w') => inR_end ho h hb)
  generalize InR (none) w = R at *
  have B0 := hide (below_new w (.cells #[.slice ab bs.length cb, .map (some m), .slice av vs.length cv] 74))
  have G0 := hide (show (w.alloc (.cells #[.slice ab bs.length cb, .map (some m), .slice av vs.length cv] 74)).heap[w.heap.size]? = some (.cells #[.slice ab bs.length cb, .map (some m), .slice av vs.length cv] 74 (0, 0)) from Array.getElem?_push_size)
  have V0 := hide (hev.later (unhide B0))
  clear hev
  have t0 := taN_num 130 (.agg #[]) (by decide)
  have t1 := taN_sect 130 (.agg #[]) (by decide)
  have t2 := taN_glob 130 (.agg #[]) (by decide)
  have t3 := taN_neg 130 (.agg #[]) (by decide)
  have WK := hide (wk_here bs L vs hB hV hL  ab av cb cv m ps _ (unhide V0) hps)
  rw [tv_here, worth_here] at WK
  unfold InR at WK
  clear hps
  go_enter Tryd.func50, Tryd.ntmps50
  go_wp2_with (refine wpList_load_row rfl 74 _ rfl w.heap.size rfl 74 #[.slice ab bs.length cb, .map (some m), .slice av vs.length cv] (0, 0) _ (unhide G0) Tryd.underlying74 rfl (by kernel_rfl) ?_)
  generalize w.alloc (.cells #[.slice ab bs.length cb, .map (some m), .slice av vs.length cv] 74) = W at *
  refine (unhide WK).mono ?_
  rintro r w1 ⟨rfl, hb1⟩
  have B1 := hide ((unhide B0).trans (hb1.mono (unhide B0).size))
  clear hb1 WK
  go_wp2
  (first | go_ret2 | go_ret | skip)
  exact unhide FN _ _ _ _ ⟨rfl, rfl⟩ rfl (unhide B1)
end Go.Proofs.YtkolflcjkofleaaDoor

namespace Go.Proofs.YtkolflcjkofleaaDoor
open Go.ChangeShapes Go.WideShapes Go.ChangeAt Go.RowKit
set_option linter.unusedVariables false
set_option maxRecDepth 8000
set_option linter.unusedSimpArgs false

set_option maxHeartbeats 4000000 in
theorem wj_neg (bs : List Int) (L : List ByteArray) (vs : List Int) (a : Ex) (iha : WoJ bs L vs a) (hi : ∀ v, worthX (seW bs) (glW L vs) a = some v → 0 ≤ v ∧ v ≤ 65535) : WoJ bs L vs ⟨4, 0, E0, [a]⟩ := by
  intro ab av cb cv m ps w hev hps
  rw [tv_neg, worth_neg]
  have IH := hide (fun wr (h : Ew wr ab m av bs ps vs) => iha ab av cb cv m ps wr h hps)
  unfold InR at IH
  obtain ⟨t, x, e1⟩ := tv_if a
  rw [e1] at IH ⊢
  have hi2 : 0 ≤ (worthX (seW bs) (glW L vs) a).getD 0 ∧ (worthX (seW bs) (glW L vs) a).getD 0 ≤ 65535 := by
    cases h : worthX (seW bs) (glW L vs) a with
    | none => simp
    | some v => exact hi v h
  have hO : wr (-((worthX (seW bs) (glW L vs) a).getD 0)) = ((worthX (seW bs) (glW L vs) a).map (fun v => wr (-v))).getD 0 ∧ (worthX (seW bs) (glW L vs) a).isSome = ((worthX (seW bs) (glW L vs) a).map (fun v => wr (-v))).isSome := by
    cases worthX (seW bs) (glW L vs) a with
    | none => exact ⟨rfl, rfl⟩
    | some v => exact ⟨rfl, rfl⟩
  have FN := hide (fun (r : Ending) (w' : World) (z : Int) (q : Bool) (ho : z = ((worthX (seW bs) (glW L vs) a).map (fun v => wr (-v))).getD 0 ∧ q = ((worthX (seW bs) (glW L vs) a).map (fun v => wr (-v))).isSome) (h : r = .returned (.tuple #[.int .i64 z, .bool q])) (hb : Below w.heap.size w w') => inR_end ho h hb)
  generalize InR ((worthX (seW bs) (glW L vs) a).map (fun v => wr (-v))) w = R at *
  have B0 := hide (below_new w (.cells #[.slice ab bs.length cb, .map (some m), .slice av vs.length cv] 74))
  have G0 := hide (show (w.alloc (.cells #[.slice ab bs.length cb, .map (some m), .slice av vs.length cv] 74)).heap[w.heap.size]? = some (.cells #[.slice ab bs.length cb, .map (some m), .slice av vs.length cv] 74 (0, 0)) from Array.getElem?_push_size)
  have V0 := hide (hev.later (unhide B0))
  have HO := hide hO
  clear hev hps hi iha hO e1
  generalize (Option.map (fun v => wr (-v)) (worthX (seW bs) (glW L vs) a)) = oo at *
  unfold wr at HO
  generalize (worthX (seW bs) (glW L vs) a).getD 0 = z at *
  generalize (worthX (seW bs) (glW L vs) a).isSome = q at *
  have t0 := taN_num 104 (.agg #[.iface t x]) (by decide)
  have t1 := taN_sect 104 (.agg #[.iface t x]) (by decide)
  have t2 := taN_glob 104 (.agg #[.iface t x]) (by decide)
  have t3 := taY_neg (.agg #[.iface t x])
  have T := hide (two_resG w (.cells #[.slice ab bs.length cb, .map (some m), .slice av vs.length cv] 74) (.cells #[.iface t x] 104))
  have V1 := hide ((unhide V0).later (below_new _ (.cells #[.iface t x] 104)))
  go_enter Tryd.func50, Tryd.ntmps50
  go_wp2_with (refine wpList_load_row rfl 74 _ rfl w.heap.size rfl 74 #[.slice ab bs.length cb, .map (some m), .slice av vs.length cv] (0, 0) _ ((unhide T).2.1) Tryd.underlying74 rfl (by kernel_rfl) ?_)
  generalize (w.alloc (.cells #[.slice ab bs.length cb, .map (some m), .slice av vs.length cv] 74)).alloc (.cells #[.iface t x] 104) = W at *
  refine (unhide IH _ (unhide V1)).mono ?_
  rintro r w1 ⟨rfl, hb1⟩
  have B1 := hide ((unhide T).1.trans (hb1.mono (unhide T).1.size))
  clear hb1 IH T V1 V0 G0 B0
  go_wp2_with (go_at_call 75; refine (wrapI_any _ _).mono ?_; rintro e w0 ⟨rfl, hw0⟩; rw [hw0]; clear hw0 w0)
  (first | (go_region_with (go_at_call 75; refine (wrapI_any _ _).mono ?_; rintro e w0 ⟨rfl, hw0⟩; rw [hw0]; clear hw0 w0); go_wp2) | skip)
  (first | go_ret2 | go_ret | skip)
  exact unhide FN _ _ _ _ (unhide HO) rfl (by first | exact unhide B1 | exact below_dr (unhide B1))
set_option maxHeartbeats 8000000 in
theorem wk_pair (bs vs : List Int) (T : TypeId) (k : Int) (t u : TypeId) (x y : Value) (me : ∀ w, (method 271 T (.agg #[.iface t x, .iface u y]) "loop.example/g00329/impl.parts").run Tryd.prog w = .ok (123, .agg #[.iface t x, .iface u y]) w) (kd : ∀ w, Calls Tryd.prog 71 #[.iface T (.agg #[.iface t x, .iface u y])] w fun r w' => r = .returned (.int .i64 k) ∧ w' = w) (oa ob o : Option Int) (ab av : Option Addr) (cb cv m : Nat) (ps : List (ByteArray × Nat)) (ha : ∀ wr, Ew wr ab m av bs ps vs → Calls Tryd.prog 50 #[.agg #[.slice ab bs.length cb, .map (some m), .slice av vs.length cv], .iface t x] wr (InR oa wr)) (hb : ∀ wr, Ew wr ab m av bs ps vs → Calls Tryd.prog 50 #[.agg #[.slice ab bs.length cb, .map (some m), .slice av vs.length cv], .iface u y] wr (InR ob wr)) (hn : (oa.isSome && ob.isSome) = false → o = none) (hy : ∀ p q, oa = some p → ob = some q → (∀ w, Calls Tryd.prog 88 #[.int .i64 k, .int .i64 p, .int .i64 q] w (InR o w))) (w : World) (hev : Ew w ab m av bs ps vs) : Calls Tryd.prog 76 #[.agg #[.slice ab bs.length cb, .map (some m), .slice av vs.length cv], .iface T (.agg #[.iface t x, .iface u y])] w (InR o w) := by
  have FN := hide (fun (r : Ending) (w' : World) (z : Int) (q : Bool) (ho : z = (o).getD 0 ∧ q = (o).isSome) (h : r = .returned (.tuple #[.int .i64 z, .bool q])) (hb : Below w.heap.size w w') => inR_end ho h hb)
  generalize InR (o) w = R at *
  have B0 := hide (below_new w (.cells #[.slice ab bs.length cb, .map (some m), .slice av vs.length cv] 74))
  have G0 := hide (show (w.alloc (.cells #[.slice ab bs.length cb, .map (some m), .slice av vs.length cv] 74)).heap[w.heap.size]? = some (.cells #[.slice ab bs.length cb, .map (some m), .slice av vs.length cv] 74 (0, 0)) from Array.getElem?_push_size)
  have V0 := hide (hev.later (unhide B0))
  have HA := hide ha
  have HB := hide hb
  unfold InR at HA HB
  have P0 := hide (parts2 t u x y (w.alloc (.cells #[.slice ab bs.length cb, .map (some m), .slice av vs.length cv] 74)))
  have HN := hide hn
  have HY := hide hy
  unfold InR at HY
  have KD := hide kd
  clear hev ha hb hn hy kd
  go_enter Tryd.func76, Tryd.ntmps76
  go_wp2_with fail
  generalize w.alloc (.cells #[.slice ab bs.length cb, .map (some m), .slice av vs.length cv] 74) = W at *
  refine (unhide P0).mono ?_
  rintro r w1 ⟨g, rfl, hg, hb1⟩
  have B1 := hide ((unhide B0).trans (hb1.mono (unhide B0).size))
  have G1 := hide (row_keep (unhide G0) hb1)
  have V1 := hide ((unhide V0).later hb1)
  have L1 := hide hg
  clear hb1 hg B0 G0 V0 P0
  go_wp2_with fail
  have ya : ∀ y : Sub w1.heap.size w1, y.w.cell? ⟨w.heap.size, 0, none⟩ = some (.slice ab bs.length cb) := fun y => (y.h.cell (p := ⟨w.heap.size, 0, none⟩) (Array.getElem?_eq_some_iff.1 (unhide G1)).1).trans (Lib.cell_of_heap (unhide G1) 0)
  have yb : ∀ y : Sub w1.heap.size w1, y.w.cell? ⟨w.heap.size, 1, none⟩ = some (.map (some m)) := fun y => (y.h.cell (p := ⟨w.heap.size, 1, none⟩) (Array.getElem?_eq_some_iff.1 (unhide G1)).1).trans (Lib.cell_of_heap (unhide G1) 1)
  have yc : ∀ y : Sub w1.heap.size w1, y.w.cell? ⟨w.heap.size, 2, none⟩ = some (.slice av vs.length cv) := fun y => (y.h.cell (p := ⟨w.heap.size, 2, none⟩) (Array.getElem?_eq_some_iff.1 (unhide G1)).1).trans (Lib.cell_of_heap (unhide G1) 2)
  have yd : ∀ z : Sub w1.heap.size w1, z.w.cell? ⟨g, 0, none⟩ = some (.iface t x) := fun z => (z.h.cell (p := ⟨g, 0, none⟩) (Array.getElem?_eq_some_iff.1 (unhide L1)).1).trans (Lib.cell_of_heap (unhide L1) 0)
  have ne := Sub.ne w1.heap.size w1
  have HZ := hide (Nat.le_refl w1.heap.size)
  have CA := hide (fun y : Sub w1.heap.size w1 => unhide HA y.w ((unhide V1).later y.h))
  refine wp_region_sub (⟨w1, Below.refl _ _⟩ : Sub w1.heap.size w1) (by kernel_rfl) (by kernel_rfl) ?_
  (repeat (go_big_quiet_step (first | (go_at_call 50; exact Sub.call (unhide HZ) (unhide CA _)))))
  refine wpQuiet_nil ?_
  rintro ⟨w2, hb2⟩
  simp only
  have B2 := hide ((unhide B1).trans (hb2.mono (unhide B1).size))
  have G2 := hide (row_keep (unhide G1) hb2)
  have V2 := hide ((unhide V1).later hb2)
  have L2 := hide (row_keep (unhide L1) hb2)
  clear hb2 ya yb yc yd ne HZ CA B1 G1 V1 L1
  go_wp2_with fail
  have ya : ∀ y : Sub w2.heap.size w2, y.w.cell? ⟨w.heap.size, 0, none⟩ = some (.slice ab bs.length cb) := fun y => (y.h.cell (p := ⟨w.heap.size, 0, none⟩) (Array.getElem?_eq_some_iff.1 (unhide G2)).1).trans (Lib.cell_of_heap (unhide G2) 0)
  have yb : ∀ y : Sub w2.heap.size w2, y.w.cell? ⟨w.heap.size, 1, none⟩ = some (.map (some m)) := fun y => (y.h.cell (p := ⟨w.heap.size, 1, none⟩) (Array.getElem?_eq_some_iff.1 (unhide G2)).1).trans (Lib.cell_of_heap (unhide G2) 1)
  have yc : ∀ y : Sub w2.heap.size w2, y.w.cell? ⟨w.heap.size, 2, none⟩ = some (.slice av vs.length cv) := fun y => (y.h.cell (p := ⟨w.heap.size, 2, none⟩) (Array.getElem?_eq_some_iff.1 (unhide G2)).1).trans (Lib.cell_of_heap (unhide G2) 2)
  have yd : ∀ z : Sub w2.heap.size w2, z.w.cell? ⟨g, 1, none⟩ = some (.iface u y) := fun z => (z.h.cell (p := ⟨g, 1, none⟩) (Array.getElem?_eq_some_iff.1 (unhide L2)).1).trans (Lib.cell_of_heap (unhide L2) 1)
  have ne := Sub.ne w2.heap.size w2
  have HZ := hide (Nat.le_refl w2.heap.size)
  have CA := hide (fun y : Sub w2.heap.size w2 => unhide HB y.w ((unhide V2).later y.h))
  refine wp_region_sub (⟨w2, Below.refl _ _⟩ : Sub w2.heap.size w2) (by kernel_rfl) (by kernel_rfl) ?_
  (repeat (go_big_quiet_step (first | (go_at_call 50; exact Sub.call (unhide HZ) (unhide CA _)))))
  refine wpQuiet_nil ?_
  rintro ⟨w3, hb3⟩
  simp only
  have B3 := hide ((unhide B2).trans (hb3.mono (unhide B2).size))
  have G3 := hide (row_keep (unhide G2) hb3)
  have V3 := hide ((unhide V2).later hb3)
  have L3 := hide (row_keep (unhide L2) hb3)
  clear hb3 ya yb yc yd ne HZ CA B2 G2 V2 L2
  cases oa with
  | none =>
    have E := unhide HN rfl
    subst E
    simp only [Option.getD_none, Option.isSome_none]
    clear HY HN
    generalize ob.getD 0 = zb
    generalize ob.isSome = qb
    cases qb <;> (go_wp2; (first | go_ret2 | go_ret | skip); exact unhide FN _ _ _ _ ⟨rfl, rfl⟩ rfl (unhide B3))
  | some p =>
    cases ob with
    | none =>
      have E := unhide HN rfl
      subst E
      simp only [Option.getD_none, Option.isSome_none, Option.getD_some, Option.isSome_some]
      clear HY HN
      go_wp2
      (first | go_ret2 | go_ret | skip)
      exact unhide FN _ _ _ _ ⟨rfl, rfl⟩ rfl (unhide B3)
    | some q =>
      have TW := hide (unhide HY p q rfl rfl)
      simp only [Option.getD_some, Option.isSome_some]
      clear HY HN
      go_wp2_with (go_at_call 71; refine (unhide KD _).mono ?_; rintro e w0 ⟨rfl, hw0⟩; rw [hw0]; clear hw0 w0)
      refine (unhide TW _).mono ?_
      rintro r w4 ⟨rfl, hb4⟩
      have B4 := hide ((unhide B3).trans (hb4.mono (unhide B3).size))
      clear hb4
      go_wp2
      (first | go_ret2 | go_ret | skip)
      exact unhide FN _ _ _ _ ⟨rfl, rfl⟩ rfl (unhide B4)
set_option maxHeartbeats 4000000 in
theorem wj_pair (bs vs : List Int) (T : TypeId) (X : Value) (n0 : T ≠ 88) (n1 : T ≠ 115) (n2 : T ≠ 118) (n3 : T ≠ 104) (o : Option Int) (ab av : Option Addr) (cb cv m : Nat) (ps : List (ByteArray × Nat)) (hk : ∀ wr, Ew wr ab m av bs ps vs → Calls Tryd.prog 76 #[.agg #[.slice ab bs.length cb, .map (some m), .slice av vs.length cv], .iface T X] wr (InR o wr)) (w : World) (hev : Ew w ab m av bs ps vs) : Calls Tryd.prog 50 #[.agg #[.slice ab bs.length cb, .map (some m), .slice av vs.length cv], .iface T X] w (InR o w) := by
  have FN := hide (fun (r : Ending) (w' : World) (z : Int) (q : Bool) (ho : z = (o).getD 0 ∧ q = (o).isSome) (h : r = .returned (.tuple #[.int .i64 z, .bool q])) (hb : Below w.heap.size w w') => inR_end ho h hb)
  generalize InR (o) w = R at *
  have B0 := hide (below_new w (.cells #[.slice ab bs.length cb, .map (some m), .slice av vs.length cv] 74))
  have G0 := hide (show (w.alloc (.cells #[.slice ab bs.length cb, .map (some m), .slice av vs.length cv] 74)).heap[w.heap.size]? = some (.cells #[.slice ab bs.length cb, .map (some m), .slice av vs.length cv] 74 (0, 0)) from Array.getElem?_push_size)
  have V0 := hide (hev.later (unhide B0))
  have t0 := taN_num T X n0
  have t1 := taN_sect T X n1
  have t2 := taN_glob T X n2
  have t3 := taN_neg T X n3
  have WK := hide hk
  unfold InR at WK
  clear hk hev n0 n1 n2 n3
  go_enter Tryd.func50, Tryd.ntmps50
  go_wp2_with (refine wpList_load_row rfl 74 _ rfl w.heap.size rfl 74 #[.slice ab bs.length cb, .map (some m), .slice av vs.length cv] (0, 0) _ (unhide G0) Tryd.underlying74 rfl (by kernel_rfl) ?_)
  generalize w.alloc (.cells #[.slice ab bs.length cb, .map (some m), .slice av vs.length cv] 74) = W at *
  refine (unhide WK _ (unhide V0)).mono ?_
  rintro r w1 ⟨rfl, hb1⟩
  have B1 := hide ((unhide B0).trans (hb1.mono (unhide B0).size))
  clear hb1 WK
  go_wp2
  (first | go_ret2 | go_ret | skip)
  exact unhide FN _ _ _ _ ⟨rfl, rfl⟩ rfl (unhide B1)
set_option maxHeartbeats 1000000 in
theorem wj_all (bs : List Int) (L : List ByteArray) (vs : List Int) (hB : bs.length ≤ 1099511627776) (hV : vs.length ≤ 1099511627776) (hL : L.length ≤ 1099511627776) : ∀ (d : Nat) (e : Ex), okF d false e = true → WoJ bs L vs e := by
  intro d
  induction d with
  | zero => intro e h; cases h
  | succ d ih =>
    intro e h
    rcases ok_cases h with ⟨n, hn, rfl⟩ | ⟨s, hs, rfl⟩ | rfl | ⟨a, ha, rfl⟩ | ⟨k, a, b, hk, ha, hb, rfl⟩ | ⟨n, hn, rfl⟩ | ⟨s, hs, rfl⟩
    · exact wj_num bs L vs hB hV hL n
    · exact wj_sym bs L vs hB hV hL s
    · exact wj_here bs L vs hB hV hL
    · exact wj_neg bs L vs a (ih a ha) (fun v hv => worth_in (seW_in bs) (glW_in L vs) d a v ha hv)
    · intro ab av cb cv m ps w hev hps
      have iha := fun wr (h : Ew wr ab m av bs ps vs) => ih a ha ab av cb cv m ps wr h hps
      have ihb := fun wr (h : Ew wr ab m av bs ps vs) => ih b hb ab av cb cv m ps wr h hps
      obtain ⟨t, x, e1⟩ := tv_if a
      obtain ⟨u, y, e2⟩ := tv_if b
      rw [e1] at iha
      rw [e2] at ihb
      have hn : ((worthX (seW bs) (glW L vs) a).isSome && (worthX (seW bs) (glW L vs) b).isSome) = false → worthX (seW bs) (glW L vs) ⟨k, 0, E0, [a, b]⟩ = none := fun h => by
        rw [worth_two]
        cases h1 : worthX (seW bs) (glW L vs) a with
        | none => rfl
        | some p =>
          cases h2 : worthX (seW bs) (glW L vs) b with
          | none => rfl
          | some q => rw [h1, h2] at h; cases h
      have hy : ∀ p q, worthX (seW bs) (glW L vs) a = some p → worthX (seW bs) (glW L vs) b = some q → (∀ w, Calls Tryd.prog 88 #[.int .i64 k, .int .i64 p, .int .i64 q] w (InR (worthX (seW bs) (glW L vs) ⟨k, 0, E0, [a, b]⟩) w)) := fun p q h1 h2 w => by
        rw [worth_two, h1, h2]
        refine (twoI_any k p q hk (worth_in (seW_in bs) (glW_in L vs) d a p ha h1) (worth_in (seW_in bs) (glW_in L vs) d b q hb h2) w).mono (fun r w' ⟨h3, h4⟩ => ⟨h4, by rw [h3]; exact Below.refl _ _⟩)
      rw [tv_two hk, e1, e2]
      generalize worthX (seW bs) (glW L vs) ⟨k, 0, E0, [a, b]⟩ = o at *
      generalize worthX (seW bs) (glW L vs) a = oa at *
      generalize worthX (seW bs) (glW L vs) b = ob at *
      clear ih ha hb h e1 e2
      have : k = 5 ∨ k = 6 ∨ k = 7 ∨ k = 8 ∨ k = 9 ∨ k = 10 := by omega
      rcases this with rfl | rfl | rfl | rfl | rfl | rfl
      · exact wj_pair bs vs 134 _ (by decide) (by decide) (by decide) (by decide) _ ab av cb cv m ps (fun wr h => wk_pair bs vs 134 5 t u x y (me_add (.iface t x) (.iface u y)) (fun w => kind_add 0 E0 t u x y w) _ _ _ ab av cb cv m ps iha ihb hn hy wr h) w hev
      · exact wj_pair bs vs 135 _ (by decide) (by decide) (by decide) (by decide) _ ab av cb cv m ps (fun wr h => wk_pair bs vs 135 6 t u x y (me_sub (.iface t x) (.iface u y)) (fun w => kind_sub 0 E0 t u x y w) _ _ _ ab av cb cv m ps iha ihb hn hy wr h) w hev
      · exact wj_pair bs vs 136 _ (by decide) (by decide) (by decide) (by decide) _ ab av cb cv m ps (fun wr h => wk_pair bs vs 136 7 t u x y (me_mul (.iface t x) (.iface u y)) (fun w => kind_mul 0 E0 t u x y w) _ _ _ ab av cb cv m ps iha ihb hn hy wr h) w hev
      · exact wj_pair bs vs 137 _ (by decide) (by decide) (by decide) (by decide) _ ab av cb cv m ps (fun wr h => wk_pair bs vs 137 8 t u x y (me_div (.iface t x) (.iface u y)) (fun w => kind_div 0 E0 t u x y w) _ _ _ ab av cb cv m ps iha ihb hn hy wr h) w hev
      · exact wj_pair bs vs 138 _ (by decide) (by decide) (by decide) (by decide) _ ab av cb cv m ps (fun wr h => wk_pair bs vs 138 9 t u x y (me_and (.iface t x) (.iface u y)) (fun w => kind_and 0 E0 t u x y w) _ _ _ ab av cb cv m ps iha ihb hn hy wr h) w hev
      · exact wj_pair bs vs 139 _ (by decide) (by decide) (by decide) (by decide) _ ab av cb cv m ps (fun wr h => wk_pair bs vs 139 10 t u x y (me_or (.iface t x) (.iface u y)) (fun w => kind_or 0 E0 t u x y w) _ _ _ ab av cb cv m ps iha ihb hn hy wr h) w hev
    · obtain ⟨j, rfl⟩ := Int.eq_ofNat_of_zero_le hn.1
      exact wj_sect bs L vs hB hV hL j (by have := hn.2; omega)
    · cases hp : plS L s with
      | none => exact wj_globn bs L vs hB hV hL s hp
      | some i => exact wj_globy bs L vs hB hV hL s i hp
end Go.Proofs.YtkolflcjkofleaaDoor

namespace Go.Proofs.YtkolflcjkofleaaDoor
open Go.ChangeShapes Go.WideShapes Go.ChangeAt Go.RowKit
set_option linter.unusedVariables false
set_option maxRecDepth 8000
set_option linter.unusedSimpArgs false

set_option maxHeartbeats 4000000 in
theorem worthI_no (bs : List Int) (L : List ByteArray) (vs : List Int) (hB : bs.length ≤ 1099511627776) (hV : vs.length ≤ 1099511627776) (hL : L.length ≤ 1099511627776) (e : Ex) (b : Option Addr) (cap : Nat) (ab an av : Option Addr) (cb cn cv : Nat) (w : World) (hr : RdX w 0 e b) (hz : e.sz ≤ 1048576) (ht : TabK w) (rb : RdN w ab bs) (rn : RdU w an L) (rv : RdN w av vs) (ho : okF 6 false e = false) : Calls Tryd.prog 14 #[.agg (e.cs b cap), .slice ab bs.length cb, .slice an L.length cn, .slice av vs.length cv] w (InR none w) := by
  have FN := hide (fun (r : Ending) (w' : World) (h : r = .returned (.tuple #[.int .i64 0, .bool false])) (hb : Below w.heap.size w w') => inR_end (o := none) ⟨rfl, rfl⟩ h hb)
  generalize InR none w = R at *
  have B0 := hide (below_new w (.cells #[.int .i64 e.k, .int .i64 e.n, .string e.s, .slice b e.l.length cap] 26))
  have G0 := hide (show (w.alloc (.cells #[.int .i64 e.k, .int .i64 e.n, .string e.s, .slice b e.l.length cap] 26)).heap[w.heap.size]? = some (.cells #[.int .i64 e.k, .int .i64 e.n, .string e.s, .slice b e.l.length cap] 26 (0, 0)) from Array.getElem?_push_size)
  have TM := hide (term_all 6 (by omega) e b cap _ (hr.later (unhide B0)) hz (ht.next (unhide B0)))
  unfold TermR at TM
  rw [ho] at TM
  unfold Ex.cs at TM ⊢
  clear hr hz ht ho rb rn rv
  go_enter Tryd.func14, Tryd.ntmps14
  go_wp2_with (refine wpList_load_row rfl 26 _ rfl w.heap.size rfl 26 #[.int .i64 e.k, .int .i64 e.n, .string e.s, .slice b e.l.length cap] (0, 0) _ (unhide G0) Tryd.underlying26 rfl (by kernel_rfl) ?_)
  generalize w.alloc (.cells #[.int .i64 e.k, .int .i64 e.n, .string e.s, .slice b e.l.length cap] 26) = W at *
  refine (unhide TM).mono ?_
  rintro r w1 ⟨v, rfl, _, hb1⟩
  have B1 := hide ((unhide B0).trans (hb1.mono (unhide B0).size))
  clear hb1
  go_wp2
  (first | go_ret2 | go_ret | skip)
  exact unhide FN _ _ rfl (unhide B1)
set_option maxHeartbeats 8000000 in
theorem worthI_yes (bs : List Int) (L : List ByteArray) (vs : List Int) (hB : bs.length ≤ 1099511627776) (hV : vs.length ≤ 1099511627776) (hL : L.length ≤ 1099511627776) (e : Ex) (b : Option Addr) (cap : Nat) (ab an av : Option Addr) (cb cn cv : Nat) (w : World) (hr : RdX w 0 e b) (hz : e.sz ≤ 1048576) (ht : TabK w) (rb : RdN w ab bs) (rn : RdU w an L) (rv : RdN w av vs) (ho : okF 6 false e = true) : Calls Tryd.prog 14 #[.agg (e.cs b cap), .slice ab bs.length cb, .slice an L.length cn, .slice av vs.length cv] w (InR (worthX (seW bs) (glW L vs) e) w) := by
  have FN := hide (fun (r : Ending) (w' : World) (z : Int) (q : Bool) (hq : z = (worthX (seW bs) (glW L vs) e).getD 0 ∧ q = (worthX (seW bs) (glW L vs) e).isSome) (h : r = .returned (.tuple #[.int .i64 z, .bool q])) (hb : Below w.heap.size w w') => inR_end hq h hb)
  have WJ := hide (fun (m : Nat) (ps : List (ByteArray × Nat)) (wr : World) (h : Ew wr ab m av bs ps vs) (hp : ∀ s, lkS ps s = plS L s) => wj_all bs L vs hB hV hL 6 e ho ab av cb cv m ps wr h hp)
  generalize InR (worthX (seW bs) (glW L vs) e) w = R at *
  unfold InR at WJ
  obtain ⟨te, xe, ee⟩ := tv_if e
  rw [ee] at WJ
  generalize worthX (seW bs) (glW L vs) e = o at *
  have B0 := hide (below_new w (.cells #[.int .i64 e.k, .int .i64 e.n, .string e.s, .slice b e.l.length cap] 26))
  have G0 := hide (show (w.alloc (.cells #[.int .i64 e.k, .int .i64 e.n, .string e.s, .slice b e.l.length cap] 26)).heap[w.heap.size]? = some (.cells #[.int .i64 e.k, .int .i64 e.n, .string e.s, .slice b e.l.length cap] 26 (0, 0)) from Array.getElem?_push_size)
  have TM := hide (term_all 6 (by omega) e b cap _ (hr.later (unhide B0)) hz (ht.next (unhide B0)))
  unfold TermR at TM
  rw [ho, ee] at TM
  simp only [forall_const] at TM
  have PL := hide (fun wr (h : Below w.heap.size w wr) => places_any an L.length cn L wr rfl hL (rn.later h))
  have RB := hide (fun wr (h : Below w.heap.size w wr) => rb.later h)
  have RV := hide (fun wr (h : Below w.heap.size w wr) => rv.later h)
  unfold Ex.cs at TM ⊢
  clear hr hz ht ho ee rb rn rv
  go_enter Tryd.func14, Tryd.ntmps14
  go_wp2_with (refine wpList_load_row rfl 26 _ rfl w.heap.size rfl 26 #[.int .i64 e.k, .int .i64 e.n, .string e.s, .slice b e.l.length cap] (0, 0) _ (unhide G0) Tryd.underlying26 rfl (by kernel_rfl) ?_)
  generalize w.alloc (.cells #[.int .i64 e.k, .int .i64 e.n, .string e.s, .slice b e.l.length cap] 26) = W at *
  refine (unhide TM).mono ?_
  rintro r w1 ⟨v, rfl, rfl, hb1⟩
  have B1 := hide ((unhide B0).trans (hb1.mono (unhide B0).size))
  clear hb1 TM B0 G0
  have P1 := hide (unhide PL w1 (unhide B1))
  go_wp2_with (go_at_call 49; refine (unhide P1).mono ?_; rintro r w2 ⟨pb, ps, rfl, hmp, hps, hge, hb2⟩; have B2 := hide ((unhide B1).trans (hb2.mono (unhide B1).size)); have W2 := hide (unhide WJ pb ps w2 ⟨unhide RB _ (unhide B2), hmp, unhide RV _ (unhide B2)⟩ hps); clear hmp hps hge hb2)
  refine (unhide W2).mono ?_
  rintro r w3 ⟨rfl, hb3⟩
  have B3 := hide ((unhide B2).trans (hb3.mono (unhide B2).size))
  clear hb3
  go_wp2
  (first | go_ret2 | go_ret | skip)
  exact unhide FN _ _ _ _ ⟨rfl, rfl⟩ rfl (unhide B3)
theorem worthI_any (bs : List Int) (L : List ByteArray) (vs : List Int) (hB : bs.length ≤ 1099511627776) (hV : vs.length ≤ 1099511627776) (hL : L.length ≤ 1099511627776) (e : Ex) (b : Option Addr) (cap : Nat) (ab an av : Option Addr) (cb cn cv : Nat) (w : World) (hr : RdX w 0 e b) (hz : e.sz ≤ 1048576) (ht : TabK w) (rb : RdN w ab bs) (rn : RdU w an L) (rv : RdN w av vs) : Calls Tryd.prog 14 #[.agg (e.cs b cap), .slice ab bs.length cb, .slice an L.length cn, .slice av vs.length cv] w (InR (worthA bs L vs e) w) := by
  unfold worthA
  cases ho : okF 6 false e with
  | false => rw [if_neg (by decide)]; exact worthI_no bs L vs hB hV hL e b cap ab an av cb cn cv w hr hz ht rb rn rv ho
  | true => rw [if_pos rfl]; exact worthI_yes bs L vs hB hV hL e b cap ab an av cb cn cv w hr hz ht rb rn rv ho
end Go.Proofs.YtkolflcjkofleaaDoor

namespace Go.Proofs.YtkolflcjkofleaaDoor
open Go.ChangeShapes Go.WideShapes Go.ChangeAt Go.RowKit
set_option linter.unusedVariables false
set_option maxRecDepth 8000
set_option linter.unusedSimpArgs false

/-- Two lists, by where they begin, and how long they are. -/
structure Ky where
  a : Nat
  b : Nat
  n : Nat
def Ky.v (k : Ky) : Value := .agg #[.pointer (some ⟨k.a, 0, none⟩), .pointer (some ⟨k.b, 0, none⟩), .int .i64 k.n]
def Ky.same (k l : Ky) : Bool := k.a == l.a && (k.b == l.b && k.n == l.n)
theorem Ky.same_iff (k l : Ky) : k.same l = true ↔ k = l := by
  obtain ⟨a, b, n⟩ := k
  obtain ⟨c, d, m⟩ := l
  simp [Ky.same]
/-- A block that is a row of cells, not frozen. -/
def Clean (w : World) (b : Nat) : Prop := ∃ cs t, w.heap[b]? = some (.cells cs t (0, 0))
theorem run_ptr_eq (d : Nat) (w : World) (a b : Nat) (ha : Clean w a) (hb : Clean w b) : (Op.equalIn (d + 1) 79 (.pointer (some ⟨a, 0, none⟩)) (.pointer (some ⟨b, 0, none⟩))).run Tryd.prog w = .ok (a == b) w := by
  obtain ⟨i0, hi, hz0, hz1, hz2⟩ := info_parts infoX
  have hsz : i0.size ≠ 0 := by rw [hz1]; decide
  by_cases e : a = b
  · subst e
    simp [Op.equalIn, run_underlying Tryd.underlying79, sizeOf, typeInfo, hi, hsz, run_sameAddr_same]
  · obtain ⟨ca, ta, ha⟩ := ha
    obtain ⟨cb, tb, hb⟩ := hb
    have hne : (⟨a, 0, none⟩ : Addr) ≠ ⟨b, 0, none⟩ := fun h => e (by cases h; rfl)
    simp [Op.equalIn, run_underlying Tryd.underlying79, sizeOf, typeInfo, hi, hsz, run_sameAddr_other w hne ha hb, e]
theorem run_key_eq (w : World) (k l : Ky) (ka : Clean w k.a) (kb : Clean w k.b) (la : Clean w l.a) (lb : Clean w l.b) : (Op.equal 81 k.v l.v).run Tryd.prog w = .ok (k.same l) w := by
  unfold Op.equal Op.maxDepth Ky.v
  rw [run_equalIn_struct w 9999 81 _ _ (by kernel_rfl) (by kernel_rfl)]
  have hf : (Tryd.prog.fieldsOf 81).toList.map (fun f => (f.name, f.type, f.offset)) = [("one", 79, 0), ("other", 79, 1), ("size", 3, 2)] := by kernel_rfl
  have hlen := congrArg List.length hf
  rw [List.length_map] at hlen
  generalize (Tryd.prog.fieldsOf 81).toList = fs at *
  match fs, hlen, hf with
  | [f0, f1, f2], _, hf =>
    simp only [List.map_cons, List.map_nil, List.cons.injEq, Prod.mk.injEq] at hf
    obtain ⟨⟨n0, t0, o0⟩, ⟨n1, t1, o1⟩, ⟨n2, t2, o2⟩, _⟩ := hf
    have p0 : ∀ a b c : Value, (part 79 #[.pointer (some ⟨k.a, 0, none⟩), b, c] 0).run Tryd.prog w = .ok (.pointer (some ⟨k.a, 0, none⟩)) w := fun a b c => by kernel_rfl
    have q0 : (part 79 #[.pointer (some ⟨k.a, 0, none⟩), .pointer (some ⟨k.b, 0, none⟩), .int .i64 k.n] 0).run Tryd.prog w = .ok (.pointer (some ⟨k.a, 0, none⟩)) w := by kernel_rfl
    have q1 : (part 79 #[.pointer (some ⟨k.a, 0, none⟩), .pointer (some ⟨k.b, 0, none⟩), .int .i64 k.n] 1).run Tryd.prog w = .ok (.pointer (some ⟨k.b, 0, none⟩)) w := by kernel_rfl
    have q2 : (part 3 #[.pointer (some ⟨k.a, 0, none⟩), .pointer (some ⟨k.b, 0, none⟩), .int .i64 k.n] 2).run Tryd.prog w = .ok (.int .i64 k.n) w := by kernel_rfl
    have r0 : (part 79 #[.pointer (some ⟨l.a, 0, none⟩), .pointer (some ⟨l.b, 0, none⟩), .int .i64 l.n] 0).run Tryd.prog w = .ok (.pointer (some ⟨l.a, 0, none⟩)) w := by kernel_rfl
    have r1 : (part 79 #[.pointer (some ⟨l.a, 0, none⟩), .pointer (some ⟨l.b, 0, none⟩), .int .i64 l.n] 1).run Tryd.prog w = .ok (.pointer (some ⟨l.b, 0, none⟩)) w := by kernel_rfl
    have r2 : (part 3 #[.pointer (some ⟨l.a, 0, none⟩), .pointer (some ⟨l.b, 0, none⟩), .int .i64 l.n] 2).run Tryd.prog w = .ok (.int .i64 l.n) w := by kernel_rfl
    have s0 := run_ptr_eq 9998 w k.a l.a ka la
    have s1 := run_ptr_eq 9998 w k.b l.b kb lb
    have s2 := run_equalIn_int w 9998 3 .i64 .i64 (k.n : Int) (l.n : Int) Tryd.underlying3
    clear p0
    unfold Ky.same
    simp only [Op.eqFields, n0, n1, n2, t0, t1, t2, o0, o1, o2, Sem.run_bind, Sem.run_ite, q0, q1, q2, r0, r1, r2, Result.andThen_ok, s0, s1, s2]
    have en : ((k.n : Int) == (l.n : Int)) = (k.n == l.n) := by rw [Bool.eq_iff_iff, beq_iff_eq, beq_iff_eq]; omega
    rw [en]
    cases k.a == l.a <;> cases k.b == l.b <;> cases k.n == l.n <;> simp
/-- The entries of a map of keys. -/
def esOf (ks : List Ky) (born : Nat) : List MapEntry := match ks with
  | [] => []
  | k :: r => { key := k.v, val := .agg #[], born := born } :: esOf r (born + 1)
def hasK (ks : List Ky) (k : Ky) : Bool := ks.any (fun l => k.same l)
theorem hasK_iff (ks : List Ky) (k : Ky) : hasK ks k = true ↔ k ∈ ks := by
  unfold hasK
  rw [List.any_eq_true]
  constructor
  · rintro ⟨l, hl, h⟩; rw [(Ky.same_iff _ _).1 h]; exact hl
  · intro h; exact ⟨k, h, (Ky.same_iff _ _).2 rfl⟩
theorem run_asking (w : World) (k : Ky) (ka : Clean w k.a) (kb : Clean w k.b) : ∀ (ks : List Ky) (born i : Nat), (∀ l ∈ ks, Clean w l.a ∧ Clean w l.b) → ∃ r, (Instr.findAsking 81 k.v (esOf ks born) i).run Tryd.prog w = .ok r w ∧ ((hasK ks k = false ∧ r = none) ∨ (hasK ks k = true ∧ ∃ j, r = some (j, .agg #[]))) := by
  intro ks
  induction ks with
  | nil => intro born i _; exact ⟨none, rfl, .inl ⟨rfl, rfl⟩⟩
  | cons l r ih =>
    intro born i hc
    obtain ⟨la, lb⟩ := hc l List.mem_cons_self
    have he := run_key_eq w k l ka kb la lb
    obtain ⟨q, hq, hr⟩ := ih (born + 1) (i + 1) (fun x hx => hc x (List.mem_cons_of_mem _ hx))
    have hh : hasK (l :: r) k = (k.same l || hasK r k) := by simp [hasK]
    cases hs : k.same l with
    | true =>
      rw [hs] at he
      exact ⟨some (i, .agg #[]), by simp [esOf, Instr.findAsking, he], .inr ⟨by rw [hh, hs]; rfl, i, rfl⟩⟩
    | false =>
      rw [hs] at he
      exact ⟨q, by simp [esOf, Instr.findAsking, he, hq], by rw [hh, hs, Bool.false_or]; exact hr⟩
theorem find_struct (w : World) (k : Ky) (ks : List Ky) (born : Nat) : (Instr.findKey 81 k.v (esOf ks born)).run Tryd.prog w = (Instr.findAsking 81 k.v (esOf ks born) 0).run Tryd.prog w := by
  cases ks with
  | nil => simp [esOf, Instr.findKey, Instr.findAsking, run_underlying Tryd.underlying81, Instr.findNow]
  | cons l r => simp [esOf, Instr.findKey, run_underlying Tryd.underlying81, Instr.findNow, Instr.sameNow, Ky.v]
/-- Block b is a map of these keys. -/
def IsMp (w : World) (b : Nat) (ks : List Ky) : Prop := w.heap[b]? = some (.map (esOf ks 0).toArray ks.length)
theorem run_key_ok (em : Bool) (k : Ky) (w : World) : (Instr.checkKey em 10000 81 k.v).run Tryd.prog w = .ok () w := by
  cases em <;> kernel_rfl
theorem run_look {w : World} {b : Nat} {ks : List Ky} (h : IsMp w b ks) (k : Ky) (ka : Clean w k.a) (kb : Clean w k.b) (hc : ∀ l ∈ ks, Clean w l.a ∧ Clean w l.b) : (Instr.lookup 76 (.map (some b)) k.v true).run Tryd.prog w = .ok (.tuple #[.agg #[], .bool (hasK ks k)]) w := by
  obtain ⟨r, hr, hh⟩ := run_asking w k ka kb ks 0 0 hc
  have hf := (find_struct w k ks 0).trans hr
  have hz : (zeroValue 82).run Tryd.prog w = .ok (.agg #[]) w := by kernel_rfl
  rcases hh with ⟨h1, rfl⟩ | ⟨h1, j, rfl⟩
  · simp [Instr.lookup, run_underlying Tryd.underlying76, MapKept.run_getObj_map h, run_key_ok, hf, hz, h1, Result.andThen]
  · simp [Instr.lookup, run_underlying Tryd.underlying76, MapKept.run_getObj_map h, run_key_ok, hf, h1, Result.andThen]
theorem esOf_snoc (ks : List Ky) (k : Ky) : ∀ born, esOf (ks ++ [k]) born = esOf ks born ++ [{ key := k.v, val := .agg #[], born := born + ks.length }] := by
  induction ks with
  | nil => intro born; rfl
  | cons l r ih => intro born; simp only [List.cons_append, esOf, ih, List.length_cons]; congr 4; omega
theorem run_put {w : World} {b : Nat} {ks : List Ky} (h : IsMp w b ks) (k : Ky) (ka : Clean w k.a) (kb : Clean w k.b) (hc : ∀ l ∈ ks, Clean w l.a ∧ Clean w l.b) (hn : hasK ks k = false) : ∃ w', (Instr.mapUpdate 76 (.map (some b)) k.v (.agg #[])).run Tryd.prog w = .ok () w' ∧ IsMp w' b (ks ++ [k]) ∧ w'.heap.size = w.heap.size ∧ (∀ g, g ≠ b → w'.heap[g]? = w.heap[g]?) ∧ w'.os = w.os ∧ w'.tape = w.tape ∧ w'.output = w.output := by
  obtain ⟨r, hr, hh⟩ := run_asking w k ka kb ks 0 0 hc
  have hf := (find_struct w k ks 0).trans hr
  rcases hh with ⟨h1, rfl⟩ | ⟨h1, j, rfl⟩
  · have hrun : (Instr.mapUpdate 76 (.map (some b)) k.v (.agg #[])).run Tryd.prog w = .ok () { w with heap := w.heap.setIfInBounds b (.map ((esOf ks 0).toArray.push { key := k.v, val := .agg #[], born := ks.length }) (ks.length + 1)) } := by
      simp [Instr.mapUpdate, run_underlying Tryd.underlying76, MapKept.run_getObj_map h, run_key_ok, hf, MapKept.run_setObj_map _ h, Result.andThen]
    refine ⟨_, hrun, ?_, by simp, fun g hg => ?_, rfl, rfl, rfl⟩
    · have hl : b < w.heap.size := (Array.getElem?_eq_some_iff.1 h).1
      unfold IsMp
      simp [hl, esOf_snoc]
    · simp [Array.getElem?_setIfInBounds, Ne.symm hg]
  · rw [hn] at h1; cases h1
end Go.Proofs.YtkolflcjkofleaaDoor

namespace Go.Proofs.YtkolflcjkofleaaDoor
open Go.ChangeShapes Go.WideShapes Go.ChangeAt Go.RowKit
set_option linter.unusedVariables false
set_option maxRecDepth 8000

def eqB (a b : ByteArray) : Bool := a.toList == b.toList
theorem eqB_iff (a b : ByteArray) : eqB a b = true ↔ a = b := by
  unfold eqB
  rw [ByteArray.toList_eq, ByteArray.toList_eq, beq_iff_eq]
  exact ⟨fun h => bytes_inj h, fun h => by rw [h]⟩
/-- The same but for the parts. -/
def headX (a b : Ex) : Bool := a.k == b.k && (a.n == b.n && (eqB a.s b.s && a.l.length == b.l.length))
theorem headX_iff (a b : Ex) : headX a b = true ↔ a.k = b.k ∧ a.n = b.n ∧ a.s = b.s ∧ a.l.length = b.l.length := by
  unfold headX
  simp only [Bool.and_eq_true, beq_iff_eq, eqB_iff]
/-- Whether two terms are the same. -/
def sameX : Ex → Ex → Bool
  | ⟨k, n, s, l⟩ => fun b => headX ⟨k, n, s, l⟩ b && ((l.map sameX).zip b.l).all (fun p => p.1 p.2)
theorem sameX_eq (a b : Ex) : sameX a b = (headX a b && ((a.l.map sameX).zip b.l).all (fun p => p.1 p.2)) := by
  obtain ⟨k, n, s, l⟩ := a
  rw [sameX]
theorem sameX_iff (a : Ex) : ∀ b, sameX a b = true ↔ a = b := by
  induction a using Ex.ind with
  | h k n s l ih =>
    intro b
    rw [sameX_eq, Bool.and_eq_true, headX_iff, List.all_eq_true]
    constructor
    · rintro ⟨⟨h1, h2, h3, h4⟩, h5⟩
      obtain ⟨bk, bn, bs, bl⟩ := b
      simp only at h1 h2 h3 h4 h5
      subst h1 h2 h3
      congr 1
      apply List.ext_getElem h4
      intro i hi hj
      have hm : (sameX l[i], bl[i]) ∈ (l.map sameX).zip bl := by
        have hz : i < ((l.map sameX).zip bl).length := by simp; omega
        have := List.getElem_mem hz
        simpa using this
      exact (ih _ (List.getElem_mem hi) _).1 (h5 _ hm)
    · rintro rfl
      refine ⟨⟨rfl, rfl, rfl, rfl⟩, fun p hp => ?_⟩
      simp only at hp
      obtain ⟨i, hi, rfl⟩ := List.getElem_of_mem hp
      simp only [List.length_zip, List.length_map] at hi
      simp only [List.getElem_zip, List.getElem_map]
      exact (ih _ (List.getElem_mem (by omega)) _).2 rfl
/-- The first so many parts are the same. -/
def sameN (l m : List Ex) (k : Nat) : Bool := (List.range k).all (fun i => sameX (xAt l i) (xAt m i))
theorem sameN_0 (l m : List Ex) : sameN l m 0 = true := rfl
theorem sameN_s (l m : List Ex) (k : Nat) : sameN l m (k + 1) = (sameN l m k && sameX (xAt l k) (xAt m k)) := by
  unfold sameN
  rw [List.range_succ, List.all_append]
  simp
theorem sameN_part {l m : List Ex} {k n : Nat} (hk : k < n) (h : sameX (xAt l k) (xAt m k) = false) : sameN l m n = false := by
  unfold sameN
  rw [List.all_eq_false]
  exact ⟨k, by simpa using hk, by rw [h]; decide⟩
theorem sameX_n (a b : Ex) : sameX a b = (headX a b && sameN a.l b.l a.l.length) := by
  rw [Bool.eq_iff_iff, sameX_iff]
  constructor
  · rintro rfl
    rw [Bool.and_eq_true]
    refine ⟨(headX_iff _ _).2 ⟨rfl, rfl, rfl, rfl⟩, ?_⟩
    unfold sameN
    rw [List.all_eq_true]
    intro i _
    exact (sameX_iff _ _).2 rfl
  · intro h
    rw [Bool.and_eq_true, headX_iff] at h
    obtain ⟨⟨h1, h2, h3, h4⟩, h5⟩ := h
    unfold sameN at h5
    rw [List.all_eq_true] at h5
    obtain ⟨ak, an, as_, al⟩ := a
    obtain ⟨bk, bn, bs, bl⟩ := b
    simp only at h1 h2 h3 h4 h5
    subst h1 h2 h3
    congr 1
    apply List.ext_getElem h4
    intro i hi hj
    have := (sameX_iff _ _).1 (h5 i (by simpa using hi))
    rwa [xAt_get hi, xAt_get hj] at this
end Go.Proofs.YtkolflcjkofleaaDoor

namespace Go.Proofs.YtkolflcjkofleaaDoor
open Go.ChangeShapes Go.WideShapes Go.ChangeAt Go.RowKit
set_option linter.unusedVariables false
set_option maxRecDepth 8000
set_option linter.unusedSimpArgs false

/-- Two terms that wait, each with where its parts lie. -/
structure Pr where
  x : Ex
  y : Ex
  p : Option Addr
  q : Option Addr
  c : Nat
  d : Nat
def Pr.cs (r : Pr) : List Value := [.int .i64 r.x.k, .int .i64 r.x.n, .string r.x.s, .slice r.p r.x.l.length r.c, .int .i64 r.y.k, .int .i64 r.y.n, .string r.y.s, .slice r.q r.y.l.length r.d]
def cellsP : List Pr → List Value
  | [] => []
  | r :: l => r.cs ++ cellsP l
theorem cellsP_len (l : List Pr) : (cellsP l).length = l.length * 8 := by
  induction l with
  | nil => rfl
  | cons r l ih => simp only [cellsP, List.length_append, ih, List.length_cons, Pr.cs, List.length_nil]; omega
theorem cellsP_app (a b : List Pr) : cellsP (a ++ b) = cellsP a ++ cellsP b := by
  induction a with
  | nil => rfl
  | cons r l ih => simp only [List.cons_append, cellsP, ih, List.append_assoc]
theorem cellsP_last (l : List Pr) (r : Pr) (j : Nat) (h : j < 8) : (cellsP (l ++ [r]))[l.length * 8 + j]? = r.cs[j]? := by
  rw [cellsP_app, List.getElem?_append_right (by rw [cellsP_len]; omega), cellsP_len]
  simp only [cellsP, List.append_nil]
  congr 1
  omega
/-- What is met: the same but for the parts, and these have been laid open. -/
def R2 (ks : List Ky) (x : Ex) (p : Option Addr) (y : Ex) (q : Option Addr) : Prop := headX x y = true ∧ (x.l.length = 0 ∨ ∃ a b, p = some ⟨a, 0, none⟩ ∧ q = some ⟨b, 0, none⟩ ∧ Ky.mk a b x.l.length ∈ ks)
theorem R2.mono {ks ks' : List Ky} {x y : Ex} {p q : Option Addr} (h : R2 ks x p y q) (hk : ∀ k ∈ ks, k ∈ ks') : R2 ks' x p y q := by
  obtain ⟨h1, h2 | ⟨a, b, e1, e2, e3⟩⟩ := h
  · exact ⟨h1, .inl h2⟩
  · exact ⟨h1, .inr ⟨a, b, e1, e2, hk _ e3⟩⟩
/-- Two lists that were laid open: each pair of parts waits, or is met. -/
def Ent (w : World) (L : List Pr) (ks : List Ky) (k : Ky) : Prop := ∃ (x y : Ex) (F G : List Nat), OwX w x (some ⟨k.a, 0, none⟩) F ∧ OwX w y (some ⟨k.b, 0, none⟩) G ∧ x.l.length = k.n ∧ y.l.length = k.n ∧ 0 < k.n ∧ ∀ i, i < k.n → ∃ (c d : Option Addr) (cc cd : Nat), w.cell? ⟨k.a, i * 4 + 3, none⟩ = some (.slice c (xAt x.l i).l.length cc) ∧ w.cell? ⟨k.b, i * 4 + 3, none⟩ = some (.slice d (xAt y.l i).l.length cd) ∧ (Pr.mk (xAt x.l i) (xAt y.l i) c d cc cd ∈ L ∨ R2 ks (xAt x.l i) c (xAt y.l i) d)
structure Cmp (w : World) (a b : Ex) (pa pb : Option Addr) (ca cb : Nat) (L : List Pr) (ks : List Ky) : Prop where
  ok : ∀ r ∈ L, (∃ F, OwX w r.x r.p F) ∧ (∃ G, OwX w r.y r.q G)
  eq : a = b → ∀ r ∈ L, r.x = r.y
  root : Pr.mk a b pa pb ca cb ∈ L ∨ R2 ks a pa b pb
  ent : ∀ k ∈ ks, Ent w L ks k
/-- Where a term's parts lie tells them. -/
theorem OwX.det {w : World} (x : Ex) : ∀ (x' : Ex) (a : Nat) (F G : List Nat), OwX w x (some ⟨a, 0, none⟩) F → OwX w x' (some ⟨a, 0, none⟩) G → x.l.length = x'.l.length → x.l = x'.l := by
  induction x using Ex.ind with
  | h k n s l ih =>
    intro x' a F G h1 h2 hl
    rw [OwX_eq] at h1 h2
    rcases h1 with ⟨e, _⟩ | ⟨b, cs, t, Fs, ea, hh, hz, hF, rfl, h3⟩
    · rw [e] at hl
      rw [e]
      exact (List.eq_nil_of_length_eq_zero hl.symm).symm
    · rcases h2 with ⟨e, _⟩ | ⟨b', cs', t', Fs', ea', hh', hz', hF', rfl, h3'⟩
      · rw [e] at hl
        exact (List.eq_nil_of_length_eq_zero hl).trans e.symm
      · cases ea
        cases ea'
        rw [hh] at hh'
        cases hh'
        apply List.ext_getElem hl
        intro i hi hj
        obtain ⟨p0, p1, p2, c, cap, p3, p4⟩ := h3 i hi
        obtain ⟨q0, q1, q2, c', cap', q3, q4⟩ := h3' i hj
        rw [p0] at q0; rw [p1] at q1; rw [p2] at q2; rw [p3] at q3
        simp only [Option.some.injEq, Value.int.injEq, true_and, Value.string.injEq, Value.slice.injEq] at q0 q1 q2 q3
        obtain ⟨rfl, ql, _⟩ := q3
        have hi' : i < (Ex.mk k n s l).l.length := hi
        have e := ih _ (xAt_mem hi') (xAt x'.l i)
        have e0 : xAt (Ex.mk k n s l).l i = (Ex.mk k n s l).l[i] := xAt_get hi
        have e1 : xAt x'.l i = x'.l[i] := xAt_get hj
        rw [← e0, ← e1]
        have el : (xAt (Ex.mk k n s l).l i).l = (xAt x'.l i).l := by
          by_cases h0 : (xAt (Ex.mk k n s l).l i).l.length = 0
          · exact (List.eq_nil_of_length_eq_zero h0).trans (List.eq_nil_of_length_eq_zero (ql.symm.trans h0)).symm
          · rw [OwX_eq] at p4
            rcases p4 with ⟨z, _⟩ | ⟨b2, cs2, t2, Fs2, rfl, hh2, hz2, hF2, eF, h4⟩
            · rw [z] at h0; exact absurd rfl h0
            · exact e b2 _ _ ((OwX_eq _ _ _ _).2 (.inr ⟨b2, cs2, t2, Fs2, rfl, hh2, hz2, hF2, eF, h4⟩)) q4 ql
        generalize xAt (Ex.mk k n s l).l i = u at *
        generalize xAt x'.l i = v at *
        obtain ⟨uk, un, us, ul⟩ := u
        obtain ⟨vk, vn, vs, vl⟩ := v
        simp only at q0 q1 q2 el
        rw [q0, q1, q2, el]
theorem OwX.cell {w : World} {x : Ex} {a : Nat} {F : List Nat} (h : OwX w x (some ⟨a, 0, none⟩) F) {i : Nat} (hi : i < x.l.length) : ∃ c cc G, w.cell? ⟨a, i * 4, none⟩ = some (.int .i64 (xAt x.l i).k) ∧ w.cell? ⟨a, i * 4 + 1, none⟩ = some (.int .i64 (xAt x.l i).n) ∧ w.cell? ⟨a, i * 4 + 2, none⟩ = some (.string (xAt x.l i).s) ∧ w.cell? ⟨a, i * 4 + 3, none⟩ = some (.slice c (xAt x.l i).l.length cc) ∧ OwX w (xAt x.l i) c G := by
  rw [OwX_eq] at h
  rcases h with ⟨e, _⟩ | ⟨b, cs, t, Fs, ea, hh, hz, hF, rfl, h3⟩
  · rw [e] at hi; simp at hi
  · cases ea
    obtain ⟨p0, p1, p2, c, cap, p3, p4⟩ := h3 i hi
    exact ⟨c, cap, _, (Lib.cell_of_heap hh _).trans p0, (Lib.cell_of_heap hh _).trans p1, (Lib.cell_of_heap hh _).trans p2, (Lib.cell_of_heap hh _).trans p3, p4⟩
theorem OwX.at {w : World} {x : Ex} {p : Option Addr} {F : List Nat} (h : OwX w x p F) (hl : 0 < x.l.length) : ∃ a, p = some ⟨a, 0, none⟩ ∧ Clean w a := by
  rw [OwX_eq] at h
  rcases h with ⟨e, _⟩ | ⟨b, cs, t, Fs, ea, hh, _⟩
  · rw [e] at hl; simp at hl
  · exact ⟨b, ea, cs, t, hh⟩
/-- With nothing left, what is met is the same. -/
theorem met_same {w : World} {ks : List Ky} (he : ∀ k ∈ ks, Ent w [] ks k) (x : Ex) : ∀ (y : Ex) (p q : Option Addr) (F G : List Nat), OwX w x p F → OwX w y q G → R2 ks x p y q → x = y := by
  induction x using Ex.ind with
  | h k n s l ih =>
    intro y p q F G hx hy hR
    obtain ⟨hh, hR⟩ := hR
    obtain ⟨e1, e2, e3, e4⟩ := (headX_iff _ _).1 hh
    have el : l = y.l := by
      rcases hR with h0 | ⟨a, b, rfl, rfl, hk⟩
      · have h0 : l.length = 0 := h0
        have e4 : l.length = y.l.length := e4
        exact (List.eq_nil_of_length_eq_zero h0).trans (List.eq_nil_of_length_eq_zero (by omega)).symm
      · obtain ⟨x', y', F', G', hx', hy', l1, l2, hp, hi⟩ := he _ hk
        have d1 : l = x'.l := OwX.det _ _ _ _ _ hx hx' l1.symm
        have d2 : y.l = y'.l := OwX.det _ _ _ _ _ hy hy' (by rw [l2]; exact e4.symm)
        apply List.ext_getElem e4
        intro i hi1 hi2
        have hi1 : i < l.length := hi1
        obtain ⟨c, d, cc, cd, c1, c2, h | h⟩ := hi i hi1
        · cases h
        · rw [← d1] at c1 h
          rw [← d2] at c2 h
          obtain ⟨c', cc', F2, _, _, _, c3, o1⟩ := OwX.cell hx (i := i) hi1
          obtain ⟨d', cd', G2, _, _, _, c4, o2⟩ := OwX.cell hy (i := i) hi2
          have c3 : w.cell? ⟨a, i * 4 + 3, none⟩ = some (.slice c' (xAt l i).l.length cc') := c3
          have o1 : OwX w (xAt l i) c' F2 := o1
          rw [c1] at c3
          rw [c2] at c4
          simp only [Option.some.injEq, Value.slice.injEq] at c3 c4
          obtain ⟨rfl, _, _⟩ := c3
          obtain ⟨rfl, _, _⟩ := c4
          have := ih _ (xAt_mem hi1) (xAt y.l i) _ _ _ _ o1 o2 h
          rwa [xAt_get hi1, xAt_get hi2] at this
    obtain ⟨yk, yn, ys, yl⟩ := y
    simp only at e1 e2 e3 el
    rw [e1, e2, e3, el]
section
variable {w : World} {a b : Ex} {pa pb : Option Addr} {ca cb : Nat} {L : List Pr} {ks : List Ky} {r : Pr}
theorem Cmp.start (ha : ∃ F, OwX w a pa F) (hb : ∃ G, OwX w b pb G) : Cmp w a b pa pb ca cb [⟨a, b, pa, pb, ca, cb⟩] [] :=
  ⟨fun r hr => by rw [List.mem_singleton] at hr; subst hr; exact ⟨ha, hb⟩, fun e r hr => by rw [List.mem_singleton] at hr; subst hr; exact e, .inl (List.mem_singleton.2 rfl), fun k hk => by cases hk⟩
theorem Cmp.end (h : Cmp w a b pa pb ca cb [] ks) (ha : ∃ F, OwX w a pa F) (hb : ∃ G, OwX w b pb G) : sameX a b = true := by
  obtain ⟨F, ha⟩ := ha
  obtain ⟨G, hb⟩ := hb
  rcases h.root with h1 | h1
  · cases h1
  · exact (sameX_iff _ _).2 (met_same h.ent a b pa pb F G ha hb h1)
theorem Cmp.no (h : Cmp w a b pa pb ca cb (L ++ [r]) ks) (hh : headX r.x r.y = false) : sameX a b = false := by
  cases hs : sameX a b with
  | false => rfl
  | true =>
    have e := h.eq ((sameX_iff _ _).1 hs) r (List.mem_append.2 (.inr (List.mem_singleton.2 rfl)))
    rw [e, (headX_iff _ _).2 ⟨rfl, rfl, rfl, rfl⟩] at hh
    cases hh
theorem Ent.drop {k : Ky} (h : Ent w (L ++ [r]) ks k) (hr : R2 ks r.x r.p r.y r.q) : Ent w L ks k := by
  obtain ⟨x, y, F, G, h1, h2, h3, h4, h5, h6⟩ := h
  refine ⟨x, y, F, G, h1, h2, h3, h4, h5, fun i hi => ?_⟩
  obtain ⟨c, d, cc, cd, c1, c2, h | h⟩ := h6 i hi
  · rcases List.mem_append.1 h with h | h
    · exact ⟨c, d, cc, cd, c1, c2, .inl h⟩
    · rw [List.mem_singleton] at h
      subst h
      exact ⟨c, d, cc, cd, c1, c2, .inr hr⟩
  · exact ⟨c, d, cc, cd, c1, c2, .inr h⟩
theorem Cmp.drop (h : Cmp w a b pa pb ca cb (L ++ [r]) ks) (hr : R2 ks r.x r.p r.y r.q) : Cmp w a b pa pb ca cb L ks := by
  refine ⟨fun x hx => h.ok x (List.mem_append.2 (.inl hx)), fun e x hx => h.eq e x (List.mem_append.2 (.inl hx)), ?_, fun k hk => (h.ent k hk).drop hr⟩
  rcases h.root with h1 | h1
  · rcases List.mem_append.1 h1 with h1 | h1
    · exact .inl h1
    · rw [List.mem_singleton] at h1
      subst h1
      exact .inr hr
  · exact .inr h1
/-- The pairs of parts, so many. -/
def kids (w : World) (x y : Ex) (k : Ky) (m : Nat) (M : List Pr) : Prop := M.length = m ∧ ∀ i, i < m → ∃ (c d : Option Addr) (cc cd : Nat), M[i]? = some ⟨xAt x.l i, xAt y.l i, c, d, cc, cd⟩ ∧ w.cell? ⟨k.a, i * 4 + 3, none⟩ = some (.slice c (xAt x.l i).l.length cc) ∧ w.cell? ⟨k.b, i * 4 + 3, none⟩ = some (.slice d (xAt y.l i).l.length cd) ∧ (∃ F, OwX w (xAt x.l i) c F) ∧ (∃ G, OwX w (xAt y.l i) d G)
theorem Cmp.open (h : Cmp w a b pa pb ca cb (L ++ [r]) ks) (hh : headX r.x r.y = true) (k : Ky) (hp : r.p = some ⟨k.a, 0, none⟩) (hq : r.q = some ⟨k.b, 0, none⟩) (hn : k.n = r.x.l.length) (h0 : 0 < k.n) {M : List Pr} (hM : kids w r.x r.y k k.n M) : Cmp w a b pa pb ca cb (L ++ M) (ks ++ [k]) := by
  obtain ⟨e1, e2, e3, e4⟩ := (headX_iff _ _).1 hh
  have hkm : ∀ l ∈ ks, l ∈ ks ++ [k] := fun l hl => List.mem_append.2 (.inl hl)
  have hr : R2 (ks ++ [k]) r.x r.p r.y r.q := ⟨hh, .inr ⟨k.a, k.b, hp, hq, List.mem_append.2 (.inr (List.mem_singleton.2 (by rw [← hn])))⟩⟩
  obtain ⟨hok, hok2⟩ := h.ok r (List.mem_append.2 (.inr (List.mem_singleton.2 rfl)))
  refine ⟨fun x hx => ?_, fun e x hx => ?_, ?_, fun l hl => ?_⟩
  · rcases List.mem_append.1 hx with hx | hx
    · exact h.ok x (List.mem_append.2 (.inl hx))
    · obtain ⟨i, hi, rfl⟩ := List.getElem_of_mem hx
      obtain ⟨c, d, cc, cd, m1, _, _, o1, o2⟩ := hM.2 i (by rw [← hM.1]; exact hi)
      rw [List.getElem?_eq_getElem hi, Option.some.injEq] at m1
      rw [m1]
      exact ⟨o1, o2⟩
  · rcases List.mem_append.1 hx with hx | hx
    · exact h.eq e x (List.mem_append.2 (.inl hx))
    · obtain ⟨i, hi, rfl⟩ := List.getElem_of_mem hx
      obtain ⟨c, d, cc, cd, m1, _, _, o1, o2⟩ := hM.2 i (by rw [← hM.1]; exact hi)
      rw [List.getElem?_eq_getElem hi, Option.some.injEq] at m1
      rw [m1, h.eq e r (List.mem_append.2 (.inr (List.mem_singleton.2 rfl)))]
  · rcases h.root with h1 | h1
    · rcases List.mem_append.1 h1 with h1 | h1
      · exact .inl (List.mem_append.2 (.inl h1))
      · rw [List.mem_singleton] at h1
        subst h1
        exact .inr hr
    · exact .inr (h1.mono hkm)
  · rcases List.mem_append.1 hl with hl | hl
    · obtain ⟨x, y, F, G, h1, h2, h3, h4, h5, h6⟩ := h.ent l hl
      refine ⟨x, y, F, G, h1, h2, h3, h4, h5, fun i hi => ?_⟩
      obtain ⟨c, d, cc, cd, c1, c2, h | h⟩ := h6 i hi
      · rcases List.mem_append.1 h with h | h
        · exact ⟨c, d, cc, cd, c1, c2, .inl (List.mem_append.2 (.inl h))⟩
        · rw [List.mem_singleton] at h
          subst h
          exact ⟨c, d, cc, cd, c1, c2, .inr hr⟩
      · exact ⟨c, d, cc, cd, c1, c2, .inr (h.mono hkm)⟩
    · rw [List.mem_singleton] at hl
      subst hl
      obtain ⟨F, o1⟩ := hok
      obtain ⟨G, o2⟩ := hok2
      rw [hp] at o1
      rw [hq] at o2
      refine ⟨r.x, r.y, F, G, o1, o2, hn.symm, by rw [← e4]; exact hn.symm, h0, fun i hi => ?_⟩
      obtain ⟨c, d, cc, cd, m1, c1, c2, _⟩ := hM.2 i hi
      exact ⟨c, d, cc, cd, c1, c2, .inl (List.mem_append.2 (.inr (List.mem_of_getElem? m1)))⟩
theorem Cmp.clean (h : Cmp w a b pa pb ca cb L ks) : ∀ l ∈ ks, Clean w l.a ∧ Clean w l.b := by
  intro l hl
  obtain ⟨x, y, F, G, h1, h2, h3, h4, h5, _⟩ := h.ent l hl
  obtain ⟨a1, e1, c1⟩ := OwX.at h1 (by omega)
  obtain ⟨a2, e2, c2⟩ := OwX.at h2 (by omega)
  cases e1
  cases e2
  exact ⟨c1, c2⟩
end
/-- How much waits. -/
def waitN : List Pr → Nat
  | [] => 0
  | r :: l => 1 + r.x.sz + waitN l
theorem waitN_app (a b : List Pr) : waitN (a ++ b) = waitN a + waitN b := by
  induction a with
  | nil => simp [waitN]
  | cons r l ih => simp only [List.cons_append, waitN, ih]; omega
theorem waitN_len (l : List Pr) : l.length ≤ waitN l := by
  induction l with
  | nil => simp [waitN]
  | cons r l ih => simp only [waitN, List.length_cons]; omega
end Go.Proofs.YtkolflcjkofleaaDoor
