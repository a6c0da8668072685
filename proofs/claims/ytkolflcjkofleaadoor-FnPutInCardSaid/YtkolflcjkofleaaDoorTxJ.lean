/- Contracts over this seat's translation, laid together; conditions stand as hypotheses of each. -/
import Derived.Test.YtkolflcjkofleaaDoorTxC
import Derived.Test.YtkolflcjkofleaaDoorTxD
import Derived.Test.YtkolflcjkofleaaDoorTxF
import Derived.Test.YtkolflcjkofleaaDoorTxH
import Derived.Test.YtkolflcjkofleaaDoorTxI
import Derived.Deep.RegionWith
import Derived.LoopN
import Derived.OrdersHeld
import Derived.Deep.RegionHeld

namespace Go.Proofs.YtkolflcjkofleaaDoor
open Go.ChangeShapes Go.WideShapes Go.ChangeAt Go.RowKit
set_option linter.unusedVariables false
set_option maxRecDepth 8000
set_option linter.unusedSimpArgs false

theorem pair_one (k : Int) (u v : Value) (w : World) (hk : inB k 5 10 = true) : Calls Tryd.prog 68 #[.int .i64 k, .agg #[u, v]] w fun r w' => r = .returned (.tuple #[.iface (pairT k) (.agg #[u, v]), .bool true]) ∧ Below w.heap.size w w' := by
  refine (pair_any k u v w).mono ?_
  rintro r w' ⟨x, hr, hx, hb⟩
  rw [hr, hx hk, hk]
  exact ⟨rfl, hb⟩
/-- What is put, and where, as it lies: names in a map, values in a row. -/
structure Fi (w : World) (m : Nat) (ps : List (ByteArray × Nat)) (gv off : Nat) (vals : List Ex) : Prop where
  m : IsMs w m ps
  l : gv < w.heap.size
  v : ∀ i, i < vals.length → w.cell? ⟨gv, off + i, none⟩ = some (tv (xAt vals i))
theorem Fi.later {w w' : World} {m gv off : Nat} {ps : List (ByteArray × Nat)} {vals : List Ex} (h : Fi w m ps gv off vals) (hb : Below w.heap.size w w') : Fi w' m ps gv off vals :=
  ⟨h.m.later hb, Nat.lt_of_lt_of_le h.l hb.size, fun i hi => (hb.cell (p := ⟨gv, off + i, none⟩) h.l).trans (h.v i hi)⟩
theorem put_at {L : List ByteArray} {s : ByteArray} {i : Nat} (h : plS L s = some i) : atV L s = i := by rw [plS_at, h]; rfl
theorem put_none {L : List ByteArray} {s : ByteArray} (h : plS L s = none) : atV L s = -1 := by rw [plS_at, h]; rfl
theorem putX_leaf (here : Ex) (L : List ByteArray) (vals : List Ex) (k n : Int) (s : ByteArray) (h3 : k ≠ 3) (h2 : k ≠ 2) : putX here L vals ⟨k, n, s, []⟩ = ⟨k, n, s, []⟩ := by rw [putX_eq]; unfold putC; rw [if_neg h3, if_neg (fun h => h2 h.1)]; rfl
theorem putX_here (here : Ex) (L : List ByteArray) (vals : List Ex) (n : Int) (s : ByteArray) : putX here L vals ⟨3, n, s, []⟩ = here := by rw [putX_eq]; unfold putC; rw [if_pos rfl]
theorem putX_symy (here : Ex) (L : List ByteArray) (vals : List Ex) (n : Int) (s : ByteArray) (i : Nat) (h : plS L s = some i) : putX here L vals ⟨2, n, s, []⟩ = xAt vals i := by rw [putX_eq]; unfold putC; rw [if_neg (by decide), put_at h, if_pos ⟨rfl, by omega⟩]; rfl
theorem putX_symn (here : Ex) (L : List ByteArray) (vals : List Ex) (n : Int) (s : ByteArray) (h : plS L s = none) : putX here L vals ⟨2, n, s, []⟩ = ⟨2, n, s, []⟩ := by rw [putX_eq]; unfold putC; rw [if_neg (by decide), put_none h, if_neg (fun h => by have := h.2; omega)]; rfl
theorem putX_neg (here : Ex) (L : List ByteArray) (vals : List Ex) (n : Int) (s : ByteArray) (a : Ex) : putX here L vals ⟨4, n, s, [a]⟩ = ⟨4, n, s, [putX here L vals a]⟩ := by rw [putX_eq]; unfold putC; rw [if_neg (by decide), if_neg (fun h => absurd h.1 (by decide))]; rfl
theorem putX_two (here : Ex) (L : List ByteArray) (vals : List Ex) {k : Int} (hk : 5 ≤ k ∧ k ≤ 10) (n : Int) (s : ByteArray) (a b : Ex) : putX here L vals ⟨k, n, s, [a, b]⟩ = ⟨k, n, s, [putX here L vals a, putX here L vals b]⟩ := by rw [putX_eq]; unfold putC; rw [if_neg (by omega), if_neg (fun h => by omega)]; rfl
theorem pl_ltN {L : List ByteArray} {s : ByteArray} {i : Nat} (h : plS L s = some i) : i < L.length := by
  unfold plS at h
  rw [List.findIdx?_eq_some_iff_getElem] at h
  exact h.1
/-- What into answers of a term. -/
def InJ (here : Ex) (L : List ByteArray) (vals : List Ex) (e : Ex) : Prop := ∀ (th : TypeId) (xh : Value) (m gv off cv : Nat) (ps : List (ByteArray × Nat)) (w : World), tv here = .iface th xh → Fi w m ps gv off vals → (∀ s, lkS ps s = plS L s) → Calls Tryd.prog 59 #[.agg #[.iface th xh, .map (some m), .slice (some ⟨gv, off, none⟩) vals.length cv], tv e] w (VaR (tv (putX here L vals e)) w)
set_option maxHeartbeats 4000000 in
theorem ij_num (here : Ex) (L : List ByteArray) (vals : List Ex) (hL : L.length = vals.length) (hn : vals.length ≤ 1099511627776) (k : Int) : InJ here L vals (⟨1, k, E0, []⟩) := by
  intro th xh m gv off cv ps w hth hev hps
  rw [putX_leaf _ _ _ _ _ _ (by decide) (by decide), tv_num]
  have FN := hide (fun r w' (h : r = .returned (.iface 88 (.agg #[.int .i64 k]))) (hb : Below w.heap.size w w') => (show VaR (.iface 88 (.agg #[.int .i64 k])) w r w' from ⟨h, hb⟩))
  generalize VaR (.iface 88 (.agg #[.int .i64 k])) w = R at *
  have B0 := hide (below_new w (.cells #[.iface th xh, .map (some m), .slice (some ⟨gv, off, none⟩) vals.length cv] 95))
  have G0 := hide (show (w.alloc (.cells #[.iface th xh, .map (some m), .slice (some ⟨gv, off, none⟩) vals.length cv] 95)).heap[w.heap.size]? = some (.cells #[.iface th xh, .map (some m), .slice (some ⟨gv, off, none⟩) vals.length cv] 95 (0, 0)) from Array.getElem?_push_size)
  have V0 := hide (hev.later (unhide B0))
  have t0 := taN_here 88 (.agg #[.int .i64 k]) (by decide)
  have t1 := taN_sym 88 (.agg #[.int .i64 k]) (by decide)
  have t2 := taN_neg 88 (.agg #[.int .i64 k]) (by decide)
  have m0 := me_num (.int .i64 k)
  have P0 := hide (parts0 (w.alloc (.cells #[.iface th xh, .map (some m), .slice (some ⟨gv, off, none⟩) vals.length cv] 95)))
  clear hev hps hth
  go_enter Tryd.func59, Tryd.ntmps59
  go_wp2_with (go_at_call 121; refine (unhide P0).mono ?_; rintro r w1 ⟨rfl, hb1⟩; have B1 := hide ((unhide B0).trans (hb1.mono (unhide B0).size)); clear hb1)
  (first | go_ret2 | go_ret | skip)
  exact unhide FN _ _ rfl (unhide B1)
set_option maxHeartbeats 4000000 in
theorem ij_sect (here : Ex) (L : List ByteArray) (vals : List Ex) (hL : L.length = vals.length) (hn : vals.length ≤ 1099511627776) (k : Int) : InJ here L vals (⟨11, k, E0, []⟩) := by
  intro th xh m gv off cv ps w hth hev hps
  rw [putX_leaf _ _ _ _ _ _ (by decide) (by decide), tv_sect]
  have FN := hide (fun r w' (h : r = .returned (.iface 115 (.agg #[.int .i64 k]))) (hb : Below w.heap.size w w') => (show VaR (.iface 115 (.agg #[.int .i64 k])) w r w' from ⟨h, hb⟩))
  generalize VaR (.iface 115 (.agg #[.int .i64 k])) w = R at *
  have B0 := hide (below_new w (.cells #[.iface th xh, .map (some m), .slice (some ⟨gv, off, none⟩) vals.length cv] 95))
  have G0 := hide (show (w.alloc (.cells #[.iface th xh, .map (some m), .slice (some ⟨gv, off, none⟩) vals.length cv] 95)).heap[w.heap.size]? = some (.cells #[.iface th xh, .map (some m), .slice (some ⟨gv, off, none⟩) vals.length cv] 95 (0, 0)) from Array.getElem?_push_size)
  have V0 := hide (hev.later (unhide B0))
  have t0 := taN_here 115 (.agg #[.int .i64 k]) (by decide)
  have t1 := taN_sym 115 (.agg #[.int .i64 k]) (by decide)
  have t2 := taN_neg 115 (.agg #[.int .i64 k]) (by decide)
  have m0 := me_sect (.int .i64 k)
  have P0 := hide (parts0 (w.alloc (.cells #[.iface th xh, .map (some m), .slice (some ⟨gv, off, none⟩) vals.length cv] 95)))
  clear hev hps hth
  go_enter Tryd.func59, Tryd.ntmps59
  go_wp2_with (go_at_call 121; refine (unhide P0).mono ?_; rintro r w1 ⟨rfl, hb1⟩; have B1 := hide ((unhide B0).trans (hb1.mono (unhide B0).size)); clear hb1)
  (first | go_ret2 | go_ret | skip)
  exact unhide FN _ _ rfl (unhide B1)
set_option maxHeartbeats 4000000 in
theorem ij_glob (here : Ex) (L : List ByteArray) (vals : List Ex) (hL : L.length = vals.length) (hn : vals.length ≤ 1099511627776) (s : ByteArray) : InJ here L vals (⟨12, 0, s, []⟩) := by
  intro th xh m gv off cv ps w hth hev hps
  rw [putX_leaf _ _ _ _ _ _ (by decide) (by decide), tv_glob]
  have FN := hide (fun r w' (h : r = .returned (.iface 118 (.agg #[.string s]))) (hb : Below w.heap.size w w') => (show VaR (.iface 118 (.agg #[.string s])) w r w' from ⟨h, hb⟩))
  generalize VaR (.iface 118 (.agg #[.string s])) w = R at *
  have B0 := hide (below_new w (.cells #[.iface th xh, .map (some m), .slice (some ⟨gv, off, none⟩) vals.length cv] 95))
  have G0 := hide (show (w.alloc (.cells #[.iface th xh, .map (some m), .slice (some ⟨gv, off, none⟩) vals.length cv] 95)).heap[w.heap.size]? = some (.cells #[.iface th xh, .map (some m), .slice (some ⟨gv, off, none⟩) vals.length cv] 95 (0, 0)) from Array.getElem?_push_size)
  have V0 := hide (hev.later (unhide B0))
  have t0 := taN_here 118 (.agg #[.string s]) (by decide)
  have t1 := taN_sym 118 (.agg #[.string s]) (by decide)
  have t2 := taN_neg 118 (.agg #[.string s]) (by decide)
  have m0 := me_glob (.string s)
  have P0 := hide (parts0 (w.alloc (.cells #[.iface th xh, .map (some m), .slice (some ⟨gv, off, none⟩) vals.length cv] 95)))
  clear hev hps hth
  go_enter Tryd.func59, Tryd.ntmps59
  go_wp2_with (go_at_call 121; refine (unhide P0).mono ?_; rintro r w1 ⟨rfl, hb1⟩; have B1 := hide ((unhide B0).trans (hb1.mono (unhide B0).size)); clear hb1)
  (first | go_ret2 | go_ret | skip)
  exact unhide FN _ _ rfl (unhide B1)
set_option maxHeartbeats 4000000 in
theorem ij_here (here : Ex) (L : List ByteArray) (vals : List Ex) (hL : L.length = vals.length) (hn : vals.length ≤ 1099511627776)  : InJ here L vals (⟨3, 0, E0, []⟩) := by
  intro th xh m gv off cv ps w hth hev hps
  rw [putX_here, tv_here, hth]
  have FN := hide (fun r w' (h : r = .returned (.iface th xh)) (hb : Below w.heap.size w w') => (show VaR (.iface th xh) w r w' from ⟨h, hb⟩))
  generalize VaR (.iface th xh) w = R at *
  have B0 := hide (below_new w (.cells #[.iface th xh, .map (some m), .slice (some ⟨gv, off, none⟩) vals.length cv] 95))
  have G0 := hide (show (w.alloc (.cells #[.iface th xh, .map (some m), .slice (some ⟨gv, off, none⟩) vals.length cv] 95)).heap[w.heap.size]? = some (.cells #[.iface th xh, .map (some m), .slice (some ⟨gv, off, none⟩) vals.length cv] 95 (0, 0)) from Array.getElem?_push_size)
  have V0 := hide (hev.later (unhide B0))
  have t0 := taY_here (.agg #[])
  have T := hide (two_resG w (.cells #[.iface th xh, .map (some m), .slice (some ⟨gv, off, none⟩) vals.length cv] 95) (.cells #[] 130))
  clear hev hps hth
  go_enter Tryd.func59, Tryd.ntmps59
  go_wp2
  (first | go_ret2 | go_ret | skip)
  exact unhide FN _ _ rfl (by first | exact (unhide T).1 | exact unhide B0)
set_option maxHeartbeats 4000000 in
theorem ij_symn (here : Ex) (L : List ByteArray) (vals : List Ex) (hL : L.length = vals.length) (hn : vals.length ≤ 1099511627776) (s : ByteArray) (hp : plS L s = none) : InJ here L vals (⟨2, 0, s, []⟩) := by
  intro th xh m gv off cv ps w hth hev hps
  rw [putX_symn _ _ _ _ _ hp, tv_sym]
  have FN := hide (fun r w' (h : r = .returned (.iface 117 (.agg #[.string s]))) (hb : Below w.heap.size w w') => (show VaR (.iface 117 (.agg #[.string s])) w r w' from ⟨h, hb⟩))
  generalize VaR (.iface 117 (.agg #[.string s])) w = R at *
  have B0 := hide (below_new w (.cells #[.iface th xh, .map (some m), .slice (some ⟨gv, off, none⟩) vals.length cv] 95))
  have G0 := hide (show (w.alloc (.cells #[.iface th xh, .map (some m), .slice (some ⟨gv, off, none⟩) vals.length cv] 95)).heap[w.heap.size]? = some (.cells #[.iface th xh, .map (some m), .slice (some ⟨gv, off, none⟩) vals.length cv] 95 (0, 0)) from Array.getElem?_push_size)
  have V0 := hide (hev.later (unhide B0))
  have t0 := taN_here 117 (.agg #[.string s]) (by decide)
  have t1 := taY_sym (.agg #[.string s])
  have T := hide (two_resG w (.cells #[.iface th xh, .map (some m), .slice (some ⟨gv, off, none⟩) vals.length cv] 95) (.cells #[.string s] 117))
  have V1 := hide ((unhide V0).later (below_new _ (.cells #[.string s] 117)))
  have LK := run_lookS (unhide V1).m s
  rw [hps, hp] at LK
  simp only [Option.getD_none, Option.isSome_none, Option.getD_some, Option.isSome_some] at LK
  clear hp hps hev hth
  go_enter Tryd.func59, Tryd.ntmps59
  go_wp2
  (first | go_ret2 | go_ret | skip)
  exact unhide FN _ _ rfl (unhide T).1
set_option maxHeartbeats 4000000 in
theorem ij_symy (here : Ex) (L : List ByteArray) (vals : List Ex) (hL : L.length = vals.length) (hn : vals.length ≤ 1099511627776) (s : ByteArray) (i : Nat) (hp : plS L s = some i) : InJ here L vals (⟨2, 0, s, []⟩) := by
  intro th xh m gv off cv ps w hth hev hps
  rw [putX_symy _ _ _ _ _ i hp, tv_sym]
  obtain ⟨tz, xz, ez⟩ := tv_if (xAt vals i)
  rw [ez]
  have FN := hide (fun r w' (h : r = .returned (.iface tz xz)) (hb : Below w.heap.size w w') => (show VaR (.iface tz xz) w r w' from ⟨h, hb⟩))
  generalize VaR (.iface tz xz) w = R at *
  have B0 := hide (below_new w (.cells #[.iface th xh, .map (some m), .slice (some ⟨gv, off, none⟩) vals.length cv] 95))
  have G0 := hide (show (w.alloc (.cells #[.iface th xh, .map (some m), .slice (some ⟨gv, off, none⟩) vals.length cv] 95)).heap[w.heap.size]? = some (.cells #[.iface th xh, .map (some m), .slice (some ⟨gv, off, none⟩) vals.length cv] 95 (0, 0)) from Array.getElem?_push_size)
  have V0 := hide (hev.later (unhide B0))
  have t0 := taN_here 117 (.agg #[.string s]) (by decide)
  have t1 := taY_sym (.agg #[.string s])
  have T := hide (two_resG w (.cells #[.iface th xh, .map (some m), .slice (some ⟨gv, off, none⟩) vals.length cv] 95) (.cells #[.string s] 117))
  have V1 := hide ((unhide V0).later (below_new _ (.cells #[.string s] 117)))
  have LK := run_lookS (unhide V1).m s
  rw [hps, hp] at LK
  simp only [Option.getD_none, Option.isSome_none, Option.getD_some, Option.isSome_some] at LK
  have hi : i < vals.length := by have := pl_ltN hp; omega
  have cz := (unhide V1).v i hi
  rw [ez] at cz
  have hi2 : ¬ ((vals.length : Int) ≤ (i : Int)) := by omega
  clear hp hps hev hth ez
  go_enter Tryd.func59, Tryd.ntmps59
  go_wp2
  (first | go_ret2 | go_ret | skip)
  exact unhide FN _ _ rfl (unhide T).1
set_option maxHeartbeats 4000000 in
theorem ij_neg (here : Ex) (L : List ByteArray) (vals : List Ex) (a : Ex) (iha : InJ here L vals a) : InJ here L vals ⟨4, 0, E0, [a]⟩ := by
  intro th xh m gv off cv ps w hth hev hps
  have IH := hide (fun wr (h : Fi wr m ps gv off vals) => iha th xh m gv off cv ps wr hth h hps)
  unfold VaR at IH
  rw [putX_neg, tv_neg, tv_neg]
  obtain ⟨t, x, e1⟩ := tv_if a
  obtain ⟨u, y, e2⟩ := tv_if (putX here L vals a)
  rw [e1, e2] at IH
  rw [e1, e2]
  have FN := hide (fun r w' (h : r = .returned (.iface 104 (.agg #[.iface u y]))) (hb : Below w.heap.size w w') => (show VaR (.iface 104 (.agg #[.iface u y])) w r w' from ⟨h, hb⟩))
  generalize VaR (.iface 104 (.agg #[.iface u y])) w = R at *
  have B0 := hide (below_new w (.cells #[.iface th xh, .map (some m), .slice (some ⟨gv, off, none⟩) vals.length cv] 95))
  have G0 := hide (show (w.alloc (.cells #[.iface th xh, .map (some m), .slice (some ⟨gv, off, none⟩) vals.length cv] 95)).heap[w.heap.size]? = some (.cells #[.iface th xh, .map (some m), .slice (some ⟨gv, off, none⟩) vals.length cv] 95 (0, 0)) from Array.getElem?_push_size)
  have V0 := hide (hev.later (unhide B0))
  have t0 := taN_here 104 (.agg #[.iface t x]) (by decide)
  have t1 := taN_sym 104 (.agg #[.iface t x]) (by decide)
  have t2 := taY_neg (.agg #[.iface t x])
  have T := hide (two_resG w (.cells #[.iface th xh, .map (some m), .slice (some ⟨gv, off, none⟩) vals.length cv] 95) (.cells #[.iface t x] 104))
  have V1 := hide ((unhide V0).later (below_new _ (.cells #[.iface t x] 104)))
  clear hev hps hth e1 e2 iha
  go_enter Tryd.func59, Tryd.ntmps59
  go_wp2_with (refine wpList_load_row rfl 95 _ rfl w.heap.size rfl 95 #[.iface th xh, .map (some m), .slice (some ⟨gv, off, none⟩) vals.length cv] (0, 0) _ ((unhide T).2.1) Tryd.underlying95 rfl (by kernel_rfl) ?_)
  generalize (w.alloc (.cells #[.iface th xh, .map (some m), .slice (some ⟨gv, off, none⟩) vals.length cv] 95)).alloc (.cells #[.iface t x] 104) = W at *
  refine (unhide IH _ (unhide V1)).mono ?_
  rintro r w1 ⟨rfl, hb1⟩
  have B1 := hide ((unhide T).1.trans (hb1.mono (unhide T).1.size))
  clear hb1 IH T V1 V0 G0 B0
  go_wp2
  (first | go_ret2 | go_ret | skip)
  exact unhide FN _ _ rfl (unhide B1)
set_option maxHeartbeats 16000000 in
theorem ij_pair (vals : List Ex) (T : TypeId) (k : Int) (t u : TypeId) (x y : Value) (me : ∀ w, (method 271 T (.agg #[.iface t x, .iface u y]) "loop.example/g00329/impl.parts").run Tryd.prog w = .ok (123, .agg #[.iface t x, .iface u y]) w) (kd : ∀ w, Calls Tryd.prog 71 #[.iface T (.agg #[.iface t x, .iface u y])] w fun r w' => r = .returned (.int .i64 k) ∧ w' = w) (hk : inB k 5 10 = true) (n0 : T ≠ 130) (n1 : T ≠ 117) (n2 : T ≠ 104) (ta tb : TypeId) (xa xb : Value) (th : TypeId) (xh : Value) (m gv off cv : Nat) (ps : List (ByteArray × Nat)) (ha : ∀ wr, Fi wr m ps gv off vals → Calls Tryd.prog 59 #[.agg #[.iface th xh, .map (some m), .slice (some ⟨gv, off, none⟩) vals.length cv], .iface t x] wr (VaR (.iface ta xa) wr)) (hb : ∀ wr, Fi wr m ps gv off vals → Calls Tryd.prog 59 #[.agg #[.iface th xh, .map (some m), .slice (some ⟨gv, off, none⟩) vals.length cv], .iface u y] wr (VaR (.iface tb xb) wr)) (w : World) (hev : Fi w m ps gv off vals) : Calls Tryd.prog 59 #[.agg #[.iface th xh, .map (some m), .slice (some ⟨gv, off, none⟩) vals.length cv], .iface T (.agg #[.iface t x, .iface u y])] w (VaR (.iface (pairT k) (.agg #[.iface ta xa, .iface tb xb])) w) := by
  have FN := hide (fun r w' (h : r = .returned (.iface (pairT k) (.agg #[.iface ta xa, .iface tb xb]))) (hb : Below w.heap.size w w') => (show VaR (.iface (pairT k) (.agg #[.iface ta xa, .iface tb xb])) w r w' from ⟨h, hb⟩))
  generalize VaR (.iface (pairT k) (.agg #[.iface ta xa, .iface tb xb])) w = R at *
  have PA := hide (fun w => pair_one k (.iface ta xa) (.iface tb xb) w hk)
  generalize pairT k = pT at *
  have HA := hide ha
  have HB := hide hb
  unfold VaR at HA HB
  have t0 := taN_here T (.agg #[.iface t x, .iface u y]) n0
  have t1 := taN_sym T (.agg #[.iface t x, .iface u y]) n1
  have t2 := taN_neg T (.agg #[.iface t x, .iface u y]) n2
  have B0 := hide (below_new w (.cells #[.iface th xh, .map (some m), .slice (some ⟨gv, off, none⟩) vals.length cv] 95))
  have G0 := hide (show (w.alloc (.cells #[.iface th xh, .map (some m), .slice (some ⟨gv, off, none⟩) vals.length cv] 95)).heap[w.heap.size]? = some (.cells #[.iface th xh, .map (some m), .slice (some ⟨gv, off, none⟩) vals.length cv] 95 (0, 0)) from Array.getElem?_push_size)
  have V0 := hide (hev.later (unhide B0))
  have P0 := hide (parts2 t u x y (w.alloc (.cells #[.iface th xh, .map (some m), .slice (some ⟨gv, off, none⟩) vals.length cv] 95)))
  have KD := hide kd
  clear hev ha hb kd n0 n1 n2 hk
  go_enter Tryd.func59, Tryd.ntmps59
  go_wp2_with fail
  generalize w.alloc (.cells #[.iface th xh, .map (some m), .slice (some ⟨gv, off, none⟩) vals.length cv] 95) = W at *
  refine (unhide P0).mono ?_
  rintro r w1 ⟨g, rfl, hg, hb1⟩
  have B1 := hide ((unhide B0).trans (hb1.mono (unhide B0).size))
  have G1 := hide (row_keep (unhide G0) hb1)
  have V1 := hide ((unhide V0).later hb1)
  have L1 := hide hg
  clear hb1 hg B0 G0 V0 P0
  go_wp2_with fail
  have ya : ∀ y : Sub w1.heap.size w1, y.w.cell? ⟨w.heap.size, 0, none⟩ = some (.iface th xh) := fun y => (y.h.cell (p := ⟨w.heap.size, 0, none⟩) (Array.getElem?_eq_some_iff.1 (unhide G1)).1).trans (Lib.cell_of_heap (unhide G1) 0)
  have yb : ∀ y : Sub w1.heap.size w1, y.w.cell? ⟨w.heap.size, 1, none⟩ = some (.map (some m)) := fun y => (y.h.cell (p := ⟨w.heap.size, 1, none⟩) (Array.getElem?_eq_some_iff.1 (unhide G1)).1).trans (Lib.cell_of_heap (unhide G1) 1)
  have yc : ∀ y : Sub w1.heap.size w1, y.w.cell? ⟨w.heap.size, 2, none⟩ = some (.slice (some ⟨gv, off, none⟩) vals.length cv) := fun y => (y.h.cell (p := ⟨w.heap.size, 2, none⟩) (Array.getElem?_eq_some_iff.1 (unhide G1)).1).trans (Lib.cell_of_heap (unhide G1) 2)
  have yd : ∀ z : Sub w1.heap.size w1, z.w.cell? ⟨g, 0, none⟩ = some (.iface t x) := fun z => (z.h.cell (p := ⟨g, 0, none⟩) (Array.getElem?_eq_some_iff.1 (unhide L1)).1).trans (Lib.cell_of_heap (unhide L1) 0)
  have ye : ∀ z : Sub w1.heap.size w1, z.w.cell? ⟨g, 1, none⟩ = some (.iface u y) := fun z => (z.h.cell (p := ⟨g, 1, none⟩) (Array.getElem?_eq_some_iff.1 (unhide L1)).1).trans (Lib.cell_of_heap (unhide L1) 1)
  have ne := Sub.ne w1.heap.size w1
  have HZ := hide (Nat.le_refl w1.heap.size)
  have CA := hide (fun z : Sub w1.heap.size w1 => unhide HA z.w ((unhide V1).later z.h))
  have CB := hide (fun z : Sub w1.heap.size w1 => unhide HB z.w ((unhide V1).later z.h))
  have HF := hide (fun z : Sub w1.heap.size w1 => (unhide B1).trans (z.h.mono (unhide B1).size))
  clear HA HB V1 L1 G1 B1
  refine wp_region_sub (⟨w1, Below.refl _ _⟩ : Sub w1.heap.size w1) (by kernel_rfl) (by kernel_rfl) ?_
  (repeat (go_big_quiet_step (first | (go_at_call 71; exact Sub.same (unhide KD _)) | (go_at_call 68; exact Sub.call (unhide HZ) (unhide PA _)) | (go_at_call_of 59 x; exact Sub.call (unhide HZ) (unhide CA _)) | (go_at_call_of 59 y; exact Sub.call (unhide HZ) (unhide CB _)))))
  refine wpQuiet_nil ?_
  intro z
  go_wp2
  (first | go_ret2 | go_ret | skip)
  exact unhide FN _ _ rfl (unhide HF _)
theorem ij_all (here : Ex) (L : List ByteArray) (vals : List Ex) (hL : L.length = vals.length) (hn : vals.length ≤ 1099511627776) : ∀ (d : Nat) (e : Ex), okF d false e = true → InJ here L vals e := by
  intro d
  induction d with
  | zero => intro e h; cases h
  | succ d ih =>
    intro e h
    rcases ok_cases h with ⟨n, hn', rfl⟩ | ⟨s, hs, rfl⟩ | rfl | ⟨a, ha, rfl⟩ | ⟨k, a, b, hk, ha, hb, rfl⟩ | ⟨n, hn', rfl⟩ | ⟨s, hs, rfl⟩
    · exact ij_num here L vals hL hn n
    · cases hp : plS L s with
      | none => exact ij_symn here L vals hL hn s hp
      | some i => exact ij_symy here L vals hL hn s i hp
    · exact ij_here here L vals hL hn
    · exact ij_neg here L vals a (ih a ha)
    · intro th xh m gv off cv ps w hth hev hps
      have iha := fun wr (h : Fi wr m ps gv off vals) => ih a ha th xh m gv off cv ps wr hth h hps
      have ihb := fun wr (h : Fi wr m ps gv off vals) => ih b hb th xh m gv off cv ps wr hth h hps
      rw [putX_two _ _ _ hk, tv_two hk, tv_two hk]
      obtain ⟨t, x, e1⟩ := tv_if a
      obtain ⟨u, y, e2⟩ := tv_if b
      obtain ⟨ta, xa, e3⟩ := tv_if (putX here L vals a)
      obtain ⟨tb, xb, e4⟩ := tv_if (putX here L vals b)
      rw [e1, e3] at iha
      rw [e2, e4] at ihb
      rw [e1, e2, e3, e4]
      clear ih h e1 e2 e3 e4 hth hps
      have : k = 5 ∨ k = 6 ∨ k = 7 ∨ k = 8 ∨ k = 9 ∨ k = 10 := by omega
      rcases this with rfl | rfl | rfl | rfl | rfl | rfl
      · exact ij_pair vals 134 5 t u x y (me_add (.iface t x) (.iface u y)) (fun w => kind_add 0 E0 t u x y w) (by decide) (by decide) (by decide) (by decide) ta tb xa xb th xh m gv off cv ps iha ihb w hev
      · exact ij_pair vals 135 6 t u x y (me_sub (.iface t x) (.iface u y)) (fun w => kind_sub 0 E0 t u x y w) (by decide) (by decide) (by decide) (by decide) ta tb xa xb th xh m gv off cv ps iha ihb w hev
      · exact ij_pair vals 136 7 t u x y (me_mul (.iface t x) (.iface u y)) (fun w => kind_mul 0 E0 t u x y w) (by decide) (by decide) (by decide) (by decide) ta tb xa xb th xh m gv off cv ps iha ihb w hev
      · exact ij_pair vals 137 8 t u x y (me_div (.iface t x) (.iface u y)) (fun w => kind_div 0 E0 t u x y w) (by decide) (by decide) (by decide) (by decide) ta tb xa xb th xh m gv off cv ps iha ihb w hev
      · exact ij_pair vals 138 9 t u x y (me_and (.iface t x) (.iface u y)) (fun w => kind_and 0 E0 t u x y w) (by decide) (by decide) (by decide) (by decide) ta tb xa xb th xh m gv off cv ps iha ihb w hev
      · exact ij_pair vals 139 10 t u x y (me_or (.iface t x) (.iface u y)) (fun w => kind_or 0 E0 t u x y w) (by decide) (by decide) (by decide) (by decide) ta tb xa xb th xh m gv off cv ps iha ihb w hev
    · exact ij_sect here L vals hL hn n
    · exact ij_glob here L vals hL hn s
end Go.Proofs.YtkolflcjkofleaaDoor

namespace Go.Proofs.YtkolflcjkofleaaDoor
open Go.ChangeShapes Go.WideShapes Go.ChangeAt Go.RowKit
set_option linter.unusedVariables false
set_option maxRecDepth 8000
set_option linter.unusedSimpArgs false

def XoR (e : Ex) (w : World) (r : Ending) (w' : World) : Prop := ∃ (c : Option Addr) (cp : Nat), r = .returned (.agg (e.cs c cp)) ∧ NewX w' w.heap.size e c ∧ Below w.heap.size w w'
/-- The two rows of exprOf: what it answers, and the term that it fills. -/
structure Xb (w wr : World) (k n : Int) (s : ByteArray) (v : Value) : Prop where
  bel : Below w.heap.size w wr
  lt : w.heap.size + 2 ≤ wr.heap.size
  res : wr.heap[w.heap.size]? = some (.cells #[.int .i64 0, .int .i64 0, .string ⟨#[]⟩, .slice none 0 0] 26 (0, 0))
  box : wr.heap[w.heap.size + 1]? = some (.cells #[.int .i64 k, .int .i64 n, .string s, v] 26 (0, 0))
section
variable {w wr w' : World} {k n : Int} {s : ByteArray} {v : Value}
theorem Xb.later (h : Xb w wr k n s v) (hb : Below wr.heap.size wr w') : Xb w w' k n s v :=
  ⟨h.bel.trans (hb.mono h.bel.size), Nat.le_trans h.lt hb.size, row_keep h.res hb, row_keep h.box hb⟩
theorem Xb.grown {g : Nat} (h : Xb w wr k n s v) (hg : wr.grownBy w' (some g)) (hl : w.heap.size + 2 ≤ g) : Xb w w' k n s v :=
  ⟨h.bel.grown hg h.bel.size (fun q e => by cases e; omega), Nat.le_trans h.lt hg.size, (hg.block _ (Array.getElem?_eq_some_iff.1 h.res).1 (fun e => by simp at e; omega)).trans h.res, (hg.block _ (Array.getElem?_eq_some_iff.1 h.box).1 (fun e => by simp at e; omega)).trans h.box⟩
theorem Xb.set2 (h : Xb w wr k n s v) (x : ByteArray) : Xb w (wr.setCell ⟨w.heap.size + 1, 2, none⟩ (.string x)) k n x v := by
  refine ⟨h.bel.setCell (p := ⟨w.heap.size + 1, 2, none⟩) (Nat.le_succ _) _, by simp; exact h.lt, (heap_setCell_other wr ⟨w.heap.size + 1, 2, none⟩ w.heap.size _ (fun e => by have e' : w.heap.size = w.heap.size + 1 := e; omega)).trans h.res, ?_⟩
  rw [heap_setCell_same wr (w.heap.size + 1) 2 _ 26 (.string x) h.box]
  rfl
theorem Xb.set3 (h : Xb w wr k n s v) (x : Value) : Xb w (wr.setCell ⟨w.heap.size + 1, 3, none⟩ x) k n s x := by
  refine ⟨h.bel.setCell (p := ⟨w.heap.size + 1, 3, none⟩) (Nat.le_succ _) _, by simp; exact h.lt, (heap_setCell_other wr ⟨w.heap.size + 1, 3, none⟩ w.heap.size _ (fun e => by have e' : w.heap.size = w.heap.size + 1 := e; omega)).trans h.res, ?_⟩
  rw [heap_setCell_same wr (w.heap.size + 1) 3 _ 26 x h.box]
  rfl
theorem Xb.new2 (w : World) (k : Int) : Xb w ((w.alloc (.cells #[.int .i64 0, .int .i64 0, .string ⟨#[]⟩, .slice none 0 0] 26)).alloc (.cells #[.int .i64 k, .int .i64 n, .string s, v] 26)) k n s v := by
  have h1 := two_new w (.cells #[.int .i64 0, .int .i64 0, .string ⟨#[]⟩, .slice none 0 0] 26) (.cells #[.int .i64 k, .int .i64 n, .string s, v] 26)
  refine ⟨h1.2, by simp, ?_, h1.1⟩
  exact row_keep (heap_alloc_new w _) (below_new _ _)
theorem Xb.new3 (w : World) (k : Int) (o : Obj) : Xb w (((w.alloc (.cells #[.int .i64 0, .int .i64 0, .string ⟨#[]⟩, .slice none 0 0] 26)).alloc (.cells #[.int .i64 k, .int .i64 n, .string s, v] 26)).alloc o) k n s v := (Xb.new2 w k).later (below_new _ o)
theorem Xb.end {l : List Ex} {c : Option Addr} {cp : Nat} (h : Xb w wr k n s (.slice c l.length cp)) (hn : NewX wr (w.heap.size + 1) ⟨k, n, s, l⟩ c) (row : Array Value) : XoR ⟨k, n, s, l⟩ w (.returned (.agg #[.int .i64 k, .int .i64 n, .string s, .slice c l.length cp])) (wr.setRow w.heap.size row) :=
  ⟨c, cp, rfl, (hn.row _ (Nat.lt_succ_self _)).lower (Nat.le_succ _), h.bel.grown (grownBy_row _) h.bel.size (fun k e => by cases e; exact Nat.le_refl _)⟩
end
set_option maxHeartbeats 4000000 in
theorem xo_num (n : Int) (w : World) : Calls Tryd.prog 47 #[.iface 88 (.agg #[.int .i64 n])] w (XoR ⟨1, n, E0, []⟩ w) := by
  have KD := hide (fun w => kind_num n E0 0 0 .nilIface .nilIface w)
  have tt := taY_num (.agg #[.int .i64 n])
  have m := me_num (.int .i64 n)
  have X0 := hide (Xb.new3 (n := n) (s := ⟨#[]⟩) (v := .slice none 0 0) w 1 (.cells #[.int .i64 n] 88))
  generalize hX : XoR ⟨1, n, E0, []⟩ w = X
  have HX := hide hX
  clear hX
  go_enter Tryd.func47, Tryd.ntmps47
  go_wp2_with (first | (go_at_call 71; refine (unhide KD _).mono ?_; rintro r w' ⟨rfl, hw'⟩; rw [hw']; clear hw' w'))
  generalize ((w.alloc (.cells #[.int .i64 0, .int .i64 0, .string ⟨#[]⟩, .slice none 0 0] 26)).alloc (.cells #[.int .i64 1, .int .i64 n, .string ⟨#[]⟩, .slice none 0 0] 26)).alloc (.cells #[.int .i64 n] 88) = W at *
  refine (parts0 W).mono ?_
  rintro r w1 ⟨rfl, hb1⟩
  have X1 := hide ((unhide X0).later hb1)
  clear hb1 X0
  go_wp2
  refine wp_loop_rounds 1 ?_
  rw [rounds_succ]
  go_wp2_with (first | (refine wpList_load_row rfl 26 _ rfl (w.heap.size + 1) rfl 26 #[.int .i64 1, .int .i64 n, .string ⟨#[]⟩, .slice none 0 0] (0, 0) _ (unhide X1).box Tryd.underlying26 rfl (by kernel_rfl) ?_) | (refine wpList_store_row rfl 26 _ _ rfl w.heap.size #[.int .i64 1, .int .i64 n, .string ⟨#[]⟩, .slice none 0 0] rfl rfl 26 _ (unhide X1).res szE rfl (ex_one _ _ _ _ _ _) ?_))
  refine bodyPost_ret (results_cell_row (P := Tryd.prog) rfl _ _ w.heap.size 26 #[.int .i64 1, .int .i64 n, .string ⟨#[]⟩, .slice none 0 0] (0, 0) _ rfl (setRow_heap _ _ _ _ _ _ (unhide X1).res) Tryd.underlying26 rfl szE) rfl ?_
  rw [← unhide HX]
  exact Xb.end (l := []) (unhide X1) (NewX.nil _ _ _ _ _ _) _
set_option maxHeartbeats 4000000 in
theorem xo_here (w : World) : Calls Tryd.prog 47 #[.iface 130 (.agg #[])] w (XoR ⟨3, 0, E0, []⟩ w) := by
  have KD := hide (fun w => kind_here 0 E0 0 0 .nilIface .nilIface w)
  have t0 := taN_num 130 (.agg #[]) (by decide)
  have t1 := taN_sect 130 (.agg #[]) (by decide)
  have t2 := taN_sym 130 (.agg #[]) (by decide)
  have t3 := taN_glob 130 (.agg #[]) (by decide)
  have m := me_here
  have X0 := hide (Xb.new2 (n := 0) (s := ⟨#[]⟩) (v := .slice none 0 0) w 3)
  generalize hX : XoR ⟨3, 0, E0, []⟩ w = X
  have HX := hide hX
  clear hX
  go_enter Tryd.func47, Tryd.ntmps47
  go_wp2_with (first | (go_at_call 71; refine (unhide KD _).mono ?_; rintro r w' ⟨rfl, hw'⟩; rw [hw']; clear hw' w'))
  generalize (w.alloc (.cells #[.int .i64 0, .int .i64 0, .string ⟨#[]⟩, .slice none 0 0] 26)).alloc (.cells #[.int .i64 3, .int .i64 0, .string ⟨#[]⟩, .slice none 0 0] 26) = W at *
  refine (parts0 W).mono ?_
  rintro r w1 ⟨rfl, hb1⟩
  have X1 := hide ((unhide X0).later hb1)
  clear hb1 X0
  go_wp2
  refine wp_loop_rounds 1 ?_
  rw [rounds_succ]
  go_wp2_with (first | (refine wpList_load_row rfl 26 _ rfl (w.heap.size + 1) rfl 26 #[.int .i64 3, .int .i64 0, .string ⟨#[]⟩, .slice none 0 0] (0, 0) _ (unhide X1).box Tryd.underlying26 rfl (by kernel_rfl) ?_) | (refine wpList_store_row rfl 26 _ _ rfl w.heap.size #[.int .i64 3, .int .i64 0, .string ⟨#[]⟩, .slice none 0 0] rfl rfl 26 _ (unhide X1).res szE rfl (ex_one _ _ _ _ _ _) ?_))
  refine bodyPost_ret (results_cell_row (P := Tryd.prog) rfl _ _ w.heap.size 26 #[.int .i64 3, .int .i64 0, .string ⟨#[]⟩, .slice none 0 0] (0, 0) _ rfl (setRow_heap _ _ _ _ _ _ (unhide X1).res) Tryd.underlying26 rfl szE) rfl ?_
  rw [← unhide HX]
  exact Xb.end (l := []) (unhide X1) (NewX.nil _ _ _ _ _ _) _
set_option maxHeartbeats 4000000 in
theorem xo_sym (s : ByteArray) (hs : s.size ≤ 1048576) (w : World) : Calls Tryd.prog 47 #[.iface 117 (.agg #[.string s])] w (XoR ⟨2, 0, s, []⟩ w) := by
  have KD := hide (fun w => kind_sym 0 s 0 0 .nilIface .nilIface w)
  have t0 := taN_num 117 (.agg #[.string s]) (by decide)
  have t1 := taN_sect 117 (.agg #[.string s]) (by decide)
  have tt := taY_sym (.agg #[.string s])
  have m := me_sym (.string s)
  have X0 := hide (Xb.new3 (n := 0) (s := ⟨#[]⟩) (v := .slice none 0 0) w 2 (.cells #[.string s] 117))
  generalize hX : XoR ⟨2, 0, s, []⟩ w = X
  have HX := hide hX
  clear hX
  go_enter Tryd.func47, Tryd.ntmps47
  go_wp2_with (first | (go_at_call 71; refine (unhide KD _).mono ?_; rintro r w' ⟨rfl, hw'⟩; rw [hw']; clear hw' w'))
  generalize ((w.alloc (.cells #[.int .i64 0, .int .i64 0, .string ⟨#[]⟩, .slice none 0 0] 26)).alloc (.cells #[.int .i64 2, .int .i64 0, .string ⟨#[]⟩, .slice none 0 0] 26)).alloc (.cells #[.string s] 117) = W at *
  refine (cloneI_any s W (by omega)).mono ?_
  rintro r w1 ⟨rfl, hb1⟩
  have X1 := (unhide X0).later hb1
  have f2 : w1.frozen? ⟨w.heap.size + 1, 2, none⟩ = false := by simp [World.frozen?, X1.box]
  have c2 := Lib.cell_of_heap X1.box 2
  have X2 := hide (X1.set2 s)
  clear hb1 X0 X1
  go_wp2_with fail
  generalize w1.setCell ⟨w.heap.size + 1, 2, none⟩ (.string s) = w2 at *
  clear f2 c2
  refine (parts0 w2).mono ?_
  rintro r w3 ⟨rfl, hb3⟩
  have X3 := hide ((unhide X2).later hb3)
  clear hb3 X2
  go_wp2
  refine wp_loop_rounds 1 ?_
  rw [rounds_succ]
  go_wp2_with (first | (refine wpList_load_row rfl 26 _ rfl (w.heap.size + 1) rfl 26 #[.int .i64 2, .int .i64 0, .string s, .slice none 0 0] (0, 0) _ (unhide X3).box Tryd.underlying26 rfl (by kernel_rfl) ?_) | (refine wpList_store_row rfl 26 _ _ rfl w.heap.size #[.int .i64 2, .int .i64 0, .string s, .slice none 0 0] rfl rfl 26 _ (unhide X3).res szE rfl (ex_one _ _ _ _ _ _) ?_))
  refine bodyPost_ret (results_cell_row (P := Tryd.prog) rfl _ _ w.heap.size 26 #[.int .i64 2, .int .i64 0, .string s, .slice none 0 0] (0, 0) _ rfl (setRow_heap _ _ _ _ _ _ (unhide X3).res) Tryd.underlying26 rfl szE) rfl ?_
  rw [← unhide HX]
  exact Xb.end (l := []) (unhide X3) (NewX.nil _ _ _ _ _ _) _
set_option maxHeartbeats 4000000 in
theorem xo_sect (n : Int) (w : World) : Calls Tryd.prog 47 #[.iface 115 (.agg #[.int .i64 n])] w (XoR ⟨11, n, E0, []⟩ w) := by
  have KD := hide (fun w => kind_sect n E0 0 0 .nilIface .nilIface w)
  have t0 := taN_num 115 (.agg #[.int .i64 n]) (by decide)
  have tt := taY_sect (.agg #[.int .i64 n])
  have m := me_sect (.int .i64 n)
  have X0 := hide (Xb.new3 (n := n) (s := ⟨#[]⟩) (v := .slice none 0 0) w 11 (.cells #[.int .i64 n] 115))
  generalize hX : XoR ⟨11, n, E0, []⟩ w = X
  have HX := hide hX
  clear hX
  go_enter Tryd.func47, Tryd.ntmps47
  go_wp2_with (first | (go_at_call 71; refine (unhide KD _).mono ?_; rintro r w' ⟨rfl, hw'⟩; rw [hw']; clear hw' w'))
  generalize ((w.alloc (.cells #[.int .i64 0, .int .i64 0, .string ⟨#[]⟩, .slice none 0 0] 26)).alloc (.cells #[.int .i64 11, .int .i64 n, .string ⟨#[]⟩, .slice none 0 0] 26)).alloc (.cells #[.int .i64 n] 115) = W at *
  refine (parts0 W).mono ?_
  rintro r w1 ⟨rfl, hb1⟩
  have X1 := hide ((unhide X0).later hb1)
  clear hb1 X0
  go_wp2
  refine wp_loop_rounds 1 ?_
  rw [rounds_succ]
  go_wp2_with (first | (refine wpList_load_row rfl 26 _ rfl (w.heap.size + 1) rfl 26 #[.int .i64 11, .int .i64 n, .string ⟨#[]⟩, .slice none 0 0] (0, 0) _ (unhide X1).box Tryd.underlying26 rfl (by kernel_rfl) ?_) | (refine wpList_store_row rfl 26 _ _ rfl w.heap.size #[.int .i64 11, .int .i64 n, .string ⟨#[]⟩, .slice none 0 0] rfl rfl 26 _ (unhide X1).res szE rfl (ex_one _ _ _ _ _ _) ?_))
  refine bodyPost_ret (results_cell_row (P := Tryd.prog) rfl _ _ w.heap.size 26 #[.int .i64 11, .int .i64 n, .string ⟨#[]⟩, .slice none 0 0] (0, 0) _ rfl (setRow_heap _ _ _ _ _ _ (unhide X1).res) Tryd.underlying26 rfl szE) rfl ?_
  rw [← unhide HX]
  exact Xb.end (l := []) (unhide X1) (NewX.nil _ _ _ _ _ _) _
set_option maxHeartbeats 4000000 in
theorem xo_glob (s : ByteArray) (hs : s.size ≤ 1048576) (w : World) : Calls Tryd.prog 47 #[.iface 118 (.agg #[.string s])] w (XoR ⟨12, 0, s, []⟩ w) := by
  have KD := hide (fun w => kind_glob 0 s 0 0 .nilIface .nilIface w)
  have t0 := taN_num 118 (.agg #[.string s]) (by decide)
  have t1 := taN_sect 118 (.agg #[.string s]) (by decide)
  have t2 := taN_sym 118 (.agg #[.string s]) (by decide)
  have tt := taY_glob (.agg #[.string s])
  have m := me_glob (.string s)
  have X0 := hide (Xb.new3 (n := 0) (s := ⟨#[]⟩) (v := .slice none 0 0) w 12 (.cells #[.string s] 118))
  generalize hX : XoR ⟨12, 0, s, []⟩ w = X
  have HX := hide hX
  clear hX
  go_enter Tryd.func47, Tryd.ntmps47
  go_wp2_with (first | (go_at_call 71; refine (unhide KD _).mono ?_; rintro r w' ⟨rfl, hw'⟩; rw [hw']; clear hw' w'))
  generalize ((w.alloc (.cells #[.int .i64 0, .int .i64 0, .string ⟨#[]⟩, .slice none 0 0] 26)).alloc (.cells #[.int .i64 12, .int .i64 0, .string ⟨#[]⟩, .slice none 0 0] 26)).alloc (.cells #[.string s] 118) = W at *
  refine (cloneI_any s W (by omega)).mono ?_
  rintro r w1 ⟨rfl, hb1⟩
  have X1 := (unhide X0).later hb1
  have f2 : w1.frozen? ⟨w.heap.size + 1, 2, none⟩ = false := by simp [World.frozen?, X1.box]
  have c2 := Lib.cell_of_heap X1.box 2
  have X2 := hide (X1.set2 s)
  clear hb1 X0 X1
  go_wp2_with fail
  generalize w1.setCell ⟨w.heap.size + 1, 2, none⟩ (.string s) = w2 at *
  clear f2 c2
  refine (parts0 w2).mono ?_
  rintro r w3 ⟨rfl, hb3⟩
  have X3 := hide ((unhide X2).later hb3)
  clear hb3 X2
  go_wp2
  refine wp_loop_rounds 1 ?_
  rw [rounds_succ]
  go_wp2_with (first | (refine wpList_load_row rfl 26 _ rfl (w.heap.size + 1) rfl 26 #[.int .i64 12, .int .i64 0, .string s, .slice none 0 0] (0, 0) _ (unhide X3).box Tryd.underlying26 rfl (by kernel_rfl) ?_) | (refine wpList_store_row rfl 26 _ _ rfl w.heap.size #[.int .i64 12, .int .i64 0, .string s, .slice none 0 0] rfl rfl 26 _ (unhide X3).res szE rfl (ex_one _ _ _ _ _ _) ?_))
  refine bodyPost_ret (results_cell_row (P := Tryd.prog) rfl _ _ w.heap.size 26 #[.int .i64 12, .int .i64 0, .string s, .slice none 0 0] (0, 0) _ rfl (setRow_heap _ _ _ _ _ _ (unhide X3).res) Tryd.underlying26 rfl szE) rfl ?_
  rw [← unhide HX]
  exact Xb.end (l := []) (unhide X3) (NewX.nil _ _ _ _ _ _) _
end Go.Proofs.YtkolflcjkofleaaDoor

namespace Go.Proofs.YtkolflcjkofleaaDoor

section
variable {P : Program} {ops : Array Oper} {Q : Exit → Act → World → Prop} {md : Region.Mode} {S : World → Prop} {last : Nat}
/-- Whatever order is picked from here on; S holds behind each operation, as long as 'last' has not come up. -/
def wpAnyL (P : Program) (md : Region.Mode) (ops : Array Oper) (Q : Exit → Act → World → Prop) (S : World → Prop) (last : Nat) : Nat → Array Bool → Act → World → Prop
  | 0, listed, a, w => Region.ready md ops listed = [] ∧ Q .normal a w
  | fuel + 1, listed, a, w =>
    (Region.ready md ops listed = [] → Q .normal a w) ∧
    ∀ i ∈ Region.ready md ops listed, wpOp P ops Q i (fun a' w' => ((listed.setIfInBounds i true).getD last true = false → S w') ∧ wpAnyL P md ops Q S last fuel (listed.setIfInBounds i true) a' w') a w
theorem wpAny_of_last : ∀ (fuel : Nat) (listed : Array Bool) (a : Act) (w : World), wpAnyL P md ops Q S last fuel listed a w → wpAny P md ops Q fuel listed a w
  | 0, _, _, _, h => h
  | fuel + 1, _, _, _, h => ⟨h.1, fun i hi => wpOp_mono (fun a' w' h' => wpAny_of_last fuel _ a' w' h'.2) (h.2 i hi)⟩
/-- Whether 'last' waits for i. -/
def lastB (md : Region.Mode) (ops : Array Oper) (last i : Nat) : Bool := ((ops[last]?).map fun o => o.after.any fun e => Region.binds md e && e.on == i).getD false
theorem lastB_spec {i : Nat} (h : lastB md ops last i = true) : ∀ ol, ops[last]? = some ol → ∃ e ∈ ol.after, Region.binds md e = true ∧ e.on = i := by
  intro ol ho
  unfold lastB at h
  rw [ho] at h
  simp only [Option.map_some, Option.getD_some] at h
  obtain ⟨e, he, hb⟩ := Array.any_eq_true'.1 h
  simp only [Bool.and_eq_true, beq_iff_eq] at hb
  exact ⟨e, he, hb.1, hb.2⟩
theorem wpAnyL_firstS {i : Nat} {oi : Oper} {v : Value} (hi : ops[i]? = some oi) (hsel : ∀ (j : Nat) (o : Oper) cs b, ops[j]? = some o → o.op ≠ .select cs b)
    (hQ : ∀ c a w, Q (.panic c) (a.put oi.dst v) w → Q (.panic c) a w) (hil : i ≠ last) (hl : ∀ ol, ops[last]? = some ol → ∃ e ∈ ol.after, Region.binds md e = true ∧ e.on = i) :
    ∀ (fuel : Nat) (listed : Array Bool) (a : Act) (w : World),
      (∀ j oj, ops[j]? = some oj → j ≠ i → listed.getD j true = false → (∀ e ∈ oj.after, Region.binds md e = true → e.on ≠ i) → oi.apart ops oj = true) →
      i ∈ Region.ready md ops listed → YieldsIf P ops S oi v a → S w → listed.getD last true = false →
      wpAnyL P md ops Q S last fuel (listed.setIfInBounds i true) (a.put oi.dst v) w → wpAnyL P md ops Q S last (fuel + 1) listed a w := by
  intro fuel
  induction fuel with
  | zero =>
    intro listed a w _ hr hy hS hp H
    refine ⟨fun h => (by rw [h] at hr; cases hr), fun j hj => ?_⟩
    by_cases hji : j = i
    · subst hji; exact hy.wpOp hi hS ⟨fun _ => hS, H⟩
    · have := ready_mono hj hji
      rw [H.1] at this
      cases this
  | succ fuel ih =>
    intro listed a w hfree hr hy hS hp H
    refine ⟨fun h => (by rw [h] at hr; cases hr), fun j hj => ?_⟩
    by_cases hji : j = i
    · subst hji; exact hy.wpOp hi hS ⟨fun _ => hS, H⟩
    · have h1 := H.2 j (ready_mono hj hji)
      obtain ⟨hjun, oj, hoj, hall⟩ := mem_ready.1 hj
      have hnot : ∀ e ∈ oj.after, Region.binds md e = true → e.on ≠ i := fun e he hb heq => by
        have h1 := hall e he hb
        have h0 := (mem_ready.1 hr).1
        rw [heq] at h1
        rcases Nat.lt_or_ge i listed.size with h' | h'
        · simp [h'] at h0 h1; rw [h0] at h1; cases h1
        · simp [Array.getElem?_eq_none h'] at h1
      have hjl : j ≠ last := fun e => by
        subst e
        obtain ⟨e, he, hb, ho⟩ := hl oj hoj
        exact hnot e he hb ho
      have h2 := wpOp_putIf hoj (hfree j oj hoj hji hjun hnot) (fun cs b => hsel i oi cs b hi) (fun cs b => hsel j oj cs b hoj) hQ hy h1
      have hfree' : ∀ k ok, ops[k]? = some ok → k ≠ i → (listed.setIfInBounds j true).getD k true = false →
          (∀ e ∈ ok.after, Region.binds md e = true → e.on ≠ i) → oi.apart ops ok = true := fun k ok hk hki hun hno => by
        refine hfree k ok hk hki ?_ hno
        by_cases hjk : j = k
        · subst hjk; exact hjun
        · rw [getD_set_ne true hjk] at hun; exact hun
      have hp' : (listed.setIfInBounds j true).getD last true = false := by rw [getD_set_ne true hjl]; exact hp
      have hp2 : ((listed.setIfInBounds i true).setIfInBounds j true).getD last true = false := by rw [getD_set_ne true hjl, getD_set_ne true hil]; exact hp
      refine wpOp_mono (fun a' w' h3 => ⟨fun _ => h3.2.1 hp2, ih (listed.setIfInBounds j true) a' w' hfree' (ready_mono hr (Ne.symm hji)) h3.1 (h3.2.1 hp2) hp' ?_⟩) h2
      rw [Array.setIfInBounds_comm _ _ hji]
      exact h3.2.2
theorem wpAnyL_firstW {i : Nat} {oi : Oper} {v : Value} (hi : ops[i]? = some oi) (hsel : ∀ (j : Nat) (o : Oper) cs b, ops[j]? = some o → o.op ≠ .select cs b)
    (hQ : ∀ c a w, Q (.panic c) (a.put oi.dst v) w → Q (.panic c) a w) (hil : i ≠ last) :
    ∀ (fuel : Nat) (listed : Array Bool) (a : Act) (w : World),
      (∀ j oj, ops[j]? = some oj → j ≠ i → listed.getD j true = false → (∀ e ∈ oj.after, Region.binds md e = true → e.on ≠ i) → oi.apart ops oj = true) →
      i ∈ Region.ready md ops listed → YieldsIf P ops (fun _ => True) oi v a → (listed.getD last true = false → S w) →
      wpAnyL P md ops Q S last fuel (listed.setIfInBounds i true) (a.put oi.dst v) w → wpAnyL P md ops Q S last (fuel + 1) listed a w := by
  intro fuel
  induction fuel with
  | zero =>
    intro listed a w _ hr hy hS H
    refine ⟨fun h => (by rw [h] at hr; cases hr), fun j hj => ?_⟩
    by_cases hji : j = i
    · subst hji; exact hy.wpOp hi trivial ⟨fun h => hS (by rw [getD_set_ne true hil] at h; exact h), H⟩
    · have := ready_mono hj hji
      rw [H.1] at this
      cases this
  | succ fuel ih =>
    intro listed a w hfree hr hy hS H
    refine ⟨fun h => (by rw [h] at hr; cases hr), fun j hj => ?_⟩
    by_cases hji : j = i
    · subst hji; exact hy.wpOp hi trivial ⟨fun h => hS (by rw [getD_set_ne true hil] at h; exact h), H⟩
    · have h1 := H.2 j (ready_mono hj hji)
      obtain ⟨hjun, oj, hoj, hall⟩ := mem_ready.1 hj
      have hnot : ∀ e ∈ oj.after, Region.binds md e = true → e.on ≠ i := fun e he hb heq => by
        have h1 := hall e he hb
        have h0 := (mem_ready.1 hr).1
        rw [heq] at h1
        rcases Nat.lt_or_ge i listed.size with h' | h'
        · simp [h'] at h0 h1; rw [h0] at h1; cases h1
        · simp [Array.getElem?_eq_none h'] at h1
      have h2 := wpOp_putIf hoj (hfree j oj hoj hji hjun hnot) (fun cs b => hsel i oi cs b hi) (fun cs b => hsel j oj cs b hoj) hQ hy h1
      have hfree' : ∀ k ok, ops[k]? = some ok → k ≠ i → (listed.setIfInBounds j true).getD k true = false →
          (∀ e ∈ ok.after, Region.binds md e = true → e.on ≠ i) → oi.apart ops ok = true := fun k ok hk hki hun hno => by
        refine hfree k ok hk hki ?_ hno
        by_cases hjk : j = k
        · subst hjk; exact hjun
        · rw [getD_set_ne true hjk] at hun; exact hun
      have hs2 : ∀ w', ((((listed.setIfInBounds i true).setIfInBounds j true).getD last true = false) → S w') → ((listed.setIfInBounds j true).getD last true = false → S w') := fun w' h hp => h (by
        rw [Array.setIfInBounds_comm _ _ (Ne.symm hji), getD_set_ne true hil]; exact hp)
      refine wpOp_mono (fun a' w' h3 => ⟨hs2 w' h3.2.1, ih (listed.setIfInBounds j true) a' w' hfree' (ready_mono hr (Ne.symm hji)) h3.1 (hs2 w' h3.2.1) ?_⟩) h2
      rw [Array.setIfInBounds_comm _ _ hji]
      exact h3.2.2
/-- Take number i first: it reads what S says, and 'last' waits for it. -/
theorem wpAnyL_takeS {i : Nat} {oi : Oper} {v : Value} {fuel : Nat} {listed : Array Bool} {a : Act} {w : World} (hi : ops[i]? = some oi)
    (hs : Region.noSelect ops = true) (hf : Region.free md ops listed i = true) (hr : (Region.ready md ops listed).contains i = true) (hb : lastB md ops last i = true) (hl : (decide (i ≠ last) && !listed.getD last true) = true)
    (hQ : ∀ c a w, Q (.panic c) (a.put oi.dst v) w → Q (.panic c) a w) (hy : YieldsIf P ops S oi v a) (hS : S w)
    (h : wpAnyL P md ops Q S last fuel (listed.setIfInBounds i true) (a.put oi.dst v) w) : wpAnyL P md ops Q S last (fuel + 1) listed a w := by
  simp only [Bool.and_eq_true, decide_eq_true_eq, Bool.not_eq_true'] at hl
  exact wpAnyL_firstS hi (Region.noSelect_spec hs) hQ hl.1 (lastB_spec hb) fuel listed a w (Region.free_spec hi hf) (by simpa using hr) hy hS hl.2 h
/-- Take number i first: it yields its value in whatever world. -/
theorem wpAnyL_takeW {i : Nat} {oi : Oper} {v : Value} {fuel : Nat} {listed : Array Bool} {a : Act} {w : World} (hi : ops[i]? = some oi)
    (hs : Region.noSelect ops = true) (hf : Region.free md ops listed i = true) (hr : (Region.ready md ops listed).contains i = true) (hl : decide (i ≠ last) = true)
    (hQ : ∀ c a w, Q (.panic c) (a.put oi.dst v) w → Q (.panic c) a w) (hy : YieldsIf P ops (fun _ => True) oi v a) (hS : S w ∨ listed.getD last true = true)
    (h : wpAnyL P md ops Q S last fuel (listed.setIfInBounds i true) (a.put oi.dst v) w) : wpAnyL P md ops Q S last (fuel + 1) listed a w :=
  wpAnyL_firstW hi (Region.noSelect_spec hs) hQ (by simpa using hl) fuel listed a w (Region.free_spec hi hf) (by simpa using hr) hy (fun hp => hS.elim id (fun e => by rw [e] at hp; cases hp)) h
/-- Whether a waits for i, by whatever way. -/
def waitB (md : Region.Mode) (ops : Array Oper) (i : Nat) : Nat → Nat → Bool
  | 0, _ => false
  | n + 1, a => ((ops[a]?).map fun o => o.after.any fun e => Region.binds md e && (e.on == i || waitB md ops i n e.on)).getD false
/-- What has come up has all that it waits for. -/
def closedB (md : Region.Mode) (ops : Array Oper) (listed : Array Bool) : Bool := (List.range ops.size).all fun j => !listed.getD j false || ((ops[j]?).map fun o => o.after.all fun e => !Region.binds md e || listed.getD e.on false).getD true
def Closed (md : Region.Mode) (ops : Array Oper) (listed : Array Bool) : Prop := ∀ j o, ops[j]? = some o → listed.getD j false = true → ∀ e ∈ o.after, Region.binds md e = true → listed.getD e.on false = true
theorem closed_of {listed : Array Bool} (h : closedB md ops listed = true) : Closed md ops listed := by
  intro j o ho hj e he hb
  unfold closedB at h
  rw [List.all_eq_true] at h
  have q := h j (List.mem_range.2 (Array.getElem?_eq_some_iff.1 ho).1)
  rw [hj, ho] at q
  simp only [Bool.not_true, Bool.false_or, Option.map_some, Option.getD_some] at q
  have r := Array.all_eq_true_iff_forall_mem.1 q e he
  rw [hb] at r
  simpa using r
theorem wait_listed {listed : Array Bool} (hc : Closed md ops listed) {i : Nat} : ∀ (n a : Nat) (o : Oper), waitB md ops i n a = true → ops[a]? = some o → (∀ e ∈ o.after, Region.binds md e = true → listed.getD e.on false = true) → listed.getD i false = true
  | 0, _, _, h, _, _ => by simp [waitB] at h
  | n + 1, a, o, h, ho, hd => by
    unfold waitB at h
    rw [ho] at h
    simp only [Option.map_some, Option.getD_some] at h
    obtain ⟨e, he, hb⟩ := Array.any_eq_true'.1 h
    simp only [Bool.and_eq_true, Bool.or_eq_true, beq_iff_eq] at hb
    have l := hd e he hb.1
    rcases hb.2 with h1 | h1
    · rw [← h1]; exact l
    · cases ho2 : ops[e.on]? with
      | none => cases n <;> simp [waitB, ho2] at h1
      | some o2 => exact wait_listed hc n e.on o2 h1 ho2 (hc e.on o2 ho2 l)
theorem Closed.step {listed : Array Bool} (h : Closed md ops listed) {j : Nat} (hj : j ∈ Region.ready md ops listed) : Closed md ops (listed.setIfInBounds j true) := by
  intro k o ho hk e he hb
  obtain ⟨hjun, oj, hoj, hall⟩ := mem_ready.1 hj
  have key : listed.getD e.on false = true := by
    by_cases hkj : k = j
    · subst hkj
      rw [hoj] at ho
      cases ho
      exact hall e he hb
    · refine h k o ho ?_ e he hb
      simp only [Array.getD_eq_getD_getElem?] at hk ⊢
      rw [Array.getElem?_setIfInBounds_ne (fun c => hkj c.symm)] at hk
      exact hk
  by_cases hej : e.on = j
  · rw [hej]
    have hlt : j < listed.size := by
      rcases Nat.lt_or_ge j listed.size with h' | h'
      · exact h'
      · rw [← hej] at h'
        simp [Array.getElem?_eq_none h'] at key
    simp [hlt]
  · simp only [Array.getD_eq_getD_getElem?] at key ⊢
    rw [Array.getElem?_setIfInBounds_ne (fun c => hej c.symm)]
    exact key
theorem wpAnyL_firstT {i : Nat} {oi : Oper} {v : Value} (hi : ops[i]? = some oi) (hsel : ∀ (j : Nat) (o : Oper) cs b, ops[j]? = some o → o.op ≠ .select cs b)
    (hQ : ∀ c a w, Q (.panic c) (a.put oi.dst v) w → Q (.panic c) a w) (hil : i ≠ last) (n : Nat) (hl : waitB md ops i n last = true) :
    ∀ (fuel : Nat) (listed : Array Bool) (a : Act) (w : World),
      (∀ j oj, ops[j]? = some oj → j ≠ i → listed.getD j true = false → (∀ e ∈ oj.after, Region.binds md e = true → e.on ≠ i) → oi.apart ops oj = true) →
      i ∈ Region.ready md ops listed → YieldsIf P ops S oi v a → S w → listed.getD last true = false → Closed md ops listed →
      wpAnyL P md ops Q S last fuel (listed.setIfInBounds i true) (a.put oi.dst v) w → wpAnyL P md ops Q S last (fuel + 1) listed a w := by
  intro fuel
  induction fuel with
  | zero =>
    intro listed a w _ hr hy hS hp hcl H
    refine ⟨fun h => (by rw [h] at hr; cases hr), fun j hj => ?_⟩
    by_cases hji : j = i
    · subst hji; exact hy.wpOp hi hS ⟨fun _ => hS, H⟩
    · have := ready_mono hj hji
      rw [H.1] at this
      cases this
  | succ fuel ih =>
    intro listed a w hfree hr hy hS hp hcl H
    refine ⟨fun h => (by rw [h] at hr; cases hr), fun j hj => ?_⟩
    by_cases hji : j = i
    · subst hji; exact hy.wpOp hi hS ⟨fun _ => hS, H⟩
    · have h1 := H.2 j (ready_mono hj hji)
      obtain ⟨hjun, oj, hoj, hall⟩ := mem_ready.1 hj
      have hiu : listed.getD i false ≠ true := fun c => by
        have h0 := (mem_ready.1 hr).1
        rcases Nat.lt_or_ge i listed.size with h' | h'
        · simp [h'] at h0 c; rw [h0] at c; cases c
        · simp [Array.getElem?_eq_none h'] at c
      have hnot : ∀ e ∈ oj.after, Region.binds md e = true → e.on ≠ i := fun e he hb heq => hiu (by rw [← heq]; exact hall e he hb)
      have hjl : j ≠ last := fun e => by
        subst e
        exact hiu (wait_listed hcl n j oj hl hoj hall)
      have h2 := wpOp_putIf hoj (hfree j oj hoj hji hjun hnot) (fun cs b => hsel i oi cs b hi) (fun cs b => hsel j oj cs b hoj) hQ hy h1
      have hfree' : ∀ k ok, ops[k]? = some ok → k ≠ i → (listed.setIfInBounds j true).getD k true = false →
          (∀ e ∈ ok.after, Region.binds md e = true → e.on ≠ i) → oi.apart ops ok = true := fun k ok hk hki hun hno => by
        refine hfree k ok hk hki ?_ hno
        by_cases hjk : j = k
        · subst hjk; exact hjun
        · rw [getD_set_ne true hjk] at hun; exact hun
      have hp' : (listed.setIfInBounds j true).getD last true = false := by rw [getD_set_ne true hjl]; exact hp
      have hp2 : ((listed.setIfInBounds i true).setIfInBounds j true).getD last true = false := by rw [getD_set_ne true hjl, getD_set_ne true hil]; exact hp
      refine wpOp_mono (fun a' w' h3 => ⟨fun _ => h3.2.1 hp2, ih (listed.setIfInBounds j true) a' w' hfree' (ready_mono hr (Ne.symm hji)) h3.1 (h3.2.1 hp2) hp' (hcl.step hj) ?_⟩) h2
      rw [Array.setIfInBounds_comm _ _ hji]
      exact h3.2.2
/-- Take number i first: it reads what S says, and 'last' waits for it by whatever way. (One closed fact for all that is to be reckoned.) -/
def chkT (md : Region.Mode) (ops : Array Oper) (last i : Nat) (listed : Array Bool) : Bool := Region.noSelect ops && (Region.free md ops listed i && ((Region.ready md ops listed).contains i && (waitB md ops i ops.size last && (decide (i ≠ last) && (!listed.getD last true && closedB md ops listed)))))
theorem tkT {i : Nat} {oi : Oper} {v : Value} {fuel : Nat} {listed : Array Bool} {a : Act} {w : World} (hi : ops[i]? = some oi) (hc : chkT md ops last i listed = true)
    (hQ : ∀ c a w, Q (.panic c) (a.put oi.dst v) w → Q (.panic c) a w) (hy : YieldsIf P ops S oi v a) (hS : S w)
    (h : wpAnyL P md ops Q S last fuel (listed.setIfInBounds i true) (a.put oi.dst v) w) : wpAnyL P md ops Q S last (fuel + 1) listed a w := by
  unfold chkT at hc
  simp only [Bool.and_eq_true, decide_eq_true_eq, Bool.not_eq_true'] at hc
  obtain ⟨hs, hf, hr, hb, hl, hp, hcl⟩ := hc
  exact wpAnyL_firstT hi (Region.noSelect_spec hs) hQ hl ops.size hb fuel listed a w (Region.free_spec hi hf) (by simpa using hr) hy hS hp (closed_of hcl) h
def chkW (md : Region.Mode) (ops : Array Oper) (last i : Nat) (listed : Array Bool) : Bool := Region.noSelect ops && (Region.free md ops listed i && ((Region.ready md ops listed).contains i && decide (i ≠ last)))
theorem tkW {i : Nat} {oi : Oper} {v : Value} {fuel : Nat} {listed : Array Bool} {a : Act} {w : World} (hi : ops[i]? = some oi) (hc : chkW md ops last i listed = true)
    (hQ : ∀ c a w, Q (.panic c) (a.put oi.dst v) w → Q (.panic c) a w) (hy : YieldsIf P ops (fun _ => True) oi v a) (hS : S w ∨ listed.getD last true = true)
    (h : wpAnyL P md ops Q S last fuel (listed.setIfInBounds i true) (a.put oi.dst v) w) : wpAnyL P md ops Q S last (fuel + 1) listed a w := by
  unfold chkW at hc
  simp only [Bool.and_eq_true, decide_eq_true_eq] at hc
  exact wpAnyL_takeW hi hc.1 hc.2.1 hc.2.2.1 (by simpa using hc.2.2.2) hQ hy hS h
/-- One operation alone may come up. -/
theorem wpAnyL_one {i : Nat} {o : Oper} {fuel : Nat} {listed : Array Bool} {a : Act} {w : World} (hr : Region.ready md ops listed = [i]) (ho : ops[i]? = some o)
    (h : ∀ K' : Act → World → Prop, Shut (∀ a w, ((listed.setIfInBounds i true).getD last true = false → S w) → wpAnyL P md ops Q S last fuel (listed.setIfInBounds i true) a w → K' a w) → if Region.wanted o (yielded ops a.tmps) = true then Oper.wp P o a w K' Q else K' (a.put o.dst undef) w) :
    wpAnyL P md ops Q S last (fuel + 1) listed a w := by
  refine ⟨fun h0 => (by rw [hr] at h0; cases h0), fun j hj => ?_⟩
  rw [hr] at hj
  obtain rfl : j = i := by simpa using hj
  exact wpOp_step ho (fun K' hK => h K' (fun a w hS hW => hK a w ⟨hS, hW⟩))
theorem wpAnyL_done {listed : Array Bool} {a : Act} {w : World} (hr : Region.ready md ops listed = []) (h : Q .normal a w) : ∀ fuel, wpAnyL P md ops Q S last fuel listed a w
  | 0 => ⟨hr, h⟩
  | _ + 1 => ⟨fun _ => h, by rw [hr]; simp⟩
theorem wp_region_last {id : Nat} {a : Act} {w : World} (S : World → Prop) (last : Nat) (hm : P.follows .mixedOrders = true) (h : wpAnyL P .any ops Q S last ops.size (Array.replicate ops.size false) a w.drew) : (Code.region id ops true).wp P Q a w :=
  wp_region_any hm (wpAny_of_last _ _ _ _ h)
end
end Go.Proofs.YtkolflcjkofleaaDoor

namespace Go.Proofs.YtkolflcjkofleaaDoor
open Go.ChangeShapes Go.WideShapes Go.ChangeAt Go.RowKit
set_option linter.unusedVariables false
set_option maxRecDepth 8000
set_option linter.unusedSimpArgs false

theorem grownBy_cell {W : World} {g i : Nat} (v : Value) : W.grownBy (W.setCell ⟨g, i, none⟩ v) (some g) := ⟨rfl, rfl, rfl, by simp [World.setCell], fun k _ hk => heap_setCell_other W ⟨g, i, none⟩ k v (fun e => hk (by rw [show k = g from e]))⟩
theorem below_none {w w' : World} (h : w.grownBy w' none) : Below w.heap.size w w' := (Below.refl _ _).grown h (Nat.le_refl _) (fun k e => by cases e)
theorem exL_one (x : Ex) (c : Option Addr) (cp : Nat) : ∀ u ∈ exL x c cp, u.oneCell' = true := by
  intro u hu
  simp only [exL, List.mem_cons, List.not_mem_nil, or_false] at hu
  rcases hu with rfl | rfl | rfl | rfl <;> rfl
set_option maxHeartbeats 8000000 in
theorem xo_neg (t : TypeId) (x : Value) (e : Ex) (h1 : ∀ w, Calls Tryd.prog 47 #[.iface t x] w (XoR e w)) (w : World) : Calls Tryd.prog 47 #[.iface 104 (.agg #[.iface t x])] w (XoR ⟨4, 0, E0, [e]⟩ w) := by
  obtain ⟨i0, hi, hz0, hz1, hz2⟩ := info_parts infoX
  have KD := hide (fun w => kind_neg 0 E0 t 0 x .nilIface w)
  have t0 := taN_num 104 (.agg #[.iface t x]) (by decide)
  have t1 := taN_sect 104 (.agg #[.iface t x]) (by decide)
  have t2 := taN_sym 104 (.agg #[.iface t x]) (by decide)
  have t3 := taN_glob 104 (.agg #[.iface t x]) (by decide)
  have m := me_neg (.iface t x)
  have X0 := hide (Xb.new2 (n := 0) (s := ⟨#[]⟩) (v := .slice none 0 0) w 4)
  have H1 := hide h1
  unfold XoR at H1
  generalize hX : XoR ⟨4, 0, E0, [e]⟩ w = X
  have HX := hide hX
  clear hX h1
  go_enter Tryd.func47, Tryd.ntmps47
  go_wp2_with (first | (go_at_call 71; refine (unhide KD _).mono ?_; rintro r w' ⟨rfl, hw'⟩; rw [hw']; clear hw' w'))
  generalize (w.alloc (.cells #[.int .i64 0, .int .i64 0, .string ⟨#[]⟩, .slice none 0 0] 26)).alloc (.cells #[.int .i64 4, .int .i64 0, .string ⟨#[]⟩, .slice none 0 0] 26) = W at *
  refine (parts1 t x W).mono ?_
  rintro r w1 ⟨gp, rfl, hgp, hb1⟩
  have X1 := hide ((unhide X0).later hb1)
  have G1 := hide hgp
  have c0 := Lib.cell_of_heap hgp 0
  clear hb1 X0 hgp t0 t1 t2 t3 m KD
  go_wp2
  refine wp_loop_rounds 2 ?_
  rw [rounds_succ]
  go_wp2_with fail
  clear c0
  have XD0 := hide ((unhide X1).later (below_drew (w := w1)))
  have GD0 := hide (row_keep (unhide G1) (below_drew (w := w1)))
  have SD0 : w1.drew.cell? ⟨w.heap.size + 1, 3, none⟩ = some (.slice none 0 0) := Lib.cell_of_heap (unhide XD0).box 3
  have HSD0 := hide SD0
  clear X1 G1 SD0
  refine wp_region_last (fun v => v.cell? ⟨w.heap.size + 1, 3, none⟩ = some (.slice none 0 0)) 7 (by kernel_rfl) ?_
  generalize w1.drew = v0 at *
  refine wpAnyL_takeW (i := 0) (v := .pointer (some ⟨w.heap.size + 1, 3, none⟩)) rfl (by kernel_rfl) (by kernel_rfl) (by kernel_rfl) (by kernel_rfl) (fun _ _ _ h => h) (Or.inl ⟨by rfl, fun w hc => ?_⟩) (.inl (unhide HSD0)) ?_
  · clear hc; go_simp
  go_simp
  refine wpAnyL_takeS (i := 1) (v := .slice none 0 0) rfl (by kernel_rfl) (by kernel_rfl) (by kernel_rfl) (by kernel_rfl) (by kernel_rfl) (fun _ _ _ h => h) (Or.inl ⟨by rfl, fun w hc => ?_⟩) (unhide HSD0) ?_
  · go_simp
  go_simp
  refine wpAnyL_takeW (i := 2) (v := .iface t x) rfl (by kernel_rfl) (by kernel_rfl) (by kernel_rfl) (by kernel_rfl) (fun _ _ _ h => h) (Or.inl ⟨by rfl, fun w hc => ?_⟩) (.inl (unhide HSD0)) ?_
  · clear hc; go_simp
  go_simp
  refine wpAnyL_one (i := 3) (by kernel_rfl) rfl (fun K2 hK => ?_)
  go_simp
  refine (unhide H1 v0).mono ?_
  rintro r wa0 ⟨c0, cp0, rfl, hn0, hb0⟩
  unfold Ex.cs
  have XA0 := hide ((unhide XD0).later hb0)
  have GA0 := hide (row_keep (unhide GD0) hb0)
  have NA0 := hide hn0.half
  have hl0 := (unhide XD0).lt
  have hs0 := hb0.size
  have SA0 := hide (show wa0.cell? ⟨w.heap.size + 1, 3, none⟩ = some (.slice none 0 0) from Lib.cell_of_heap (unhide XA0).box 3)
  refine hK.out _ _ (fun _ => unhide SA0) ?_
  clear hK K2
  clear hn0 hb0 XD0 GD0 HSD0
  refine wpAnyL_one (i := 4) (by kernel_rfl) rfl (fun K2 hK => ?_)
  go_simp
  have hb0 := below_new wa0 (.cells #[.int .i64 e.k, .int .i64 e.n, .string e.s, .slice c0 e.l.length cp0] 26)
  have XB0 := hide ((unhide XA0).later hb0)
  have GB0 := hide (row_keep (unhide GA0) hb0)
  have NB0 := hide ((unhide NA0).later hb0)
  have CN0 := hide (cell_newF wa0 #[.int .i64 e.k, .int .i64 e.n, .string e.s, .slice c0 e.l.length cp0] 26)
  have SB0 := hide (show (wa0.alloc (.cells #[.int .i64 e.k, .int .i64 e.n, .string e.s, .slice c0 e.l.length cp0] 26)).cell? ⟨w.heap.size + 1, 3, none⟩ = some (.slice none 0 0) from Lib.cell_of_heap (unhide XB0).box 3)
  have hz0 : (wa0.alloc (.cells #[.int .i64 e.k, .int .i64 e.n, .string e.s, .slice c0 e.l.length cp0] 26)).heap.size = wa0.heap.size + 1 := by simp
  have HZ0 := hide hz0
  refine hK.out _ _ (fun _ => unhide SB0) ?_
  clear hK K2
  clear hb0 hz0 XA0 GA0 NA0 SA0
  generalize hM0 : wa0.heap.size = M0 at *
  have HM0 := hide hM0
  clear hM0
  generalize wa0.alloc (.cells #[.int .i64 e.k, .int .i64 e.n, .string e.s, .slice c0 e.l.length cp0] 26) = wb0 at *
  refine wpAnyL_one (i := 5) (by kernel_rfl) rfl (fun K2 hK => ?_)
  rw [if_pos (by rfl)]
  refine wp_append_to (.tmp 48) (.tmp 51) 24 rfl M0 26 i0 (.agg #[.int .i64 0, .int .i64 0, .string ⟨#[]⟩, .slice none 0 0]) 4 56 Tryd.underlying24 hi hz0 hz1 hz2 rfl (by decide) (.slice none 0 0) 0 ([]) rfl (World.ownsRow_nil _ _ _ _) ⟨M0, 0, none⟩ 1 1 (exL e c0 cp0) rfl rfl (unhide CN0) (exL_one _ _ _) (by unfold maxLen; omega) (by omega) (by have := unhide HZ0; omega) (by omega) ?_
  intro g0 cap0 wc0 hown0 hgrow0 hwh0
  have hbc := below_none hgrow0
  have XC := hide ((unhide XB0).later hbc)
  have NC := hide ((unhide NB0).later hbc)
  have OC := hide (show wc0.ownsRow M0 26 4 (.slice (some ⟨g0, 0, none⟩) 1 cap0) 1 (exL e c0 cp0) from hown0)
  have hgM : M0 ≤ g0 := (World.ownsRow.lt hown0 g0 rfl).1
  have SC := hide (show wc0.cell? ⟨w.heap.size + 1, 3, none⟩ = some (.slice none 0 0) from Lib.cell_of_heap (unhide XC).box 3)
  have fz : wc0.frozen? ⟨w.heap.size + 1, 3, none⟩ = false := by simp [World.frozen?, (unhide XC).box]
  have c3 := Lib.cell_of_heap (unhide XC).box 3
  refine hK.out _ _ (fun _ => unhide SC) ?_
  clear hK K2
  clear hbc hown0 hgrow0 hwh0 XB0 GB0 NB0 SB0 CN0
  refine wpAnyL_takeW (i := 6) (v := .pointer (some ⟨w.heap.size + 1, 3, none⟩)) rfl (by kernel_rfl) (by kernel_rfl) (by kernel_rfl) (by kernel_rfl) (fun _ _ _ h => h) (Or.inl ⟨by rfl, fun w hc => ?_⟩) (.inl (unhide SC)) ?_
  · clear hc; go_simp
  go_simp
  refine wpAnyL_one (i := 7) (by kernel_rfl) rfl (fun K2 hK => ?_)
  go_simp
  refine hK.out _ _ (fun h => absurd h (by decide)) ?_
  clear hK K2
  refine wpAnyL_done (by kernel_rfl) ?_ _
  have XE := hide ((unhide XC).set3 (.slice (some ⟨g0, 0, none⟩) 1 cap0))
  have hgc := grownBy_cell (W := wc0) (g := w.heap.size + 1) (i := 3) (.slice (some ⟨g0, 0, none⟩) 1 cap0)
  have NE := (unhide NC).drawn hgc (by omega)
  have OE := World.ownsRow.kept (unhide OC) hgc (.inr (by simp [Value.ownBlock]; omega))
  have NW := hide ((NE.row1 OE hs0 4 0 E0).lower (show w.heap.size + 1 ≤ v0.heap.size by omega))
  clear hgc NE OE XC NC OC SC fz c3 HZ0 HM0
  generalize wc0.setCell ⟨w.heap.size + 1, 3, none⟩ (.slice (some ⟨g0, 0, none⟩) 1 cap0) = we0 at *
  go_wp2
  rw [rounds_succ]
  go_wp2_with (first | (refine wpList_load_row rfl 26 _ rfl (w.heap.size + 1) rfl 26 #[.int .i64 4, .int .i64 0, .string ⟨#[]⟩, .slice (some ⟨g0, 0, none⟩) 1 cap0] (0, 0) _ (unhide XE).box Tryd.underlying26 rfl (by kernel_rfl) ?_) | (refine wpList_store_row rfl 26 _ _ rfl w.heap.size #[.int .i64 4, .int .i64 0, .string ⟨#[]⟩, .slice (some ⟨g0, 0, none⟩) 1 cap0] rfl rfl 26 _ (unhide XE).res szE rfl (ex_one _ _ _ _ _ _) ?_))
  refine bodyPost_ret (results_cell_row (P := Tryd.prog) rfl _ _ w.heap.size 26 #[.int .i64 4, .int .i64 0, .string ⟨#[]⟩, .slice (some ⟨g0, 0, none⟩) 1 cap0] (0, 0) _ rfl (setRow_heap _ _ _ _ _ _ (unhide XE).res) Tryd.underlying26 rfl szE) rfl ?_
  rw [← unhide HX]
  exact Xb.end (l := [e]) (unhide XE) (unhide NW) _
set_option maxHeartbeats 16000000 in
theorem xo_two (T : TypeId) (k : Int) (t u : TypeId) (x y : Value) (e f : Ex) (n0 : T ≠ 88) (n1 : T ≠ 115) (n2 : T ≠ 117) (n3 : T ≠ 118) (m : ∀ w, (method 271 T (.agg #[.iface t x, .iface u y]) "loop.example/g00329/impl.parts").run Tryd.prog w = .ok (123, .agg #[.iface t x, .iface u y]) w) (kd : ∀ w, Calls Tryd.prog 71 #[.iface T (.agg #[.iface t x, .iface u y])] w fun r w' => r = .returned (.int .i64 k) ∧ w' = w) (h1 : ∀ w, Calls Tryd.prog 47 #[.iface t x] w (XoR e w)) (h2 : ∀ w, Calls Tryd.prog 47 #[.iface u y] w (XoR f w)) (w : World) : Calls Tryd.prog 47 #[.iface T (.agg #[.iface t x, .iface u y])] w (XoR ⟨k, 0, E0, [e, f]⟩ w) := by
  obtain ⟨i0, hi, hz0, hz1, hz2⟩ := info_parts infoX
  have KD := hide kd
  have t0 := taN_num T (.agg #[.iface t x, .iface u y]) n0
  have t1 := taN_sect T (.agg #[.iface t x, .iface u y]) n1
  have t2 := taN_sym T (.agg #[.iface t x, .iface u y]) n2
  have t3 := taN_glob T (.agg #[.iface t x, .iface u y]) n3
  have X0 := hide (Xb.new2 (n := 0) (s := ⟨#[]⟩) (v := .slice none 0 0) w k)
  have H1 := hide h1
  have H2 := hide h2
  unfold XoR at H1 H2
  generalize hX : XoR ⟨k, 0, E0, [e, f]⟩ w = X
  have HX := hide hX
  clear hX h1 h2 kd n0 n1 n2 n3
  go_enter Tryd.func47, Tryd.ntmps47
  go_wp2_with (first | (go_at_call 71; refine (unhide KD _).mono ?_; rintro r w' ⟨rfl, hw'⟩; rw [hw']; clear hw' w'))
  generalize (w.alloc (.cells #[.int .i64 0, .int .i64 0, .string ⟨#[]⟩, .slice none 0 0] 26)).alloc (.cells #[.int .i64 k, .int .i64 0, .string ⟨#[]⟩, .slice none 0 0] 26) = W at *
  refine (parts2 t u x y W).mono ?_
  rintro r w1 ⟨gp, rfl, hgp, hb1⟩
  have X1 := hide ((unhide X0).later hb1)
  have G1 := hide hgp
  have c0 := Lib.cell_of_heap hgp 0
  have hgn : gp ≠ w.heap.size + 1 := fun e => by have h := (unhide X1).box; rw [← e, hgp] at h; cases h
  clear hb1 X0 hgp t0 t1 t2 t3 m KD
  go_wp2
  refine wp_loop_rounds 3 ?_
  rw [rounds_succ]
  go_wp2_with fail
  clear c0
  have XD0 := hide ((unhide X1).later (below_drew (w := w1)))
  have GD0 := hide (row_keep (unhide G1) (below_drew (w := w1)))
  have SD0 : w1.drew.cell? ⟨w.heap.size + 1, 3, none⟩ = some (.slice none 0 0) := Lib.cell_of_heap (unhide XD0).box 3
  have HSD0 := hide SD0
  clear X1 G1 SD0
  refine wp_region_last (fun v => v.cell? ⟨w.heap.size + 1, 3, none⟩ = some (.slice none 0 0)) 7 (by kernel_rfl) ?_
  generalize w1.drew = v0 at *
  refine wpAnyL_takeW (i := 0) (v := .pointer (some ⟨w.heap.size + 1, 3, none⟩)) rfl (by kernel_rfl) (by kernel_rfl) (by kernel_rfl) (by kernel_rfl) (fun _ _ _ h => h) (Or.inl ⟨by rfl, fun w hc => ?_⟩) (.inl (unhide HSD0)) ?_
  · clear hc; go_simp
  go_simp
  refine wpAnyL_takeS (i := 1) (v := .slice none 0 0) rfl (by kernel_rfl) (by kernel_rfl) (by kernel_rfl) (by kernel_rfl) (by kernel_rfl) (fun _ _ _ h => h) (Or.inl ⟨by rfl, fun w hc => ?_⟩) (unhide HSD0) ?_
  · go_simp
  go_simp
  refine wpAnyL_takeW (i := 2) (v := .iface t x) rfl (by kernel_rfl) (by kernel_rfl) (by kernel_rfl) (by kernel_rfl) (fun _ _ _ h => h) (Or.inl ⟨by rfl, fun w hc => ?_⟩) (.inl (unhide HSD0)) ?_
  · clear hc; go_simp
  go_simp
  refine wpAnyL_one (i := 3) (by kernel_rfl) rfl (fun K2 hK => ?_)
  go_simp
  refine (unhide H1 v0).mono ?_
  rintro r wa0 ⟨c0, cp0, rfl, hn0, hb0⟩
  unfold Ex.cs
  have XA0 := hide ((unhide XD0).later hb0)
  have GA0 := hide (row_keep (unhide GD0) hb0)
  have NA0 := hide hn0.half
  have hl0 := (unhide XD0).lt
  have hs0 := hb0.size
  have SA0 := hide (show wa0.cell? ⟨w.heap.size + 1, 3, none⟩ = some (.slice none 0 0) from Lib.cell_of_heap (unhide XA0).box 3)
  refine hK.out _ _ (fun _ => unhide SA0) ?_
  clear hK K2
  clear hn0 hb0 XD0 GD0 HSD0
  refine wpAnyL_one (i := 4) (by kernel_rfl) rfl (fun K2 hK => ?_)
  go_simp
  have hb0 := below_new wa0 (.cells #[.int .i64 e.k, .int .i64 e.n, .string e.s, .slice c0 e.l.length cp0] 26)
  have XB0 := hide ((unhide XA0).later hb0)
  have GB0 := hide (row_keep (unhide GA0) hb0)
  have NB0 := hide ((unhide NA0).later hb0)
  have CN0 := hide (cell_newF wa0 #[.int .i64 e.k, .int .i64 e.n, .string e.s, .slice c0 e.l.length cp0] 26)
  have SB0 := hide (show (wa0.alloc (.cells #[.int .i64 e.k, .int .i64 e.n, .string e.s, .slice c0 e.l.length cp0] 26)).cell? ⟨w.heap.size + 1, 3, none⟩ = some (.slice none 0 0) from Lib.cell_of_heap (unhide XB0).box 3)
  have hz0 : (wa0.alloc (.cells #[.int .i64 e.k, .int .i64 e.n, .string e.s, .slice c0 e.l.length cp0] 26)).heap.size = wa0.heap.size + 1 := by simp
  have HZ0 := hide hz0
  refine hK.out _ _ (fun _ => unhide SB0) ?_
  clear hK K2
  clear hb0 hz0 XA0 GA0 NA0 SA0
  generalize hM0 : wa0.heap.size = M0 at *
  have HM0 := hide hM0
  clear hM0
  generalize wa0.alloc (.cells #[.int .i64 e.k, .int .i64 e.n, .string e.s, .slice c0 e.l.length cp0] 26) = wb0 at *
  refine wpAnyL_one (i := 5) (by kernel_rfl) rfl (fun K2 hK => ?_)
  rw [if_pos (by rfl)]
  refine wp_append_to (.tmp 48) (.tmp 51) 24 rfl M0 26 i0 (.agg #[.int .i64 0, .int .i64 0, .string ⟨#[]⟩, .slice none 0 0]) 4 56 Tryd.underlying24 hi hz0 hz1 hz2 rfl (by decide) (.slice none 0 0) 0 ([]) rfl (World.ownsRow_nil _ _ _ _) ⟨M0, 0, none⟩ 1 1 (exL e c0 cp0) rfl rfl (unhide CN0) (exL_one _ _ _) (by unfold maxLen; omega) (by omega) (by have := unhide HZ0; omega) (by omega) ?_
  intro g0 cap0 wc0 hown0 hgrow0 hwh0
  have hbc := below_none hgrow0
  have XC := hide ((unhide XB0).later hbc)
  have GC := hide (row_keep (unhide GB0) hbc)
  have NC := hide ((unhide NB0).later hbc)
  have OC := hide (show wc0.ownsRow M0 26 4 (.slice (some ⟨g0, 0, none⟩) 1 cap0) 1 (exL e c0 cp0) from hown0)
  have hgM : M0 ≤ g0 := (World.ownsRow.lt hown0 g0 rfl).1
  have hgL : g0 < wc0.heap.size := (World.ownsRow.lt hown0 g0 rfl).2
  have SC := hide (show wc0.cell? ⟨w.heap.size + 1, 3, none⟩ = some (.slice none 0 0) from Lib.cell_of_heap (unhide XC).box 3)
  have fz : wc0.frozen? ⟨w.heap.size + 1, 3, none⟩ = false := by simp [World.frozen?, (unhide XC).box]
  have c3 := Lib.cell_of_heap (unhide XC).box 3
  refine hK.out _ _ (fun _ => unhide SC) ?_
  clear hK K2
  clear hbc hown0 hgrow0 hwh0 XB0 GB0 NB0 SB0 CN0
  refine wpAnyL_takeW (i := 6) (v := .pointer (some ⟨w.heap.size + 1, 3, none⟩)) rfl (by kernel_rfl) (by kernel_rfl) (by kernel_rfl) (by kernel_rfl) (fun _ _ _ h => h) (Or.inl ⟨by rfl, fun w hc => ?_⟩) (.inl (unhide SC)) ?_
  · clear hc; go_simp
  go_simp
  refine wpAnyL_one (i := 7) (by kernel_rfl) rfl (fun K2 hK => ?_)
  go_simp
  refine hK.out _ _ (fun h => absurd h (by decide)) ?_
  clear hK K2
  refine wpAnyL_done (by kernel_rfl) ?_ _
  have XE := hide ((unhide XC).set3 (.slice (some ⟨g0, 0, none⟩) 1 cap0))
  have hgc := grownBy_cell (W := wc0) (g := w.heap.size + 1) (i := 3) (.slice (some ⟨g0, 0, none⟩) 1 cap0)
  have RN0 := hide ((unhide NC).drawn hgc (by omega))
  have RO0 := hide (World.ownsRow.kept (unhide OC) hgc (.inr (by simp [Value.ownBlock]; omega)))
  have GE := hide ((hgc.block _ (Array.getElem?_eq_some_iff.1 (unhide GC)).1 (fun e => by simp at e; omega)).trans (unhide GC))
  have hgE : g0 < (wc0.setCell ⟨w.heap.size + 1, 3, none⟩ (.slice (some ⟨g0, 0, none⟩) 1 cap0)).heap.size := Nat.lt_of_lt_of_le hgL hgc.size
  have c1 := Lib.cell_of_heap (unhide GE) 1
  clear hgc XC NC OC GC SC fz c3 HZ0 HM0 hgL
  generalize wc0.setCell ⟨w.heap.size + 1, 3, none⟩ (.slice (some ⟨g0, 0, none⟩) 1 cap0) = we0 at *
  go_wp2
  rw [rounds_succ]
  go_wp2_with fail
  clear c1
  have hgD : g0 < we0.drew.heap.size := hgE
  have XD1 := hide ((unhide XE).later (below_drew (w := we0)))
  have GD1 := hide (row_keep (unhide GE) (below_drew (w := we0)))
  have RND := hide ((unhide RN0).later (below_drew (w := we0)))
  have ROD := hide (ownsRow_later (unhide RO0) (below_drew (w := we0)))
  have SD1 : we0.drew.cell? ⟨w.heap.size + 1, 3, none⟩ = some (.slice (some ⟨g0, 0, none⟩) 1 cap0) := Lib.cell_of_heap (unhide XD1).box 3
  have HSD1 := hide SD1
  clear XE GE SD1
  refine wp_region_last (fun v => v.cell? ⟨w.heap.size + 1, 3, none⟩ = some (.slice (some ⟨g0, 0, none⟩) 1 cap0)) 7 (by kernel_rfl) ?_
  generalize we0.drew = v1 at *
  refine wpAnyL_takeW (i := 0) (v := .pointer (some ⟨w.heap.size + 1, 3, none⟩)) rfl (by kernel_rfl) (by kernel_rfl) (by kernel_rfl) (by kernel_rfl) (fun _ _ _ h => h) (Or.inl ⟨by rfl, fun w hc => ?_⟩) (.inl (unhide HSD1)) ?_
  · clear hc; go_simp
  go_simp
  refine wpAnyL_takeS (i := 1) (v := .slice (some ⟨g0, 0, none⟩) 1 cap0) rfl (by kernel_rfl) (by kernel_rfl) (by kernel_rfl) (by kernel_rfl) (by kernel_rfl) (fun _ _ _ h => h) (Or.inl ⟨by rfl, fun w hc => ?_⟩) (unhide HSD1) ?_
  · go_simp
  go_simp
  refine wpAnyL_takeW (i := 2) (v := .iface u y) rfl (by kernel_rfl) (by kernel_rfl) (by kernel_rfl) (by kernel_rfl) (fun _ _ _ h => h) (Or.inl ⟨by rfl, fun w hc => ?_⟩) (.inl (unhide HSD1)) ?_
  · clear hc; go_simp
  go_simp
  refine wpAnyL_one (i := 3) (by kernel_rfl) rfl (fun K2 hK => ?_)
  go_simp
  refine (unhide H2 v1).mono ?_
  rintro r wa1 ⟨c1, cp1, rfl, hn1, hb1⟩
  unfold Ex.cs
  have XA1 := hide ((unhide XD1).later hb1)
  have GA1 := hide (row_keep (unhide GD1) hb1)
  have RNA := hide ((unhide RND).later (hb1))
  have ROA := hide (ownsRow_later (unhide ROD) (hb1))
  have NA1 := hide hn1.half
  have hl1 := (unhide XD1).lt
  have hs1 := hb1.size
  have SA1 := hide (show wa1.cell? ⟨w.heap.size + 1, 3, none⟩ = some (.slice (some ⟨g0, 0, none⟩) 1 cap0) from Lib.cell_of_heap (unhide XA1).box 3)
  refine hK.out _ _ (fun _ => unhide SA1) ?_
  clear hK K2
  clear hn1 hb1 XD1 GD1 HSD1
  refine wpAnyL_one (i := 4) (by kernel_rfl) rfl (fun K2 hK => ?_)
  go_simp
  have hb1 := below_new wa1 (.cells #[.int .i64 f.k, .int .i64 f.n, .string f.s, .slice c1 f.l.length cp1] 26)
  have XB1 := hide ((unhide XA1).later hb1)
  have GB1 := hide (row_keep (unhide GA1) hb1)
  have RNB := hide ((unhide RNA).later (hb1))
  have ROB := hide (ownsRow_later (unhide ROA) (hb1))
  have NB1 := hide ((unhide NA1).later hb1)
  have CN1 := hide (cell_newF wa1 #[.int .i64 f.k, .int .i64 f.n, .string f.s, .slice c1 f.l.length cp1] 26)
  have SB1 := hide (show (wa1.alloc (.cells #[.int .i64 f.k, .int .i64 f.n, .string f.s, .slice c1 f.l.length cp1] 26)).cell? ⟨w.heap.size + 1, 3, none⟩ = some (.slice (some ⟨g0, 0, none⟩) 1 cap0) from Lib.cell_of_heap (unhide XB1).box 3)
  have hz1 : (wa1.alloc (.cells #[.int .i64 f.k, .int .i64 f.n, .string f.s, .slice c1 f.l.length cp1] 26)).heap.size = wa1.heap.size + 1 := by simp
  have HZ1 := hide hz1
  refine hK.out _ _ (fun _ => unhide SB1) ?_
  clear hK K2
  clear hb1 hz1 XA1 GA1 NA1 SA1
  generalize hM1 : wa1.heap.size = M1 at *
  have HM1 := hide hM1
  clear hM1
  generalize wa1.alloc (.cells #[.int .i64 f.k, .int .i64 f.n, .string f.s, .slice c1 f.l.length cp1] 26) = wb1 at *
  refine wpAnyL_one (i := 5) (by kernel_rfl) rfl (fun K2 hK => ?_)
  rw [if_pos (by rfl)]
  refine wp_append_to (.tmp 48) (.tmp 51) 24 rfl M0 26 i0 (.agg #[.int .i64 0, .int .i64 0, .string ⟨#[]⟩, .slice none 0 0]) 4 56 Tryd.underlying24 hi hz0 hz1 hz2 rfl (by decide) (.slice (some ⟨g0, 0, none⟩) 1 cap0) 1 (exL e c0 cp0) rfl (unhide ROB) ⟨M1, 0, none⟩ 1 1 (exL f c1 cp1) rfl rfl (unhide CN1) (exL_one _ _ _) (by unfold maxLen; omega) (by omega) (by have := unhide HZ1; omega) (by omega) ?_
  intro g1 cap1 wc1 hown1 hgrow1 hwh1
  have hgr : wb1.grownBy wc1 (some g0) := hgrow1
  have XC := hide ((unhide XB1).grown hgr (by omega))
  have NC := hide ((unhide NB1).drawn hgr hgD)
  have RC := hide ((unhide RNB).beyond hgr hgM)
  have OC := hide (show wc1.ownsRow M0 26 4 (.slice (some ⟨g1, 0, none⟩) 2 cap1) 2 (exL e c0 cp0 ++ exL f c1 cp1) from hown1)
  have hgw : g1 < v1.heap.size ∨ M1 ≤ g1 := by
    rcases hwh1 with h | h
    · left
      have : g0 = g1 := by simpa [Value.ownBlock] using h
      omega
    · right
      have := unhide HZ1
      omega
  have hgN : M0 ≤ g1 := (World.ownsRow.lt hown1 g1 rfl).1
  have SC := hide (show wc1.cell? ⟨w.heap.size + 1, 3, none⟩ = some (.slice (some ⟨g0, 0, none⟩) 1 cap0) from Lib.cell_of_heap (unhide XC).box 3)
  have fz : wc1.frozen? ⟨w.heap.size + 1, 3, none⟩ = false := by simp [World.frozen?, (unhide XC).box]
  have c3 := Lib.cell_of_heap (unhide XC).box 3
  refine hK.out _ _ (fun _ => unhide SC) ?_
  clear hK K2
  clear hgr hown1 hgrow1 hwh1 XB1 GB1 NB1 SB1 CN1 RNB ROB RNA ROA RND ROD RN0 RO0
  refine wpAnyL_takeW (i := 6) (v := .pointer (some ⟨w.heap.size + 1, 3, none⟩)) rfl (by kernel_rfl) (by kernel_rfl) (by kernel_rfl) (by kernel_rfl) (fun _ _ _ h => h) (Or.inl ⟨by rfl, fun w hc => ?_⟩) (.inl (unhide SC)) ?_
  · clear hc; go_simp
  go_simp
  refine wpAnyL_one (i := 7) (by kernel_rfl) rfl (fun K2 hK => ?_)
  go_simp
  refine hK.out _ _ (fun h => absurd h (by decide)) ?_
  clear hK K2
  refine wpAnyL_done (by kernel_rfl) ?_ _
  have XE := hide ((unhide XC).set3 (.slice (some ⟨g1, 0, none⟩) 2 cap1))
  have hgc := grownBy_cell (W := wc1) (g := w.heap.size + 1) (i := 3) (.slice (some ⟨g1, 0, none⟩) 2 cap1)
  have NE := (unhide NC).drawn hgc (by omega)
  have RE := (unhide RC).drawn hgc (by omega)
  have OE := World.ownsRow.kept (unhide OC) hgc (.inr (by simp [Value.ownBlock]; omega))
  have NW := hide ((RE.row2 NE OE hs0 (by omega) hgw k 0 E0).lower (show w.heap.size + 1 ≤ v0.heap.size by omega))
  clear hgc NE RE OE XC NC RC OC SC fz c3 HZ1 HM1
  generalize wc1.setCell ⟨w.heap.size + 1, 3, none⟩ (.slice (some ⟨g1, 0, none⟩) 2 cap1) = we1 at *
  go_wp2
  rw [rounds_succ]
  go_wp2_with (first | (refine wpList_load_row rfl 26 _ rfl (w.heap.size + 1) rfl 26 #[.int .i64 k, .int .i64 0, .string ⟨#[]⟩, .slice (some ⟨g1, 0, none⟩) 2 cap1] (0, 0) _ (unhide XE).box Tryd.underlying26 rfl (by kernel_rfl) ?_) | (refine wpList_store_row rfl 26 _ _ rfl w.heap.size #[.int .i64 k, .int .i64 0, .string ⟨#[]⟩, .slice (some ⟨g1, 0, none⟩) 2 cap1] rfl rfl 26 _ (unhide XE).res szE rfl (ex_one _ _ _ _ _ _) ?_))
  refine bodyPost_ret (results_cell_row (P := Tryd.prog) rfl _ _ w.heap.size 26 #[.int .i64 k, .int .i64 0, .string ⟨#[]⟩, .slice (some ⟨g1, 0, none⟩) 2 cap1] (0, 0) _ rfl (setRow_heap _ _ _ _ _ _ (unhide XE).res) Tryd.underlying26 rfl szE) rfl ?_
  rw [← unhide HX]
  exact Xb.end (l := [e, f]) (unhide XE) (unhide NW) _
theorem name_szG {s : ByteArray} (h : nameB s = true) : s.size ≤ 6 := by
  unfold nameB at h
  rw [Bool.and_eq_true] at h
  obtain ⟨c, r, _, _, _, hl⟩ := form_open h.1
  rw [← size_len]
  exact hl
def XoP (d : Nat) : Prop := ∀ (e : Ex) (w : World), okF d false e = true → Calls Tryd.prog 47 #[tv e] w (XoR e w)
theorem xo_all : ∀ d : Nat, XoP d := by
  intro d
  induction d with
  | zero => intro e w h; cases h
  | succ d ihd =>
    intro e w h
    rcases ok_cases h with ⟨n, hn, rfl⟩ | ⟨s, hs, rfl⟩ | rfl | ⟨a, ha, rfl⟩ | ⟨k, a, b, hk, ha, hb, rfl⟩ | ⟨n, hn, rfl⟩ | ⟨s, hs, rfl⟩
    · rw [tv_num]; exact xo_num n w
    · rw [tv_sym]
      refine xo_sym s ?_ w
      have := name_szG hs
      omega
    · rw [tv_here]; exact xo_here w
    · obtain ⟨t, x, e1⟩ := tv_if a
      have h1 := fun w => ihd a w ha
      rw [e1] at h1
      rw [tv_neg, e1]
      exact xo_neg t x a h1 w
    · obtain ⟨t, x, e1⟩ := tv_if a
      obtain ⟨u, y, e2⟩ := tv_if b
      have h1 := fun w => ihd a w ha
      have h2 := fun w => ihd b w hb
      rw [e1] at h1
      rw [e2] at h2
      rw [tv_two hk, e1, e2]
      have : k = 5 ∨ k = 6 ∨ k = 7 ∨ k = 8 ∨ k = 9 ∨ k = 10 := by omega
      rcases this with rfl | rfl | rfl | rfl | rfl | rfl
      · exact xo_two 134 5 t u x y a b (by decide) (by decide) (by decide) (by decide) (me_add (.iface t x) (.iface u y)) (fun w => kind_add 0 E0 t u x y w) h1 h2 w
      · exact xo_two 135 6 t u x y a b (by decide) (by decide) (by decide) (by decide) (me_sub (.iface t x) (.iface u y)) (fun w => kind_sub 0 E0 t u x y w) h1 h2 w
      · exact xo_two 136 7 t u x y a b (by decide) (by decide) (by decide) (by decide) (me_mul (.iface t x) (.iface u y)) (fun w => kind_mul 0 E0 t u x y w) h1 h2 w
      · exact xo_two 137 8 t u x y a b (by decide) (by decide) (by decide) (by decide) (me_div (.iface t x) (.iface u y)) (fun w => kind_div 0 E0 t u x y w) h1 h2 w
      · exact xo_two 138 9 t u x y a b (by decide) (by decide) (by decide) (by decide) (me_and (.iface t x) (.iface u y)) (fun w => kind_and 0 E0 t u x y w) h1 h2 w
      · exact xo_two 139 10 t u x y a b (by decide) (by decide) (by decide) (by decide) (me_or (.iface t x) (.iface u y)) (fun w => kind_or 0 E0 t u x y w) h1 h2 w
    · rw [tv_sect]; exact xo_sect n w
    · rw [tv_glob]
      refine xo_glob s ?_ w
      have := name_szG hs
      omega
end Go.Proofs.YtkolflcjkofleaaDoor

namespace Go.Proofs.YtkolflcjkofleaaDoor
open Go.ChangeShapes Go.WideShapes Go.ChangeAt Go.RowKit
set_option linter.unusedVariables false
set_option maxRecDepth 8000
set_option linter.unusedSimpArgs false

/-- A term, where its parts lie, and how much room they have. -/
structure Tc where
  x : Ex
  a : Option Addr
  c : Nat
def cellsX : List Tc → List Value
  | [] => []
  | t :: r => exL t.x t.a t.c ++ cellsX r
theorem cellsX_len (l : List Tc) : (cellsX l).length = l.length * 4 := by
  induction l with
  | nil => rfl
  | cons t r ih => simp only [cellsX, List.length_append, ih, List.length_cons, exL, List.length_nil]; omega
theorem cellsX_app (a b : List Tc) : cellsX (a ++ b) = cellsX a ++ cellsX b := by
  induction a with
  | nil => rfl
  | cons t r ih => simp only [List.cons_append, cellsX, ih, List.append_assoc]
theorem cellsX_at : ∀ (l : List Tc) (i : Nat) (t : Tc) (o : Nat), l[i]? = some t → o < 4 → (cellsX l)[i * 4 + o]? = (exL t.x t.a t.c)[o]?
  | [], i, t, o, h, _ => by simp at h
  | u :: r, 0, t, o, h, ho => by
    have : u = t := by simpa using h
    subst this
    simp only [cellsX]
    rw [List.getElem?_append_left (by simp [exL]; omega)]
    congr 1
    omega
  | u :: r, i + 1, t, o, h, ho => by
    simp only [cellsX]
    rw [List.getElem?_append_right (by simp [exL]; omega)]
    have := cellsX_at r i t o (by simpa using h) ho
    rw [← this]
    congr 1
    simp [exL]
    omega
theorem cellsX_one (l : List Tc) : ∀ u ∈ cellsX l, u.oneCell' = true := by
  induction l with
  | nil => intro u hu; cases hu
  | cons t r ih =>
    intro u hu
    simp only [cellsX] at hu
    rcases List.mem_append.1 hu with h | h
    · simp only [exL, List.mem_cons, List.not_mem_nil, or_false] at h
      rcases h with rfl | rfl | rfl | rfl <;> rfl
    · exact ih u h
theorem cellsX_of : ∀ (l : List Tc) (j : Nat) (u : Value), (cellsX l)[j]? = some u → ∃ t o, l[j / 4]? = some t ∧ o < 4 ∧ j = j / 4 * 4 + o ∧ (exL t.x t.a t.c)[o]? = some u := by
  intro l j u h
  have hl : j < (cellsX l).length := (List.getElem?_eq_some_iff.1 h).1
  rw [cellsX_len] at hl
  have hi : j / 4 < l.length := by omega
  refine ⟨l[j / 4], j % 4, List.getElem?_eq_getElem hi, by omega, by omega, ?_⟩
  rw [← cellsX_at l (j / 4) l[j / 4] (j % 4) (List.getElem?_eq_getElem hi) (by omega), ← h]
  congr 1
  omega
/-- The cells of a list of terms that is read. -/
theorem rdx_cells {w : World} {e : Ex} {b off : Nat} (h : RdX w 0 e (some ⟨b, off, none⟩)) : ∃ ts : List Tc, ts.map Tc.x = e.l ∧ (∀ j u, (cellsX ts)[j]? = some u → w.cell? ⟨b, off + j, none⟩ = some u) ∧ ∀ t ∈ ts, RdX w 0 t.x t.a := by
  rw [RdX_eq] at h
  rcases h with h | ⟨b', off', e1, _, hb, hc⟩
  · refine ⟨[], by rw [h]; rfl, ?_, ?_⟩
    · intro j u hu
      simp [cellsX] at hu
    · intro t ht
      cases ht
  · cases e1
    have each : ∀ i, i < e.l.length → ∃ t : Tc, t.x = xAt e.l i ∧ w.cell? ⟨b, off + i * 4, none⟩ = some (.int .i64 t.x.k) ∧ w.cell? ⟨b, off + i * 4 + 1, none⟩ = some (.int .i64 t.x.n) ∧ w.cell? ⟨b, off + i * 4 + 2, none⟩ = some (.string t.x.s) ∧ w.cell? ⟨b, off + i * 4 + 3, none⟩ = some (.slice t.a t.x.l.length t.c) ∧ RdX w 0 t.x t.a := fun i hi => by
      obtain ⟨c0, c1, c2, c, cp, c3, c4⟩ := hc i hi
      exact ⟨⟨xAt e.l i, c, cp⟩, rfl, c0, c1, c2, c3, c4⟩
    obtain ⟨T, hT⟩ := @_root_.Go.Deep.choose_lt Tc ⟨⟨X0, none, 0⟩⟩ _ _ each
    have hat : ∀ i t, ((List.range e.l.length).map T)[i]? = some t → i < e.l.length ∧ t = T i := fun i t h => by
      rw [List.getElem?_map] at h
      by_cases hi : i < e.l.length
      · rw [List.getElem?_range hi] at h
        exact ⟨hi, by simpa using h.symm⟩
      · rw [List.getElem?_eq_none (by simpa using hi)] at h
        cases h
    refine ⟨(List.range e.l.length).map T, ?_, fun j u hu => ?_, fun t ht => ?_⟩
    · apply List.ext_getElem?
      intro i
      by_cases hi : i < e.l.length
      · rw [List.getElem?_map, List.getElem?_map, List.getElem?_range hi, List.getElem?_eq_getElem hi, ← xAt_get hi, ← (hT i hi).1]
        rfl
      · rw [List.getElem?_eq_none (by simpa using hi), List.getElem?_eq_none (by omega)]
    · obtain ⟨t, o, h1, ho, hj, h2⟩ := cellsX_of _ j u hu
      obtain ⟨hi, rfl⟩ := hat _ _ h1
      obtain ⟨_, c0, c1, c2, c3, _⟩ := hT _ hi
      generalize j / 4 = i at *
      subst hj
      have : o = 0 ∨ o = 1 ∨ o = 2 ∨ o = 3 := by omega
      rcases this with rfl | rfl | rfl | rfl
      · cases h2; rw [Nat.add_zero]; exact c0
      · cases h2; rw [← Nat.add_assoc]; exact c1
      · cases h2; rw [← Nat.add_assoc]; exact c2
      · cases h2; rw [← Nat.add_assoc]; exact c3
    · obtain ⟨i, hi⟩ := List.getElem?_of_mem ht
      obtain ⟨hi2, rfl⟩ := hat _ _ hi
      exact (hT i hi2).2.2.2.2.2
/-- A row of these cells is read as these terms. -/
theorem own_rdx {w : World} {B g n cap : Nat} {ts : List Tc} (h : w.ownsRow B 26 4 (.slice (some ⟨g, 0, none⟩) n cap) n (cellsX ts)) (hn : ts.length = n) (hr : ∀ t ∈ ts, RdX w 0 t.x t.a) : RdX w 0 ⟨0, 0, E0, ts.map Tc.x⟩ (some ⟨g, 0, none⟩) := by
  obtain ⟨cur, hh, hz, hg, hc⟩ := row_take h
  refine (RdX_eq _ _ _ _).2 (.inr ⟨g, 0, rfl, Nat.zero_le _, (Array.getElem?_eq_some_iff.1 hh).1, fun i hi => ?_⟩)
  have hi : i < ts.length := by simpa using hi
  have ex : xAt (ts.map Tc.x) i = ts[i].x := by
    rw [xAt_get (by simpa using hi)]
    simp
  have hcell : ∀ o, o < 4 → w.cell? ⟨g, i * 4 + o, none⟩ = (exL ts[i].x ts[i].a ts[i].c)[o]? := fun o ho => by
    rw [Lib.cell_of_heap hh, hc _ (by omega), cellsX_at ts i ts[i] o (List.getElem?_eq_getElem hi) ho]
  show OneX w 0 g (0 + i * 4) (xAt (ts.map Tc.x) i)
  rw [ex, Nat.zero_add]
  exact ⟨hcell 0 (by omega), hcell 1 (by omega), hcell 2 (by omega), ts[i].a, ts[i].c, hcell 3 (by omega), hr _ (List.getElem_mem hi)⟩
end Go.Proofs.YtkolflcjkofleaaDoor

namespace Go.Proofs.YtkolflcjkofleaaDoor
open Go.ChangeShapes Go.WideShapes Go.ChangeAt Go.RowKit
set_option linter.unusedVariables false
set_option maxRecDepth 8000
set_option linter.unusedSimpArgs false

theorem put_ok {here : Ex} {L : List ByteArray} {vals : List Ex} {D : Nat} (hh : okF D false here = true) (hv : ∀ i, i < vals.length → okF D false (xAt vals i) = true) (hL : L.length = vals.length) : ∀ (d : Nat) (e : Ex), okF d false e = true → okF (d + D) false (putX here L vals e) = true := by
  intro d
  induction d with
  | zero => intro e h; cases h
  | succ d ih =>
    intro e h
    have h0 := h
    have hup : okF (d + 1 + D) false e = true := ok_upto h (by omega)
    rcases ok_cases h with ⟨n, hn', rfl⟩ | ⟨s, hs, rfl⟩ | rfl | ⟨a, ha, rfl⟩ | ⟨k, a, b, hk, ha, hb, rfl⟩ | ⟨n, hn', rfl⟩ | ⟨s, hs, rfl⟩
    · rw [putX_leaf _ _ _ _ _ _ (by decide) (by decide)]; exact hup
    · cases hp : plS L s with
      | none => rw [putX_symn _ _ _ _ _ hp]; exact hup
      | some i => rw [putX_symy _ _ _ _ _ i hp]; exact ok_upto (hv i (by have := pl_ltN hp; omega)) (by omega)
    · rw [putX_here]; exact ok_upto hh (by omega)
    · rw [putX_neg, show d + 1 + D = (d + D) + 1 by omega]; exact ok_neg (ih a ha)
    · rw [putX_two _ _ _ hk, show d + 1 + D = (d + D) + 1 by omega]; exact ok_two hk (ih a ha) (ih b hb)
    · rw [putX_leaf _ _ _ _ _ _ (by decide) (by decide)]; exact hup
    · rw [putX_leaf _ _ _ _ _ _ (by decide) (by decide)]; exact hup
theorem own_eight {w : World} {B : Nat} {cs : Array Value} {t : TypeId} (hB : B ≤ w.heap.size) (hz : cs.size = 8) : (w.alloc (.cells cs t)).ownsRow B t 4 (.slice (some ⟨w.heap.size, 0, none⟩) 2 2) 2 cs.toList :=
  ⟨by simp [hz], .inr ⟨w.heap.size, 2, cs, rfl, hB, Array.getElem?_push_size, Nat.le_refl _, by unfold maxLen; omega, by omega, by rw [List.take_of_length_le (by simp [hz])]⟩⟩
/-- The rows of Put: its two terms, and what it answers. -/
structure Pb (w wr : World) (pe ph : Array Value) : Prop where
  bel : Below w.heap.size w wr
  lt : w.heap.size + 3 ≤ wr.heap.size
  be : wr.heap[w.heap.size]? = some (.cells pe 26 (0, 0))
  bh : wr.heap[w.heap.size + 1]? = some (.cells ph 26 (0, 0))
  res : wr.heap[w.heap.size + 2]? = some (.cells #[.int .i64 0, .int .i64 0, .string ⟨#[]⟩, .slice none 0 0] 26 (0, 0))
theorem Pb.later {w wr w' : World} {pe ph : Array Value} (h : Pb w wr pe ph) (hb : Below wr.heap.size wr w') : Pb w w' pe ph := ⟨h.bel.trans (hb.mono h.bel.size), Nat.le_trans h.lt hb.size, row_keep h.be hb, row_keep h.bh hb, row_keep h.res hb⟩
theorem Pb.grown {w wr w' : World} {pe ph : Array Value} {g : Nat} (h : Pb w wr pe ph) (hg : wr.grownBy w' (some g)) (hl : w.heap.size + 3 ≤ g) : Pb w w' pe ph :=
  ⟨h.bel.grown hg h.bel.size (fun q e => by cases e; omega), Nat.le_trans h.lt hg.size, (hg.block _ (Array.getElem?_eq_some_iff.1 h.be).1 (fun e => by simp at e; omega)).trans h.be, (hg.block _ (Array.getElem?_eq_some_iff.1 h.bh).1 (fun e => by simp at e; omega)).trans h.bh, (hg.block _ (Array.getElem?_eq_some_iff.1 h.res).1 (fun e => by simp at e; omega)).trans h.res⟩
theorem own_form {w : World} {B n m : Nat} {t : TypeId} {v : Value} {cs : List Value} (h : w.ownsRow B t m v n cs) (hn : 0 < n) : ∃ g cap, v = .slice (some ⟨g, 0, none⟩) n cap := by
  obtain ⟨_, ⟨e, e2⟩ | ⟨g, cap, cur, e, _⟩⟩ := h
  · omega
  · exact ⟨g, cap, e⟩
theorem Pb.new (w : World) (pe ph : Array Value) : Pb w (((w.alloc (.cells pe 26)).alloc (.cells ph 26)).alloc (.cells #[.int .i64 0, .int .i64 0, .string ⟨#[]⟩, .slice none 0 0] 26)) pe ph := by
  have h1 : (w.alloc (.cells pe 26)).heap.size = w.heap.size + 1 := by simp
  have h2 : ((w.alloc (.cells pe 26)).alloc (.cells ph 26)).heap.size = w.heap.size + 2 := by simp
  have t := two_resG w (.cells pe 26) (.cells ph 26)
  have b := below_new ((w.alloc (.cells pe 26)).alloc (.cells ph 26)) (.cells #[.int .i64 0, .int .i64 0, .string ⟨#[]⟩, .slice none 0 0] 26)
  refine ⟨t.1.trans (b.mono t.1.size), by simp, row_keep t.2.1 b, row_keep t.2.2 b, ?_⟩
  rw [← h2]
  exact Array.getElem?_push_size
theorem Pb.end {w wr : World} {pe ph : Array Value} {x : Ex} {c : Option Addr} {cp : Nat} (h : Pb w wr pe ph) (hn : NewX wr (w.heap.size + 3) x c) (row : Array Value) : XoR x w (.returned (.agg #[.int .i64 x.k, .int .i64 x.n, .string x.s, .slice c x.l.length cp])) (wr.setRow (w.heap.size + 2) row) :=
  ⟨c, cp, rfl, (hn.row _ (by omega)).lower (by omega), h.bel.grown (grownBy_row _) h.bel.size (fun k e => by cases e; omega)⟩
set_option maxHeartbeats 4000000 in
theorem putI_c1 (here : Ex) (L : List ByteArray) (vals : List Ex) (e : Ex) (b hb : Option Addr) (cap hcp : Nat) (an : Option Addr) (cn gv off cv : Nat) (w : World) (hr : RdX w 0 e b) (hh : RdX w 0 here hb) (rn : RdU w an L) (rv : RdX w 0 ⟨0, 0, E0, vals⟩ (some ⟨gv, off, none⟩)) (hze : e.sz ≤ 1048576) (hzh : here.sz ≤ 1048576) (hL : L.length ≤ 1048576) (hV : vals.length ≤ 1048576) (hzv : ∀ i, i < vals.length → (xAt vals i).sz ≤ 1048576) (ht : TabK w) (hne : L.length ≠ vals.length) : Calls Tryd.prog 22 #[.agg (e.cs b cap), .agg (here.cs hb hcp), .slice an L.length cn, .slice (some ⟨gv, off, none⟩) vals.length cv] w (XoR zX w) := by
  have P0 := hide (Pb.new w #[.int .i64 e.k, .int .i64 e.n, .string e.s, .slice b e.l.length cap] #[.int .i64 here.k, .int .i64 here.n, .string here.s, .slice hb here.l.length hcp])
  generalize hX : XoR zX w = X
  have HX := hide hX
  have hne2 : ((L.length : Int) == (vals.length : Int)) = false := beq_eq_false_iff_ne.2 (by omega)
  unfold Ex.cs
  clear hX hr hh rn rv ht hzv
  go_enter Tryd.func22, Tryd.ntmps22
  go_wp2_with (refine wpList_store_row rfl 26 _ _ rfl (w.heap.size + 2) #[.int .i64 0, .int .i64 0, .string ⟨#[]⟩, .slice none 0 0] rfl rfl 26 _ ((unhide P0).res) szE rfl (ex_one _ _ _ _ _ _) ?_)
  refine bodyPost_ret (results_cell_row (P := Tryd.prog) rfl _ _ (w.heap.size + 2) 26 #[.int .i64 0, .int .i64 0, .string ⟨#[]⟩, .slice none 0 0] (0, 0) _ rfl (setRow_heap _ _ _ _ _ _ ((unhide P0).res)) Tryd.underlying26 rfl szE) rfl ?_
  rw [← unhide HX]
  exact (unhide P0).end (x := zX) (NewX.nil _ _ _ _ _ _) _
set_option maxHeartbeats 8000000 in
theorem putI_c2 (here : Ex) (L : List ByteArray) (vals : List Ex) (e : Ex) (b hb : Option Addr) (cap hcp : Nat) (an : Option Addr) (cn gv off cv : Nat) (w : World) (hr : RdX w 0 e b) (hh : RdX w 0 here hb) (rn : RdU w an L) (rv : RdX w 0 ⟨0, 0, E0, vals⟩ (some ⟨gv, off, none⟩)) (hze : e.sz ≤ 1048576) (hzh : here.sz ≤ 1048576) (hL : L.length ≤ 1048576) (hV : vals.length ≤ 1048576) (hzv : ∀ i, i < vals.length → (xAt vals i).sz ≤ 1048576) (ht : TabK w) (heq : L.length = vals.length) (hno : okL (e :: here :: vals) = false) : Calls Tryd.prog 22 #[.agg (e.cs b cap), .agg (here.cs hb hcp), .slice an L.length cn, .slice (some ⟨gv, off, none⟩) vals.length cv] w (XoR zX w) := by
  have P0 := hide (Pb.new w #[.int .i64 e.k, .int .i64 e.n, .string e.s, .slice b e.l.length cap] #[.int .i64 here.k, .int .i64 here.n, .string here.s, .slice hb here.l.length hcp])
  obtain ⟨i0, hi, hz0, hz1, hz2⟩ := info_parts infoX
  obtain ⟨ts, hts0, hcs, hrs⟩ := rdx_cells rv
  have hts : ts.map Tc.x = vals := hts0
  have hlen : ts.length = vals.length := by rw [← hts]; simp
  have LL := hide (show ([(⟨e, b, cap⟩ : Tc), ⟨here, hb, hcp⟩] ++ ts).map Tc.x = e :: here :: vals by simp [hts])
  have RR := hide (fun wr (h : Below w.heap.size w wr) => (show ∀ t ∈ [(⟨e, b, cap⟩ : Tc), ⟨here, hb, hcp⟩] ++ ts, RdX wr 0 t.x t.a from fun t ht => by
    rcases List.mem_append.1 ht with ht | ht
    · simp only [List.mem_cons, List.not_mem_nil, or_false] at ht
      rcases ht with rfl | rfl
      · exact hr.later h
      · exact hh.later h
    · exact (hrs t ht).later h))
  have CC := hide (fun wr (h : Below w.heap.size w wr) => (show ∀ j u, (cellsX ts)[j]? = some u → wr.cell? ((⟨gv, off, none⟩ : Addr).add j) = some u from fun j u hu => by
    have q := hcs j u hu
    have q2 := (h.cell (p := ⟨gv, off + j, none⟩) (World.block_lt_of_cell? w _ q)).trans q
    unfold Addr.add
    by_cases h0 : j = 0
    · subst h0; simpa using q2
    · simpa [h0] using q2))
  have TS := hide (fun (a : Option Addr) (n c : Nat) wr (h : Below w.heap.size w wr) (hn : vals.length + 2 = n) (hrd : RdX wr 0 ⟨0, 0, E0, e :: here :: vals⟩ a) => termsI_any (e :: here :: vals) a n c wr (by simp; omega) (by omega) (fun i hi => by
    match i with
    | 0 => exact hze
    | 1 => exact hzh
    | (i + 2) => exact hzv i (by omega)) hrd (ht.next h))
  unfold TsR at TS
  have RN := hide (fun wr (h : Below w.heap.size w wr) => rn.later h)
  have TB := hide (fun wr (h : Below w.heap.size w wr) => ht.next h)
  have OWN := hide (fun (wr : World) (g n cp : Nat) (h : wr.ownsRow (w.heap.size + 3) 26 4 (.slice (some ⟨g, 0, none⟩) n cp) n (cellsX ([(⟨e, b, cap⟩ : Tc), ⟨here, hb, hcp⟩] ++ ts))) (hn : vals.length + 2 = n) (hbel : Below w.heap.size w wr) => (by
    have q := own_rdx h (by simp [hlen]; omega) (unhide RR wr hbel)
    rw [unhide LL] at q
    exact q : RdX wr 0 ⟨0, 0, E0, e :: here :: vals⟩ (some ⟨g, 0, none⟩)))
  have CL := hide (show (cellsX ts).length = vals.length * 4 by rw [cellsX_len, hlen])
  have CO := hide (cellsX_one ts)
  have XX := hide (show cellsX ([(⟨e, b, cap⟩ : Tc), ⟨here, hb, hcp⟩] ++ ts) = [.int .i64 e.k, .int .i64 e.n, .string e.s, .slice b e.l.length cap, .int .i64 here.k, .int .i64 here.n, .string here.s, .slice hb here.l.length hcp] ++ cellsX ts by rw [cellsX_app]; rfl)
  rw [unhide XX] at OWN
  generalize cellsX ts = news at *
  have heq2 : ((L.length : Int) == (vals.length : Int)) = true := beq_iff_eq.2 (by omega)
  unfold Ex.cs
  clear hr hh rn rv ht hzv hcs hrs hts hts0 hlen LL RR XX ts
  generalize hX : XoR zX w = X
  have HX := hide hX
  clear hX
  rw [hno] at TS
  go_enter Tryd.func22, Tryd.ntmps22
  have hb4 := below_new (((w.alloc (.cells #[.int .i64 e.k, .int .i64 e.n, .string e.s, .slice b e.l.length cap] 26)).alloc (.cells #[.int .i64 here.k, .int .i64 here.n, .string here.s, .slice hb here.l.length hcp] 26)).alloc (.cells #[.int .i64 0, .int .i64 0, .string ⟨#[]⟩, .slice none 0 0] 26)) (.cells #[.int .i64 e.k, .int .i64 e.n, .string e.s, .slice b e.l.length cap, .int .i64 here.k, .int .i64 here.n, .string here.s, .slice hb here.l.length hcp] 26)
  have P4 := hide ((unhide P0).later hb4)
  have O4 := hide (own_eight (t := 26) (unhide P0).lt (show (#[.int .i64 e.k, .int .i64 e.n, .string e.s, .slice b e.l.length cap, .int .i64 here.k, .int .i64 here.n, .string here.s, .slice hb here.l.length hcp] : Array Value).size = 8 from rfl))
  rw [show (((w.alloc (.cells #[.int .i64 e.k, .int .i64 e.n, .string e.s, .slice b e.l.length cap] 26)).alloc (.cells #[.int .i64 here.k, .int .i64 here.n, .string here.s, .slice hb here.l.length hcp] 26)).alloc (.cells #[.int .i64 0, .int .i64 0, .string ⟨#[]⟩, .slice none 0 0] 26)).heap.size = w.heap.size + 1 + 1 + 1 by simp] at O4
  clear hb4
  go_wp2_with (first | (refine wpList_load_row rfl 26 _ rfl w.heap.size rfl 26 #[.int .i64 e.k, .int .i64 e.n, .string e.s, .slice b e.l.length cap] (0, 0) _ ((unhide P0).be) Tryd.underlying26 rfl (by kernel_rfl) ?_) | (refine wpList_load_row rfl 26 _ rfl (w.heap.size + 1) rfl 26 #[.int .i64 here.k, .int .i64 here.n, .string here.s, .slice hb here.l.length hcp] (0, 0) _ ((unhide P0).bh) Tryd.underlying26 rfl (by kernel_rfl) ?_) | (at_builtin; go_must (refine wpList_append_own _ rfl (.tmp 21) (.tmp 22) 24 rfl (w.heap.size + 3) 26 i0 (.agg #[.int .i64 0, .int .i64 0, .string ⟨#[]⟩, .slice none 0 0]) 4 56 Tryd.underlying24 hi hz0 hz1 hz2 rfl (by decide) (.slice (some ⟨w.heap.size + 1 + 1 + 1, 0, none⟩) 2 2) 2 [.int .i64 e.k, .int .i64 e.n, .string e.s, .slice b e.l.length cap, .int .i64 here.k, .int .i64 here.n, .string here.s, .slice hb here.l.length hcp] rfl (unhide O4) ⟨gv, off, none⟩ vals.length cv news rfl (unhide CL) (unhide CC _ (unhide P4).bel) (unhide CO) (by unfold maxLen; omega) (by omega) (unhide P4).lt ?_; intro v5 w5 hown5 hgrow5 _; obtain ⟨g5, cp5, rfl⟩ := own_form hown5 (by omega); have P5 := hide ((unhide P4).grown hgrow5 (show w.heap.size + 3 ≤ w.heap.size + 1 + 1 + 1 by omega)); have R5 := hide (unhide OWN w5 g5 (2 + vals.length) cp5 hown5 (by omega) (unhide P5).bel); have T5 := hide (unhide TS (some ⟨g5, 0, none⟩) (2 + vals.length) cp5 w5 (unhide P5).bel (by omega) (unhide R5)); clear hown5 hgrow5 P4 O4 R5)))
  refine (unhide T5).mono ?_
  rintro r w6 ⟨v6, rfl, hv6, hb6⟩
  have P6 := hide ((unhide P5).later hb6)
  clear hv6 hb6 T5 P5 TS OWN CC CL CO RN TB
  go_wp2_with (refine wpList_store_row rfl 26 _ _ rfl (w.heap.size + 2) #[.int .i64 0, .int .i64 0, .string ⟨#[]⟩, .slice none 0 0] rfl rfl 26 _ ((unhide P6).res) szE rfl (ex_one _ _ _ _ _ _) ?_)
  refine bodyPost_ret (results_cell_row (P := Tryd.prog) rfl _ _ (w.heap.size + 2) 26 #[.int .i64 0, .int .i64 0, .string ⟨#[]⟩, .slice none 0 0] (0, 0) _ rfl (setRow_heap _ _ _ _ _ _ ((unhide P6).res)) Tryd.underlying26 rfl szE) rfl ?_
  rw [← unhide HX]
  exact (unhide P6).end (x := zX) (NewX.nil _ _ _ _ _ _) _
end Go.Proofs.YtkolflcjkofleaaDoor

namespace Go.Proofs.YtkolflcjkofleaaDoor
open Go.ChangeShapes Go.WideShapes Go.ChangeAt Go.RowKit
set_option linter.unusedVariables false
set_option maxRecDepth 8000

def MarkP (e : Ex) : Prop := ∀ (a : Option Addr) (cap k : Nat) (F : List Nat) (B : Nat) (w : World), OwX w e a F → F.Nodup → (∀ b ∈ F, B ≤ b) → B ≤ w.heap.size → 0 < k → k + 3 * e.ct ≤ 8000000 → Calls Tryd.prog 38 #[.slice a e.l.length cap, .int .i64 k] w fun r w' => ∃ e' : Ex, r = .returned (.int .i64 ((k + 3 * e.ct : Nat) : Int)) ∧ MkX e k e' ∧ OwX w' e' a F ∧ Below B w w' ∧ ∀ g, g < w.heap.size → g ∉ F → w'.heap[g]? = w.heap[g]?
/-- So many parts are marked. -/
structure Mkg (w wr : World) (l : List Ex) (K b : Nat) (Fs : List (List Nat)) (B i : Nat) (ys : List Ex) (cs : Array Value) (t : TypeId) : Prop where
  hyl : ys.length = l.length
  row : wr.heap[b]? = some (.cells cs t (0, 0))
  hz : l.length * 4 ≤ cs.size
  one : ∀ j, j < l.length → OwOne wr cs j (xAt ys j) (Fs.getD j [])
  done : ∀ j, j < i → MkOne l K j (xAt ys j)
  rest : ∀ j, i ≤ j → xAt ys j = xAt l j
  bel : Below B w wr
  fr : ∀ g, g < w.heap.size → g ∉ b :: Fs.flatten → wr.heap[g]? = w.heap[g]?
theorem OwX.of {w : World} {x z : Ex} {c : Option Addr} {F : List Nat} (h : OwX w x c F) (hl : z.l = x.l) : OwX w z c F := by
  rw [OwX_eq] at h ⊢
  rw [hl]
  exact h
theorem Mkg.step {w wr w3 w5 : World} {l ys : List Ex} {K b : Nat} {Fs : List (List Nat)} {B i : Nat} {cs : Array Value} {t : TypeId} {c : Option Addr} {cp : Nat} {x' : Ex}
    (h : Mkg w wr l K b Fs B i ys cs t) (hi : i < l.length) (hF : Fs.length = l.length) (hn : (b :: Fs.flatten).Nodup) (hB : ∀ g ∈ b :: Fs.flatten, B ≤ g)
    (q3 : cs[i * 4 + 3]? = some (.slice c (xAt l i).l.length cp))
    (hb3 : Below ((wr.setCell ⟨b, i * 4, none⟩ (.int .i64 ((posX l K i : Nat) : Int))).setCell ⟨b, i * 4 + 1, none⟩ (.int .i64 ((posX l K i + 1 : Nat) : Int))).heap.size ((wr.setCell ⟨b, i * 4, none⟩ (.int .i64 ((posX l K i : Nat) : Int))).setCell ⟨b, i * 4 + 1, none⟩ (.int .i64 ((posX l K i + 1 : Nat) : Int))) w3)
    (hmk : MkX (xAt l i) (posX l K i + 3) x') (hox : OwX w5 x' c (Fs.getD i []))
    (hb5 : Below B (w3.setCell ⟨b, i * 4 + 2, none⟩ (.string (mkTx (posX l K i + 2)))) w5)
    (hf5 : ∀ g, g < (w3.setCell ⟨b, i * 4 + 2, none⟩ (.string (mkTx (posX l K i + 2)))).heap.size → g ∉ Fs.getD i [] → w5.heap[g]? = (w3.setCell ⟨b, i * 4 + 2, none⟩ (.string (mkTx (posX l K i + 2)))).heap[g]?) :
    ∃ ys' cs', Mkg w w5 l K b Fs B (i + 1) ys' cs' t := by
  have hn' := List.nodup_cons.1 hn
  have hbl : b < wr.heap.size := (Array.getElem?_eq_some_iff.1 h.row).1
  have r1 := heap_setCell_same wr b (i * 4) cs t (.int .i64 ((posX l K i : Nat) : Int)) h.row
  have r2 := heap_setCell_same _ b (i * 4 + 1) _ t (.int .i64 ((posX l K i + 1 : Nat) : Int)) r1
  have hsz2 : ((wr.setCell ⟨b, i * 4, none⟩ (.int .i64 ((posX l K i : Nat) : Int))).setCell ⟨b, i * 4 + 1, none⟩ (.int .i64 ((posX l K i + 1 : Nat) : Int))).heap.size = wr.heap.size := by simp
  have hoth2 : ∀ g, g ≠ b → ((wr.setCell ⟨b, i * 4, none⟩ (.int .i64 ((posX l K i : Nat) : Int))).setCell ⟨b, i * 4 + 1, none⟩ (.int .i64 ((posX l K i + 1 : Nat) : Int))).heap[g]? = wr.heap[g]? := fun g hg => by
    rw [heap_setCell_other _ _ _ _ hg, heap_setCell_other _ _ _ _ hg]
  have hbel2 : Below B wr ((wr.setCell ⟨b, i * 4, none⟩ (.int .i64 ((posX l K i : Nat) : Int))).setCell ⟨b, i * 4 + 1, none⟩ (.int .i64 ((posX l K i + 1 : Nat) : Int))) := ((Below.refl B wr).setCell (p := ⟨b, _, none⟩) (hB b List.mem_cons_self) _).setCell (p := ⟨b, _, none⟩) (hB b List.mem_cons_self) _
  generalize (wr.setCell ⟨b, i * 4, none⟩ (.int .i64 ((posX l K i : Nat) : Int))).setCell ⟨b, i * 4 + 1, none⟩ (.int .i64 ((posX l K i + 1 : Nat) : Int)) = W2 at *
  rw [hsz2] at hb3
  have r3 := (hb3.block b hbl).trans r2
  have r4 := heap_setCell_same w3 b (i * 4 + 2) _ t (.string (mkTx (posX l K i + 2))) r3
  have hsz3 : wr.heap.size ≤ w3.heap.size := hsz2 ▸ hb3.size
  have hsz4 : (w3.setCell ⟨b, i * 4 + 2, none⟩ (.string (mkTx (posX l K i + 2)))).heap.size = w3.heap.size := by simp
  have hoth4 : ∀ g, g < wr.heap.size → g ≠ b → (w3.setCell ⟨b, i * 4 + 2, none⟩ (.string (mkTx (posX l K i + 2)))).heap[g]? = wr.heap[g]? := fun g hgl hg => by
    rw [heap_setCell_other _ _ _ _ hg, hb3.block g hgl, hoth2 g hg]
  have hbB : B ≤ b := hB b List.mem_cons_self
  have hbel4 : Below B wr (w3.setCell ⟨b, i * 4 + 2, none⟩ (.string (mkTx (posX l K i + 2)))) := (hbel2.trans (hb3.mono (by omega))).setCell (p := ⟨b, _, none⟩) hbB _
  rw [hsz4] at hf5
  have hbi : b ∉ Fs.getD i [] := fun hb => hn'.1 (getD_flat hb)
  have r5 := (hf5 b (by omega) hbi).trans r4
  have hlt : ∀ g ∈ Fs.flatten, g < wr.heap.size := fun g hg => by
    obtain ⟨G, hG, hx⟩ := List.mem_flatten.1 hg
    obtain ⟨j, hj, rfl⟩ := List.getElem_of_mem hG
    obtain ⟨_, _, _, c', cp', _, ho⟩ := h.one j (hF ▸ hj)
    rw [List.getD_eq_getElem?_getD, List.getElem?_eq_getElem hj] at ho
    exact OwX.lt _ _ _ ho _ hx
  have hk5 : ∀ g, g < wr.heap.size → g ≠ b → g ∉ Fs.getD i [] → w5.heap[g]? = wr.heap[g]? := fun g hgl hg hgi => (hf5 g (by omega) hgi).trans (hoth4 g hgl hg)
  have hz := h.hz
  have T := OwOne.turn (wr := wr) (w5 := w5) (ys := ys) (b := b) (cs := cs) (cs5 := ((cs.setIfInBounds (i * 4) (.int .i64 ((posX l K i : Nat) : Int))).setIfInBounds (i * 4 + 1) (.int .i64 ((posX l K i + 1 : Nat) : Int))).setIfInBounds (i * 4 + 2) (.string (mkTx (posX l K i + 2)))) (Fs := Fs) (i := i) (y := ⟨((posX l K i : Nat) : Int), ((posX l K i + 1 : Nat) : Int), mkTx (posX l K i + 2), x'.l⟩) (c := c) (cp := cp)
    (fun j hj => h.one j (h.hyl ▸ hj)) hn (by rw [h.hyl]; exact hi)
    (fun j h0 h1 h2 => by rw [Array.getElem?_setIfInBounds_ne (by omega), Array.getElem?_setIfInBounds_ne (by omega), Array.getElem?_setIfInBounds_ne (by omega)])
    (by rw [Array.getElem?_setIfInBounds_ne (by omega), Array.getElem?_setIfInBounds_ne (by omega), Array.getElem?_setIfInBounds_self_of_lt (by omega)])
    (by rw [Array.getElem?_setIfInBounds_ne (by omega), Array.getElem?_setIfInBounds_self_of_lt (by simp; omega)])
    (by rw [Array.getElem?_setIfInBounds_self_of_lt (by simp; omega)])
    (by rw [Array.getElem?_setIfInBounds_ne (by omega), Array.getElem?_setIfInBounds_ne (by omega), Array.getElem?_setIfInBounds_ne (by omega), show (Ex.mk ((posX l K i : Nat) : Int) ((posX l K i + 1 : Nat) : Int) (mkTx (posX l K i + 2)) x'.l).l.length = x'.l.length from rfl, hmk.len]; exact q3)
    (hox.of rfl) (fun g hg hgi => hk5 g (hlt g hg) (fun e => hn'.1 (e ▸ hg)) hgi)
  rw [h.hyl] at T
  refine ⟨ys.set i ⟨((posX l K i : Nat) : Int), ((posX l K i + 1 : Nat) : Int), mkTx (posX l K i + 2), x'.l⟩, _, ?_, r5, ?_, T, fun j hj => ?_, fun j hj => ?_, h.bel.trans (hbel4.trans hb5), fun g hgl hg => ?_⟩
  · rw [List.length_set]; exact h.hyl
  · simpa using hz
  · by_cases hij : i = j
    · subst hij
      rw [xAt_set_eq (by rw [h.hyl]; exact hi)]
      exact ⟨rfl, rfl, rfl, hmk.of rfl⟩
    · rw [xAt_set_ne hij]
      exact h.done j (by omega)
  · rw [xAt_set_ne (by omega)]
    exact h.rest j (by omega)
  · have h1 : g ≠ b := fun e => hg (e ▸ List.mem_cons_self)
    have h2 : g ∉ Fs.getD i [] := fun e => hg (List.mem_cons_of_mem _ (getD_flat e))
    exact (hk5 g (Nat.lt_of_lt_of_le hgl h.bel.size) h1 h2).trans (h.fr g hgl hg)
set_option maxHeartbeats 2000000 in
theorem markXS_of (e : Ex) (ih : ∀ i, i < e.l.length → MarkP (xAt e.l i)) : MarkP e := by
  intro a cap K F B w ho hnd hF hBw hK hbd
  have hct := ct_is e
  rw [OwX_eq] at ho
  generalize hl : e.l = l at *
  rw [hct] at hbd ⊢
  have FIN := hide (fun (y : Ex) => MkX_eq e K y)
  rw [hl] at FIN
  rcases ho with ⟨rfl, rfl⟩ | ⟨b, cs, t, Fs, rfl, hh, hz, hFl, rfl, hone⟩
  · have HE := hide (show MkX e K e from (unhide FIN e).2 ⟨by rw [hl], fun i hi => by cases hi⟩)
    have HO := hide (show OwX w e a [] from (OwX_eq _ _ _ _).2 (.inl ⟨hl, rfl⟩))
    clear ih hct hl FIN
    go_enter Tryd.func38, Tryd.ntmps38
    go_wp2
    go_loopw [1, 5] (fun kv i wr => i = .int .i64 0 ∧ kv = .int .i64 K ∧ wr = w) (fun _ i _ => 0)
    case atStart => exact ⟨rfl, rfl, rfl⟩
    case round =>
      obtain ⟨rfl, rfl, rfl⟩ := hrel
      go_wp2
      go_ret
      exact ⟨e, by simp [ctX], unhide HE, unhide HO, Below.refl _ _, fun g _ _ => rfl⟩
  · have M0 := hide (show Mkg w w l K b Fs B 0 l cs t from ⟨rfl, hh, hz, hone, fun j hj => by omega, fun j _ => rfl, Below.refl _ _, fun g _ _ => rfl⟩)
    have FN := hide (fun (wr : World) (ys : List Ex) (cs' : Array Value) (t' : TypeId) (h : Mkg w wr l K b Fs B l.length ys cs' t') => (show MkX e K ⟨0, 0, ⟨#[]⟩, ys⟩ ∧ OwX wr ⟨0, 0, ⟨#[]⟩, ys⟩ (some ⟨b, 0, none⟩) (b :: Fs.flatten) from
      ⟨(unhide FIN _).2 ⟨h.hyl, fun i hi => h.done i hi⟩, (OwX_eq _ _ _ _).2 (.inr ⟨b, cs', t', Fs, rfl, h.row, by show ys.length * 4 ≤ _; rw [h.hyl]; exact h.hz, by show Fs.length = ys.length; rw [h.hyl]; exact hFl, rfl, fun i hi => h.one i (by have : i < ys.length := hi; rwa [h.hyl] at this)⟩)⟩))
    have hcl : l.length ≤ ctX l := by unfold ctX; omega
    obtain ⟨n, hn⟩ : ∃ n, l.length = n := ⟨_, rfl⟩
    have hnl : n ≤ 8000000 := by omega
    have PE := hide (posX_end l K)
    have P0 := hide (posX_0 l K)
    clear hone hh hz FIN hct hl hcl
    rw [hn] at ih PE FN ⊢
    rw [← unhide PE]
    go_enter Tryd.func38, Tryd.ntmps38
    go_wp2
    go_loopw [1, 5] (fun kv i wr => ∃ k : Nat, k ≤ n ∧ i = .int .i64 k ∧ kv = .int .i64 ((posX l K k : Nat) : Int) ∧ ∃ ys cs t, Mkg w wr l K b Fs B k ys cs t) (fun _ i _ => n - (intOf i).toNat)
    case atStart => exact ⟨0, Nat.zero_le _, rfl, by rw [unhide P0], _, _, _, unhide M0⟩
    case round =>
      clear M0
      obtain ⟨k, hk, rfl, rfl, ys, cs, t, hM⟩ := hrel
      by_cases hlt : k < n
      · obtain ⟨q0, q1, q2, c, cp, q3, q4⟩ := hM.one k (by omega)
        rw [hM.rest k (Nat.le_refl _)] at q0 q1 q2 q3 q4
        have hh := hM.row
        have hz := hM.hz
        have c0 := (Lib.cell_of_heap hh (k * 4)).trans q0
        have c1 := (Lib.cell_of_heap hh (k * 4 + 1)).trans q1
        have f0 := Lib.frozen_of_heap hh (k * 4)
        have f1 := Lib.frozen_of_heap hh (k * 4 + 1)
        have hbl : b < wr.heap.size := (Array.getElem?_eq_some_iff.1 hh).1
        have hPl := posX_le l K k (by omega)
        have hPs := posX_s l K k (by omega)
        have r1 := heap_setCell_same wr b (k * 4) cs t (.int .i64 ((posX l K k : Nat) : Int)) hh
        have r2 := heap_setCell_same _ b (k * 4 + 1) _ t (.int .i64 ((posX l K k + 1 : Nat) : Int)) r1
        have C2 := hide (show ((wr.setCell ⟨b, k * 4, none⟩ (.int .i64 ((posX l K k : Nat) : Int))).setCell ⟨b, k * 4 + 1, none⟩ (.int .i64 ((posX l K k + 1 : Nat) : Int))).cell? ⟨b, k * 4 + 2, none⟩ = some (.string (xAt l k).s) by
          rw [Lib.cell_of_heap r2, Array.getElem?_setIfInBounds_ne (by omega), Array.getElem?_setIfInBounds_ne (by omega)]; exact q2)
        have C3 := hide (show ((wr.setCell ⟨b, k * 4, none⟩ (.int .i64 ((posX l K k : Nat) : Int))).setCell ⟨b, k * 4 + 1, none⟩ (.int .i64 ((posX l K k + 1 : Nat) : Int))).cell? ⟨b, k * 4 + 3, none⟩ = some (.slice c (xAt l k).l.length cp) by
          rw [Lib.cell_of_heap r2, Array.getElem?_setIfInBounds_ne (by omega), Array.getElem?_setIfInBounds_ne (by omega)]; exact q3)
        have F2 := hide (Lib.frozen_of_heap r2 (k * 4 + 2))
        have GL := hide (show b < ((wr.setCell ⟨b, k * 4, none⟩ (.int .i64 ((posX l K k : Nat) : Int))).setCell ⟨b, k * 4 + 1, none⟩ (.int .i64 ((posX l K k + 1 : Nat) : Int))).heap.size by simpa using hbl)
        have ST := hide (fun w3 w5 x' hb3 hmk hox hb5 hf5 => Mkg.step (w3 := w3) (w5 := w5) (x' := x') hM (by omega) hFl hnd hF q3 hb3 hmk hox hb5 hf5)
        have MX := hide (fun W => markTx_any (posX l K k + 2) (by omega) (by omega) W)
        have hn' := List.nodup_cons.1 hnd
        have OC := hide (fun w3 (hb3 : Below ((wr.setCell ⟨b, k * 4, none⟩ (.int .i64 ((posX l K k : Nat) : Int))).setCell ⟨b, k * 4 + 1, none⟩ (.int .i64 ((posX l K k + 1 : Nat) : Int))).heap.size ((wr.setCell ⟨b, k * 4, none⟩ (.int .i64 ((posX l K k : Nat) : Int))).setCell ⟨b, k * 4 + 1, none⟩ (.int .i64 ((posX l K k + 1 : Nat) : Int))) w3) (v : Value) =>
          ih k hlt c cp (posX l K k + 3) (Fs.getD k []) B (w3.setCell ⟨b, k * 4 + 2, none⟩ v)
            (OwX.keep _ _ _ (fun g hg => by
              have hne : g ≠ b := fun e => hn'.1 (e ▸ getD_flat hg)
              have hgl := OwX.lt _ _ _ q4 g hg
              rw [heap_setCell_other _ _ _ _ hne, hb3.block g (by simpa using hgl), heap_setCell_other _ _ _ _ hne, heap_setCell_other _ _ _ _ hne]) q4)
            (flat_part _ _ hn'.2) (fun g hg => hF g (List.mem_cons_of_mem _ (getD_flat hg))) (by have h1 := hb3.size; have h2 := hM.bel.size; simp at h1 ⊢; omega) (by omega) (by omega))
        have EN : ((posX l K k : Nat) : Int) + 1 = ((posX l K k + 1 : Nat) : Int) := by omega
        have EM : ((posX l K k + 1 : Nat) : Int) + 1 = ((posX l K k + 2 : Nat) : Int) := by omega
        have EP : ((posX l K k + 2 : Nat) : Int) + 1 = ((posX l K k + 3 : Nat) : Int) := by omega
        have EQ := hide (show ((posX l K k + 3 + 3 * (xAt l k).ct : Nat) : Int) = ((posX l K (k + 1) : Nat) : Int) by rw [hPs])
        have bA : 0 ≤ ((posX l K k : Nat) : Int) ∧ ((posX l K k : Nat) : Int) ≤ 8000000 := by omega
        have bA2 : 0 ≤ ((posX l K k + 1 : Nat) : Int) ∧ ((posX l K k + 1 : Nat) : Int) ≤ 8000001 := by omega
        have bA3 : 0 ≤ ((posX l K k + 2 : Nat) : Int) ∧ ((posX l K k + 2 : Nat) : Int) ≤ 8000002 := by omega
        clear r1 r2 q0 q1 q2 q3 q4 hM hh hz hPl hPs hn' ih FN
        generalize (xAt l k).ct = ctk at *
        generalize hA : ((posX l K k : Nat) : Int) = A at *
        generalize hB2 : ((posX l K k + 1 : Nat) : Int) = A2 at *
        generalize hC : ((posX l K k + 2 : Nat) : Int) = A3 at *
        generalize hD : ((posX l K k + 3 : Nat) : Int) = A4 at *
        generalize mkTx (posX l K k + 2) = X at *
        generalize (xAt l k).s = xs at *
        go_wp2_with fail
        generalize (wr.setCell ⟨b, k * 4, none⟩ (.int .i64 A)).setCell ⟨b, k * 4 + 1, none⟩ (.int .i64 A2) = W2 at *
        refine (unhide MX _).mono ?_
        rintro e w3 ⟨rfl, hb3⟩
        have d2 := (hb3.cell (p := ⟨b, k * 4 + 2, none⟩) (unhide GL)).trans (unhide C2)
        have d3 := (hb3.cell (p := ⟨b, k * 4 + 3, none⟩) (unhide GL)).trans (unhide C3)
        have e2 := (hb3.frozen (p := ⟨b, k * 4 + 2, none⟩) (unhide GL)).trans (unhide F2)
        have OD := hide (unhide OC w3 hb3 (.string X))
        have HB3 := hide hb3
        clear OC C2 C3 F2 GL MX c0 c1 f0 f1 hb3
        go_wp2_with fail
        refine (unhide OD).mono ?_
        rintro e w5 ⟨x', rfl, hmk, hox, hb5, hf5⟩
        have SS := hide (unhide ST w3 w5 x' (unhide HB3) hmk hox hb5 hf5)
        clear hmk hox hb5 hf5 OD ST d2 d3 e2
        go_wp2
        go_roundw
        case rel =>
          obtain ⟨ys', cs', hM'⟩ := unhide SS
          exact ⟨k + 1, by omega, by go_num, by rw [← unhide EQ]; congr 1; omega, ys', cs', _, hM'⟩
        case measure => simp [intOf]; omega
      · obtain rfl : k = n := by omega
        have HM := hide hM
        have FF := hide (unhide FN _ _ _ _ hM)
        clear hM
        go_wp2
        go_ret
        exact ⟨_, rfl, (unhide FF).1, (unhide FF).2, (unhide HM).bel, (unhide HM).fr⟩
theorem markXS_any (e : Ex) : MarkP e := by
  induction e using Ex.ind with
  | h k n s l ih => exact markXS_of _ (fun i hi => ih _ (xAt_mem hi))
end Go.Proofs.YtkolflcjkofleaaDoor
