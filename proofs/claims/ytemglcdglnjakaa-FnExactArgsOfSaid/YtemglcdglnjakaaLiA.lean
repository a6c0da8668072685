/- Lists of tokens that are read or owned; the laws' helpers over them; over this seat's translation; conditions stand as hypotheses of each. -/
import Derived.Test.YtemglcdglnjakaaTkG
import Derived.Test.YtemglcdglnjakaaDrwT
import Derived.Test.YtemglcdglnjakaaSubT
import Derived.OwnWalk
import Derived.Laws.MakeOwn
import Derived.Deep.RegionWith
namespace Go.Proofs.Ytemglcdglnjakaa
open Go.ChangeShapes Go.WideShapes Go.ChangeAt Go.RowKit
set_option linter.unusedVariables false
set_option maxRecDepth 8000

def T0 : Tk := ⟨0, 0, E0⟩
def tAt (ts : List Tk) (i : Nat) : Tk := ts.getD i T0
/-- A slice of tokens with address a reads as ts. -/
def RdT (w : World) (a : Option Addr) (ts : List Tk) : Prop :=
  ts = [] ∨ ∃ b off, a = some ⟨b, off, none⟩ ∧ b < w.heap.size ∧ ∀ i, i < ts.length → w.cell? ⟨b, off + i * 3, none⟩ = some (.int .i64 (tAt ts i).k) ∧ w.cell? ⟨b, off + i * 3 + 1, none⟩ = some (.int .i64 (tAt ts i).n) ∧ w.cell? ⟨b, off + i * 3 + 2, none⟩ = some (.string (tAt ts i).s)
theorem RdT.later {w w' : World} {a : Option Addr} {ts : List Tk} (h : RdT w a ts) (hb : Below w.heap.size w w') : RdT w' a ts := by
  rcases h with h | ⟨b, off, ha, hlt, hc⟩
  · exact .inl h
  · exact .inr ⟨b, off, ha, Nat.lt_of_lt_of_le hlt hb.size, fun i hi => ⟨(hb.cell (p := ⟨b, _, none⟩) hlt).trans (hc i hi).1, (hb.cell (p := ⟨b, _, none⟩) hlt).trans (hc i hi).2.1, (hb.cell (p := ⟨b, _, none⟩) hlt).trans (hc i hi).2.2⟩⟩
/-- The bytes of all texts. -/
def szL : List Tk → Nat
  | [] => 0
  | t :: r => t.s.size + szL r
theorem szL_take (ts : List Tk) (k : Nat) (h : k < ts.length) : szL (ts.take (k + 1)) = szL (ts.take k) + (tAt ts k).s.size := by
  induction ts generalizing k with
  | nil => simp at h
  | cons t r ih =>
    cases k with
    | zero => simp [szL, tAt]
    | succ k =>
      have := ih k (by simpa using h)
      simp only [List.take_succ_cons, szL, this]
      show _ = t.s.size + _ + (tAt r k).s.size
      omega
/-- What the laws' count of a list leaves of so much. -/
def leftT (ts : List Tk) (k : Nat) (left : Int) : Int := left - ts.length - szL (ts.take k)
set_option maxHeartbeats 1000000 in
theorem szTokS_any (a : Option Addr) (len cap : Nat) (ts : List Tk) (w : World) (hl : ts.length = len) (hm : len ≤ 9223372036854775807) (hz : ∀ i, i < len → (tAt ts i).s.size ≤ 9223372036854775807) (hr : RdT w a ts) : Calls Try.prog 5 #[.slice a len cap, .int .i64 1048576] w fun e w' => ((e = .returned (.int .i64 (-1))) ∨ (len + szL ts ≤ 1048576 ∧ e = .returned (.int .i64 (1048576 - len - szL ts)))) ∧ Below w.heap.size w w' := by
  by_cases hbig : (1048576 : Int) - (len : Int) < 0
  · go_enter Try.func5, Try.ntmps5
    go_wp2
    go_ret
    exact ⟨.inl rfl, Below.refl _ _⟩
  · go_enter Try.func5, Try.ntmps5
    go_wp2
    go_loopw [1, 5] (fun lv i wr => ∃ k : Nat, k ≤ len ∧ i = .int .i64 k ∧ len + szL (ts.take k) ≤ 1048576 ∧ lv = .int .i64 (1048576 - len - szL (ts.take k)) ∧ Below w.heap.size w wr) (fun _ i _ => len - (intOf i).toNat)
    case atStart => exact ⟨0, Nat.zero_le _, rfl, by simp [szL]; omega, by simp [szL], Below.refl _ _⟩
    case round =>
      obtain ⟨k, hk, rfl, hs, rfl, hb⟩ := hrel
      by_cases hlt : k < len
      · rcases hr with h0 | ⟨b, off, rfl, hbl, hc⟩
        · rw [h0] at hl; simp at hl; omega
        obtain ⟨c0, c1, c2⟩ := hc k (by omega)
        have d0 : wr.cell? ⟨b, off + k * 3, none⟩ = _ := (hb.cell (p := ⟨b, _, none⟩) hbl).trans c0
        have d1 : wr.cell? ⟨b, off + k * 3 + 1, none⟩ = _ := (hb.cell (p := ⟨b, _, none⟩) hbl).trans c1
        have d2 : wr.cell? ⟨b, off + k * 3 + 2, none⟩ = _ := (hb.cell (p := ⟨b, _, none⟩) hbl).trans c2
        have HS := hide (szTok_any (tAt ts k) (1048576 - len - szL (ts.take k)) wr (hz k hlt) (by omega) (by omega))
        have ST := hide (szL_take ts k (by omega))
        clear c0 c1 c2 hc
        unfold Tk.v Tk.cs at HS
        generalize hzs : (tAt ts k).s.size = z at HS ST
        generalize (tAt ts k).s = ss at d2 HS
        generalize (tAt ts k).k = kk at d0 HS
        generalize (tAt ts k).n = nn at d1 HS
        by_cases hneg : 1048576 - (len : Int) - (szL (ts.take k) : Int) - (z : Int) < 0
        · rw [if_pos hneg] at HS
          go_wp2_with (go_at_call 23; refine (unhide HS).mono ?_; rintro e w1 ⟨rfl, hb1⟩)
          go_ret
          exact ⟨.inl rfl, hb.trans (hb1.mono hb.size)⟩
        · rw [if_neg hneg] at HS
          go_wp2_with (go_at_call 23; refine (unhide HS).mono ?_; rintro e w1 ⟨rfl, hb1⟩)
          go_roundw
          case rel =>
            refine ⟨k + 1, by omega, by go_num, ?_, ?_, hb.trans (hb1.mono hb.size)⟩
            · rw [unhide ST]; omega
            · rw [unhide ST]; congr 1; omega
          case measure => simp [intOf]; omega
      · obtain rfl : k = len := by omega
        have E := hide (show ts.take k = ts by rw [← hl, List.take_length])
        rw [unhide E] at hs
        have E2 := hide (show szL (ts.take k) = szL ts by rw [unhide E])
        go_wp2
        go_ret
        exact ⟨.inr ⟨hs, by rw [← unhide E2]; rfl⟩, hb⟩

def cellsT : List Tk → List Value
  | [] => []
  | t :: r => .int .i64 t.k :: .int .i64 t.n :: .string t.s :: cellsT r
theorem cellsT_len (ts : List Tk) : (cellsT ts).length = ts.length * 3 := by
  induction ts with
  | nil => rfl
  | cons t r ih => simp only [cellsT, List.length_cons, ih]; omega
theorem cellsT_app (a b : List Tk) : cellsT (a ++ b) = cellsT a ++ cellsT b := by
  induction a with
  | nil => rfl
  | cons t r ih => simp only [List.cons_append, cellsT, ih]
theorem cellsT_get (ts : List Tk) (i : Nat) (h : i < ts.length) : (cellsT ts)[i * 3]? = some (.int .i64 (tAt ts i).k) ∧ (cellsT ts)[i * 3 + 1]? = some (.int .i64 (tAt ts i).n) ∧ (cellsT ts)[i * 3 + 2]? = some (.string (tAt ts i).s) := by
  induction ts generalizing i with
  | nil => simp at h
  | cons t r ih =>
    cases i with
    | zero => exact ⟨rfl, rfl, rfl⟩
    | succ i =>
      have := ih i (by simpa using h)
      have e : (i + 1) * 3 = i * 3 + 3 := by omega
      rw [e]
      exact this
theorem cellsT_one (ts : List Tk) : ∀ u ∈ cellsT ts, u.oneCell' = true := by
  induction ts with
  | nil => intro u hu; cases hu
  | cons t r ih =>
    intro u hu
    simp only [cellsT, List.mem_cons] at hu
    rcases hu with rfl | rfl | rfl | hu
    · rfl
    · rfl
    · rfl
    · exact ih u hu
theorem cellsT_set (ts : List Tk) (i : Nat) (h : i < ts.length) (t : Tk) : (((cellsT ts).set (i * 3) (.int .i64 t.k)).set (i * 3 + 1) (.int .i64 t.n)).set (i * 3 + 2) (.string t.s) = cellsT (ts.set i t) := by
  induction ts generalizing i with
  | nil => simp at h
  | cons t' r ih =>
    cases i with
    | zero => rfl
    | succ i =>
      have := ih i (by simpa using h)
      have e : (i + 1) * 3 = i * 3 + 3 := by omega
      rw [e, List.set_cons_succ]
      show Value.int .i64 t'.k :: .int .i64 t'.n :: .string t'.s :: (((cellsT r).set (i * 3) (.int .i64 t.k)).set (i * 3 + 1) (.int .i64 t.n)).set (i * 3 + 2) (.string t.s) = _
      rw [this]
      rfl
/-- v is a slice of the call's own (blocks from B on) that holds the tokens ts. -/
def OwnT (w : World) (B : Nat) (v : Value) (ts : List Tk) : Prop := w.ownsRow B 45 3 v ts.length (cellsT ts)
section
variable {w w' : World} {B : Nat} {v : Value} {ts : List Tk}
theorem OwnT.keep (h : OwnT w B v ts) (hs : ∀ g, v.ownBlock = some g → g < w.heap.size → w'.heap[g]? = w.heap[g]?) : OwnT w' B v ts := by
  obtain ⟨h1, h2 | ⟨g, cap, cur, rfl, hg, hh, r⟩⟩ := h
  · exact ⟨h1, .inl h2⟩
  · exact ⟨h1, .inr ⟨g, cap, cur, rfl, hg, (hs g rfl (Array.getElem?_eq_some_iff.1 hh).1).trans hh, r⟩⟩
theorem OwnT.later (h : OwnT w B v ts) (hb : Below w.heap.size w w') : OwnT w' B v ts := h.keep fun g _ hg => hb.block g hg
theorem OwnT.lt (h : OwnT w B v ts) {g : Nat} (hg : v.ownBlock = some g) : B ≤ g ∧ g < w.heap.size := World.ownsRow.lt h g hg
theorem OwnT.base {B' : Nat} (h : OwnT w B v ts) (hB : B' ≤ B) : OwnT w B' v ts := by
  obtain ⟨h1, h2 | ⟨g, cap, cur, e, hg, r⟩⟩ := h
  · exact ⟨h1, .inl h2⟩
  · exact ⟨h1, .inr ⟨g, cap, cur, e, Nat.le_trans hB hg, r⟩⟩
theorem OwnT.form (h : OwnT w B v ts) : (v = .slice none 0 0 ∧ ts = []) ∨ ∃ g cap, v = .slice (some ⟨g, 0, none⟩) ts.length cap ∧ B ≤ g ∧ g < w.heap.size ∧ ts.length ≤ cap ∧ cap ≤ maxLen := by
  obtain ⟨_, ⟨h1, h2⟩ | ⟨g, cap, cur, rfl, hg, hh, hn, hm, r⟩⟩ := h
  · exact .inl ⟨h1, List.eq_nil_of_length_eq_zero h2⟩
  · exact .inr ⟨g, cap, rfl, hg, (Array.getElem?_eq_some_iff.1 hh).1, hn, hm⟩
theorem OwnT.rd (h : OwnT w B v ts) : ∃ a cap, v = .slice a ts.length cap ∧ RdT w a ts := by
  rcases h.form with ⟨rfl, rfl⟩ | ⟨g, cap, rfl, hg, hl, _, _⟩
  · exact ⟨none, 0, rfl, .inl rfl⟩
  · refine ⟨_, cap, rfl, .inr ⟨g, 0, rfl, hl, fun i hi => ?_⟩⟩
    obtain ⟨e0, e1, e2⟩ := cellsT_get ts i hi
    have c0 := World.ownsRow.cellAt h (i * 3) (by omega)
    have c1 := World.ownsRow.cellAt h (i * 3 + 1) (by omega)
    have c2 := World.ownsRow.cellAt h (i * 3 + 2) (by omega)
    simp only [Nat.zero_add]
    exact ⟨c0.trans e0, c1.trans e1, c2.trans e2⟩
theorem OwnT.put {g n cap : Nat} (h : OwnT w B (.slice (some ⟨g, 0, none⟩) n cap) ts) (i : Nat) (hi : i < ts.length) (t : Tk) :
    OwnT (((w.setCell ⟨g, i * 3, none⟩ (.int .i64 t.k)).setCell ⟨g, i * 3 + 1, none⟩ (.int .i64 t.n)).setCell ⟨g, i * 3 + 2, none⟩ (.string t.s)) B (.slice (some ⟨g, 0, none⟩) n cap) (ts.set i t) := by
  have hn : n = ts.length := by
    rcases h.form with ⟨e, _⟩ | ⟨g', cap', e, _⟩
    · cases e
    · cases e; rfl
  subst hn
  have h1 := (World.ownsRow.stored h (i * 3) (.int .i64 t.k)).1
  have h2 := (World.ownsRow.stored h1 (i * 3 + 1) (.int .i64 t.n)).1
  have h3 := (World.ownsRow.stored h2 (i * 3 + 2) (.string t.s)).1
  rw [cellsT_set ts i hi t] at h3
  unfold OwnT
  rw [List.length_set]
  exact h3
end
end Go.Proofs.Ytemglcdglnjakaa
