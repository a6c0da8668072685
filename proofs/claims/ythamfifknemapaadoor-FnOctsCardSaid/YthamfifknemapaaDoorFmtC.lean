/- Contracts of strconv.FormatInt at base 8 and of the program's Oct, over this seat's translation; conditions stand as hypotheses of each. -/
import Derived.Test.YthamfifknemapaaDoorOctC
namespace Go.Proofs.YthamfifknemapaaDoor
open Go.ChangeShapes Go.WideShapes Go.ChangeAt Go.RowKit
set_option linter.unusedVariables false

def bAt (xs : List UInt8) (i : Nat) : Int := ((xs.getD i 0).toNat : Int)
/-- The last bytes of the row: noughts, then t. -/
def tail65 (t : List UInt8) (p j : Nat) : Value := if j < p then .int .u8 0 else .int .u8 (bAt t (j - p))
theorem u64_and7 (m : Nat) (hm : m < 65536) : bits .and .u64 (m : Int) 7 = ((m % 8 : Nat) : Int) := by
  have := bits_mask .u64 63 (by decide) (fun n a b => by rw [IntKind.wrap_u64]; omega) 3 (by decide) (m : Int) (by omega) (by omega)
  have e : (2 : Int) ^ 3 - 1 = 7 := by decide
  rw [e] at this
  rw [this]
  omega

def z65 : Array Value := (List.replicate 65 (Value.int .u8 0)).toArray
theorem z65_size : z65.size = 65 := by unfold z65; rw [List.size_toArray, List.length_replicate]
theorem z65_get (i : Nat) (h : i < 65) : z65[i]? = some (Value.int .u8 0) := by unfold z65; rw [List.getElem?_toArray, List.getElem?_replicate, if_pos h]
theorem row65 (w : World) : (w.alloc (Obj.cells z65 65)).rowIs w.heap.size 65 65 (tail65 [] 65) := by
  have h := World.rowIs_alloc w z65 65 (fun _ => .int .u8 0) (fun i hi => z65_get i (by rw [z65_size] at hi; exact hi))
  rw [z65_size] at h
  exact h.congr (fun j hj => by simp [tail65, hj])
theorem zero65 (w : World) : (zeroValue 65).run Tryd.prog w = .ok (.agg z65) w := by kernel_rfl

theorem digit_at (d : Nat) (h8 : d < 8) : ∀ h, (({ data := #[48, 49, 50, 51, 52, 53, 54, 55, 56, 57, 97, 98, 99, 100, 101, 102, 103, 104, 105, 106, 107, 108, 109, 110, 111, 112, 113, 114, 115, 116, 117, 118, 119, 120, 121, 122] } : ByteArray)[d]'h).toNat = 48 + d := by
  match d, h8 with
  | 0, _ => intro h; rfl
  | 1, _ => intro h; rfl
  | 2, _ => intro h; rfl
  | 3, _ => intro h; rfl
  | 4, _ => intro h; rfl
  | 5, _ => intro h; rfl
  | 6, _ => intro h; rfl
  | 7, _ => intro h; rfl
theorem dg_val (d : Nat) (h : d < 8) : ((dg d).toNat : Int) = 48 + d := by unfold dg; simp; omega

theorem tail_step {W : World} {b p : Nat} {t : List UInt8} (h : W.rowIs b 65 65 (tail65 t p)) (hp1 : 1 ≤ p) (d : Nat) (hd : d < 8) (x : Int) (hx : x = 48 + (d : Int)) : (W.setCell ⟨b, p - 1, none⟩ (.int .u8 x)).rowIs b 65 65 (tail65 (dg d :: t) (p - 1)) := by
  refine (h.set (p - 1) (.int .u8 x)).congr (fun j hj => ?_)
  by_cases e : j = p - 1
  · subst e
    rw [if_pos rfl]
    unfold tail65
    rw [if_neg (by omega), Nat.sub_self]
    have : bAt (dg d :: t) 0 = x := by rw [hx, ← dg_val d hd]; rfl
    rw [this]
  · rw [if_neg e]
    unfold tail65
    by_cases e2 : j < p - 1
    · rw [if_pos (by omega), if_pos e2]
    · rw [if_neg (by omega), if_neg e2]
      have : j - (p - 1) = (j - p) + 1 := by omega
      rw [this]
      rfl

theorem tail_conv {W : World} {b p : Nat} {t : List UInt8} (h : W.rowIs b 65 65 (tail65 t p)) (hp : p + t.length = 65) (n c : Nat) (hn : n = t.length) : (convert 22 9 (.slice (some ⟨b, p, none⟩) n c)).run Tryd.prog W = .ok (.string (strOf t)) W := by
  subst hn
  exact run_convert_bytes_back (P := Tryd.prog) W 22 9 5 ⟨b, p, none⟩ c t Tryd.underlying22 Tryd.underlying5 Tryd.underlying9 (fun j hj => by
    have h2 := h.cell (i := p + j) (by omega)
    unfold tail65 at h2
    rw [if_neg (by omega), Nat.add_sub_cancel_left] at h2
    have e : bAt t j = (t[j].toNat : Int) := by unfold bAt; rw [List.getD_eq_getElem?_getD, List.getElem?_eq_getElem hj]; rfl
    rw [e] at h2
    unfold Addr.add
    by_cases h0 : j = 0
    · subst h0; simpa using h2
    · simpa [h0] using h2)

theorem slice65 (b p : Nat) (h1 : 1 ≤ p) (h2 : p ≤ 65) (W : World) : (Instr.sliceAt 65 (.pointer (some ⟨b, 0, none⟩)) (some (.int .i64 ((p : Int) - 1))) none none).run Tryd.prog W = .ok (.slice (some ⟨b, p - 1, none⟩) (65 - (p - 1)) (65 - (p - 1))) W := by
  have hal : Tryd.prog.arrayLen 65 = 65 := by simp [Program.arrayLen, Tryd.underlying65]
  rw [run_sliceAt_array_l W 65 ⟨b, 0, none⟩ (by simp [Program.arrayLen, Program.elem, Tryd.underlying65]) .i64 ((p : Int) - 1) (by omega) (by rw [hal]; omega)]
  have e : ((p : Int) - 1).toNat = p - 1 := by omega
  have hne : ¬ 65 = p - 1 := by omega
  rw [hal, e]
  go_simp

set_option maxHeartbeats 1000000 in
theorem fmtBits_any (N : Nat) (hN : N < 65536) (w : World) (hg : w.cell? ⟨4, 7, none⟩ = some (.int .u8 3)) :
    Calls Tryd.prog 31 #[.slice none 0 0, .int .u64 N, .int .i64 8, .bool false, .bool false] w fun e w' => e = .returned (.tuple #[.slice none 0 0, .string (strOf (octD N))]) ∧ Below w.heap.size w w' := by
  have hlt := World.block_lt_of_cell? w _ hg
  have hlt4 : 4 < w.heap.size := hlt
  have HG : ∀ o, (w.alloc o).cell? ⟨4, 7, none⟩ = some (.int .u8 3) := fun o => by rw [World.cell?_alloc_past _ _ _ hlt4]; exact hg
  have HG' := hide HG
  clear HG hg hlt
  have hz := zero65
  go_enter Tryd.func31, Tryd.ntmps31
  go_wp2_with (first | (go_at_call 41; refine (pow2_any _).mono ?_; rintro e w' ⟨rfl, hw'⟩; rw [hw']; clear hw' w') | (go_at_call 42; refine (tz_any _ (by exact unhide HG' _)).mono ?_; rintro e w' ⟨rfl, hw'⟩; rw [hw']; clear hw' w'))
  have R0' := hide (row65 w)
  clear hz
  go_loopw [1, 13] (fun u i wr => ∃ (m : Nat) (t : List UInt8) (p : Nat), m < 65536 ∧ p + t.length = 65 ∧ t.length ≤ 6 ∧ u = .int .u64 m ∧ i = .int .i64 p ∧ Hid (octD N = octD m ++ t) ∧ wr.rowIs w.heap.size 65 65 (tail65 t p) ∧ Below w.heap.size w wr) (fun u _ _ => (intOf u).toNat)
  case atStart => exact ⟨N, [], 65, hN, rfl, by simp, rfl, rfl, by show octD N = _; simp, unhide R0', (Below.refl _ _).alloc (Nat.le_refl _) _⟩
  case round =>
    obtain ⟨m, t, p, hm, hp, ht, rfl, rfl, hsp, hrow, hbel⟩ := hrel
    clear R0'
    have hp1 : 59 ≤ p := by omega
    by_cases h8 : m < 8
    · have hdig := digit_at m h8
      have hfz := hrow.frozen (p - 1)
      have hco := hrow.cell (i := p - 1) (by omega)
      have R1 := tail_step hrow (by omega) m h8 (48 + (m : Int)) rfl
      have hcv := tail_conv R1 (by rw [List.length_cons]; omega) (65 - (p - 1)) (65 - (p - 1)) (by rw [List.length_cons]; omega)
      have hsl := slice65 w.heap.size p (by omega) (by omega)
      have R1' := hide R1
      clear R1 hrow
      go_wp2
      go_ret2
      refine ⟨?_, hbel.setCell (p := ⟨w.heap.size, p - 1, none⟩) (Nat.le_refl _) _⟩
      rw [hsp.out, octD_small m h8]
      rfl
    · have h7 := u64_and7 m hm
      have hdig := digit_at (m % 8) (by omega)
      have hfz := hrow.frozen (p - 1)
      have hco := hrow.cell (i := p - 1) (by omega)
      have R1 := hide (tail_step hrow (by omega) (m % 8) (by omega) (48 + (m : Int) % 8) (by omega))
      have hsp' : octD N = octD (m / 8) ++ (dg (m % 8) :: t) := by
        have h1 := hsp.out
        rw [octD_big m h8] at h1
        rw [h1]; simp
      have hlen : (dg (m % 8) :: t).length ≤ 6 := by
        have h2 := octD_len N 5 (by omega)
        rw [hsp', List.length_append] at h2
        omega
      have HS := hide hsp'
      have HL := hide hlen
      clear hrow hsp' hlen
      go_wp2
      go_roundw
      case rel => exact ⟨m / 8, dg (m % 8) :: t, p - 1, by omega, by rw [List.length_cons]; omega, unhide HL, by go_num, by go_num, unhide HS, unhide R1, hbel.setCell (p := ⟨w.heap.size, p - 1, none⟩) (Nat.le_refl _) _⟩
      case measure => simp [intOf]; omega
end Go.Proofs.YthamfifknemapaaDoor
