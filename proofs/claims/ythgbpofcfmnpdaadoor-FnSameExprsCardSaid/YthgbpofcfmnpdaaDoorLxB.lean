/- Runs, words and one token by the model; over this seat's translation; conditions stand as hypotheses of each. -/
import Derived.Test.YthgbpofcfmnpdaaDoorLxA
import Derived.Test.YthgbpofcfmnpdaaDoorTkF
import Derived.Laws.Tables
namespace Go.Proofs.YthgbpofcfmnpdaaDoor
open Go.ChangeShapes Go.WideShapes Go.ChangeAt Go.RowKit
set_option linter.unusedVariables false
set_option maxRecDepth 8000

theorem results_row2 {P : Program} {fn : Func} {p u : Tmp} {ty : TypeId} (h : fn.results = #[.cell p ty, .tmp u]) (tmps : Array Value) (w : World) (g : Nat) (t : TypeId) (cs : Array Value) (fr : Nat × Nat) (d : TypeDesc)
    (hp : tmps.getD p undef = .pointer (some ⟨g, 0, none⟩)) (hg : w.heap[g]? = some (.cells cs t fr))
    (hu : P.underlying ty = some d) (hd : (match d with | .struct _ | .array _ _ => true | _ => false) = true) (hi : (P.info? ty).map (·.size) = some cs.size) :
    (results fn tmps).run P w = .ok (.tuple #[.agg cs, tmps.getD u undef]) w := by
  have hp' : tmps[p]?.getD undef = .pointer (some ⟨g, 0, none⟩) := by simpa using hp
  simp [results, h, hp', asAddr, run_loadVar_row w g t ty cs fr d hg hu hd hi]
theorem szK : (Tryd.prog.info? 31).map (·.size) = some 3 := by kernel_rfl
theorem tk_one (k n : Int) (x : ByteArray) : (#[Value.int .i64 k, .int .i64 n, .string x] : Array Value).all (·.oneCell') = true := by simp [Value.oneCell']
def T0c : Array Value := #[.int .i64 0, .int .i64 0, .string ⟨#[]⟩]
set_option maxHeartbeats 1000000 in
theorem runS_any (letters : Bool) (s : ByteArray) (k : Nat) (w : World) (hz : s.size ≤ 1099511627776) (hk : k ≤ s.size) : Calls Tryd.prog 87 #[.string s, .int .i64 k, .bool letters] w fun e w' => e = .returned (.int .i64 (runN (if letters then ldB else dgB) s.data.toList k : Nat)) ∧ w' = w := by
  have hl := size_len s
  obtain ⟨p, hp⟩ : ∃ p : Int → Bool, (if letters then ldB else dgB) = p := ⟨_, rfl⟩
  have PP := hide (show ∀ c, p c = (dgB c || (letters && smB c)) from fun c => by
    rw [← hp]
    cases letters
    · simp
    · show ldB c = _
      unfold ldB
      rw [Bool.true_and, Bool.or_comm])
  rw [hp]
  clear hp
  obtain ⟨R, hR⟩ : ∃ R, runN p s.data.toList k = R := ⟨_, rfl⟩
  have HR := hide hR
  rw [hR]
  clear hR
  go_enter Tryd.func87, Tryd.ntmps87
  go_wp2
  go_loop [1] (fun i => ∃ j : Nat, i = .int .i64 j ∧ j ≤ s.size ∧ Hid (runN p s.data.toList j = R)) (fun i => s.size - (intOf i).toNat)
  case atStart => exact ⟨k, rfl, hk, unhide HR⟩
  case round =>
    clear HR
    obtain ⟨j, rfl, hj, hd⟩ := hrel
    by_cases hlt : j < s.size
    · have he := sAt s j hlt
      have hbd := bAt_bd s.data.toList j
      have Y := hide (fun h => (runN_yes (p := p) (l := s.data.toList) (k := j) (by omega) h).symm.trans hd.out)
      have N := hide (fun h => (runN_no (p := p) (l := s.data.toList) (k := j) (by omega) h).symm.trans hd.out)
      have S1 := hide (fun w => smS_any (bAt s.data.toList j) w hbd.1 hbd.2)
      have D1 := hide (fun w => dgS_any (bAt s.data.toList j) w hbd.1 hbd.2)
      rw [unhide PP] at Y N
      generalize smB (bAt s.data.toList j) = a at S1 Y N
      generalize dgB (bAt s.data.toList j) = b at D1 Y N
      generalize bAt s.data.toList j = c at he hbd S1 D1
      clear hd PP
      cases b
      · cases letters
        · have E := hide (unhide N rfl)
          clear Y N
          go_wp2_with (first | (go_at_call 86; refine (unhide S1 _).mono ?_; rintro e w' ⟨rfl, rfl⟩) | (go_at_call 89; refine (unhide D1 _).mono ?_; rintro e w' ⟨rfl, rfl⟩))
          go_ret
          exact ⟨by rw [← unhide E]; rfl, rfl⟩
        · cases a
          · have E := hide (unhide N rfl)
            clear Y N
            go_wp2_with (first | (go_at_call 86; refine (unhide S1 _).mono ?_; rintro e w' ⟨rfl, rfl⟩) | (go_at_call 89; refine (unhide D1 _).mono ?_; rintro e w' ⟨rfl, rfl⟩))
            go_ret
            exact ⟨by rw [← unhide E]; rfl, rfl⟩
          · have E := hide (unhide Y rfl)
            clear Y N
            go_wp2_with (first | (go_at_call 86; refine (unhide S1 _).mono ?_; rintro e w' ⟨rfl, rfl⟩) | (go_at_call 89; refine (unhide D1 _).mono ?_; rintro e w' ⟨rfl, rfl⟩))
            go_round
            case rel => exact ⟨j + 1, by go_num, by omega, unhide E⟩
            case measure => simp [intOf]; omega
      · have E := hide (unhide Y rfl)
        clear Y N
        go_wp2_with (first | (go_at_call 86; refine (unhide S1 _).mono ?_; rintro e w' ⟨rfl, rfl⟩) | (go_at_call 89; refine (unhide D1 _).mono ?_; rintro e w' ⟨rfl, rfl⟩))
        go_round
        case rel => exact ⟨j + 1, by go_num, by omega, unhide E⟩
        case measure => simp [intOf]; omega
    · have E := hide ((runN_end (p := p) (l := s.data.toList) (k := j) (by omega)).symm.trans hd.out)
      clear hd
      go_wp2
      go_ret
      exact ⟨by rw [← unhide E]; rfl, rfl⟩
theorem wordT_v (x : ByteArray) : (keptB x = true → wordT x = ⟨5, 0, x⟩) ∧ (keptB x = false → wordT x = ⟨1, 0, x⟩) := by
  unfold wordT
  constructor
  · intro h; rw [h]; rfl
  · intro h; rw [h]; rfl
set_option maxHeartbeats 1000000 in
theorem wordS_any (x : ByteArray) (w : World) : Calls Tryd.prog 88 #[.string x] w fun e w' => e = .returned (wordT x).v ∧ Below w.heap.size w w' := by
  have HY := hide (fun h => atV_yes (L := keptL) (s := x) h)
  have HN := hide (fun h => atV_no (L := keptL) (s := x) h)
  have HA := hide (fun g w1 (hr : RdS w1 g keptL) => at_any keptL x g 31 31 w1 rfl (by omega) hr)
  have WT := hide (wordT_v x)
  have HK := hide kept_any
  have B0 := hide (below_new w (.cells T0c 31))
  have R0 := hide (heap_alloc_new w (.cells T0c 31))
  have Z0 := hide (show w.heap.size ≤ (w.alloc (.cells T0c 31)).heap.size by simp)
  unfold keptB at WT
  unfold T0c at B0 R0 Z0
  generalize hasS keptL x = q at *
  generalize atV keptL x = v at *
  cases q
  · have hv := unhide HN rfl
    have W1 := hide ((unhide WT).2 rfl)
    rw [unhide W1]
    unfold Tk.v Tk.cs
    simp only
    clear WT HY HN
    go_enter Tryd.func88, Tryd.ntmps88
    go_wp2_with fail
    generalize w.alloc (Obj.cells #[.int .i64 0, .int .i64 0, .string ⟨#[]⟩] 31) = W at *
    refine (unhide HK W).mono ?_
    rintro e w1 ⟨rfl, hr1, hb1⟩
    have R1 := hide ((hb1.block _ (Array.getElem?_eq_some_iff.1 (unhide R0)).1).trans (unhide R0))
    have B1 := hide ((unhide B0).trans (hb1.mono (unhide Z0)))
    have A1 := hide (unhide HA _ _ hr1)
    clear hr1 hb1 HK HA
    go_wp2_with (first | (go_at_call 66; refine (unhide A1).mono ?_; rintro e w' ⟨rfl, rfl⟩) | (refine wpList_store_row rfl 31 _ _ rfl w.heap.size #[.int .i64 1, .int .i64 0, .string x] rfl rfl 31 _ (unhide R1) szK rfl (tk_one _ _ _) ?_))
    refine bodyPost_ret (results_cell_row (P := Tryd.prog) rfl _ _ w.heap.size 31 #[.int .i64 1, .int .i64 0, .string x] (0, 0) _ rfl (setRow_heap _ _ _ _ _ _ (unhide R1)) Tryd.underlying31 rfl szK) rfl ?_
    exact ⟨rfl, (unhide B1).trans ⟨rfl, rfl, rfl, by simp [World.setRow], fun k hk => setRow_other _ _ _ _ (by omega)⟩⟩
  · have hv := unhide HY rfl
    have W1 := hide ((unhide WT).1 rfl)
    rw [unhide W1]
    unfold Tk.v Tk.cs
    simp only
    clear WT HY HN
    go_enter Tryd.func88, Tryd.ntmps88
    go_wp2_with fail
    generalize w.alloc (Obj.cells #[.int .i64 0, .int .i64 0, .string ⟨#[]⟩] 31) = W at *
    refine (unhide HK W).mono ?_
    rintro e w1 ⟨rfl, hr1, hb1⟩
    have R1 := hide ((hb1.block _ (Array.getElem?_eq_some_iff.1 (unhide R0)).1).trans (unhide R0))
    have B1 := hide ((unhide B0).trans (hb1.mono (unhide Z0)))
    have A1 := hide (unhide HA _ _ hr1)
    clear hr1 hb1 HK HA
    go_wp2_with (first | (go_at_call 66; refine (unhide A1).mono ?_; rintro e w' ⟨rfl, rfl⟩) | (refine wpList_store_row rfl 31 _ _ rfl w.heap.size #[.int .i64 5, .int .i64 0, .string x] rfl rfl 31 _ (unhide R1) szK rfl (tk_one _ _ _) ?_))
    refine bodyPost_ret (results_cell_row (P := Tryd.prog) rfl _ _ w.heap.size 31 #[.int .i64 5, .int .i64 0, .string x] (0, 0) _ rfl (setRow_heap _ _ _ _ _ _ (unhide R1)) Tryd.underlying31 rfl szK) rfl ?_
    exact ⟨rfl, (unhide B1).trans ⟨rfl, rfl, rfl, by simp [World.setRow], fun k hk => setRow_other _ _ _ _ (by omega)⟩⟩
end Go.Proofs.YthgbpofcfmnpdaaDoor
