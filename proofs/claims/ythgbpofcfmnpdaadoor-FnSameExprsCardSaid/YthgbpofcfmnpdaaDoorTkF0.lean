/- TokenOk of a kept word by the model; over this seat's translation; conditions stand as hypotheses of each. -/
import Derived.Test.YthgbpofcfmnpdaaDoorTkE
import Derived.Deep.RegionWith
namespace Go.Proofs.YthgbpofcfmnpdaaDoor
open Go.ChangeShapes Go.WideShapes Go.ChangeAt Go.RowKit
set_option linter.unusedVariables false
set_option maxRecDepth 8000

set_option maxHeartbeats 1000000 in
theorem tok5 (s : ByteArray) (w : World) : Calls Tryd.prog 18 #[.agg (Tk.cs ⟨5, 0, s⟩)] w fun e w' => e = .returned (.bool (keptB s)) ∧ Below w.heap.size w w' := by
  have hB := hide (below_new w (.cells (Tk.cs ⟨5, 0, s⟩) 31))
  obtain ⟨c0, c1, c2⟩ := box3 w ⟨5, 0, s⟩ 31
  simp only at c0 c1 c2
  have HZ := hide (show w.heap.size < (w.alloc (.cells (Tk.cs ⟨5, 0, s⟩) 31)).heap.size by simp)
  generalize Tk.cs ⟨5, 0, s⟩ = cc at *
  have HY := hide (fun h => atV_yes (L := keptL) (s := s) h)
  have HNo := hide (fun h => atV_no (L := keptL) (s := s) h)
  have HA := hide (fun g w1 (hr : RdS w1 g keptL) => at_any keptL s g 31 31 w1 rfl (by omega) hr)
  unfold keptB
  generalize hasS keptL s = q at *
  generalize atV keptL s = v at *
  have E := hide (show (decide (0 ≤ v)) = q by
    cases q
    · rw [unhide HNo rfl]; rfl
    · have := unhide HY rfl
      simp
      omega)
  clear HY HNo
  go_enter Tryd.func18, Tryd.ntmps18
  go_wp2
  generalize w.alloc (Obj.cells cc 31) = W at *
  have c2d : W.drew.cell? ⟨w.heap.size, 2, none⟩ = some (.string s) := c2
  have C2 := hide (fun w1 (hb : Below W.drew.heap.size W.drew w1) => (hb.cell (p := ⟨w.heap.size, 2, none⟩) (unhide HZ)).trans c2d)
  have BB := hide (fun w1 (hb : Below W.drew.heap.size W.drew w1) => ((unhide hB).drew).trans (hb.mono (Nat.le_of_lt (unhide HZ))))
  clear c0 c1
  go_region_with (first | (go_at_call 67; refine (kept_any _).mono ?_; rintro e w1 ⟨rfl, hr1, hb1⟩; have c2e := unhide C2 w1 hb1; have B1 := hide (unhide BB w1 hb1); have R1 := hide hr1; clear hr1 hb1) | (go_at_call 66; refine (unhide HA _ _ (unhide R1)).mono ?_; rintro e w' ⟨rfl, hw'⟩; rw [hw']; clear hw' w'))
  all_goals
    go_wp2
    go_ret
    exact ⟨by rw [← unhide E]; rfl, unhide B1⟩
end Go.Proofs.YthgbpofcfmnpdaaDoor
