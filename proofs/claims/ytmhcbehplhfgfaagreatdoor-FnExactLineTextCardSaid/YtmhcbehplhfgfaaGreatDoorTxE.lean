/- Contracts over this seat's translation, laid together; conditions stand as hypotheses of each. -/
import Derived.Test.YtmhcbehplhfgfaaGreatDoorTxA
import Derived.Test.YtmhcbehplhfgfaaGreatDoorTxD
import Derived.Deep.RegionHeld
import Derived.Laws.Rows
import Derived.OwnWalk
import Derived.Lib.Builder
import Derived.Lib.AppendStr
import Derived.Lib.FrozenHead
import Derived.Lib.UnsafeStr
import Derived.Lib.OthersKept

namespace Go.Proofs.YtmhcbehplhfgfaaGreatDoor
open Go.ChangeShapes Go.WideShapes Go.ChangeAt Go.RowKit
set_option linter.unusedVariables false
set_option maxRecDepth 8000
set_option linter.unusedSimpArgs false
def lnV (k : Int) (s : ByteArray) (op : Int) (n1 n2 : Bool) (n : Int) (ll : Nat) (nm pl nms ins : Bool) : Bool :=
  if k == 3 then eqS s E0 && ins
  else if !(op == 0) || (!n1 || !n2) then false
  else if k == 0 || k == 8 then eqS s E0 && (n == 0 && ll == 0)
  else if k == 1 then nm && (n == 0 && ll == 0)
  else if k == 2 then nm && (n == 0 && (ll == 1 && pl))
  else if k == 4 then eqS s E0 && (n == 0 && (inB ll 1 6 && pl))
  else if k == 5 then eqS s E0 && (n == 0 && (ll == 1 && pl))
  else if k == 6 then nm && (inB n 0 1 && ll == 0)
  else if k == 7 then eqS s E0 && (n == 0 && nms)
  else false
/-- A line that is right. -/
def lnX (x : Ln) : Bool := lnV x.k x.s x.op (nonX x.src) (nonX x.dst) x.n x.l.length (nameB x.s) (x.l.all (okF 6 true)) (nmsX x.l) (insX x)
set_option maxHeartbeats 16000000 in
theorem lnS_any (x : Ln) (p : La) (w : World) (hr : RdL w x p) (hz : SzL x) : Calls Tryz.prog 11 #[.agg (x.cs p)] w fun r w' => r = .returned (.bool (lnX x)) ∧ Below w.heap.size w w' := by
  obtain ⟨hza, hzb, hzc, hzd, hze⟩ := hz
  have s1 := sz_is x.src.e
  have s2 := sz_is x.dst.e
  have hbW := below_new w (.cells (x.cs p) 37)
  obtain ⟨W, hW⟩ : ∃ W, w.alloc (.cells (x.cs p) 37) = W := ⟨_, rfl⟩
  have hrW := hr.later hbW
  have xl : w.heap.size < W.heap.size := by rw [← hW]; simp
  have xc : ∀ (i : Nat) (v : Value), (x.cs p)[i]? = some v → ∀ y : Sub W.heap.size W, y.w.cell? ⟨w.heap.size, i, none⟩ = some v := fun i v h y => (y.h.cell (p := ⟨w.heap.size, i, none⟩) xl).trans (by rw [← hW]; exact box17 w _ _ i v h)
  rw [hW] at hbW hrW
  obtain ⟨z, hz0⟩ : ∃ z : Sub W.heap.size W, w.alloc (.cells (x.cs p) 37) = z.w := ⟨⟨W, Below.refl _ _⟩, hW⟩
  have ne := Sub.ne W.heap.size W
  have HZ := hide (Nat.le_refl W.heap.size)
  have HB := hide (fun y : Sub W.heap.size W => hbW.trans (y.h.mono hbW.size))
  have N1 := hide (fun y : Sub W.heap.size W => nonS_any x.src (by omega) (by omega) p.b1 p.c1 y.w)
  have N2 := hide (fun y : Sub W.heap.size W => nonS_any x.dst (by omega) (by omega) p.b2 p.c2 y.w)
  have PL := hide (fun y : Sub W.heap.size W => plnS_any x.l p.b3 p.c3 y.w (hrW.l.later y.h) hzd hze)
  have NM := hide (fun y : Sub W.heap.size W => nameS_any x.s y.w (by omega))
  have NS := hide (fun y : Sub W.heap.size W => nmsS_any x.l p.b3 p.c3 y.w (hrW.l.later y.h) hzd hze)
  have IN := hide (fun y : Sub W.heap.size W => insS_any x p y.w (hrW.later y.h) ⟨hza, hzb, hzc, hzd, hze⟩)
  rw [show lnX x = lnV x.k x.s x.op (nonX x.src) (nonX x.dst) x.n x.l.length (nameB x.s) (x.l.all (okF 6 true)) (nmsX x.l) (insX x) from rfl]
  unfold Ln.cs at hz0 xc ⊢
  unfold Ag.cs at N1 N2
  unfold Ln.cs at IN
  generalize nonX x.src = n1 at *
  generalize nonX x.dst = n2 at *
  generalize x.l.all (okF 6 true) = pl at *
  generalize nmsX x.l = nms at *
  generalize insX x = ins at *
  generalize nameB x.s = nm at *
  clear hr hrW hza hzb hzc hzd hze s1 s2 xl hW
  generalize x.src.f = sf at *
  generalize x.src.r = sr at *
  generalize x.src.e.k = sk at *
  generalize x.src.e.n = sn at *
  generalize x.src.e.s = ss at *
  generalize x.src.e.l.length = sl at *
  generalize x.dst.f = df at *
  generalize x.dst.r = dr at *
  generalize x.dst.e.k = dk at *
  generalize x.dst.e.n = dn at *
  generalize x.dst.e.s = ds at *
  generalize x.dst.e.l.length = dl at *
  generalize x.k = k at *
  generalize x.s = s at *
  generalize x.op = op at *
  generalize x.n = n at *
  generalize x.l.length = ll at *
  generalize p.b1 = b1 at *
  generalize p.c1 = c1 at *
  generalize p.b2 = b2 at *
  generalize p.c2 = c2 at *
  generalize p.b3 = b3 at *
  generalize p.c3 = c3 at *
  by_cases h90 : k = 3
  · subst h90
    by_cases h91 : s = ⟨#[]⟩
    · subst h91
      have V : lnV 3 ⟨#[]⟩ op n1 n2 n ll nm pl nms ins = ins := by simp [lnV, eqE, eqE1, *]
      rw [V]
      clear V
      have E0 := xc 0 (.int .i64 3) rfl
      have E1 := xc 1 (.string ⟨#[]⟩) rfl
      have E2 := xc 2 (.int .i64 op) rfl
      have E3 := xc 3 (.int .i64 sf) rfl
      have E4 := xc 4 (.int .i64 sr) rfl
      have E5 := xc 5 (.int .i64 sk) rfl
      have E6 := xc 6 (.int .i64 sn) rfl
      have E7 := xc 7 (.string ss) rfl
      have E8 := xc 8 (.slice b1 sl c1) rfl
      have E9 := xc 9 (.int .i64 df) rfl
      have E10 := xc 10 (.int .i64 dr) rfl
      have E11 := xc 11 (.int .i64 dk) rfl
      have E12 := xc 12 (.int .i64 dn) rfl
      have E13 := xc 13 (.string ds) rfl
      have E14 := xc 14 (.slice b2 dl c2) rfl
      have E15 := xc 15 (.int .i64 n) rfl
      have E16 := xc 16 (.slice b3 ll c3) rfl
      clear xc
      go_enter Tryz.func11, Tryz.ntmps11
      go_wp2_with (first | (go_at_call 28; refine (in_any _ _ _ _).mono ?_; rintro e w' ⟨rfl, hw'⟩; rw [hw']; clear hw' w') | (go_at_call_of 25 sf; refine (Sub.call (unhide HZ) (unhide N1 _)).mono ?_; rintro r _ ⟨rfl, z2, rfl⟩) | (go_at_call_of 25 df; refine (Sub.call (unhide HZ) (unhide N2 _)).mono ?_; rintro r _ ⟨rfl, z2, rfl⟩) | (go_at_call 27; refine (Sub.call (unhide HZ) (unhide PL _)).mono ?_; rintro r _ ⟨rfl, z2, rfl⟩) | (go_at_call 26; refine (Sub.call (unhide HZ) (unhide NM _)).mono ?_; rintro r _ ⟨rfl, z2, rfl⟩) | (go_at_call 29; refine (Sub.call (unhide HZ) (unhide NS _)).mono ?_; rintro r _ ⟨rfl, z2, rfl⟩) | (go_at_call 24; refine (Sub.call (unhide HZ) (unhide IN _)).mono ?_; rintro r _ ⟨rfl, z2, rfl⟩))
      go_ret
      exact ⟨rfl, unhide HB _⟩
    obtain ⟨h91a, h91b⟩ := emp_E s h91
    have V : lnV 3 s op n1 n2 n ll nm pl nms ins = false := by simp [lnV, eqE, eqE1, *]
    rw [V]
    clear V
    have E0 := xc 0 (.int .i64 3) rfl
    have E1 := xc 1 (.string s) rfl
    have E2 := xc 2 (.int .i64 op) rfl
    have E3 := xc 3 (.int .i64 sf) rfl
    have E4 := xc 4 (.int .i64 sr) rfl
    have E5 := xc 5 (.int .i64 sk) rfl
    have E6 := xc 6 (.int .i64 sn) rfl
    have E7 := xc 7 (.string ss) rfl
    have E8 := xc 8 (.slice b1 sl c1) rfl
    have E9 := xc 9 (.int .i64 df) rfl
    have E10 := xc 10 (.int .i64 dr) rfl
    have E11 := xc 11 (.int .i64 dk) rfl
    have E12 := xc 12 (.int .i64 dn) rfl
    have E13 := xc 13 (.string ds) rfl
    have E14 := xc 14 (.slice b2 dl c2) rfl
    have E15 := xc 15 (.int .i64 n) rfl
    have E16 := xc 16 (.slice b3 ll c3) rfl
    clear xc
    go_enter Tryz.func11, Tryz.ntmps11
    go_wp2_with (first | (go_at_call 28; refine (in_any _ _ _ _).mono ?_; rintro e w' ⟨rfl, hw'⟩; rw [hw']; clear hw' w') | (go_at_call_of 25 sf; refine (Sub.call (unhide HZ) (unhide N1 _)).mono ?_; rintro r _ ⟨rfl, z2, rfl⟩) | (go_at_call_of 25 df; refine (Sub.call (unhide HZ) (unhide N2 _)).mono ?_; rintro r _ ⟨rfl, z2, rfl⟩) | (go_at_call 27; refine (Sub.call (unhide HZ) (unhide PL _)).mono ?_; rintro r _ ⟨rfl, z2, rfl⟩) | (go_at_call 26; refine (Sub.call (unhide HZ) (unhide NM _)).mono ?_; rintro r _ ⟨rfl, z2, rfl⟩) | (go_at_call 29; refine (Sub.call (unhide HZ) (unhide NS _)).mono ?_; rintro r _ ⟨rfl, z2, rfl⟩) | (go_at_call 24; refine (Sub.call (unhide HZ) (unhide IN _)).mono ?_; rintro r _ ⟨rfl, z2, rfl⟩))
    go_ret
    exact ⟨rfl, unhide HB _⟩
  have h90f : (k == 3) = false := beq_eq_false_iff_ne.2 h90
  by_cases h96 : op = 0
  · subst h96
    cases n1 with
    | true =>
      cases n2 with
      | true =>
        by_cases h99 : k = 0
        · subst h99
          by_cases h100 : s = ⟨#[]⟩
          · subst h100
            by_cases h101 : n = 0
            · subst h101
              by_cases h102 : ll = 0
              · subst h102
                have V : lnV 0 ⟨#[]⟩ 0 true true 0 0 nm pl nms ins = true := by simp [lnV, eqE, eqE1, *]
                rw [V]
                clear V
                have E0 := xc 0 (.int .i64 0) rfl
                have E1 := xc 1 (.string ⟨#[]⟩) rfl
                have E2 := xc 2 (.int .i64 0) rfl
                have E3 := xc 3 (.int .i64 sf) rfl
                have E4 := xc 4 (.int .i64 sr) rfl
                have E5 := xc 5 (.int .i64 sk) rfl
                have E6 := xc 6 (.int .i64 sn) rfl
                have E7 := xc 7 (.string ss) rfl
                have E8 := xc 8 (.slice b1 sl c1) rfl
                have E9 := xc 9 (.int .i64 df) rfl
                have E10 := xc 10 (.int .i64 dr) rfl
                have E11 := xc 11 (.int .i64 dk) rfl
                have E12 := xc 12 (.int .i64 dn) rfl
                have E13 := xc 13 (.string ds) rfl
                have E14 := xc 14 (.slice b2 dl c2) rfl
                have E15 := xc 15 (.int .i64 0) rfl
                have E16 := xc 16 (.slice b3 0 c3) rfl
                clear xc
                go_enter Tryz.func11, Tryz.ntmps11
                go_wp2_with (first | (go_at_call 28; refine (in_any _ _ _ _).mono ?_; rintro e w' ⟨rfl, hw'⟩; rw [hw']; clear hw' w') | (go_at_call_of 25 sf; refine (Sub.call (unhide HZ) (unhide N1 _)).mono ?_; rintro r _ ⟨rfl, z2, rfl⟩) | (go_at_call_of 25 df; refine (Sub.call (unhide HZ) (unhide N2 _)).mono ?_; rintro r _ ⟨rfl, z2, rfl⟩) | (go_at_call 27; refine (Sub.call (unhide HZ) (unhide PL _)).mono ?_; rintro r _ ⟨rfl, z2, rfl⟩) | (go_at_call 26; refine (Sub.call (unhide HZ) (unhide NM _)).mono ?_; rintro r _ ⟨rfl, z2, rfl⟩) | (go_at_call 29; refine (Sub.call (unhide HZ) (unhide NS _)).mono ?_; rintro r _ ⟨rfl, z2, rfl⟩) | (go_at_call 24; refine (Sub.call (unhide HZ) (unhide IN _)).mono ?_; rintro r _ ⟨rfl, z2, rfl⟩))
                go_ret
                exact ⟨rfl, unhide HB _⟩
              have h102f : (ll == 0) = false := beq_eq_false_iff_ne.2 h102
              have h102g : ((ll : Int) == 0) = false := beq_eq_false_iff_ne.2 (by omega)
              have V : lnV 0 ⟨#[]⟩ 0 true true 0 ll nm pl nms ins = false := by simp [lnV, eqE, eqE1, *]
              rw [V]
              clear V
              have E0 := xc 0 (.int .i64 0) rfl
              have E1 := xc 1 (.string ⟨#[]⟩) rfl
              have E2 := xc 2 (.int .i64 0) rfl
              have E3 := xc 3 (.int .i64 sf) rfl
              have E4 := xc 4 (.int .i64 sr) rfl
              have E5 := xc 5 (.int .i64 sk) rfl
              have E6 := xc 6 (.int .i64 sn) rfl
              have E7 := xc 7 (.string ss) rfl
              have E8 := xc 8 (.slice b1 sl c1) rfl
              have E9 := xc 9 (.int .i64 df) rfl
              have E10 := xc 10 (.int .i64 dr) rfl
              have E11 := xc 11 (.int .i64 dk) rfl
              have E12 := xc 12 (.int .i64 dn) rfl
              have E13 := xc 13 (.string ds) rfl
              have E14 := xc 14 (.slice b2 dl c2) rfl
              have E15 := xc 15 (.int .i64 0) rfl
              have E16 := xc 16 (.slice b3 ll c3) rfl
              clear xc
              go_enter Tryz.func11, Tryz.ntmps11
              go_wp2_with (first | (go_at_call 28; refine (in_any _ _ _ _).mono ?_; rintro e w' ⟨rfl, hw'⟩; rw [hw']; clear hw' w') | (go_at_call_of 25 sf; refine (Sub.call (unhide HZ) (unhide N1 _)).mono ?_; rintro r _ ⟨rfl, z2, rfl⟩) | (go_at_call_of 25 df; refine (Sub.call (unhide HZ) (unhide N2 _)).mono ?_; rintro r _ ⟨rfl, z2, rfl⟩) | (go_at_call 27; refine (Sub.call (unhide HZ) (unhide PL _)).mono ?_; rintro r _ ⟨rfl, z2, rfl⟩) | (go_at_call 26; refine (Sub.call (unhide HZ) (unhide NM _)).mono ?_; rintro r _ ⟨rfl, z2, rfl⟩) | (go_at_call 29; refine (Sub.call (unhide HZ) (unhide NS _)).mono ?_; rintro r _ ⟨rfl, z2, rfl⟩) | (go_at_call 24; refine (Sub.call (unhide HZ) (unhide IN _)).mono ?_; rintro r _ ⟨rfl, z2, rfl⟩))
              go_ret
              exact ⟨rfl, unhide HB _⟩
            have h101f : (n == 0) = false := beq_eq_false_iff_ne.2 h101
            have V : lnV 0 ⟨#[]⟩ 0 true true n ll nm pl nms ins = false := by simp [lnV, eqE, eqE1, *]
            rw [V]
            clear V
            have E0 := xc 0 (.int .i64 0) rfl
            have E1 := xc 1 (.string ⟨#[]⟩) rfl
            have E2 := xc 2 (.int .i64 0) rfl
            have E3 := xc 3 (.int .i64 sf) rfl
            have E4 := xc 4 (.int .i64 sr) rfl
            have E5 := xc 5 (.int .i64 sk) rfl
            have E6 := xc 6 (.int .i64 sn) rfl
            have E7 := xc 7 (.string ss) rfl
            have E8 := xc 8 (.slice b1 sl c1) rfl
            have E9 := xc 9 (.int .i64 df) rfl
            have E10 := xc 10 (.int .i64 dr) rfl
            have E11 := xc 11 (.int .i64 dk) rfl
            have E12 := xc 12 (.int .i64 dn) rfl
            have E13 := xc 13 (.string ds) rfl
            have E14 := xc 14 (.slice b2 dl c2) rfl
            have E15 := xc 15 (.int .i64 n) rfl
            have E16 := xc 16 (.slice b3 ll c3) rfl
            clear xc
            go_enter Tryz.func11, Tryz.ntmps11
            go_wp2_with (first | (go_at_call 28; refine (in_any _ _ _ _).mono ?_; rintro e w' ⟨rfl, hw'⟩; rw [hw']; clear hw' w') | (go_at_call_of 25 sf; refine (Sub.call (unhide HZ) (unhide N1 _)).mono ?_; rintro r _ ⟨rfl, z2, rfl⟩) | (go_at_call_of 25 df; refine (Sub.call (unhide HZ) (unhide N2 _)).mono ?_; rintro r _ ⟨rfl, z2, rfl⟩) | (go_at_call 27; refine (Sub.call (unhide HZ) (unhide PL _)).mono ?_; rintro r _ ⟨rfl, z2, rfl⟩) | (go_at_call 26; refine (Sub.call (unhide HZ) (unhide NM _)).mono ?_; rintro r _ ⟨rfl, z2, rfl⟩) | (go_at_call 29; refine (Sub.call (unhide HZ) (unhide NS _)).mono ?_; rintro r _ ⟨rfl, z2, rfl⟩) | (go_at_call 24; refine (Sub.call (unhide HZ) (unhide IN _)).mono ?_; rintro r _ ⟨rfl, z2, rfl⟩))
            go_ret
            exact ⟨rfl, unhide HB _⟩
          obtain ⟨h100a, h100b⟩ := emp_E s h100
          have V : lnV 0 s 0 true true n ll nm pl nms ins = false := by simp [lnV, eqE, eqE1, *]
          rw [V]
          clear V
          have E0 := xc 0 (.int .i64 0) rfl
          have E1 := xc 1 (.string s) rfl
          have E2 := xc 2 (.int .i64 0) rfl
          have E3 := xc 3 (.int .i64 sf) rfl
          have E4 := xc 4 (.int .i64 sr) rfl
          have E5 := xc 5 (.int .i64 sk) rfl
          have E6 := xc 6 (.int .i64 sn) rfl
          have E7 := xc 7 (.string ss) rfl
          have E8 := xc 8 (.slice b1 sl c1) rfl
          have E9 := xc 9 (.int .i64 df) rfl
          have E10 := xc 10 (.int .i64 dr) rfl
          have E11 := xc 11 (.int .i64 dk) rfl
          have E12 := xc 12 (.int .i64 dn) rfl
          have E13 := xc 13 (.string ds) rfl
          have E14 := xc 14 (.slice b2 dl c2) rfl
          have E15 := xc 15 (.int .i64 n) rfl
          have E16 := xc 16 (.slice b3 ll c3) rfl
          clear xc
          go_enter Tryz.func11, Tryz.ntmps11
          go_wp2_with (first | (go_at_call 28; refine (in_any _ _ _ _).mono ?_; rintro e w' ⟨rfl, hw'⟩; rw [hw']; clear hw' w') | (go_at_call_of 25 sf; refine (Sub.call (unhide HZ) (unhide N1 _)).mono ?_; rintro r _ ⟨rfl, z2, rfl⟩) | (go_at_call_of 25 df; refine (Sub.call (unhide HZ) (unhide N2 _)).mono ?_; rintro r _ ⟨rfl, z2, rfl⟩) | (go_at_call 27; refine (Sub.call (unhide HZ) (unhide PL _)).mono ?_; rintro r _ ⟨rfl, z2, rfl⟩) | (go_at_call 26; refine (Sub.call (unhide HZ) (unhide NM _)).mono ?_; rintro r _ ⟨rfl, z2, rfl⟩) | (go_at_call 29; refine (Sub.call (unhide HZ) (unhide NS _)).mono ?_; rintro r _ ⟨rfl, z2, rfl⟩) | (go_at_call 24; refine (Sub.call (unhide HZ) (unhide IN _)).mono ?_; rintro r _ ⟨rfl, z2, rfl⟩))
          go_ret
          exact ⟨rfl, unhide HB _⟩
        have h99f : (k == 0) = false := beq_eq_false_iff_ne.2 h99
        by_cases h111 : k = 8
        · subst h111
          by_cases h112 : s = ⟨#[]⟩
          · subst h112
            by_cases h113 : n = 0
            · subst h113
              by_cases h114 : ll = 0
              · subst h114
                have V : lnV 8 ⟨#[]⟩ 0 true true 0 0 nm pl nms ins = true := by simp [lnV, eqE, eqE1, *]
                rw [V]
                clear V
                have E0 := xc 0 (.int .i64 8) rfl
                have E1 := xc 1 (.string ⟨#[]⟩) rfl
                have E2 := xc 2 (.int .i64 0) rfl
                have E3 := xc 3 (.int .i64 sf) rfl
                have E4 := xc 4 (.int .i64 sr) rfl
                have E5 := xc 5 (.int .i64 sk) rfl
                have E6 := xc 6 (.int .i64 sn) rfl
                have E7 := xc 7 (.string ss) rfl
                have E8 := xc 8 (.slice b1 sl c1) rfl
                have E9 := xc 9 (.int .i64 df) rfl
                have E10 := xc 10 (.int .i64 dr) rfl
                have E11 := xc 11 (.int .i64 dk) rfl
                have E12 := xc 12 (.int .i64 dn) rfl
                have E13 := xc 13 (.string ds) rfl
                have E14 := xc 14 (.slice b2 dl c2) rfl
                have E15 := xc 15 (.int .i64 0) rfl
                have E16 := xc 16 (.slice b3 0 c3) rfl
                clear xc
                go_enter Tryz.func11, Tryz.ntmps11
                go_wp2_with (first | (go_at_call 28; refine (in_any _ _ _ _).mono ?_; rintro e w' ⟨rfl, hw'⟩; rw [hw']; clear hw' w') | (go_at_call_of 25 sf; refine (Sub.call (unhide HZ) (unhide N1 _)).mono ?_; rintro r _ ⟨rfl, z2, rfl⟩) | (go_at_call_of 25 df; refine (Sub.call (unhide HZ) (unhide N2 _)).mono ?_; rintro r _ ⟨rfl, z2, rfl⟩) | (go_at_call 27; refine (Sub.call (unhide HZ) (unhide PL _)).mono ?_; rintro r _ ⟨rfl, z2, rfl⟩) | (go_at_call 26; refine (Sub.call (unhide HZ) (unhide NM _)).mono ?_; rintro r _ ⟨rfl, z2, rfl⟩) | (go_at_call 29; refine (Sub.call (unhide HZ) (unhide NS _)).mono ?_; rintro r _ ⟨rfl, z2, rfl⟩) | (go_at_call 24; refine (Sub.call (unhide HZ) (unhide IN _)).mono ?_; rintro r _ ⟨rfl, z2, rfl⟩))
                go_ret
                exact ⟨rfl, unhide HB _⟩
              have h114f : (ll == 0) = false := beq_eq_false_iff_ne.2 h114
              have h114g : ((ll : Int) == 0) = false := beq_eq_false_iff_ne.2 (by omega)
              have V : lnV 8 ⟨#[]⟩ 0 true true 0 ll nm pl nms ins = false := by simp [lnV, eqE, eqE1, *]
              rw [V]
              clear V
              have E0 := xc 0 (.int .i64 8) rfl
              have E1 := xc 1 (.string ⟨#[]⟩) rfl
              have E2 := xc 2 (.int .i64 0) rfl
              have E3 := xc 3 (.int .i64 sf) rfl
              have E4 := xc 4 (.int .i64 sr) rfl
              have E5 := xc 5 (.int .i64 sk) rfl
              have E6 := xc 6 (.int .i64 sn) rfl
              have E7 := xc 7 (.string ss) rfl
              have E8 := xc 8 (.slice b1 sl c1) rfl
              have E9 := xc 9 (.int .i64 df) rfl
              have E10 := xc 10 (.int .i64 dr) rfl
              have E11 := xc 11 (.int .i64 dk) rfl
              have E12 := xc 12 (.int .i64 dn) rfl
              have E13 := xc 13 (.string ds) rfl
              have E14 := xc 14 (.slice b2 dl c2) rfl
              have E15 := xc 15 (.int .i64 0) rfl
              have E16 := xc 16 (.slice b3 ll c3) rfl
              clear xc
              go_enter Tryz.func11, Tryz.ntmps11
              go_wp2_with (first | (go_at_call 28; refine (in_any _ _ _ _).mono ?_; rintro e w' ⟨rfl, hw'⟩; rw [hw']; clear hw' w') | (go_at_call_of 25 sf; refine (Sub.call (unhide HZ) (unhide N1 _)).mono ?_; rintro r _ ⟨rfl, z2, rfl⟩) | (go_at_call_of 25 df; refine (Sub.call (unhide HZ) (unhide N2 _)).mono ?_; rintro r _ ⟨rfl, z2, rfl⟩) | (go_at_call 27; refine (Sub.call (unhide HZ) (unhide PL _)).mono ?_; rintro r _ ⟨rfl, z2, rfl⟩) | (go_at_call 26; refine (Sub.call (unhide HZ) (unhide NM _)).mono ?_; rintro r _ ⟨rfl, z2, rfl⟩) | (go_at_call 29; refine (Sub.call (unhide HZ) (unhide NS _)).mono ?_; rintro r _ ⟨rfl, z2, rfl⟩) | (go_at_call 24; refine (Sub.call (unhide HZ) (unhide IN _)).mono ?_; rintro r _ ⟨rfl, z2, rfl⟩))
              go_ret
              exact ⟨rfl, unhide HB _⟩
            have h113f : (n == 0) = false := beq_eq_false_iff_ne.2 h113
            have V : lnV 8 ⟨#[]⟩ 0 true true n ll nm pl nms ins = false := by simp [lnV, eqE, eqE1, *]
            rw [V]
            clear V
            have E0 := xc 0 (.int .i64 8) rfl
            have E1 := xc 1 (.string ⟨#[]⟩) rfl
            have E2 := xc 2 (.int .i64 0) rfl
            have E3 := xc 3 (.int .i64 sf) rfl
            have E4 := xc 4 (.int .i64 sr) rfl
            have E5 := xc 5 (.int .i64 sk) rfl
            have E6 := xc 6 (.int .i64 sn) rfl
            have E7 := xc 7 (.string ss) rfl
            have E8 := xc 8 (.slice b1 sl c1) rfl
            have E9 := xc 9 (.int .i64 df) rfl
            have E10 := xc 10 (.int .i64 dr) rfl
            have E11 := xc 11 (.int .i64 dk) rfl
            have E12 := xc 12 (.int .i64 dn) rfl
            have E13 := xc 13 (.string ds) rfl
            have E14 := xc 14 (.slice b2 dl c2) rfl
            have E15 := xc 15 (.int .i64 n) rfl
            have E16 := xc 16 (.slice b3 ll c3) rfl
            clear xc
            go_enter Tryz.func11, Tryz.ntmps11
            go_wp2_with (first | (go_at_call 28; refine (in_any _ _ _ _).mono ?_; rintro e w' ⟨rfl, hw'⟩; rw [hw']; clear hw' w') | (go_at_call_of 25 sf; refine (Sub.call (unhide HZ) (unhide N1 _)).mono ?_; rintro r _ ⟨rfl, z2, rfl⟩) | (go_at_call_of 25 df; refine (Sub.call (unhide HZ) (unhide N2 _)).mono ?_; rintro r _ ⟨rfl, z2, rfl⟩) | (go_at_call 27; refine (Sub.call (unhide HZ) (unhide PL _)).mono ?_; rintro r _ ⟨rfl, z2, rfl⟩) | (go_at_call 26; refine (Sub.call (unhide HZ) (unhide NM _)).mono ?_; rintro r _ ⟨rfl, z2, rfl⟩) | (go_at_call 29; refine (Sub.call (unhide HZ) (unhide NS _)).mono ?_; rintro r _ ⟨rfl, z2, rfl⟩) | (go_at_call 24; refine (Sub.call (unhide HZ) (unhide IN _)).mono ?_; rintro r _ ⟨rfl, z2, rfl⟩))
            go_ret
            exact ⟨rfl, unhide HB _⟩
          obtain ⟨h112a, h112b⟩ := emp_E s h112
          have V : lnV 8 s 0 true true n ll nm pl nms ins = false := by simp [lnV, eqE, eqE1, *]
          rw [V]
          clear V
          have E0 := xc 0 (.int .i64 8) rfl
          have E1 := xc 1 (.string s) rfl
          have E2 := xc 2 (.int .i64 0) rfl
          have E3 := xc 3 (.int .i64 sf) rfl
          have E4 := xc 4 (.int .i64 sr) rfl
          have E5 := xc 5 (.int .i64 sk) rfl
          have E6 := xc 6 (.int .i64 sn) rfl
          have E7 := xc 7 (.string ss) rfl
          have E8 := xc 8 (.slice b1 sl c1) rfl
          have E9 := xc 9 (.int .i64 df) rfl
          have E10 := xc 10 (.int .i64 dr) rfl
          have E11 := xc 11 (.int .i64 dk) rfl
          have E12 := xc 12 (.int .i64 dn) rfl
          have E13 := xc 13 (.string ds) rfl
          have E14 := xc 14 (.slice b2 dl c2) rfl
          have E15 := xc 15 (.int .i64 n) rfl
          have E16 := xc 16 (.slice b3 ll c3) rfl
          clear xc
          go_enter Tryz.func11, Tryz.ntmps11
          go_wp2_with (first | (go_at_call 28; refine (in_any _ _ _ _).mono ?_; rintro e w' ⟨rfl, hw'⟩; rw [hw']; clear hw' w') | (go_at_call_of 25 sf; refine (Sub.call (unhide HZ) (unhide N1 _)).mono ?_; rintro r _ ⟨rfl, z2, rfl⟩) | (go_at_call_of 25 df; refine (Sub.call (unhide HZ) (unhide N2 _)).mono ?_; rintro r _ ⟨rfl, z2, rfl⟩) | (go_at_call 27; refine (Sub.call (unhide HZ) (unhide PL _)).mono ?_; rintro r _ ⟨rfl, z2, rfl⟩) | (go_at_call 26; refine (Sub.call (unhide HZ) (unhide NM _)).mono ?_; rintro r _ ⟨rfl, z2, rfl⟩) | (go_at_call 29; refine (Sub.call (unhide HZ) (unhide NS _)).mono ?_; rintro r _ ⟨rfl, z2, rfl⟩) | (go_at_call 24; refine (Sub.call (unhide HZ) (unhide IN _)).mono ?_; rintro r _ ⟨rfl, z2, rfl⟩))
          go_ret
          exact ⟨rfl, unhide HB _⟩
        have h111f : (k == 8) = false := beq_eq_false_iff_ne.2 h111
        by_cases h123 : k = 1
        · subst h123
          cases nm with
          | true =>
            by_cases h125 : n = 0
            · subst h125
              by_cases h126 : ll = 0
              · subst h126
                have V : lnV 1 s 0 true true 0 0 true pl nms ins = true := by simp [lnV, eqE, eqE1, *]
                rw [V]
                clear V
                have E0 := xc 0 (.int .i64 1) rfl
                have E1 := xc 1 (.string s) rfl
                have E2 := xc 2 (.int .i64 0) rfl
                have E3 := xc 3 (.int .i64 sf) rfl
                have E4 := xc 4 (.int .i64 sr) rfl
                have E5 := xc 5 (.int .i64 sk) rfl
                have E6 := xc 6 (.int .i64 sn) rfl
                have E7 := xc 7 (.string ss) rfl
                have E8 := xc 8 (.slice b1 sl c1) rfl
                have E9 := xc 9 (.int .i64 df) rfl
                have E10 := xc 10 (.int .i64 dr) rfl
                have E11 := xc 11 (.int .i64 dk) rfl
                have E12 := xc 12 (.int .i64 dn) rfl
                have E13 := xc 13 (.string ds) rfl
                have E14 := xc 14 (.slice b2 dl c2) rfl
                have E15 := xc 15 (.int .i64 0) rfl
                have E16 := xc 16 (.slice b3 0 c3) rfl
                clear xc
                go_enter Tryz.func11, Tryz.ntmps11
                go_wp2_with (first | (go_at_call 28; refine (in_any _ _ _ _).mono ?_; rintro e w' ⟨rfl, hw'⟩; rw [hw']; clear hw' w') | (go_at_call_of 25 sf; refine (Sub.call (unhide HZ) (unhide N1 _)).mono ?_; rintro r _ ⟨rfl, z2, rfl⟩) | (go_at_call_of 25 df; refine (Sub.call (unhide HZ) (unhide N2 _)).mono ?_; rintro r _ ⟨rfl, z2, rfl⟩) | (go_at_call 27; refine (Sub.call (unhide HZ) (unhide PL _)).mono ?_; rintro r _ ⟨rfl, z2, rfl⟩) | (go_at_call 26; refine (Sub.call (unhide HZ) (unhide NM _)).mono ?_; rintro r _ ⟨rfl, z2, rfl⟩) | (go_at_call 29; refine (Sub.call (unhide HZ) (unhide NS _)).mono ?_; rintro r _ ⟨rfl, z2, rfl⟩) | (go_at_call 24; refine (Sub.call (unhide HZ) (unhide IN _)).mono ?_; rintro r _ ⟨rfl, z2, rfl⟩))
                go_ret
                exact ⟨rfl, unhide HB _⟩
              have h126f : (ll == 0) = false := beq_eq_false_iff_ne.2 h126
              have h126g : ((ll : Int) == 0) = false := beq_eq_false_iff_ne.2 (by omega)
              have V : lnV 1 s 0 true true 0 ll true pl nms ins = false := by simp [lnV, eqE, eqE1, *]
              rw [V]
              clear V
              have E0 := xc 0 (.int .i64 1) rfl
              have E1 := xc 1 (.string s) rfl
              have E2 := xc 2 (.int .i64 0) rfl
              have E3 := xc 3 (.int .i64 sf) rfl
              have E4 := xc 4 (.int .i64 sr) rfl
              have E5 := xc 5 (.int .i64 sk) rfl
              have E6 := xc 6 (.int .i64 sn) rfl
              have E7 := xc 7 (.string ss) rfl
              have E8 := xc 8 (.slice b1 sl c1) rfl
              have E9 := xc 9 (.int .i64 df) rfl
              have E10 := xc 10 (.int .i64 dr) rfl
              have E11 := xc 11 (.int .i64 dk) rfl
              have E12 := xc 12 (.int .i64 dn) rfl
              have E13 := xc 13 (.string ds) rfl
              have E14 := xc 14 (.slice b2 dl c2) rfl
              have E15 := xc 15 (.int .i64 0) rfl
              have E16 := xc 16 (.slice b3 ll c3) rfl
              clear xc
              go_enter Tryz.func11, Tryz.ntmps11
              go_wp2_with (first | (go_at_call 28; refine (in_any _ _ _ _).mono ?_; rintro e w' ⟨rfl, hw'⟩; rw [hw']; clear hw' w') | (go_at_call_of 25 sf; refine (Sub.call (unhide HZ) (unhide N1 _)).mono ?_; rintro r _ ⟨rfl, z2, rfl⟩) | (go_at_call_of 25 df; refine (Sub.call (unhide HZ) (unhide N2 _)).mono ?_; rintro r _ ⟨rfl, z2, rfl⟩) | (go_at_call 27; refine (Sub.call (unhide HZ) (unhide PL _)).mono ?_; rintro r _ ⟨rfl, z2, rfl⟩) | (go_at_call 26; refine (Sub.call (unhide HZ) (unhide NM _)).mono ?_; rintro r _ ⟨rfl, z2, rfl⟩) | (go_at_call 29; refine (Sub.call (unhide HZ) (unhide NS _)).mono ?_; rintro r _ ⟨rfl, z2, rfl⟩) | (go_at_call 24; refine (Sub.call (unhide HZ) (unhide IN _)).mono ?_; rintro r _ ⟨rfl, z2, rfl⟩))
              go_ret
              exact ⟨rfl, unhide HB _⟩
            have h125f : (n == 0) = false := beq_eq_false_iff_ne.2 h125
            have V : lnV 1 s 0 true true n ll true pl nms ins = false := by simp [lnV, eqE, eqE1, *]
            rw [V]
            clear V
            have E0 := xc 0 (.int .i64 1) rfl
            have E1 := xc 1 (.string s) rfl
            have E2 := xc 2 (.int .i64 0) rfl
            have E3 := xc 3 (.int .i64 sf) rfl
            have E4 := xc 4 (.int .i64 sr) rfl
            have E5 := xc 5 (.int .i64 sk) rfl
            have E6 := xc 6 (.int .i64 sn) rfl
            have E7 := xc 7 (.string ss) rfl
            have E8 := xc 8 (.slice b1 sl c1) rfl
            have E9 := xc 9 (.int .i64 df) rfl
            have E10 := xc 10 (.int .i64 dr) rfl
            have E11 := xc 11 (.int .i64 dk) rfl
            have E12 := xc 12 (.int .i64 dn) rfl
            have E13 := xc 13 (.string ds) rfl
            have E14 := xc 14 (.slice b2 dl c2) rfl
            have E15 := xc 15 (.int .i64 n) rfl
            have E16 := xc 16 (.slice b3 ll c3) rfl
            clear xc
            go_enter Tryz.func11, Tryz.ntmps11
            go_wp2_with (first | (go_at_call 28; refine (in_any _ _ _ _).mono ?_; rintro e w' ⟨rfl, hw'⟩; rw [hw']; clear hw' w') | (go_at_call_of 25 sf; refine (Sub.call (unhide HZ) (unhide N1 _)).mono ?_; rintro r _ ⟨rfl, z2, rfl⟩) | (go_at_call_of 25 df; refine (Sub.call (unhide HZ) (unhide N2 _)).mono ?_; rintro r _ ⟨rfl, z2, rfl⟩) | (go_at_call 27; refine (Sub.call (unhide HZ) (unhide PL _)).mono ?_; rintro r _ ⟨rfl, z2, rfl⟩) | (go_at_call 26; refine (Sub.call (unhide HZ) (unhide NM _)).mono ?_; rintro r _ ⟨rfl, z2, rfl⟩) | (go_at_call 29; refine (Sub.call (unhide HZ) (unhide NS _)).mono ?_; rintro r _ ⟨rfl, z2, rfl⟩) | (go_at_call 24; refine (Sub.call (unhide HZ) (unhide IN _)).mono ?_; rintro r _ ⟨rfl, z2, rfl⟩))
            go_ret
            exact ⟨rfl, unhide HB _⟩
          | false =>
            have V : lnV 1 s 0 true true n ll false pl nms ins = false := by simp [lnV, eqE, eqE1, *]
            rw [V]
            clear V
            have E0 := xc 0 (.int .i64 1) rfl
            have E1 := xc 1 (.string s) rfl
            have E2 := xc 2 (.int .i64 0) rfl
            have E3 := xc 3 (.int .i64 sf) rfl
            have E4 := xc 4 (.int .i64 sr) rfl
            have E5 := xc 5 (.int .i64 sk) rfl
            have E6 := xc 6 (.int .i64 sn) rfl
            have E7 := xc 7 (.string ss) rfl
            have E8 := xc 8 (.slice b1 sl c1) rfl
            have E9 := xc 9 (.int .i64 df) rfl
            have E10 := xc 10 (.int .i64 dr) rfl
            have E11 := xc 11 (.int .i64 dk) rfl
            have E12 := xc 12 (.int .i64 dn) rfl
            have E13 := xc 13 (.string ds) rfl
            have E14 := xc 14 (.slice b2 dl c2) rfl
            have E15 := xc 15 (.int .i64 n) rfl
            have E16 := xc 16 (.slice b3 ll c3) rfl
            clear xc
            go_enter Tryz.func11, Tryz.ntmps11
            go_wp2_with (first | (go_at_call 28; refine (in_any _ _ _ _).mono ?_; rintro e w' ⟨rfl, hw'⟩; rw [hw']; clear hw' w') | (go_at_call_of 25 sf; refine (Sub.call (unhide HZ) (unhide N1 _)).mono ?_; rintro r _ ⟨rfl, z2, rfl⟩) | (go_at_call_of 25 df; refine (Sub.call (unhide HZ) (unhide N2 _)).mono ?_; rintro r _ ⟨rfl, z2, rfl⟩) | (go_at_call 27; refine (Sub.call (unhide HZ) (unhide PL _)).mono ?_; rintro r _ ⟨rfl, z2, rfl⟩) | (go_at_call 26; refine (Sub.call (unhide HZ) (unhide NM _)).mono ?_; rintro r _ ⟨rfl, z2, rfl⟩) | (go_at_call 29; refine (Sub.call (unhide HZ) (unhide NS _)).mono ?_; rintro r _ ⟨rfl, z2, rfl⟩) | (go_at_call 24; refine (Sub.call (unhide HZ) (unhide IN _)).mono ?_; rintro r _ ⟨rfl, z2, rfl⟩))
            go_ret
            exact ⟨rfl, unhide HB _⟩
        have h123f : (k == 1) = false := beq_eq_false_iff_ne.2 h123
        by_cases h135 : k = 2
        · subst h135
          cases nm with
          | true =>
            by_cases h137 : n = 0
            · subst h137
              by_cases h138 : ll = 1
              · subst h138
                have V : lnV 2 s 0 true true 0 1 true pl nms ins = pl := by simp [lnV, eqE, eqE1, *]
                rw [V]
                clear V
                have E0 := xc 0 (.int .i64 2) rfl
                have E1 := xc 1 (.string s) rfl
                have E2 := xc 2 (.int .i64 0) rfl
                have E3 := xc 3 (.int .i64 sf) rfl
                have E4 := xc 4 (.int .i64 sr) rfl
                have E5 := xc 5 (.int .i64 sk) rfl
                have E6 := xc 6 (.int .i64 sn) rfl
                have E7 := xc 7 (.string ss) rfl
                have E8 := xc 8 (.slice b1 sl c1) rfl
                have E9 := xc 9 (.int .i64 df) rfl
                have E10 := xc 10 (.int .i64 dr) rfl
                have E11 := xc 11 (.int .i64 dk) rfl
                have E12 := xc 12 (.int .i64 dn) rfl
                have E13 := xc 13 (.string ds) rfl
                have E14 := xc 14 (.slice b2 dl c2) rfl
                have E15 := xc 15 (.int .i64 0) rfl
                have E16 := xc 16 (.slice b3 1 c3) rfl
                clear xc
                go_enter Tryz.func11, Tryz.ntmps11
                go_wp2_with (first | (go_at_call 28; refine (in_any _ _ _ _).mono ?_; rintro e w' ⟨rfl, hw'⟩; rw [hw']; clear hw' w') | (go_at_call_of 25 sf; refine (Sub.call (unhide HZ) (unhide N1 _)).mono ?_; rintro r _ ⟨rfl, z2, rfl⟩) | (go_at_call_of 25 df; refine (Sub.call (unhide HZ) (unhide N2 _)).mono ?_; rintro r _ ⟨rfl, z2, rfl⟩) | (go_at_call 27; refine (Sub.call (unhide HZ) (unhide PL _)).mono ?_; rintro r _ ⟨rfl, z2, rfl⟩) | (go_at_call 26; refine (Sub.call (unhide HZ) (unhide NM _)).mono ?_; rintro r _ ⟨rfl, z2, rfl⟩) | (go_at_call 29; refine (Sub.call (unhide HZ) (unhide NS _)).mono ?_; rintro r _ ⟨rfl, z2, rfl⟩) | (go_at_call 24; refine (Sub.call (unhide HZ) (unhide IN _)).mono ?_; rintro r _ ⟨rfl, z2, rfl⟩))
                go_ret
                exact ⟨rfl, unhide HB _⟩
              have h138f : (ll == 1) = false := beq_eq_false_iff_ne.2 h138
              have h138g : ((ll : Int) == 1) = false := beq_eq_false_iff_ne.2 (by omega)
              have V : lnV 2 s 0 true true 0 ll true pl nms ins = false := by simp [lnV, eqE, eqE1, *]
              rw [V]
              clear V
              have E0 := xc 0 (.int .i64 2) rfl
              have E1 := xc 1 (.string s) rfl
              have E2 := xc 2 (.int .i64 0) rfl
              have E3 := xc 3 (.int .i64 sf) rfl
              have E4 := xc 4 (.int .i64 sr) rfl
              have E5 := xc 5 (.int .i64 sk) rfl
              have E6 := xc 6 (.int .i64 sn) rfl
              have E7 := xc 7 (.string ss) rfl
              have E8 := xc 8 (.slice b1 sl c1) rfl
              have E9 := xc 9 (.int .i64 df) rfl
              have E10 := xc 10 (.int .i64 dr) rfl
              have E11 := xc 11 (.int .i64 dk) rfl
              have E12 := xc 12 (.int .i64 dn) rfl
              have E13 := xc 13 (.string ds) rfl
              have E14 := xc 14 (.slice b2 dl c2) rfl
              have E15 := xc 15 (.int .i64 0) rfl
              have E16 := xc 16 (.slice b3 ll c3) rfl
              clear xc
              go_enter Tryz.func11, Tryz.ntmps11
              go_wp2_with (first | (go_at_call 28; refine (in_any _ _ _ _).mono ?_; rintro e w' ⟨rfl, hw'⟩; rw [hw']; clear hw' w') | (go_at_call_of 25 sf; refine (Sub.call (unhide HZ) (unhide N1 _)).mono ?_; rintro r _ ⟨rfl, z2, rfl⟩) | (go_at_call_of 25 df; refine (Sub.call (unhide HZ) (unhide N2 _)).mono ?_; rintro r _ ⟨rfl, z2, rfl⟩) | (go_at_call 27; refine (Sub.call (unhide HZ) (unhide PL _)).mono ?_; rintro r _ ⟨rfl, z2, rfl⟩) | (go_at_call 26; refine (Sub.call (unhide HZ) (unhide NM _)).mono ?_; rintro r _ ⟨rfl, z2, rfl⟩) | (go_at_call 29; refine (Sub.call (unhide HZ) (unhide NS _)).mono ?_; rintro r _ ⟨rfl, z2, rfl⟩) | (go_at_call 24; refine (Sub.call (unhide HZ) (unhide IN _)).mono ?_; rintro r _ ⟨rfl, z2, rfl⟩))
              go_ret
              exact ⟨rfl, unhide HB _⟩
            have h137f : (n == 0) = false := beq_eq_false_iff_ne.2 h137
            have V : lnV 2 s 0 true true n ll true pl nms ins = false := by simp [lnV, eqE, eqE1, *]
            rw [V]
            clear V
            have E0 := xc 0 (.int .i64 2) rfl
            have E1 := xc 1 (.string s) rfl
            have E2 := xc 2 (.int .i64 0) rfl
            have E3 := xc 3 (.int .i64 sf) rfl
            have E4 := xc 4 (.int .i64 sr) rfl
            have E5 := xc 5 (.int .i64 sk) rfl
            have E6 := xc 6 (.int .i64 sn) rfl
            have E7 := xc 7 (.string ss) rfl
            have E8 := xc 8 (.slice b1 sl c1) rfl
            have E9 := xc 9 (.int .i64 df) rfl
            have E10 := xc 10 (.int .i64 dr) rfl
            have E11 := xc 11 (.int .i64 dk) rfl
            have E12 := xc 12 (.int .i64 dn) rfl
            have E13 := xc 13 (.string ds) rfl
            have E14 := xc 14 (.slice b2 dl c2) rfl
            have E15 := xc 15 (.int .i64 n) rfl
            have E16 := xc 16 (.slice b3 ll c3) rfl
            clear xc
            go_enter Tryz.func11, Tryz.ntmps11
            go_wp2_with (first | (go_at_call 28; refine (in_any _ _ _ _).mono ?_; rintro e w' ⟨rfl, hw'⟩; rw [hw']; clear hw' w') | (go_at_call_of 25 sf; refine (Sub.call (unhide HZ) (unhide N1 _)).mono ?_; rintro r _ ⟨rfl, z2, rfl⟩) | (go_at_call_of 25 df; refine (Sub.call (unhide HZ) (unhide N2 _)).mono ?_; rintro r _ ⟨rfl, z2, rfl⟩) | (go_at_call 27; refine (Sub.call (unhide HZ) (unhide PL _)).mono ?_; rintro r _ ⟨rfl, z2, rfl⟩) | (go_at_call 26; refine (Sub.call (unhide HZ) (unhide NM _)).mono ?_; rintro r _ ⟨rfl, z2, rfl⟩) | (go_at_call 29; refine (Sub.call (unhide HZ) (unhide NS _)).mono ?_; rintro r _ ⟨rfl, z2, rfl⟩) | (go_at_call 24; refine (Sub.call (unhide HZ) (unhide IN _)).mono ?_; rintro r _ ⟨rfl, z2, rfl⟩))
            go_ret
            exact ⟨rfl, unhide HB _⟩
          | false =>
            have V : lnV 2 s 0 true true n ll false pl nms ins = false := by simp [lnV, eqE, eqE1, *]
            rw [V]
            clear V
            have E0 := xc 0 (.int .i64 2) rfl
            have E1 := xc 1 (.string s) rfl
            have E2 := xc 2 (.int .i64 0) rfl
            have E3 := xc 3 (.int .i64 sf) rfl
            have E4 := xc 4 (.int .i64 sr) rfl
            have E5 := xc 5 (.int .i64 sk) rfl
            have E6 := xc 6 (.int .i64 sn) rfl
            have E7 := xc 7 (.string ss) rfl
            have E8 := xc 8 (.slice b1 sl c1) rfl
            have E9 := xc 9 (.int .i64 df) rfl
            have E10 := xc 10 (.int .i64 dr) rfl
            have E11 := xc 11 (.int .i64 dk) rfl
            have E12 := xc 12 (.int .i64 dn) rfl
            have E13 := xc 13 (.string ds) rfl
            have E14 := xc 14 (.slice b2 dl c2) rfl
            have E15 := xc 15 (.int .i64 n) rfl
            have E16 := xc 16 (.slice b3 ll c3) rfl
            clear xc
            go_enter Tryz.func11, Tryz.ntmps11
            go_wp2_with (first | (go_at_call 28; refine (in_any _ _ _ _).mono ?_; rintro e w' ⟨rfl, hw'⟩; rw [hw']; clear hw' w') | (go_at_call_of 25 sf; refine (Sub.call (unhide HZ) (unhide N1 _)).mono ?_; rintro r _ ⟨rfl, z2, rfl⟩) | (go_at_call_of 25 df; refine (Sub.call (unhide HZ) (unhide N2 _)).mono ?_; rintro r _ ⟨rfl, z2, rfl⟩) | (go_at_call 27; refine (Sub.call (unhide HZ) (unhide PL _)).mono ?_; rintro r _ ⟨rfl, z2, rfl⟩) | (go_at_call 26; refine (Sub.call (unhide HZ) (unhide NM _)).mono ?_; rintro r _ ⟨rfl, z2, rfl⟩) | (go_at_call 29; refine (Sub.call (unhide HZ) (unhide NS _)).mono ?_; rintro r _ ⟨rfl, z2, rfl⟩) | (go_at_call 24; refine (Sub.call (unhide HZ) (unhide IN _)).mono ?_; rintro r _ ⟨rfl, z2, rfl⟩))
            go_ret
            exact ⟨rfl, unhide HB _⟩
        have h135f : (k == 2) = false := beq_eq_false_iff_ne.2 h135
        by_cases h147 : k = 4
        · subst h147
          by_cases h148 : s = ⟨#[]⟩
          · subst h148
            by_cases h149 : n = 0
            · subst h149
              cases h150 : inB ll 1 6 with
              | true =>
                have V : lnV 4 ⟨#[]⟩ 0 true true 0 ll nm pl nms ins = pl := by simp [lnV, eqE, eqE1, *]
                rw [V]
                clear V
                have E0 := xc 0 (.int .i64 4) rfl
                have E1 := xc 1 (.string ⟨#[]⟩) rfl
                have E2 := xc 2 (.int .i64 0) rfl
                have E3 := xc 3 (.int .i64 sf) rfl
                have E4 := xc 4 (.int .i64 sr) rfl
                have E5 := xc 5 (.int .i64 sk) rfl
                have E6 := xc 6 (.int .i64 sn) rfl
                have E7 := xc 7 (.string ss) rfl
                have E8 := xc 8 (.slice b1 sl c1) rfl
                have E9 := xc 9 (.int .i64 df) rfl
                have E10 := xc 10 (.int .i64 dr) rfl
                have E11 := xc 11 (.int .i64 dk) rfl
                have E12 := xc 12 (.int .i64 dn) rfl
                have E13 := xc 13 (.string ds) rfl
                have E14 := xc 14 (.slice b2 dl c2) rfl
                have E15 := xc 15 (.int .i64 0) rfl
                have E16 := xc 16 (.slice b3 ll c3) rfl
                clear xc
                go_enter Tryz.func11, Tryz.ntmps11
                go_wp2_with (first | (go_at_call 28; refine (in_any _ _ _ _).mono ?_; rintro e w' ⟨rfl, hw'⟩; rw [hw']; clear hw' w') | (go_at_call_of 25 sf; refine (Sub.call (unhide HZ) (unhide N1 _)).mono ?_; rintro r _ ⟨rfl, z2, rfl⟩) | (go_at_call_of 25 df; refine (Sub.call (unhide HZ) (unhide N2 _)).mono ?_; rintro r _ ⟨rfl, z2, rfl⟩) | (go_at_call 27; refine (Sub.call (unhide HZ) (unhide PL _)).mono ?_; rintro r _ ⟨rfl, z2, rfl⟩) | (go_at_call 26; refine (Sub.call (unhide HZ) (unhide NM _)).mono ?_; rintro r _ ⟨rfl, z2, rfl⟩) | (go_at_call 29; refine (Sub.call (unhide HZ) (unhide NS _)).mono ?_; rintro r _ ⟨rfl, z2, rfl⟩) | (go_at_call 24; refine (Sub.call (unhide HZ) (unhide IN _)).mono ?_; rintro r _ ⟨rfl, z2, rfl⟩))
                go_ret
                exact ⟨rfl, unhide HB _⟩
              | false =>
                have V : lnV 4 ⟨#[]⟩ 0 true true 0 ll nm pl nms ins = false := by simp [lnV, eqE, eqE1, *]
                rw [V]
                clear V
                have E0 := xc 0 (.int .i64 4) rfl
                have E1 := xc 1 (.string ⟨#[]⟩) rfl
                have E2 := xc 2 (.int .i64 0) rfl
                have E3 := xc 3 (.int .i64 sf) rfl
                have E4 := xc 4 (.int .i64 sr) rfl
                have E5 := xc 5 (.int .i64 sk) rfl
                have E6 := xc 6 (.int .i64 sn) rfl
                have E7 := xc 7 (.string ss) rfl
                have E8 := xc 8 (.slice b1 sl c1) rfl
                have E9 := xc 9 (.int .i64 df) rfl
                have E10 := xc 10 (.int .i64 dr) rfl
                have E11 := xc 11 (.int .i64 dk) rfl
                have E12 := xc 12 (.int .i64 dn) rfl
                have E13 := xc 13 (.string ds) rfl
                have E14 := xc 14 (.slice b2 dl c2) rfl
                have E15 := xc 15 (.int .i64 0) rfl
                have E16 := xc 16 (.slice b3 ll c3) rfl
                clear xc
                go_enter Tryz.func11, Tryz.ntmps11
                go_wp2_with (first | (go_at_call 28; refine (in_any _ _ _ _).mono ?_; rintro e w' ⟨rfl, hw'⟩; rw [hw']; clear hw' w') | (go_at_call_of 25 sf; refine (Sub.call (unhide HZ) (unhide N1 _)).mono ?_; rintro r _ ⟨rfl, z2, rfl⟩) | (go_at_call_of 25 df; refine (Sub.call (unhide HZ) (unhide N2 _)).mono ?_; rintro r _ ⟨rfl, z2, rfl⟩) | (go_at_call 27; refine (Sub.call (unhide HZ) (unhide PL _)).mono ?_; rintro r _ ⟨rfl, z2, rfl⟩) | (go_at_call 26; refine (Sub.call (unhide HZ) (unhide NM _)).mono ?_; rintro r _ ⟨rfl, z2, rfl⟩) | (go_at_call 29; refine (Sub.call (unhide HZ) (unhide NS _)).mono ?_; rintro r _ ⟨rfl, z2, rfl⟩) | (go_at_call 24; refine (Sub.call (unhide HZ) (unhide IN _)).mono ?_; rintro r _ ⟨rfl, z2, rfl⟩))
                go_ret
                exact ⟨rfl, unhide HB _⟩
            have h149f : (n == 0) = false := beq_eq_false_iff_ne.2 h149
            have V : lnV 4 ⟨#[]⟩ 0 true true n ll nm pl nms ins = false := by simp [lnV, eqE, eqE1, *]
            rw [V]
            clear V
            have E0 := xc 0 (.int .i64 4) rfl
            have E1 := xc 1 (.string ⟨#[]⟩) rfl
            have E2 := xc 2 (.int .i64 0) rfl
            have E3 := xc 3 (.int .i64 sf) rfl
            have E4 := xc 4 (.int .i64 sr) rfl
            have E5 := xc 5 (.int .i64 sk) rfl
            have E6 := xc 6 (.int .i64 sn) rfl
            have E7 := xc 7 (.string ss) rfl
            have E8 := xc 8 (.slice b1 sl c1) rfl
            have E9 := xc 9 (.int .i64 df) rfl
            have E10 := xc 10 (.int .i64 dr) rfl
            have E11 := xc 11 (.int .i64 dk) rfl
            have E12 := xc 12 (.int .i64 dn) rfl
            have E13 := xc 13 (.string ds) rfl
            have E14 := xc 14 (.slice b2 dl c2) rfl
            have E15 := xc 15 (.int .i64 n) rfl
            have E16 := xc 16 (.slice b3 ll c3) rfl
            clear xc
            go_enter Tryz.func11, Tryz.ntmps11
            go_wp2_with (first | (go_at_call 28; refine (in_any _ _ _ _).mono ?_; rintro e w' ⟨rfl, hw'⟩; rw [hw']; clear hw' w') | (go_at_call_of 25 sf; refine (Sub.call (unhide HZ) (unhide N1 _)).mono ?_; rintro r _ ⟨rfl, z2, rfl⟩) | (go_at_call_of 25 df; refine (Sub.call (unhide HZ) (unhide N2 _)).mono ?_; rintro r _ ⟨rfl, z2, rfl⟩) | (go_at_call 27; refine (Sub.call (unhide HZ) (unhide PL _)).mono ?_; rintro r _ ⟨rfl, z2, rfl⟩) | (go_at_call 26; refine (Sub.call (unhide HZ) (unhide NM _)).mono ?_; rintro r _ ⟨rfl, z2, rfl⟩) | (go_at_call 29; refine (Sub.call (unhide HZ) (unhide NS _)).mono ?_; rintro r _ ⟨rfl, z2, rfl⟩) | (go_at_call 24; refine (Sub.call (unhide HZ) (unhide IN _)).mono ?_; rintro r _ ⟨rfl, z2, rfl⟩))
            go_ret
            exact ⟨rfl, unhide HB _⟩
          obtain ⟨h148a, h148b⟩ := emp_E s h148
          have V : lnV 4 s 0 true true n ll nm pl nms ins = false := by simp [lnV, eqE, eqE1, *]
          rw [V]
          clear V
          have E0 := xc 0 (.int .i64 4) rfl
          have E1 := xc 1 (.string s) rfl
          have E2 := xc 2 (.int .i64 0) rfl
          have E3 := xc 3 (.int .i64 sf) rfl
          have E4 := xc 4 (.int .i64 sr) rfl
          have E5 := xc 5 (.int .i64 sk) rfl
          have E6 := xc 6 (.int .i64 sn) rfl
          have E7 := xc 7 (.string ss) rfl
          have E8 := xc 8 (.slice b1 sl c1) rfl
          have E9 := xc 9 (.int .i64 df) rfl
          have E10 := xc 10 (.int .i64 dr) rfl
          have E11 := xc 11 (.int .i64 dk) rfl
          have E12 := xc 12 (.int .i64 dn) rfl
          have E13 := xc 13 (.string ds) rfl
          have E14 := xc 14 (.slice b2 dl c2) rfl
          have E15 := xc 15 (.int .i64 n) rfl
          have E16 := xc 16 (.slice b3 ll c3) rfl
          clear xc
          go_enter Tryz.func11, Tryz.ntmps11
          go_wp2_with (first | (go_at_call 28; refine (in_any _ _ _ _).mono ?_; rintro e w' ⟨rfl, hw'⟩; rw [hw']; clear hw' w') | (go_at_call_of 25 sf; refine (Sub.call (unhide HZ) (unhide N1 _)).mono ?_; rintro r _ ⟨rfl, z2, rfl⟩) | (go_at_call_of 25 df; refine (Sub.call (unhide HZ) (unhide N2 _)).mono ?_; rintro r _ ⟨rfl, z2, rfl⟩) | (go_at_call 27; refine (Sub.call (unhide HZ) (unhide PL _)).mono ?_; rintro r _ ⟨rfl, z2, rfl⟩) | (go_at_call 26; refine (Sub.call (unhide HZ) (unhide NM _)).mono ?_; rintro r _ ⟨rfl, z2, rfl⟩) | (go_at_call 29; refine (Sub.call (unhide HZ) (unhide NS _)).mono ?_; rintro r _ ⟨rfl, z2, rfl⟩) | (go_at_call 24; refine (Sub.call (unhide HZ) (unhide IN _)).mono ?_; rintro r _ ⟨rfl, z2, rfl⟩))
          go_ret
          exact ⟨rfl, unhide HB _⟩
        have h147f : (k == 4) = false := beq_eq_false_iff_ne.2 h147
        by_cases h159 : k = 5
        · subst h159
          by_cases h160 : s = ⟨#[]⟩
          · subst h160
            by_cases h161 : n = 0
            · subst h161
              by_cases h162 : ll = 1
              · subst h162
                have V : lnV 5 ⟨#[]⟩ 0 true true 0 1 nm pl nms ins = pl := by simp [lnV, eqE, eqE1, *]
                rw [V]
                clear V
                have E0 := xc 0 (.int .i64 5) rfl
                have E1 := xc 1 (.string ⟨#[]⟩) rfl
                have E2 := xc 2 (.int .i64 0) rfl
                have E3 := xc 3 (.int .i64 sf) rfl
                have E4 := xc 4 (.int .i64 sr) rfl
                have E5 := xc 5 (.int .i64 sk) rfl
                have E6 := xc 6 (.int .i64 sn) rfl
                have E7 := xc 7 (.string ss) rfl
                have E8 := xc 8 (.slice b1 sl c1) rfl
                have E9 := xc 9 (.int .i64 df) rfl
                have E10 := xc 10 (.int .i64 dr) rfl
                have E11 := xc 11 (.int .i64 dk) rfl
                have E12 := xc 12 (.int .i64 dn) rfl
                have E13 := xc 13 (.string ds) rfl
                have E14 := xc 14 (.slice b2 dl c2) rfl
                have E15 := xc 15 (.int .i64 0) rfl
                have E16 := xc 16 (.slice b3 1 c3) rfl
                clear xc
                go_enter Tryz.func11, Tryz.ntmps11
                go_wp2_with (first | (go_at_call 28; refine (in_any _ _ _ _).mono ?_; rintro e w' ⟨rfl, hw'⟩; rw [hw']; clear hw' w') | (go_at_call_of 25 sf; refine (Sub.call (unhide HZ) (unhide N1 _)).mono ?_; rintro r _ ⟨rfl, z2, rfl⟩) | (go_at_call_of 25 df; refine (Sub.call (unhide HZ) (unhide N2 _)).mono ?_; rintro r _ ⟨rfl, z2, rfl⟩) | (go_at_call 27; refine (Sub.call (unhide HZ) (unhide PL _)).mono ?_; rintro r _ ⟨rfl, z2, rfl⟩) | (go_at_call 26; refine (Sub.call (unhide HZ) (unhide NM _)).mono ?_; rintro r _ ⟨rfl, z2, rfl⟩) | (go_at_call 29; refine (Sub.call (unhide HZ) (unhide NS _)).mono ?_; rintro r _ ⟨rfl, z2, rfl⟩) | (go_at_call 24; refine (Sub.call (unhide HZ) (unhide IN _)).mono ?_; rintro r _ ⟨rfl, z2, rfl⟩))
                go_ret
                exact ⟨rfl, unhide HB _⟩
              have h162f : (ll == 1) = false := beq_eq_false_iff_ne.2 h162
              have h162g : ((ll : Int) == 1) = false := beq_eq_false_iff_ne.2 (by omega)
              have V : lnV 5 ⟨#[]⟩ 0 true true 0 ll nm pl nms ins = false := by simp [lnV, eqE, eqE1, *]
              rw [V]
              clear V
              have E0 := xc 0 (.int .i64 5) rfl
              have E1 := xc 1 (.string ⟨#[]⟩) rfl
              have E2 := xc 2 (.int .i64 0) rfl
              have E3 := xc 3 (.int .i64 sf) rfl
              have E4 := xc 4 (.int .i64 sr) rfl
              have E5 := xc 5 (.int .i64 sk) rfl
              have E6 := xc 6 (.int .i64 sn) rfl
              have E7 := xc 7 (.string ss) rfl
              have E8 := xc 8 (.slice b1 sl c1) rfl
              have E9 := xc 9 (.int .i64 df) rfl
              have E10 := xc 10 (.int .i64 dr) rfl
              have E11 := xc 11 (.int .i64 dk) rfl
              have E12 := xc 12 (.int .i64 dn) rfl
              have E13 := xc 13 (.string ds) rfl
              have E14 := xc 14 (.slice b2 dl c2) rfl
              have E15 := xc 15 (.int .i64 0) rfl
              have E16 := xc 16 (.slice b3 ll c3) rfl
              clear xc
              go_enter Tryz.func11, Tryz.ntmps11
              go_wp2_with (first | (go_at_call 28; refine (in_any _ _ _ _).mono ?_; rintro e w' ⟨rfl, hw'⟩; rw [hw']; clear hw' w') | (go_at_call_of 25 sf; refine (Sub.call (unhide HZ) (unhide N1 _)).mono ?_; rintro r _ ⟨rfl, z2, rfl⟩) | (go_at_call_of 25 df; refine (Sub.call (unhide HZ) (unhide N2 _)).mono ?_; rintro r _ ⟨rfl, z2, rfl⟩) | (go_at_call 27; refine (Sub.call (unhide HZ) (unhide PL _)).mono ?_; rintro r _ ⟨rfl, z2, rfl⟩) | (go_at_call 26; refine (Sub.call (unhide HZ) (unhide NM _)).mono ?_; rintro r _ ⟨rfl, z2, rfl⟩) | (go_at_call 29; refine (Sub.call (unhide HZ) (unhide NS _)).mono ?_; rintro r _ ⟨rfl, z2, rfl⟩) | (go_at_call 24; refine (Sub.call (unhide HZ) (unhide IN _)).mono ?_; rintro r _ ⟨rfl, z2, rfl⟩))
              go_ret
              exact ⟨rfl, unhide HB _⟩
            have h161f : (n == 0) = false := beq_eq_false_iff_ne.2 h161
            have V : lnV 5 ⟨#[]⟩ 0 true true n ll nm pl nms ins = false := by simp [lnV, eqE, eqE1, *]
            rw [V]
            clear V
            have E0 := xc 0 (.int .i64 5) rfl
            have E1 := xc 1 (.string ⟨#[]⟩) rfl
            have E2 := xc 2 (.int .i64 0) rfl
            have E3 := xc 3 (.int .i64 sf) rfl
            have E4 := xc 4 (.int .i64 sr) rfl
            have E5 := xc 5 (.int .i64 sk) rfl
            have E6 := xc 6 (.int .i64 sn) rfl
            have E7 := xc 7 (.string ss) rfl
            have E8 := xc 8 (.slice b1 sl c1) rfl
            have E9 := xc 9 (.int .i64 df) rfl
            have E10 := xc 10 (.int .i64 dr) rfl
            have E11 := xc 11 (.int .i64 dk) rfl
            have E12 := xc 12 (.int .i64 dn) rfl
            have E13 := xc 13 (.string ds) rfl
            have E14 := xc 14 (.slice b2 dl c2) rfl
            have E15 := xc 15 (.int .i64 n) rfl
            have E16 := xc 16 (.slice b3 ll c3) rfl
            clear xc
            go_enter Tryz.func11, Tryz.ntmps11
            go_wp2_with (first | (go_at_call 28; refine (in_any _ _ _ _).mono ?_; rintro e w' ⟨rfl, hw'⟩; rw [hw']; clear hw' w') | (go_at_call_of 25 sf; refine (Sub.call (unhide HZ) (unhide N1 _)).mono ?_; rintro r _ ⟨rfl, z2, rfl⟩) | (go_at_call_of 25 df; refine (Sub.call (unhide HZ) (unhide N2 _)).mono ?_; rintro r _ ⟨rfl, z2, rfl⟩) | (go_at_call 27; refine (Sub.call (unhide HZ) (unhide PL _)).mono ?_; rintro r _ ⟨rfl, z2, rfl⟩) | (go_at_call 26; refine (Sub.call (unhide HZ) (unhide NM _)).mono ?_; rintro r _ ⟨rfl, z2, rfl⟩) | (go_at_call 29; refine (Sub.call (unhide HZ) (unhide NS _)).mono ?_; rintro r _ ⟨rfl, z2, rfl⟩) | (go_at_call 24; refine (Sub.call (unhide HZ) (unhide IN _)).mono ?_; rintro r _ ⟨rfl, z2, rfl⟩))
            go_ret
            exact ⟨rfl, unhide HB _⟩
          obtain ⟨h160a, h160b⟩ := emp_E s h160
          have V : lnV 5 s 0 true true n ll nm pl nms ins = false := by simp [lnV, eqE, eqE1, *]
          rw [V]
          clear V
          have E0 := xc 0 (.int .i64 5) rfl
          have E1 := xc 1 (.string s) rfl
          have E2 := xc 2 (.int .i64 0) rfl
          have E3 := xc 3 (.int .i64 sf) rfl
          have E4 := xc 4 (.int .i64 sr) rfl
          have E5 := xc 5 (.int .i64 sk) rfl
          have E6 := xc 6 (.int .i64 sn) rfl
          have E7 := xc 7 (.string ss) rfl
          have E8 := xc 8 (.slice b1 sl c1) rfl
          have E9 := xc 9 (.int .i64 df) rfl
          have E10 := xc 10 (.int .i64 dr) rfl
          have E11 := xc 11 (.int .i64 dk) rfl
          have E12 := xc 12 (.int .i64 dn) rfl
          have E13 := xc 13 (.string ds) rfl
          have E14 := xc 14 (.slice b2 dl c2) rfl
          have E15 := xc 15 (.int .i64 n) rfl
          have E16 := xc 16 (.slice b3 ll c3) rfl
          clear xc
          go_enter Tryz.func11, Tryz.ntmps11
          go_wp2_with (first | (go_at_call 28; refine (in_any _ _ _ _).mono ?_; rintro e w' ⟨rfl, hw'⟩; rw [hw']; clear hw' w') | (go_at_call_of 25 sf; refine (Sub.call (unhide HZ) (unhide N1 _)).mono ?_; rintro r _ ⟨rfl, z2, rfl⟩) | (go_at_call_of 25 df; refine (Sub.call (unhide HZ) (unhide N2 _)).mono ?_; rintro r _ ⟨rfl, z2, rfl⟩) | (go_at_call 27; refine (Sub.call (unhide HZ) (unhide PL _)).mono ?_; rintro r _ ⟨rfl, z2, rfl⟩) | (go_at_call 26; refine (Sub.call (unhide HZ) (unhide NM _)).mono ?_; rintro r _ ⟨rfl, z2, rfl⟩) | (go_at_call 29; refine (Sub.call (unhide HZ) (unhide NS _)).mono ?_; rintro r _ ⟨rfl, z2, rfl⟩) | (go_at_call 24; refine (Sub.call (unhide HZ) (unhide IN _)).mono ?_; rintro r _ ⟨rfl, z2, rfl⟩))
          go_ret
          exact ⟨rfl, unhide HB _⟩
        have h159f : (k == 5) = false := beq_eq_false_iff_ne.2 h159
        by_cases h171 : k = 6
        · subst h171
          cases nm with
          | true =>
            cases h173 : inB n 0 1 with
            | true =>
              by_cases h174 : ll = 0
              · subst h174
                have V : lnV 6 s 0 true true n 0 true pl nms ins = true := by simp [lnV, eqE, eqE1, *]
                rw [V]
                clear V
                have E0 := xc 0 (.int .i64 6) rfl
                have E1 := xc 1 (.string s) rfl
                have E2 := xc 2 (.int .i64 0) rfl
                have E3 := xc 3 (.int .i64 sf) rfl
                have E4 := xc 4 (.int .i64 sr) rfl
                have E5 := xc 5 (.int .i64 sk) rfl
                have E6 := xc 6 (.int .i64 sn) rfl
                have E7 := xc 7 (.string ss) rfl
                have E8 := xc 8 (.slice b1 sl c1) rfl
                have E9 := xc 9 (.int .i64 df) rfl
                have E10 := xc 10 (.int .i64 dr) rfl
                have E11 := xc 11 (.int .i64 dk) rfl
                have E12 := xc 12 (.int .i64 dn) rfl
                have E13 := xc 13 (.string ds) rfl
                have E14 := xc 14 (.slice b2 dl c2) rfl
                have E15 := xc 15 (.int .i64 n) rfl
                have E16 := xc 16 (.slice b3 0 c3) rfl
                clear xc
                go_enter Tryz.func11, Tryz.ntmps11
                go_wp2_with (first | (go_at_call 28; refine (in_any _ _ _ _).mono ?_; rintro e w' ⟨rfl, hw'⟩; rw [hw']; clear hw' w') | (go_at_call_of 25 sf; refine (Sub.call (unhide HZ) (unhide N1 _)).mono ?_; rintro r _ ⟨rfl, z2, rfl⟩) | (go_at_call_of 25 df; refine (Sub.call (unhide HZ) (unhide N2 _)).mono ?_; rintro r _ ⟨rfl, z2, rfl⟩) | (go_at_call 27; refine (Sub.call (unhide HZ) (unhide PL _)).mono ?_; rintro r _ ⟨rfl, z2, rfl⟩) | (go_at_call 26; refine (Sub.call (unhide HZ) (unhide NM _)).mono ?_; rintro r _ ⟨rfl, z2, rfl⟩) | (go_at_call 29; refine (Sub.call (unhide HZ) (unhide NS _)).mono ?_; rintro r _ ⟨rfl, z2, rfl⟩) | (go_at_call 24; refine (Sub.call (unhide HZ) (unhide IN _)).mono ?_; rintro r _ ⟨rfl, z2, rfl⟩))
                go_ret
                exact ⟨rfl, unhide HB _⟩
              have h174f : (ll == 0) = false := beq_eq_false_iff_ne.2 h174
              have h174g : ((ll : Int) == 0) = false := beq_eq_false_iff_ne.2 (by omega)
              have V : lnV 6 s 0 true true n ll true pl nms ins = false := by simp [lnV, eqE, eqE1, *]
              rw [V]
              clear V
              have E0 := xc 0 (.int .i64 6) rfl
              have E1 := xc 1 (.string s) rfl
              have E2 := xc 2 (.int .i64 0) rfl
              have E3 := xc 3 (.int .i64 sf) rfl
              have E4 := xc 4 (.int .i64 sr) rfl
              have E5 := xc 5 (.int .i64 sk) rfl
              have E6 := xc 6 (.int .i64 sn) rfl
              have E7 := xc 7 (.string ss) rfl
              have E8 := xc 8 (.slice b1 sl c1) rfl
              have E9 := xc 9 (.int .i64 df) rfl
              have E10 := xc 10 (.int .i64 dr) rfl
              have E11 := xc 11 (.int .i64 dk) rfl
              have E12 := xc 12 (.int .i64 dn) rfl
              have E13 := xc 13 (.string ds) rfl
              have E14 := xc 14 (.slice b2 dl c2) rfl
              have E15 := xc 15 (.int .i64 n) rfl
              have E16 := xc 16 (.slice b3 ll c3) rfl
              clear xc
              go_enter Tryz.func11, Tryz.ntmps11
              go_wp2_with (first | (go_at_call 28; refine (in_any _ _ _ _).mono ?_; rintro e w' ⟨rfl, hw'⟩; rw [hw']; clear hw' w') | (go_at_call_of 25 sf; refine (Sub.call (unhide HZ) (unhide N1 _)).mono ?_; rintro r _ ⟨rfl, z2, rfl⟩) | (go_at_call_of 25 df; refine (Sub.call (unhide HZ) (unhide N2 _)).mono ?_; rintro r _ ⟨rfl, z2, rfl⟩) | (go_at_call 27; refine (Sub.call (unhide HZ) (unhide PL _)).mono ?_; rintro r _ ⟨rfl, z2, rfl⟩) | (go_at_call 26; refine (Sub.call (unhide HZ) (unhide NM _)).mono ?_; rintro r _ ⟨rfl, z2, rfl⟩) | (go_at_call 29; refine (Sub.call (unhide HZ) (unhide NS _)).mono ?_; rintro r _ ⟨rfl, z2, rfl⟩) | (go_at_call 24; refine (Sub.call (unhide HZ) (unhide IN _)).mono ?_; rintro r _ ⟨rfl, z2, rfl⟩))
              go_ret
              exact ⟨rfl, unhide HB _⟩
            | false =>
              have V : lnV 6 s 0 true true n ll true pl nms ins = false := by simp [lnV, eqE, eqE1, *]
              rw [V]
              clear V
              have E0 := xc 0 (.int .i64 6) rfl
              have E1 := xc 1 (.string s) rfl
              have E2 := xc 2 (.int .i64 0) rfl
              have E3 := xc 3 (.int .i64 sf) rfl
              have E4 := xc 4 (.int .i64 sr) rfl
              have E5 := xc 5 (.int .i64 sk) rfl
              have E6 := xc 6 (.int .i64 sn) rfl
              have E7 := xc 7 (.string ss) rfl
              have E8 := xc 8 (.slice b1 sl c1) rfl
              have E9 := xc 9 (.int .i64 df) rfl
              have E10 := xc 10 (.int .i64 dr) rfl
              have E11 := xc 11 (.int .i64 dk) rfl
              have E12 := xc 12 (.int .i64 dn) rfl
              have E13 := xc 13 (.string ds) rfl
              have E14 := xc 14 (.slice b2 dl c2) rfl
              have E15 := xc 15 (.int .i64 n) rfl
              have E16 := xc 16 (.slice b3 ll c3) rfl
              clear xc
              go_enter Tryz.func11, Tryz.ntmps11
              go_wp2_with (first | (go_at_call 28; refine (in_any _ _ _ _).mono ?_; rintro e w' ⟨rfl, hw'⟩; rw [hw']; clear hw' w') | (go_at_call_of 25 sf; refine (Sub.call (unhide HZ) (unhide N1 _)).mono ?_; rintro r _ ⟨rfl, z2, rfl⟩) | (go_at_call_of 25 df; refine (Sub.call (unhide HZ) (unhide N2 _)).mono ?_; rintro r _ ⟨rfl, z2, rfl⟩) | (go_at_call 27; refine (Sub.call (unhide HZ) (unhide PL _)).mono ?_; rintro r _ ⟨rfl, z2, rfl⟩) | (go_at_call 26; refine (Sub.call (unhide HZ) (unhide NM _)).mono ?_; rintro r _ ⟨rfl, z2, rfl⟩) | (go_at_call 29; refine (Sub.call (unhide HZ) (unhide NS _)).mono ?_; rintro r _ ⟨rfl, z2, rfl⟩) | (go_at_call 24; refine (Sub.call (unhide HZ) (unhide IN _)).mono ?_; rintro r _ ⟨rfl, z2, rfl⟩))
              go_ret
              exact ⟨rfl, unhide HB _⟩
          | false =>
            have V : lnV 6 s 0 true true n ll false pl nms ins = false := by simp [lnV, eqE, eqE1, *]
            rw [V]
            clear V
            have E0 := xc 0 (.int .i64 6) rfl
            have E1 := xc 1 (.string s) rfl
            have E2 := xc 2 (.int .i64 0) rfl
            have E3 := xc 3 (.int .i64 sf) rfl
            have E4 := xc 4 (.int .i64 sr) rfl
            have E5 := xc 5 (.int .i64 sk) rfl
            have E6 := xc 6 (.int .i64 sn) rfl
            have E7 := xc 7 (.string ss) rfl
            have E8 := xc 8 (.slice b1 sl c1) rfl
            have E9 := xc 9 (.int .i64 df) rfl
            have E10 := xc 10 (.int .i64 dr) rfl
            have E11 := xc 11 (.int .i64 dk) rfl
            have E12 := xc 12 (.int .i64 dn) rfl
            have E13 := xc 13 (.string ds) rfl
            have E14 := xc 14 (.slice b2 dl c2) rfl
            have E15 := xc 15 (.int .i64 n) rfl
            have E16 := xc 16 (.slice b3 ll c3) rfl
            clear xc
            go_enter Tryz.func11, Tryz.ntmps11
            go_wp2_with (first | (go_at_call 28; refine (in_any _ _ _ _).mono ?_; rintro e w' ⟨rfl, hw'⟩; rw [hw']; clear hw' w') | (go_at_call_of 25 sf; refine (Sub.call (unhide HZ) (unhide N1 _)).mono ?_; rintro r _ ⟨rfl, z2, rfl⟩) | (go_at_call_of 25 df; refine (Sub.call (unhide HZ) (unhide N2 _)).mono ?_; rintro r _ ⟨rfl, z2, rfl⟩) | (go_at_call 27; refine (Sub.call (unhide HZ) (unhide PL _)).mono ?_; rintro r _ ⟨rfl, z2, rfl⟩) | (go_at_call 26; refine (Sub.call (unhide HZ) (unhide NM _)).mono ?_; rintro r _ ⟨rfl, z2, rfl⟩) | (go_at_call 29; refine (Sub.call (unhide HZ) (unhide NS _)).mono ?_; rintro r _ ⟨rfl, z2, rfl⟩) | (go_at_call 24; refine (Sub.call (unhide HZ) (unhide IN _)).mono ?_; rintro r _ ⟨rfl, z2, rfl⟩))
            go_ret
            exact ⟨rfl, unhide HB _⟩
        have h171f : (k == 6) = false := beq_eq_false_iff_ne.2 h171
        by_cases h183 : k = 7
        · subst h183
          by_cases h184 : s = ⟨#[]⟩
          · subst h184
            by_cases h185 : n = 0
            · subst h185
              have V : lnV 7 ⟨#[]⟩ 0 true true 0 ll nm pl nms ins = nms := by simp [lnV, eqE, eqE1, *]
              rw [V]
              clear V
              have E0 := xc 0 (.int .i64 7) rfl
              have E1 := xc 1 (.string ⟨#[]⟩) rfl
              have E2 := xc 2 (.int .i64 0) rfl
              have E3 := xc 3 (.int .i64 sf) rfl
              have E4 := xc 4 (.int .i64 sr) rfl
              have E5 := xc 5 (.int .i64 sk) rfl
              have E6 := xc 6 (.int .i64 sn) rfl
              have E7 := xc 7 (.string ss) rfl
              have E8 := xc 8 (.slice b1 sl c1) rfl
              have E9 := xc 9 (.int .i64 df) rfl
              have E10 := xc 10 (.int .i64 dr) rfl
              have E11 := xc 11 (.int .i64 dk) rfl
              have E12 := xc 12 (.int .i64 dn) rfl
              have E13 := xc 13 (.string ds) rfl
              have E14 := xc 14 (.slice b2 dl c2) rfl
              have E15 := xc 15 (.int .i64 0) rfl
              have E16 := xc 16 (.slice b3 ll c3) rfl
              clear xc
              go_enter Tryz.func11, Tryz.ntmps11
              go_wp2_with (first | (go_at_call 28; refine (in_any _ _ _ _).mono ?_; rintro e w' ⟨rfl, hw'⟩; rw [hw']; clear hw' w') | (go_at_call_of 25 sf; refine (Sub.call (unhide HZ) (unhide N1 _)).mono ?_; rintro r _ ⟨rfl, z2, rfl⟩) | (go_at_call_of 25 df; refine (Sub.call (unhide HZ) (unhide N2 _)).mono ?_; rintro r _ ⟨rfl, z2, rfl⟩) | (go_at_call 27; refine (Sub.call (unhide HZ) (unhide PL _)).mono ?_; rintro r _ ⟨rfl, z2, rfl⟩) | (go_at_call 26; refine (Sub.call (unhide HZ) (unhide NM _)).mono ?_; rintro r _ ⟨rfl, z2, rfl⟩) | (go_at_call 29; refine (Sub.call (unhide HZ) (unhide NS _)).mono ?_; rintro r _ ⟨rfl, z2, rfl⟩) | (go_at_call 24; refine (Sub.call (unhide HZ) (unhide IN _)).mono ?_; rintro r _ ⟨rfl, z2, rfl⟩))
              go_ret
              exact ⟨rfl, unhide HB _⟩
            have h185f : (n == 0) = false := beq_eq_false_iff_ne.2 h185
            have V : lnV 7 ⟨#[]⟩ 0 true true n ll nm pl nms ins = false := by simp [lnV, eqE, eqE1, *]
            rw [V]
            clear V
            have E0 := xc 0 (.int .i64 7) rfl
            have E1 := xc 1 (.string ⟨#[]⟩) rfl
            have E2 := xc 2 (.int .i64 0) rfl
            have E3 := xc 3 (.int .i64 sf) rfl
            have E4 := xc 4 (.int .i64 sr) rfl
            have E5 := xc 5 (.int .i64 sk) rfl
            have E6 := xc 6 (.int .i64 sn) rfl
            have E7 := xc 7 (.string ss) rfl
            have E8 := xc 8 (.slice b1 sl c1) rfl
            have E9 := xc 9 (.int .i64 df) rfl
            have E10 := xc 10 (.int .i64 dr) rfl
            have E11 := xc 11 (.int .i64 dk) rfl
            have E12 := xc 12 (.int .i64 dn) rfl
            have E13 := xc 13 (.string ds) rfl
            have E14 := xc 14 (.slice b2 dl c2) rfl
            have E15 := xc 15 (.int .i64 n) rfl
            have E16 := xc 16 (.slice b3 ll c3) rfl
            clear xc
            go_enter Tryz.func11, Tryz.ntmps11
            go_wp2_with (first | (go_at_call 28; refine (in_any _ _ _ _).mono ?_; rintro e w' ⟨rfl, hw'⟩; rw [hw']; clear hw' w') | (go_at_call_of 25 sf; refine (Sub.call (unhide HZ) (unhide N1 _)).mono ?_; rintro r _ ⟨rfl, z2, rfl⟩) | (go_at_call_of 25 df; refine (Sub.call (unhide HZ) (unhide N2 _)).mono ?_; rintro r _ ⟨rfl, z2, rfl⟩) | (go_at_call 27; refine (Sub.call (unhide HZ) (unhide PL _)).mono ?_; rintro r _ ⟨rfl, z2, rfl⟩) | (go_at_call 26; refine (Sub.call (unhide HZ) (unhide NM _)).mono ?_; rintro r _ ⟨rfl, z2, rfl⟩) | (go_at_call 29; refine (Sub.call (unhide HZ) (unhide NS _)).mono ?_; rintro r _ ⟨rfl, z2, rfl⟩) | (go_at_call 24; refine (Sub.call (unhide HZ) (unhide IN _)).mono ?_; rintro r _ ⟨rfl, z2, rfl⟩))
            go_ret
            exact ⟨rfl, unhide HB _⟩
          obtain ⟨h184a, h184b⟩ := emp_E s h184
          have V : lnV 7 s 0 true true n ll nm pl nms ins = false := by simp [lnV, eqE, eqE1, *]
          rw [V]
          clear V
          have E0 := xc 0 (.int .i64 7) rfl
          have E1 := xc 1 (.string s) rfl
          have E2 := xc 2 (.int .i64 0) rfl
          have E3 := xc 3 (.int .i64 sf) rfl
          have E4 := xc 4 (.int .i64 sr) rfl
          have E5 := xc 5 (.int .i64 sk) rfl
          have E6 := xc 6 (.int .i64 sn) rfl
          have E7 := xc 7 (.string ss) rfl
          have E8 := xc 8 (.slice b1 sl c1) rfl
          have E9 := xc 9 (.int .i64 df) rfl
          have E10 := xc 10 (.int .i64 dr) rfl
          have E11 := xc 11 (.int .i64 dk) rfl
          have E12 := xc 12 (.int .i64 dn) rfl
          have E13 := xc 13 (.string ds) rfl
          have E14 := xc 14 (.slice b2 dl c2) rfl
          have E15 := xc 15 (.int .i64 n) rfl
          have E16 := xc 16 (.slice b3 ll c3) rfl
          clear xc
          go_enter Tryz.func11, Tryz.ntmps11
          go_wp2_with (first | (go_at_call 28; refine (in_any _ _ _ _).mono ?_; rintro e w' ⟨rfl, hw'⟩; rw [hw']; clear hw' w') | (go_at_call_of 25 sf; refine (Sub.call (unhide HZ) (unhide N1 _)).mono ?_; rintro r _ ⟨rfl, z2, rfl⟩) | (go_at_call_of 25 df; refine (Sub.call (unhide HZ) (unhide N2 _)).mono ?_; rintro r _ ⟨rfl, z2, rfl⟩) | (go_at_call 27; refine (Sub.call (unhide HZ) (unhide PL _)).mono ?_; rintro r _ ⟨rfl, z2, rfl⟩) | (go_at_call 26; refine (Sub.call (unhide HZ) (unhide NM _)).mono ?_; rintro r _ ⟨rfl, z2, rfl⟩) | (go_at_call 29; refine (Sub.call (unhide HZ) (unhide NS _)).mono ?_; rintro r _ ⟨rfl, z2, rfl⟩) | (go_at_call 24; refine (Sub.call (unhide HZ) (unhide IN _)).mono ?_; rintro r _ ⟨rfl, z2, rfl⟩))
          go_ret
          exact ⟨rfl, unhide HB _⟩
        have h183f : (k == 7) = false := beq_eq_false_iff_ne.2 h183
        have V : lnV k s 0 true true n ll nm pl nms ins = false := by simp [lnV, eqE, eqE1, *]
        rw [V]
        clear V
        have E0 := xc 0 (.int .i64 k) rfl
        have E1 := xc 1 (.string s) rfl
        have E2 := xc 2 (.int .i64 0) rfl
        have E3 := xc 3 (.int .i64 sf) rfl
        have E4 := xc 4 (.int .i64 sr) rfl
        have E5 := xc 5 (.int .i64 sk) rfl
        have E6 := xc 6 (.int .i64 sn) rfl
        have E7 := xc 7 (.string ss) rfl
        have E8 := xc 8 (.slice b1 sl c1) rfl
        have E9 := xc 9 (.int .i64 df) rfl
        have E10 := xc 10 (.int .i64 dr) rfl
        have E11 := xc 11 (.int .i64 dk) rfl
        have E12 := xc 12 (.int .i64 dn) rfl
        have E13 := xc 13 (.string ds) rfl
        have E14 := xc 14 (.slice b2 dl c2) rfl
        have E15 := xc 15 (.int .i64 n) rfl
        have E16 := xc 16 (.slice b3 ll c3) rfl
        clear xc
        go_enter Tryz.func11, Tryz.ntmps11
        go_wp2_with (first | (go_at_call 28; refine (in_any _ _ _ _).mono ?_; rintro e w' ⟨rfl, hw'⟩; rw [hw']; clear hw' w') | (go_at_call_of 25 sf; refine (Sub.call (unhide HZ) (unhide N1 _)).mono ?_; rintro r _ ⟨rfl, z2, rfl⟩) | (go_at_call_of 25 df; refine (Sub.call (unhide HZ) (unhide N2 _)).mono ?_; rintro r _ ⟨rfl, z2, rfl⟩) | (go_at_call 27; refine (Sub.call (unhide HZ) (unhide PL _)).mono ?_; rintro r _ ⟨rfl, z2, rfl⟩) | (go_at_call 26; refine (Sub.call (unhide HZ) (unhide NM _)).mono ?_; rintro r _ ⟨rfl, z2, rfl⟩) | (go_at_call 29; refine (Sub.call (unhide HZ) (unhide NS _)).mono ?_; rintro r _ ⟨rfl, z2, rfl⟩) | (go_at_call 24; refine (Sub.call (unhide HZ) (unhide IN _)).mono ?_; rintro r _ ⟨rfl, z2, rfl⟩))
        go_ret
        exact ⟨rfl, unhide HB _⟩
      | false =>
        have V : lnV k s 0 true false n ll nm pl nms ins = false := by simp [lnV, eqE, eqE1, *]
        rw [V]
        clear V
        have E0 := xc 0 (.int .i64 k) rfl
        have E1 := xc 1 (.string s) rfl
        have E2 := xc 2 (.int .i64 0) rfl
        have E3 := xc 3 (.int .i64 sf) rfl
        have E4 := xc 4 (.int .i64 sr) rfl
        have E5 := xc 5 (.int .i64 sk) rfl
        have E6 := xc 6 (.int .i64 sn) rfl
        have E7 := xc 7 (.string ss) rfl
        have E8 := xc 8 (.slice b1 sl c1) rfl
        have E9 := xc 9 (.int .i64 df) rfl
        have E10 := xc 10 (.int .i64 dr) rfl
        have E11 := xc 11 (.int .i64 dk) rfl
        have E12 := xc 12 (.int .i64 dn) rfl
        have E13 := xc 13 (.string ds) rfl
        have E14 := xc 14 (.slice b2 dl c2) rfl
        have E15 := xc 15 (.int .i64 n) rfl
        have E16 := xc 16 (.slice b3 ll c3) rfl
        clear xc
        go_enter Tryz.func11, Tryz.ntmps11
        go_wp2_with (first | (go_at_call 28; refine (in_any _ _ _ _).mono ?_; rintro e w' ⟨rfl, hw'⟩; rw [hw']; clear hw' w') | (go_at_call_of 25 sf; refine (Sub.call (unhide HZ) (unhide N1 _)).mono ?_; rintro r _ ⟨rfl, z2, rfl⟩) | (go_at_call_of 25 df; refine (Sub.call (unhide HZ) (unhide N2 _)).mono ?_; rintro r _ ⟨rfl, z2, rfl⟩) | (go_at_call 27; refine (Sub.call (unhide HZ) (unhide PL _)).mono ?_; rintro r _ ⟨rfl, z2, rfl⟩) | (go_at_call 26; refine (Sub.call (unhide HZ) (unhide NM _)).mono ?_; rintro r _ ⟨rfl, z2, rfl⟩) | (go_at_call 29; refine (Sub.call (unhide HZ) (unhide NS _)).mono ?_; rintro r _ ⟨rfl, z2, rfl⟩) | (go_at_call 24; refine (Sub.call (unhide HZ) (unhide IN _)).mono ?_; rintro r _ ⟨rfl, z2, rfl⟩))
        go_ret
        exact ⟨rfl, unhide HB _⟩
    | false =>
      have V : lnV k s 0 false n2 n ll nm pl nms ins = false := by simp [lnV, eqE, eqE1, *]
      rw [V]
      clear V
      have E0 := xc 0 (.int .i64 k) rfl
      have E1 := xc 1 (.string s) rfl
      have E2 := xc 2 (.int .i64 0) rfl
      have E3 := xc 3 (.int .i64 sf) rfl
      have E4 := xc 4 (.int .i64 sr) rfl
      have E5 := xc 5 (.int .i64 sk) rfl
      have E6 := xc 6 (.int .i64 sn) rfl
      have E7 := xc 7 (.string ss) rfl
      have E8 := xc 8 (.slice b1 sl c1) rfl
      have E9 := xc 9 (.int .i64 df) rfl
      have E10 := xc 10 (.int .i64 dr) rfl
      have E11 := xc 11 (.int .i64 dk) rfl
      have E12 := xc 12 (.int .i64 dn) rfl
      have E13 := xc 13 (.string ds) rfl
      have E14 := xc 14 (.slice b2 dl c2) rfl
      have E15 := xc 15 (.int .i64 n) rfl
      have E16 := xc 16 (.slice b3 ll c3) rfl
      clear xc
      go_enter Tryz.func11, Tryz.ntmps11
      go_wp2_with (first | (go_at_call 28; refine (in_any _ _ _ _).mono ?_; rintro e w' ⟨rfl, hw'⟩; rw [hw']; clear hw' w') | (go_at_call_of 25 sf; refine (Sub.call (unhide HZ) (unhide N1 _)).mono ?_; rintro r _ ⟨rfl, z2, rfl⟩) | (go_at_call_of 25 df; refine (Sub.call (unhide HZ) (unhide N2 _)).mono ?_; rintro r _ ⟨rfl, z2, rfl⟩) | (go_at_call 27; refine (Sub.call (unhide HZ) (unhide PL _)).mono ?_; rintro r _ ⟨rfl, z2, rfl⟩) | (go_at_call 26; refine (Sub.call (unhide HZ) (unhide NM _)).mono ?_; rintro r _ ⟨rfl, z2, rfl⟩) | (go_at_call 29; refine (Sub.call (unhide HZ) (unhide NS _)).mono ?_; rintro r _ ⟨rfl, z2, rfl⟩) | (go_at_call 24; refine (Sub.call (unhide HZ) (unhide IN _)).mono ?_; rintro r _ ⟨rfl, z2, rfl⟩))
      go_ret
      exact ⟨rfl, unhide HB _⟩
  have h96f : (op == 0) = false := beq_eq_false_iff_ne.2 h96
  have V : lnV k s op n1 n2 n ll nm pl nms ins = false := by simp [lnV, eqE, eqE1, *]
  rw [V]
  clear V
  have E0 := xc 0 (.int .i64 k) rfl
  have E1 := xc 1 (.string s) rfl
  have E2 := xc 2 (.int .i64 op) rfl
  have E3 := xc 3 (.int .i64 sf) rfl
  have E4 := xc 4 (.int .i64 sr) rfl
  have E5 := xc 5 (.int .i64 sk) rfl
  have E6 := xc 6 (.int .i64 sn) rfl
  have E7 := xc 7 (.string ss) rfl
  have E8 := xc 8 (.slice b1 sl c1) rfl
  have E9 := xc 9 (.int .i64 df) rfl
  have E10 := xc 10 (.int .i64 dr) rfl
  have E11 := xc 11 (.int .i64 dk) rfl
  have E12 := xc 12 (.int .i64 dn) rfl
  have E13 := xc 13 (.string ds) rfl
  have E14 := xc 14 (.slice b2 dl c2) rfl
  have E15 := xc 15 (.int .i64 n) rfl
  have E16 := xc 16 (.slice b3 ll c3) rfl
  clear xc
  go_enter Tryz.func11, Tryz.ntmps11
  go_wp2_with (first | (go_at_call 28; refine (in_any _ _ _ _).mono ?_; rintro e w' ⟨rfl, hw'⟩; rw [hw']; clear hw' w') | (go_at_call_of 25 sf; refine (Sub.call (unhide HZ) (unhide N1 _)).mono ?_; rintro r _ ⟨rfl, z2, rfl⟩) | (go_at_call_of 25 df; refine (Sub.call (unhide HZ) (unhide N2 _)).mono ?_; rintro r _ ⟨rfl, z2, rfl⟩) | (go_at_call 27; refine (Sub.call (unhide HZ) (unhide PL _)).mono ?_; rintro r _ ⟨rfl, z2, rfl⟩) | (go_at_call 26; refine (Sub.call (unhide HZ) (unhide NM _)).mono ?_; rintro r _ ⟨rfl, z2, rfl⟩) | (go_at_call 29; refine (Sub.call (unhide HZ) (unhide NS _)).mono ?_; rintro r _ ⟨rfl, z2, rfl⟩) | (go_at_call 24; refine (Sub.call (unhide HZ) (unhide IN _)).mono ?_; rintro r _ ⟨rfl, z2, rfl⟩))
  go_ret
  exact ⟨rfl, unhide HB _⟩
end Go.Proofs.YtmhcbehplhfgfaaGreatDoor

namespace Go.Proofs.YtmhcbehplhfgfaaGreatDoor
open Go.ChangeShapes Go.WideShapes Go.ChangeAt Go.RowKit
set_option linter.unusedVariables false
set_option maxRecDepth 8000
theorem infoT : (Tryz.prog.info? 59).map (fun i => (i.zero, i.size, i.bytes)) = some (some (.agg #[.int .i64 0, .int .i64 0, .string ⟨#[]⟩]), 3, 32) := by kernel_rfl
end Go.Proofs.YtmhcbehplhfgfaaGreatDoor

namespace Go.Proofs.YtmhcbehplhfgfaaGreatDoor
open Go.ChangeShapes Go.WideShapes Go.ChangeAt Go.RowKit
set_option linter.unusedVariables false
set_option maxRecDepth 8000
theorem info5b : (Tryz.prog.info? 5).map (fun i => (i.zero, i.size, i.bytes)) = some (some (.int .u8 0), 1, 1) := by kernel_rfl
theorem size48 : (Tryz.prog.info? 92).map (·.size) = some 2 := by kernel_rfl
theorem lies48 : liesAt Tryz.prog Tryz.prog.depth 92 (2 / Tryz.prog.cellsOf 92) 0 92 1 = true := by kernel_rfl
theorem cells5 : Tryz.prog.cellsOf 5 = 1 := by kernel_rfl
/-- A builder of the call's own in block b that holds the bytes bs. -/
def Bd (w : World) (B b : Nat) (bs : List UInt8) : Prop := Lib.IsBuilder 92 5 B b (cellsB bs) w
/-- Blocks that are no bytes and no builder stay. -/
def Kp (w w' : World) : Prop := ∀ (g : Nat) (c : Array Value) (t : TypeId) (fz : Nat × Nat), w.heap[g]? = some (Obj.cells c t fz) → t ≠ 5 → t ≠ 92 → w'.heap[g]? = w.heap[g]?
theorem Kp.refl (w : World) : Kp w w := fun _ _ _ _ _ _ _ => rfl
theorem Kp.trans {a b c : World} (h : Kp a b) (k : Kp b c) : Kp a c := fun g x t fz e h1 h2 => (k g x t fz ((h g x t fz e h1 h2).trans e) h1 h2).trans (h g x t fz e h1 h2)
theorem Kp.set {w : World} {b j : Nat} {c : Array Value} {fz : Nat × Nat} (hb : w.heap[b]? = some (.cells c 92 fz)) (u : Value) : Kp w (w.setCell ⟨b, j, none⟩ u) := fun g x t fz' e h1 h2 =>
  Below.heap_setCell _ _ _ _ (fun (hg : g = b) => by subst hg; rw [hb] at e; cases e; exact h2 rfl)
theorem Kp.grown {w w1 w2 : World} {B n : Nat} {v : Value} {L : List Value} (h1 : Below w.heap.size w w1) (hown : w.ownsRow B 5 1 v n L) (hg : w1.grownBy w2 v.ownBlock) : Kp w w2 := fun g x t fz e h2 h3 => by
  have hl := (Array.getElem?_eq_some_iff.1 e).1
  refine (hg.block g (Nat.lt_of_lt_of_le hl h1.size) (fun he => ?_)).trans (h1.block g hl)
  obtain ⟨_, ⟨rfl, _⟩ | ⟨g', cap, cur, rfl, _, hh, _⟩⟩ := hown
  · simp [Value.ownBlock] at he
  · simp [Value.ownBlock] at he
    subst he
    rw [hh] at e
    cases e
    exact h2 rfl
set_option maxHeartbeats 1000000 in
set_option maxRecDepth 100000 in
theorem copyC (B b : Nat) (bs : List UInt8) (w : World) (h : Bd w B b bs) :
    Calls Tryz.prog 68 #[.pointer (some ⟨b, 0, none⟩)] w fun e w' => e = .returned (.tuple #[]) ∧ Lib.BuilderAt 92 5 B b (.pointer (some ⟨b, 0, none⟩)) (cellsB bs) w' ∧ Below B w w' ∧ Kp w w' := by
  obtain ⟨j, hj, hjs⟩ := Option.map_eq_some_iff.1 size48
  rcases h with h | h
  · have c0 := h.cell0
    have f0 := h.frozen0
    have E1 := Lib.run_to_unsafe (P := Tryz.prog) w ⟨b, 0, none⟩ Tryz.underlying89 Tryz.underlying146 hj (by rw [hjs]; decide) h.shape (Nat.zero_lt_succ 1)
    have E3 := Lib.run_from_unsafe (P := Tryz.prog) w ⟨b, 0, none⟩ Tryz.underlying146 Tryz.underlying89 hj h.shape lies48
    have E2 : (callFunc 84 #[.pointer (some ⟨b, 0, none⟩)]).run Tryz.prog w = .ok (.value (.pointer (some ⟨b, 0, none⟩))) w := by
      rw [run_callFunc_extern Tryz.func84 (by kernel_rfl) (by kernel_rfl) (by kernel_rfl) (e := Extern.AbiNoEscape.same) (by kernel_rfl), Lib.run_noEscape]
      rfl
    have HU := hide (h.used (.pointer (some ⟨b, 0, none⟩)))
    have HB := hide ((Below.refl B w).setCell (p := ⟨b, 0, none⟩) h.1 (.pointer (some ⟨b, 0, none⟩)))
    have HKP := hide (show Kp w (w.setCell ⟨b, 0, none⟩ (.pointer (some ⟨b, 0, none⟩))) from by obtain ⟨_, v, hbk, _⟩ := h; exact Kp.set hbk _)
    clear h
    go_enter Tryz.func68, Tryz.ntmps68
    go_wp2
    go_end0
    exact ⟨rfl, unhide HU, unhide HB, unhide HKP⟩
  · have c0 := h.cell0
    have E1 := Lib.run_neq_ptr_same (P := Tryz.prog) w ⟨b, 0, none⟩ Tryz.underlying89 hj
    have HU := hide h
    clear h
    go_enter Tryz.func68, Tryz.ntmps68
    go_wp2
    go_end0
    exact ⟨rfl, unhide HU, Below.refl _ _, Kp.refl _⟩
theorem ownsRow_slice {w : World} {B : Nat} {v : Value} {n : Nat} {L : List Value} (h : w.ownsRow B 5 1 v n L) : ∃ a cap, v = .slice a n cap := by
  obtain ⟨_, ⟨h1, h2⟩ | ⟨g, cap, cur, e, _⟩⟩ := h
  · exact ⟨none, 0, by rw [h1, h2]⟩
  · exact ⟨_, cap, e⟩
theorem ownsRow_other {w : World} {B b : Nat} {v : Value} {n : Nat} {L : List Value} {c : Array Value} {t : TypeId} {fz : Nat × Nat} (h : w.ownsRow B 5 1 v n L) (hb : w.heap[b]? = some (.cells c t fz)) (ht : t ≠ 5) : v.ownBlock ≠ some b := by
  intro e
  obtain ⟨_, ⟨rfl, _⟩ | ⟨g, cap, cur, rfl, _, hh, _⟩⟩ := h
  · simp [Value.ownBlock] at e
  · simp [Value.ownBlock] at e
    subst e
    rw [hh] at hb
    cases hb
    exact ht rfl
theorem ownsRow_keep {w w' : World} {B : Nat} {v : Value} {n : Nat} {L : List Value} (h : w.ownsRow B 5 1 v n L) (hs : ∀ g, v.ownBlock = some g → w'.heap[g]? = w.heap[g]?) : w'.ownsRow B 5 1 v n L := by
  obtain ⟨h1, h2 | ⟨g, cap, cur, rfl, hg, hh, r⟩⟩ := h
  · exact ⟨h1, .inl h2⟩
  · exact ⟨h1, .inr ⟨g, cap, cur, rfl, hg, (hs g rfl).trans hh, r⟩⟩
set_option maxHeartbeats 1000000 in
set_option maxRecDepth 100000 in
theorem writeB (B b : Nat) (bs : List UInt8) (c : UInt8) (w : World) (h : Bd w B b bs) (hlen : bs.length ≤ 16777216) (hBw : B ≤ w.heap.size) :
    Calls Tryz.prog 46 #[.pointer (some ⟨b, 0, none⟩), .int .u8 (c.toNat : Int)] w fun e w' => e = .returned .nilIface ∧ Bd w' B b (bs ++ [c]) ∧ Below B w w' ∧ Kp w w' := by
  obtain ⟨i0, hi, hz0, hz1, hz2⟩ := info_parts info5b
  obtain ⟨y, hy⟩ : ∃ y : Int, (c.toNat : Int) = y := ⟨_, rfl⟩
  have HC := hide (show cellsB bs ++ [Value.int .u8 y] = cellsB (bs ++ [c]) by rw [← hy]; simp [cellsB])
  rw [hy]
  clear hy
  go_enter Tryz.func46, Tryz.ntmps46
  go_wp2_with fail
  refine (copyC B b bs w h).mono ?_
  rintro e w1 ⟨rfl, ⟨hB, v, hbk, hown, hne⟩, hb1, hkp1⟩
  have KP1 := hide hkp1
  rw [cellsB_length] at hown
  have c1 : w1.cell? ⟨b, 1, none⟩ = some v := by rw [Lib.cell_of_heap hbk]; rfl
  have s1 := hb1.size
  have HO := hide hown
  have HK := hide hbk
  have HB1 := hide hb1
  have HNE := hide hne
  have hbl : b < w1.heap.size := (Array.getElem?_eq_some_iff.1 hbk).1
  have K1 := hide (cell_one_new w1 (Value.int .u8 y) 5)
  clear h hown hbk hb1 hne hkp1
  go_wp2_with (at_builtin; go_must (refine wpList_append_own _ rfl (.tmp 11) (.tmp 13) 90 rfl B 5 i0 (.int .u8 0) 1 1 Tryz.underlying90 hi hz0 hz1 hz2 rfl (by decide) v bs.length (cellsB bs) rfl ((unhide HO).alloc _) ⟨w1.heap.size, 0, none⟩ 1 1 [Value.int .u8 y] rfl rfl (unhide K1) (by intro u hu; simp at hu; subst hu; rfl) (by unfold maxLen; omega) (by omega) (by simp; omega) ?_; intro v2 w2 hown2 hgrow2 _; obtain ⟨a2, cp2, hv2⟩ := ownsRow_slice hown2; subst hv2; have hbk2 : w2.heap[b]? = some (.cells #[.pointer (some ⟨b, 0, none⟩), v] 92 (0, 0)) := (hgrow2.block b (by simp; omega) (fun e => (unhide HNE) e.symm)).trans ((((Below.refl w1.heap.size w1).alloc (Nat.le_refl _) (Obj.cells #[Value.int .u8 y] 5)).block b hbl).trans (unhide HK)); have c2 : w2.cell? ⟨b, 1, none⟩ = some v := (by rw [Lib.cell_of_heap hbk2]; rfl); have f2 : w2.frozen? ⟨b, 1, none⟩ = false := (by simp [World.frozen?, hbk2])))
  rw [unhide HC] at hown2
  have hB2 : Below B w w2 := (((unhide HB1).alloc (by omega) _)).grown hgrow2 (by simp; omega) (fun k h => ((unhide HO).lt k h).1)
  go_ret
  refine ⟨rfl, .inr ⟨hB, .slice a2 (bs.length + 1) cp2, ?_, ?_, ?_⟩, hB2.setCell (p := ⟨b, 1, none⟩) hB _, (unhide KP1).trans ((Kp.grown ((Below.refl w1.heap.size w1).alloc (Nat.le_refl _) _) (unhide HO) hgrow2).trans (Kp.set hbk2 _))⟩
  · simp [World.setCell, Array.getElem?_modify, hbk2]
  · rw [cellsB_length, List.length_append]
    exact ownsRow_keep hown2 fun g hg => Below.heap_setCell _ _ _ _ (fun e => ownsRow_other hown2 hbk2 (by decide) (by rw [hg, e]))
  · exact ownsRow_other hown2 hbk2 (by decide)
set_option maxHeartbeats 1000000 in
set_option maxRecDepth 100000 in
theorem strB (B b : Nat) (bs : List UInt8) (w : World) (h : Bd w B b bs) (h0 : bs ≠ []) :
    Calls Tryz.prog 49 #[.pointer (some ⟨b, 0, none⟩)] w fun e w' => e = .returned (.string (strOf bs)) ∧ Below B w w' := by
  obtain ⟨p, hB, v, hbk, hown, hne⟩ : ∃ p, Lib.BuilderAt 92 5 B b p (cellsB bs) w := h.elim (fun x => ⟨_, x⟩) (fun x => ⟨_, x⟩)
  rw [cellsB_length] at hown
  have hl0 : bs.length ≠ 0 := by simpa using h0
  have hO : OwnB w B v bs := hown
  obtain ⟨_, ⟨_, hz⟩ | ⟨g, cap, cur, rfl, hbg, hg, hnc, hcm, hcs, htake⟩⟩ := hown
  · exact absurd hz hl0
  unfold maxLen at hcm
  have c1 : w.drew.cell? ⟨b, 1, none⟩ = some (.slice (some ⟨g, 0, none⟩) bs.length cap) := by
    have : w.drew.heap[b]? = some (.cells #[p, .slice (some ⟨g, 0, none⟩) bs.length cap] 92 (0, 0)) := hbk
    rw [Lib.cell_of_heap this]; rfl
  have hSD : (Builtin.unsafeSliceData_ #[90] 127 #[.slice (some ⟨g, 0, none⟩) bs.length cap]).run Tryz.prog w.drew = .ok (.pointer (some ⟨g, 0, none⟩)) w.drew := Lib.run_unsafeSliceData_row _ _ _ _ _ _ (by omega)
  have hUS : (Builtin.unsafeString_ #[127, 3] 9 #[.pointer (some ⟨g, 0, none⟩), .int .i64 bs.length]).run Tryz.prog w.drew = .ok (.string (strOf bs)) (w.drew.freeze ⟨g, 0, none⟩ bs.length) := by
    refine Lib.run_unsafeString_row w.drew 127 3 9 5 Tryz.underlying127 cells5 g cur.size (by have hg' : w.drew.heap[g]? = some (.cells cur 5 (0, 0)) := hg; simp [World.shape?, hg']) bs h0 (by omega) (by omega) ?_
    intro j x hx
    exact rd_cells hO.rd1 j (.int .u8 x.toNat) (by simp [cellsB, hx])
  have HB := hide (Lib.below_freeze (Below.drew (Below.refl B w)) (p := ⟨g, 0, none⟩) hbg bs.length)
  clear hbk hg htake hO h
  go_enter Tryz.func49, Tryz.ntmps49
  go_wp2
  go_region
  all_goals go_wp2
  all_goals go_ret
  all_goals exact ⟨rfl, unhide HB⟩
set_option maxHeartbeats 1000000 in
set_option maxRecDepth 100000 in
theorem writeS (B b : Nat) (bs ts : List UInt8) (w : World) (h : Bd w B b bs) (hlen : bs.length ≤ 16777216) (htl : ts.length ≤ 16777216) (hBw : B ≤ w.heap.size) :
    Calls Tryz.prog 47 #[.pointer (some ⟨b, 0, none⟩), .string (strOf ts)] w fun e w' => (∃ v, e = .returned v) ∧ Bd w' B b (bs ++ ts) ∧ Below B w w' ∧ Kp w w' := by
  obtain ⟨i0, hi, hz0, hz1, hz2⟩ := info_parts info5b
  obtain ⟨s, hs⟩ : ∃ s, s = strOf ts := ⟨_, rfl⟩
  have hz : s.size = ts.length := by rw [hs, strOf_size]
  have HC := hide (show cellsB bs ++ Lib.strCells s = cellsB (bs ++ ts) by rw [cellsB_append, hs]; rfl)
  rw [← hs]
  clear hs
  go_enter Tryz.func47, Tryz.ntmps47
  go_wp2_with fail
  refine (copyC B b bs w h).mono ?_
  rintro e w1 ⟨rfl, ⟨hB, v, hbk, hown, hne⟩, hb1, hkp1⟩
  have KP1 := hide hkp1
  rw [cellsB_length] at hown
  have c1 : w1.cell? ⟨b, 1, none⟩ = some v := by rw [Lib.cell_of_heap hbk]; rfl
  have s1 := hb1.size
  have HO := hide hown
  have HK := hide hbk
  have HB1 := hide hb1
  have HNE := hide hne
  have hbl : b < w1.heap.size := (Array.getElem?_eq_some_iff.1 hbk).1
  clear h hown hbk hb1 hne hkp1
  go_wp2_with (at_builtin; go_must (refine Lib.wpList_append_own_string _ rfl _ _ 90 9 rfl B 5 i0 Tryz.underlying90 Tryz.underlying9 hi hz0 hz1 hz2 v bs.length (cellsB bs) rfl (unhide HO) s rfl (by unfold maxLen; omega) (by omega) (by omega) ?_; intro v2 w2 hown2 hgrow2 _; obtain ⟨a2, cp2, hv2⟩ := ownsRow_slice hown2; subst hv2; have hbk2 : w2.heap[b]? = some (.cells #[.pointer (some ⟨b, 0, none⟩), v] 92 (0, 0)) := (hgrow2.block b hbl (fun e => (unhide HNE) e.symm)).trans (unhide HK); have c2 : w2.cell? ⟨b, 1, none⟩ = some v := (by rw [Lib.cell_of_heap hbk2]; rfl); have f2 : w2.frozen? ⟨b, 1, none⟩ = false := (by simp [World.frozen?, hbk2])))
  rw [unhide HC] at hown2
  have hB2 : Below B w w2 := (unhide HB1).grown hgrow2 (by omega) (fun k h => ((unhide HO).lt k h).1)
  go_ret2
  refine ⟨⟨_, rfl⟩, .inr ⟨hB, .slice a2 (bs.length + s.size) cp2, ?_, ?_, ?_⟩, hB2.setCell (p := ⟨b, 1, none⟩) hB _, (unhide KP1).trans ((Kp.grown (Below.refl _ _) (unhide HO) hgrow2).trans (Kp.set hbk2 _))⟩
  · simp [World.setCell, Array.getElem?_modify, hbk2]
    exact hz.symm
  · rw [cellsB_length, List.length_append, ← hz]
    exact ownsRow_keep hown2 fun g hg => Below.heap_setCell _ _ _ _ (fun e => ownsRow_other hown2 hbk2 (by decide) (by rw [hg, e]))
  · exact ownsRow_other hown2 hbk2 (by decide)
theorem row_ltT {w : World} {g : Nat} {o : Obj} (h : w.heap[g]? = some o) : g < w.heap.size := (Array.getElem?_eq_some_iff.1 h).1
theorem row_latT {w w' : World} {g : Nat} {o : Obj} (h : w.heap[g]? = some o) (hb : Below w.heap.size w w') : w'.heap[g]? = some o := (hb.block g (row_ltT h)).trans h
theorem bd_later {w w' : World} {B b : Nat} {bs : List UInt8} (h : Bd w B b bs) (hb : Below w.heap.size w w') : Bd w' B b bs := by
  have key : ∀ p, Lib.BuilderAt 92 5 B b p (cellsB bs) w → Lib.BuilderAt 92 5 B b p (cellsB bs) w' := fun p ⟨h1, v, h2, h3, h4⟩ =>
    ⟨h1, v, row_latT h2 hb, ownsRow_keep h3 fun g hg => hb.block g ((h3.lt g hg).2), h4⟩
  exact h.elim (fun x => .inl (key _ x)) (fun x => .inr (key _ x))
theorem bd_new (w : World) (B : Nat) (hB : B ≤ w.heap.size) : Bd (w.alloc (.cells #[.pointer none, .slice none 0 0] 92)) B w.heap.size [] :=
  .inl ⟨hB, .slice none 0 0, heap_alloc_new w _, ⟨rfl, .inl ⟨rfl, rfl⟩⟩, by simp [Value.ownBlock]⟩
set_option maxHeartbeats 1000000 in
set_option maxRecDepth 100000 in
theorem strB0 (B b : Nat) (w : World) (h : Bd w B b []) (hBw : B ≤ w.heap.size) :
    Calls Tryz.prog 49 #[.pointer (some ⟨b, 0, none⟩)] w fun e w' => e = .returned (.string (strOf [])) ∧ Below B w w' := by
  obtain ⟨p, hB, v, hbk, hown, hne⟩ : ∃ p, Lib.BuilderAt 92 5 B b p (cellsB []) w := h.elim (fun x => ⟨_, x⟩) (fun x => ⟨_, x⟩)
  have hUS : ∀ q W, (Builtin.unsafeString_ #[127, 3] 9 #[.pointer q, .int .i64 0]).run Tryz.prog W = .ok (.string (strOf [])) W := fun q W => Lib.run_unsafeString_none W 127 3 9 q
  have HB := hide (Below.drew (Below.refl B w))
  obtain ⟨_, ⟨rfl, _⟩ | ⟨g, cap, cur, rfl, hbg, hg, hnc, hcm, hcs, htake⟩⟩ := hown
  · have c1 : w.drew.cell? ⟨b, 1, none⟩ = some (.slice none 0 0) := by
      have : w.drew.heap[b]? = some (.cells #[p, .slice none 0 0] 92 (0, 0)) := hbk
      rw [Lib.cell_of_heap this]; rfl
    have hSD : (Builtin.unsafeSliceData_ #[90] 127 #[.slice none 0 0]).run Tryz.prog w.drew = .ok (.pointer none) w.drew := rfl
    have hUS' := hUS none w.drew
    generalize strOf [] = S0 at *
    clear hbk h hUS
    go_enter Tryz.func49, Tryz.ntmps49
    go_wp2
    go_region
    all_goals go_wp2
    all_goals go_ret
    all_goals exact ⟨rfl, unhide HB⟩
  · have c1 : w.drew.cell? ⟨b, 1, none⟩ = some (.slice (some ⟨g, 0, none⟩) 0 cap) := by
      have : w.drew.heap[b]? = some (.cells #[p, .slice (some ⟨g, 0, none⟩) 0 cap] 92 (0, 0)) := hbk
      rw [Lib.cell_of_heap this]; rfl
    by_cases hc0 : cap = 0
    · subst hc0
      have hSD : (Builtin.unsafeSliceData_ #[90] 127 #[.slice (some ⟨g, 0, none⟩) 0 0]).run Tryz.prog w.drew = .ok (.pointer (some ⟨w.drew.heap.size, 0, none⟩)) (w.drew.alloc (.view ⟨g, 0, none⟩ 5)) := Lib.run_unsafeSliceData_zero w.drew #[22] 127 5 Tryz.underlying127 ⟨g, 0, none⟩ 0 (5, cur.size) (by have hg' : w.drew.heap[g]? = some (.cells cur 5 (0, 0)) := hg; simp [World.shape?, hg'])
      have hUS' := hUS (some ⟨w.heap.size, 0, none⟩) (w.alloc (.view ⟨g, 0, none⟩ 5)).drew
      have c1b : (w.alloc (.view ⟨g, 0, none⟩ 5)).cell? ⟨b, 1, none⟩ = some (.slice (some ⟨g, 0, none⟩) 0 0) := by
        rw [World.cell?_alloc_past _ _ _ (row_ltT hbk)]; exact c1
      have HB2 := hide (((Below.refl B w).alloc hBw (.view ⟨g, 0, none⟩ 5)).drew)
      generalize strOf [] = S0 at *
      clear hbk h hUS hg
      go_enter Tryz.func49, Tryz.ntmps49
      go_wp2
      go_region
      all_goals go_wp2
      all_goals go_ret
      all_goals exact ⟨rfl, unhide HB2⟩
    · have hSD : (Builtin.unsafeSliceData_ #[90] 127 #[.slice (some ⟨g, 0, none⟩) 0 cap]).run Tryz.prog w.drew = .ok (.pointer (some ⟨g, 0, none⟩)) w.drew := Lib.run_unsafeSliceData_row _ _ _ _ _ _ hc0
      have hUS' := hUS (some ⟨g, 0, none⟩) w.drew
      generalize strOf [] = S0 at *
      clear hbk h hUS hg
      go_enter Tryz.func49, Tryz.ntmps49
      go_wp2
      go_region
      all_goals go_wp2
      all_goals go_ret
      all_goals exact ⟨rfl, unhide HB⟩
theorem strAny (B b : Nat) (bs : List UInt8) (w : World) (h : Bd w B b bs) (hBw : B ≤ w.heap.size) :
    Calls Tryz.prog 49 #[.pointer (some ⟨b, 0, none⟩)] w fun e w' => e = .returned (.string (strOf bs)) ∧ Below B w w' := by
  by_cases h0 : bs = []
  · subst h0; exact strB0 B b w h hBw
  · exact strB B b bs w h h0
end Go.Proofs.YtmhcbehplhfgfaaGreatDoor

namespace Go.Proofs.YtmhcbehplhfgfaaGreatDoor
open Go.ChangeShapes Go.WideShapes Go.ChangeAt Go.RowKit
set_option linter.unusedVariables false
set_option maxRecDepth 8000
/-- What stands while the program's LineOf goes on. -/
structure Lo (w wr : World) (bs : List UInt8) : Prop where
  bel : Below w.heap.size w wr
  bd : Bd wr w.heap.size w.heap.size bs
  sz : w.heap.size ≤ wr.heap.size
section
variable {w wr w' : World} {bs cs : List UInt8}
theorem Lo.next (h : Lo w wr bs) (hb : Below w.heap.size wr w') (k : Bd w' w.heap.size w.heap.size cs) : Lo w w' cs := ⟨h.bel.trans hb, k, Nat.le_trans h.sz hb.size⟩
theorem Lo.later (h : Lo w wr bs) (hb : Below wr.heap.size wr w') : Lo w w' bs := h.next (hb.mono h.sz) (bd_later h.bd hb)
end
theorem lo_new (w : World) : Lo w (w.alloc (.cells #[.pointer none, .slice none 0 0] 92)) [] :=
  ⟨below_new w _, bd_new w w.heap.size (Nat.le_refl _), by simp⟩
theorem tri_cells {W : World} {g : Nat} {t : Tk} {ty : TypeId} (h : W.heap[g]? = some (.cells t.cs ty (0, 0))) : W.cell? ⟨g, 0, none⟩ = some (.int .i64 t.k) ∧ W.cell? ⟨g, 1, none⟩ = some (.int .i64 t.n) ∧ W.cell? ⟨g, 2, none⟩ = some (.string t.s) :=
  ⟨Lib.cell_of_heap h 0, Lib.cell_of_heap h 1, Lib.cell_of_heap h 2⟩
set_option maxHeartbeats 2000000 in
theorem lineI_any (a : Option Addr) (len cap : Nat) (ts : List Tk) (w : World) (hl : ts.length = len) (hm : len + szL ts ≤ 1048576) (hr : RdT w a ts) (hg : w.cell? ⟨8, 7, none⟩ = some (.int .u8 3)) : Calls Tryz.prog 20 #[.slice a len cap] w fun e w' => e = .returned (.string (strOf (lineOf ts))) ∧ Below w.heap.size w w' := by
  unfold lineOf
  rw [hl]
  have O0 := hide (lo_new w)
  have gl : 8 < w.heap.size := World.block_lt_of_cell? w _ hg
  have TB := hide (fun wr (h : Below w.heap.size w wr) => (h.cell (p := ⟨8, 7, none⟩) gl).trans hg)
  clear hg gl
  go_enter Tryz.func20, Tryz.ntmps20
  go_wp2
  go_loopw [8] (fun i wr => ∃ k : Nat, k ≤ len ∧ i = .int .i64 k ∧ Lo w wr (lineT ts k)) (fun i _ => len - (intOf i).toNat)
  case atStart => exact ⟨0, Nat.zero_le _, rfl, unhide O0⟩
  case round =>
    clear O0
    obtain ⟨k, hk, rfl, ho⟩ := hrel
    have O1 := hide ho
    by_cases hlt : k < len
    · rcases hr with h0 | ⟨b, off, rfl, hbl, hc⟩
      · rw [h0] at hl; simp at hl; omega
      obtain ⟨c0, c1, c2⟩ := hc k (by omega)
      have d0 : wr.cell? ⟨b, off + k * 3, none⟩ = _ := (ho.bel.cell (p := ⟨b, _, none⟩) hbl).trans c0
      have d1 : wr.cell? ⟨b, off + k * 3 + 1, none⟩ = _ := (ho.bel.cell (p := ⟨b, _, none⟩) hbl).trans c1
      have d2 : wr.cell? ⟨b, off + k * 3 + 2, none⟩ = _ := (ho.bel.cell (p := ⟨b, _, none⟩) hbl).trans c2
      have LB := hide (show (lineT ts k).length ≤ 8388608 by
        have := lineT_len ts k (by omega)
        have := szL_le ts k
        omega)
      have hz3 : (tAt ts k).s.size ≤ 1048576 := by have := szL_at ts k (by omega); omega
      have LT := hide (show lineT ts (k + 1) = lineT ts k ++ (if k = 0 then [] else [32]) ++ tokL (tAt ts k) from rfl)
      have TL := hide (show tokL (tAt ts k) = if (tAt ts k).k = 2 then octD ((tAt ts k).n % 65536).toNat else (tAt ts k).s.data.toList from rfl)
      have O6 := hide (octD_six (tAt ts k).n)
      rw [unhide TL] at LT
      -- the box
      have O2 := hide (ho.later (below_new wr (.cells (tAt ts k).cs 59)))
      have R2 := hide (heap_alloc_new wr (.cells (tAt ts k).cs 59))
      have OC := hide (fun w2 (h : Below w.heap.size w w2) => octI_any (tAt ts k).n w2 (unhide TB w2 h))
      generalize lineT ts k = bs at *
      generalize hts : tAt ts k = t at *
      obtain ⟨kk, nn, ss⟩ := t
      unfold Tk.cs at O2 R2
      simp only at d0 d1 d2 hz3 LT O2 R2 OC O6
      generalize octD (nn % 65536).toNat = ds at *
      clear c0 c1 c2 hc ho TL hts
      by_cases hk0 : k = 0
      · have hg0 : decide (0 < k) = false := decide_eq_false (by omega)
        have LT0 := hide (show lineT ts (k + 1) = bs ++ (if kk = 2 then ds else ss.data.toList) by have := unhide LT; rw [if_pos hk0, List.append_nil] at this; exact this)
        clear hk0 LT
        by_cases hk2 : kk = 2
        · subst hk2
          have LT1 := hide (show lineT ts (k + 1) = bs ++ ds from unhide LT0)
          clear LT0
          have OC1 := hide (unhide OC _ (unhide O2).bel)
          go_wp2_with fail
          refine (unhide OC1).mono ?_
          rintro e w5 ⟨rfl, hb5⟩
          have O5 := hide ((unhide O2).later hb5)
          have WS := hide (writeS w.heap.size w.heap.size bs ds w5 (unhide O5).bd (by have := unhide LB; omega) (by have := unhide O6; omega) (unhide O5).sz)
          clear hb5 OC1
          go_wp2_with fail
          refine (unhide WS).mono ?_
          rintro e w6 ⟨⟨v6, rfl⟩, k6, hb6, _⟩
          have O7 := hide ((unhide O5).next hb6 k6)
          rw [← unhide LT1] at O7
          clear hb6 k6 WS O5
          go_wp2
          go_roundw
          case rel => exact ⟨k + 1, by omega, by go_num, unhide O7⟩
          case measure => simp [intOf]; omega
        · have LT1 := hide (show lineT ts (k + 1) = bs ++ ss.data.toList from (unhide LT0).trans (by rw [if_neg hk2]))
          clear LT0 OC
          have WS := hide (writeS w.heap.size w.heap.size bs ss.data.toList (wr.alloc (.cells #[.int .i64 kk, .int .i64 nn, .string ss] 59)) (unhide O2).bd (by have := unhide LB; omega) (by rw [size_len]; omega) (unhide O2).sz)
          rw [strOf_of] at WS
          go_wp2_with fail
          refine (unhide WS).mono ?_
          rintro e w6 ⟨⟨v6, rfl⟩, k6, hb6, _⟩
          have O7 := hide ((unhide O2).next hb6 k6)
          rw [← unhide LT1] at O7
          clear hb6 k6 WS
          go_wp2
          go_roundw
          case rel => exact ⟨k + 1, by omega, by go_num, unhide O7⟩
          case measure => simp [intOf]; omega
      · have hg0 : (0 : Int) < (k : Int) := by omega
        have LT0 := hide (show lineT ts (k + 1) = (bs ++ [32]) ++ (if kk = 2 then ds else ss.data.toList) by have := unhide LT; rw [if_neg hk0] at this; exact this)
        clear hk0 LT
        have WB := hide (writeB w.heap.size w.heap.size bs 32 (wr.alloc (.cells #[.int .i64 kk, .int .i64 nn, .string ss] 59)) (unhide O2).bd (by have := unhide LB; omega) (unhide O2).sz)
        go_wp2_with fail
        refine (unhide WB).mono ?_
        rintro e w3 ⟨rfl, k3, hb3, kp3⟩
        have R3 := (kp3 _ _ _ _ (unhide R2) (by decide) (by decide)).trans (unhide R2)
        obtain ⟨c0, c1, c2⟩ := tri_cells (t := ⟨kk, nn, ss⟩) R3
        simp only at c0 c1 c2
        have O3 := hide ((unhide O2).next hb3 k3)
        clear hb3 k3 kp3 R3 R2 O2 WB d0 d1 d2
        by_cases hk2 : kk = 2
        · subst hk2
          have LT1 := hide (show lineT ts (k + 1) = (bs ++ [32]) ++ ds from unhide LT0)
          clear LT0
          have OC1 := hide (unhide OC _ (unhide O3).bel)
          go_wp2_with fail
          refine (unhide OC1).mono ?_
          rintro e w5 ⟨rfl, hb5⟩
          have O5 := hide ((unhide O3).later hb5)
          have WS := hide (writeS w.heap.size w.heap.size (bs ++ [32]) ds w5 (unhide O5).bd (by have := unhide LB; rw [List.length_append]; have h1 : [(32 : UInt8)].length = 1 := rfl; omega) (by have := unhide O6; omega) (unhide O5).sz)
          clear hb5 OC1
          go_wp2_with fail
          refine (unhide WS).mono ?_
          rintro e w6 ⟨⟨v6, rfl⟩, k6, hb6, _⟩
          have O7 := hide ((unhide O5).next hb6 k6)
          rw [← unhide LT1] at O7
          clear hb6 k6 WS O5
          go_wp2
          go_roundw
          case rel => exact ⟨k + 1, by omega, by go_num, unhide O7⟩
          case measure => simp [intOf]; omega
        · have LT1 := hide (show lineT ts (k + 1) = (bs ++ [32]) ++ ss.data.toList from (unhide LT0).trans (by rw [if_neg hk2]))
          clear LT0 OC
          have WS := hide (writeS w.heap.size w.heap.size (bs ++ [32]) ss.data.toList w3 (unhide O3).bd (by have := unhide LB; rw [List.length_append]; have h1 : [(32 : UInt8)].length = 1 := rfl; omega) (by rw [size_len]; omega) (unhide O3).sz)
          rw [strOf_of] at WS
          go_wp2_with fail
          refine (unhide WS).mono ?_
          rintro e w6 ⟨⟨v6, rfl⟩, k6, hb6, _⟩
          have O7 := hide ((unhide O3).next hb6 k6)
          rw [← unhide LT1] at O7
          clear hb6 k6 WS
          go_wp2
          go_roundw
          case rel => exact ⟨k + 1, by omega, by go_num, unhide O7⟩
          case measure => simp [intOf]; omega
    · obtain rfl : k = len := by omega
      have SB := hide (strAny w.heap.size w.heap.size (lineT ts k) wr (unhide O1).bd (unhide O1).sz)
      go_wp2_with fail
      refine (unhide SB).mono ?_
      rintro e w4 ⟨rfl, hb4⟩
      have HB := hide ((unhide O1).bel.trans hb4)
      clear hb4 SB
      go_wp2
      go_ret
      exact ⟨rfl, unhide HB⟩
end Go.Proofs.YtmhcbehplhfgfaaGreatDoor

namespace Go.Proofs.YtmhcbehplhfgfaaGreatDoor
open Go.ChangeShapes Go.WideShapes Go.ChangeAt Go.RowKit
set_option linter.unusedVariables false
set_option maxRecDepth 8000
theorem cell_new (W : World) (cs : Array Value) (t : TypeId) : ∀ j u, cs.toList[j]? = some u → (W.alloc (.cells cs t)).cell? ((⟨W.heap.size, 0, none⟩ : Addr).add j) = some u := by
  intro j u hu
  have h : (W.alloc (.cells cs t)).cell? ⟨W.heap.size, j, none⟩ = some u := by rw [World.cell?_alloc_at _ _ _ _ rfl]; simpa using hu
  unfold Addr.add
  by_cases h0 : j = 0
  · subst h0; simpa using h
  · simpa [h0] using h
theorem ownT_empty (w : World) (B : Nat) (hB : B ≤ w.heap.size) : OwnT (w.alloc (Obj.cells #[] 59)) B (.slice (some ⟨w.heap.size, 0, none⟩) 0 0) [] :=
  World.ownsRow_lit w #[] 0 hB (by decide) rfl
theorem ownT_none (w : World) (B : Nat) : OwnT w B (.slice none 0 0) [] := ⟨rfl, .inl ⟨rfl, rfl⟩⟩
theorem ownT_app {w' : World} {B : Nat} {v : Value} {ts : List Tk} {t : Tk} (h : w'.ownsRow B 59 3 v (ts.length + 1) (cellsT ts ++ [.int .i64 t.k, .int .i64 t.n, .string t.s])) : OwnT w' B v (ts ++ [t]) := by
  unfold OwnT
  rw [List.length_append, cellsT_app]
  exact h
theorem newT_one (k n : Int) (x : ByteArray) : ∀ u ∈ [Value.int .i64 k, .int .i64 n, .string x], u.oneCell' = true := by
  intro u hu
  simp only [List.mem_cons, List.not_mem_nil, or_false] at hu
  rcases hu with rfl | rfl | rfl <;> rfl
end Go.Proofs.YtmhcbehplhfgfaaGreatDoor

namespace Go.Proofs.YtmhcbehplhfgfaaGreatDoor
open Go.ChangeShapes Go.WideShapes Go.ChangeAt Go.RowKit
set_option linter.unusedVariables false
set_option linter.unusedSimpArgs false
theorem below_drew {w : World} : Below w.heap.size w w.drew := ⟨rfl, rfl, rfl, Nat.le_refl _, fun _ _ => rfl⟩
theorem row_keep {w w' : World} {g : Nat} {o : Obj} (h : w.heap[g]? = some o) (hb : Below w.heap.size w w') : w'.heap[g]? = some o := (hb.block g (Array.getElem?_eq_some_iff.1 h).1).trans h
/-- A load of a whole row in a guarded place. -/
theorem yields_loadG {P : Program} {ops : Array Oper} {S : World → Prop} {o : Oper} {a : Act} (hw : Region.wanted o (yielded ops a.tmps) = true) (ty : TypeId) (x : Operand) (ho : o.op = .load ty x) (g : Nat) (hx : a.eval x = .pointer (some ⟨g, 0, none⟩)) (t : TypeId) (cs : Array Value) (d : TypeDesc)
    (hS : ∀ w, S w → w.heap[g]? = some (.cells cs t (0, 0))) (hu : P.underlying ty = some d) (hd : (match d with | .struct _ | .array _ _ => true | _ => false) = true) (hi : (P.info? ty).map (·.size) = some cs.size) : YieldsIf P ops S o (.agg cs) a := by
  refine .inl ⟨hw, fun w hw => ?_⟩
  simp only [execOp, ho, hx, Instr.loadAt, Instr.sureAddr, Sem.run_bind, Sem.run_pure, Result.andThen_ok, run_loadVar_row w g t ty cs (0, 0) d (hS w hw) hu hd hi]
end Go.Proofs.YtmhcbehplhfgfaaGreatDoor
