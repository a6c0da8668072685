/- For every text the program's ParseText answers as the model's, every part of every line too (what cannot be read gives up by a panic inside, which is caught inside), and its answer owns its memory, behind another call too: the law FnExactParseText returns true at every argument (where the text is longer than 1048576 it answers true with no call of the program); the tables opWords, regWords, signs, dotWords, formsBehindAt, the library's tables and its two sentinels stand as listed. Conditions: none beside what the card ties. -/
import Derived.Test.YtjnblcgekpgkoaaGreatDoorRows
import Derived.Test.YtjnblcgekpgkoaaGreatDoorTrG
import Derived.Lib.SmallJoins
import Derived.Test.YtjnblcgekpgkoaaGreatDoorTie
import Derived.Test.YtjnblcgekpgkoaaGreatDoorCards
import Derived.SevenTiedAt
import Derived.Lay
import Derived.MakeChecks
import Derived.OpenVars
import Derived.WalkKit
import Derived.ProofKit
import Derived.OpenShut
import Derived.ShutString
import Derived.ChangeOld
import Derived.Below
import Derived.LaidMore
namespace Go.Proofs.YtjnblcgekpgkoaaGreatDoor.fnExactParseText
open Go.ChangeShapes Go.WideShapes Go.ChangeAt Go.RowKit
open Go.ChangeMaps (open_string shut_string)
set_option linter.unusedVariables false
set_option maxRecDepth 8000

set_option maxHeartbeats 16000000 in
theorem walk (s:ByteArray) (hs:s.size≤maxLen) (w:World) (he:TabR w):Calls Tryz.prog 6 #[.string s] w fun e w'=>e = .returned (.bool true)∧Below w.heap.size w w':=by
  clear hs
  by_cases hbig:1048576<s.size
  · go_enter Tryz.func6,Tryz.ntmps6
    go_wp2
    go_ret
    exact ⟨rfl,Below.refl _ _⟩
  have hz:s.size≤1048576:=by omega
  obtain ⟨hl,hc⟩:=ptX_size s
  have P0:=hide (ptS s w hz)
  have PI:=hide (fun wr (h:Below w.heap.size w wr)=>ptI s wr hz (he.later h))
  unfold PtQ at P0
  unfold PtR at PI
  generalize (ptX s).2=N at *
  generalize (ptX s).1=X at *
  have EQ:=hide (fun (ps qs:List La) (va vb:Value) (wr:World) h1 h2=>eqP_same X ps qs va vb wr h1 h2 (fun i hi=>(hc i hi).1) (by omega))
  have MA:=hide (fun (ps:List La) (Fs:List (List Nat)) (v:Value) (B:Nat) (wr:World) h hB=>mkP_any X ps Fs v B wr h hB hl (fun i hi=>(hc i hi).2))
  have HE:=hide (fun (ys:List Ln) (ps:List La) (v:Value) (wr:World) h1 h2 h3=>hdP_any X ys ps v wr h1 h2 h3 hl (fun i hi=>(hc i hi).2))
  have hm1:¬ ((posP X 1 X.length:Nat):Int)<0:=by omega
  clear hc hl he
  generalize ((posP X 1 X.length:Nat):Int)=mm at *
  have hm2:decide (mm<0)=false:=decide_eq_false hm1
  go_enter Tryz.func6,Tryz.ntmps6
  go_wp2_with fail
  refine (uh P0).mono ?_
  rintro r w1 ⟨v0,ps0,Fs0,rfl,ho1,hb1⟩
  have B1:=hide hb1
  have RD:=hide (fun wr (h:Below w1.heap.size w1 wr)=>ho1.rdp.later h)
  have X1:=hide (uh PI w1 hb1)
  clear ho1 hb1 P0
  go_wp2_with fail
  refine (uh X1).mono ?_
  rintro r w2 ⟨v1,ps1,Fs1,rfl,ho2,hb2⟩
  have C2:=hide hb2
  have O2:=hide ho2
  have X2:=hide (uh EQ ps1 ps0 v1 v0 w2 ho2.q.rdp (uh RD w2 hb2))
  clear ho2 hb2 X1
  go_wp2_with fail
  refine (uh X2).mono ?_
  rintro r w3 ⟨rfl,hb3⟩
  have C3:=hide ((uh C2).trans (hb3.mono (uh C2).size))
  have X3:=hide (uh MA ps1 Fs1 v1 w1.heap.size w3 ((uh O2).later hb3) (uh C3).size)
  clear hb3 X2 C2 O2 MA
  go_wp2_with fail
  refine (uh X3).mono ?_
  rintro r w4 ⟨rfl,ys,hM⟩
  have C4:=hide ((uh C3).trans hM.bel)
  have R4:=hide (fun wr (h:Below w4.heap.size w4 wr)=>hM.own.q.rdp.later h)
  have H4:=hide (fun wr (h:Below w4.heap.size w4 wr)=>uh HE ys ps1 v1 wr (uh R4 wr h) hM.yl hM.done)
  clear hM X3 C3 R4 HE
  have X4:=hide (uh H4 w4 (Below.refl _ _))
  go_wp2_with fail
  refine (uh X4).mono ?_
  rintro r w5 ⟨rfl,hb5⟩
  have D5:=hide hb5
  have C5:=hide ((uh C4).trans (hb5.mono (uh C4).size))
  have B5:=hide ((uh B1).trans ((uh C5).mono (uh B1).size))
  have X5:=hide (uh PI w5 (uh B5))
  clear hb5 X4 PI
  go_wp2_with fail
  refine (uh X5).mono ?_
  rintro r w6 ⟨v2,ps2,Fs2,rfl,ho6,hb6⟩
  have D6:=hide ((uh D5).trans (hb6.mono (uh D5).size))
  have C6:=hide ((uh C5).trans (hb6.mono (uh C5).size))
  have X6:=hide (uh EQ ps2 ps0 v2 v0 w6 ho6.q.rdp (uh RD w6 (uh C6)))
  clear ho6 hb6 X5 EQ RD
  go_wp2_with fail
  refine (uh X6).mono ?_
  rintro r w7 ⟨rfl,hb7⟩
  have D7:=hide ((uh D6).trans (hb7.mono (uh D6).size))
  have C7:=hide ((uh C6).trans (hb7.mono (uh C6).size))
  have X7:=hide (uh H4 w7 (uh D7))
  clear hb7 X6 H4
  go_wp2_with fail
  refine (uh X7).mono ?_
  rintro r w8 ⟨rfl,hb8⟩
  have C8:=hide ((uh C7).trans (hb8.mono (uh C7).size))
  have B8:=hide ((uh B1).trans ((uh C8).mono (uh B1).size))
  clear hb8 X7
  go_wp2
  go_ret
  exact ⟨rfl,uh B8⟩

theorem door_met (os:Os) (args:Array Value):laidMetH Tryz.prog Rows.fnExactParseTextRow.laid ((World.doorLaid Tryz.prog 400 os).forCall (fun _ _=>0) ⟨#[],args,[]⟩).memory :=
  laidMetH_of_parts3 (fuel:=8) (laidMet_of_run' 8 (by kernel_rfl) (by kernel_rfl)) (by kernel_rfl) (by kernel_rfl)
set_option maxRecDepth 100000 in
theorem lifted (os : Os) (started : os.Started) (H : Type) (enc : TypeId × Value → H) :
    ReturnsInHanded {} Tryz.checked os 6 .any (fun w args=>(Rows.fnExactParseTextSpec.pre enc Tryz.prog Tryz.f6 [] false w args∧laidMetH Tryz.prog Rows.fnExactParseTextRow.laid w)∧sizedMet enc Tryz.prog Tryz.f6 (OpenSpec.ofChange Rows.fnExactParseTextSpec) false w args)
      (Rows.fnExactParseTextSpec.post enc Tryz.prog Tryz.f6 false true false false):=by
  refine returnsInHanded_of_change_and (C:=Tryz.checked) (X:=fun w _=>laidMetH Tryz.prog Rows.fnExactParseTextRow.laid w) (fun _ _ _ hh h=>h.of_heap hh) own started (by kernel_rfl) Tryz.func6
    (ChangeSpec.witness_shaped (enc:=enc) (C:=Tryz.checked) (os:=os) (X:=fun w _=>laidMetH Tryz.prog Rows.fnExactParseTextRow.laid w) false (World.doorLaid Tryz.prog 400 os) #[.string ⟨#[]⟩] 8 rfl (World.shaped_of_RefB (by kernel_rfl) (by kernel_rfl)) (by kernel_rfl) (by kernel_rfl) (by kernel_rfl) (door_met os _)) ?_
  intro W base args ds gs before hval0 hW _ _ hL _
  have hval:∀ (j:Nat) t v,Tryz.f6.params[j]?=some t→args[j]?=some v→Value.okWide Tryz.prog W .any base t v:=hval0
  have hW':=hW
  obtain ⟨p,q,hA0,hV,rfl,hfz,hnd⟩:=hW
  have hA:DataW.TrodAll enc Tryz.prog W 0 (fun _=>true) true Tryz.f6.params.toList args.toList ds p:=hA0
  rw [Tryz.params6] at hA hval
  obtain ⟨v0,vs0,d0,ds0,p0,q0,hargs,rfl,rfl,h0,r0⟩:=trodAll_cons hA
  obtain ⟨rfl,rfl,rfl⟩:=trodAll_nil r0
  obtain rfl:args=#[v0]:=by cases args;simp_all
  have kV:=hV
  obtain ⟨dv,du,dt,ds,dr,rfl⟩:=varsL_5 hV
  have k0:=h0
  have lt0:∀ x∈p0,x.block<W.heap.size:=by obtain ⟨m,hm⟩:=k0;exact DataW.trod_lt m _ _ _ hm
  obtain ⟨s0,rfl,_,_,w0⟩:=open_string Tryz.underlying9 (hval 0 9 v0 rfl rfl) h0
  clear hA0 hval0
  refine (walk s0 w0 W  (tabr_of hL)).mono fun e W' ⟨he,bel⟩=>?_
  subst he
  exact ⟨_,rfl,_,_,_,[],_,_,hW',trodAll_mk1 (shut_bool Tryz.underlying4 _),(trodAll_cons_mk (Below.trod laidOut (by kernel_rfl) (of_decide_eq_true (by kernel_rfl)) k0 bel lt0) trodAll_mk0),bel.trodVars laidOut (by kernel_rfl) kV,bel.frame _,fun h=>by cases h⟩

theorem proved:Rows.FnExactParseTextSaid :=
  OpenClaim.holds_of_wide 6 Tryz.f6 rfl rfl rfl rfl rfl rfl rfl ⟨rfl,rfl,rfl,rfl,rfl⟩ rfl rfl rfl rfl rfl (by kernel_rfl) Tryz.func6 (by kernel_rfl)
    (of_decide_eq_true (by kernel_rfl)) (by unfold Func.isWrapper;first|(rw [if_pos (by decide +kernel)];kernel_rfl)|(rw [if_neg (by decide +kernel)];exact ⟨rfl,rfl⟩))
    (fun os started H enc _=>lifted os started H enc)
end Go.Proofs.YtjnblcgekpgkoaaGreatDoor.fnExactParseText

namespace Go.Proofs.YtjnblcgekpgkoaaGreatDoor
theorem fnExactParseText_holds:Rows.FnExactParseTextCardSaid :=
  Claim7.holds_tied_plain_at .later [] [.data, .data, .data, .sentinel, .sentinel, .data, .data, .data, .data, .data] true (true, "6915b1a5654352903017b01b7b9d4a43314dcc55d8391807e1b439549ad65152") true
    fnExactParseText.proved (fun _ h=>by cases h) (by kernel_rfl) (fun _ h=>by cases h) fnExactParseText_row_tie rfl ⟨rfl,rfl⟩ (by kernel_rfl) rfl
    (fun f fn hf hfn=>by
      obtain rfl : f = 6 := Option.some.inj ((show Tryz.prog.funcNamed "loop.example/g00329/laws.FnExactParseText" = some 6 by kernel_rfl).symm.trans hf) |>.symm
      obtain rfl:fn=Tryz.f6:=(Option.some.inj (Tryz.func6.symm.trans hfn)).symm
      exact ⟨by kernel_rfl,fun j t ht=>by
        rw [Tryz.params6] at ht
        have hm:t∈[9]:=by simpa using Array.mem_of_getElem? ht
        have hall:([9].all fun u=>!Tryz.prog.wantsStandIn u)=true:=by kernel_rfl
        exact (show Tryz.prog.wantsStandIn t=false by simpa using List.all_eq_true.1 hall t hm)⟩)
    (by kernel_rfl)
#print axioms fnExactParseText_holds
end Go.Proofs.YtjnblcgekpgkoaaGreatDoor
