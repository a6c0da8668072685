/- Contracts over this seat's translation, laid together; conditions stand as hypotheses of each. -/
import Derived.Test.YtjnblcgekpgkoaaGreatDoorTrE
import Derived.WalkSmall
import Derived.Shelf.RegionOpenPlain
import Derived.Defers
import Derived.Recover
import Derived.Laws.Pointers
import Derived.LaidMore
import Derived.Test.YtjnblcgekpgkoaaGreatDoorRows
import Derived.Stop.LaidErr
import Derived.MakeChecks
namespace Go.Proofs.YtjnblcgekpgkoaaGreatDoor
open Go.ChangeShapes Go.WideShapes Go.ChangeAt Go.RowKit
set_option maxHeartbeats 16000000
set_option linter.unusedVariables false
set_option maxRecDepth 8000
set_option linter.unusedSimpArgs false
theorem li_two (s:ByteArray) (op:Int) (ho':opN s=op) (h0:s≠E0) (h1:1≤op) (h6:op≤6) (rb:Nat) (ts:List Tk) (w:World) (h:Pr w rb ts) (ht:TabP w rb):Calls Tryz.prog 114 #[.pointer (some ⟨rb,0,none⟩),.string s] w (PnR (qIw s ts) (VLn w.heap.size) rb w):=by
 have b1:inB op 1 6=true:=(inB_iff _ _ _).2 (by omega)
 have b2:inB op 1 15=true:=(inB_iff _ _ _).2 (by omega)
 have b3:regB op=false:=by unfold regB;rw [Bool.or_eq_false_iff,beq_eq_false_iff_ne,beq_eq_false_iff_ne];omega
 have b4:(inB op 17 21 || op == 23)=false:=by rw [inB_no (by omega),Bool.false_or,beq_eq_false_iff_ne];omega
 have b5:inB op 1 23=true:=(inB_iff _ _ _).2 (by omega)
 have SH:=hide (fun w=>(show Calls Tryz.prog 149 #[.int .i64 op] w fun r w'=>r = .returned (.tuple #[.agg #[.bool false,.bool true,.bool true,.int .i64 0,.int .i64 0,.int .i64 0,.bool false],.bool true])∧Below w.heap.size w w' from by have h:=shiI_any op w;rw [b1,b2,b3,b4,b5] at h;exact h))
 have RG:=hide (fun w=>(show Calls Tryz.prog 102 #[.int .i64 op] w fun e w'=>e = .returned (.bool false)∧w'=w from by have h:=regB_any op w;rw [b3] at h;exact h))
 clear b1 b2 b3 b4 b5
 have OE:=hide ((qIw_at (s:=s) (ts:=ts) ho' (by omega)).trans (qIns_two (op:=op) (ts:=ts) h6))
 have FN:=hide (fun w' (ho:qIw s ts=none) (hg:w.grownBy w' (some rb))=>(show PnR (qIw s ts) (VLn w.heap.size) rb w (.panicked pn) w' from pnR_none ho rfl hg))
 have FY:=hide (fun x q v w' (ho:qIw s ts=some (x,q)) (hg:w.grownBy w' (some rb)) (hv:(VLn w.heap.size) x w' v) (hz:Pr w' rb q)=>(show PnR (qIw s ts) (VLn w.heap.size) rb w (.returned v) w' from pnR_some ho rfl hg hv hz))
 generalize PnR (qIw s ts) (VLn w.heap.size) rb w=R at *
 generalize qIw s ts=O at *
 have hb0:=below_new w (.cells #[.int .i64 0,.string ⟨#[]⟩,.int .i64 0,.int .i64 0,.int .i64 0,.int .i64 0,.int .i64 0,.string ⟨#[]⟩,.slice none 0 0,.int .i64 0,.int .i64 0,.int .i64 0,.int .i64 0,.string ⟨#[]⟩,.slice none 0 0,.int .i64 0,.slice none 0 0] 30)
 have hg0:(w.alloc (.cells #[.int .i64 0,.string ⟨#[]⟩,.int .i64 0,.int .i64 0,.int .i64 0,.int .i64 0,.int .i64 0,.string ⟨#[]⟩,.slice none 0 0,.int .i64 0,.int .i64 0,.int .i64 0,.int .i64 0,.string ⟨#[]⟩,.slice none 0 0,.int .i64 0,.slice none 0 0] 30)).heap[w.heap.size]?=some (.cells #[.int .i64 0,.string ⟨#[]⟩,.int .i64 0,.int .i64 0,.int .i64 0,.int .i64 0,.int .i64 0,.string ⟨#[]⟩,.slice none 0 0,.int .i64 0,.int .i64 0,.int .i64 0,.int .i64 0,.string ⟨#[]⟩,.slice none 0 0,.int .i64 0,.slice none 0 0] 30 (0,0)):=Array.getElem?_push_size
 have hs0:w.heap.size<(w.alloc (.cells #[.int .i64 0,.string ⟨#[]⟩,.int .i64 0,.int .i64 0,.int .i64 0,.int .i64 0,.int .i64 0,.string ⟨#[]⟩,.slice none 0 0,.int .i64 0,.int .i64 0,.int .i64 0,.int .i64 0,.string ⟨#[]⟩,.slice none 0 0,.int .i64 0,.slice none 0 0] 30)).heap.size:=by simp
 obtain ⟨w0,hw0⟩:∃ w0,w.alloc (.cells #[.int .i64 0,.string ⟨#[]⟩,.int .i64 0,.int .i64 0,.int .i64 0,.int .i64 0,.int .i64 0,.string ⟨#[]⟩,.slice none 0 0,.int .i64 0,.int .i64 0,.int .i64 0,.int .i64 0,.string ⟨#[]⟩,.slice none 0 0,.int .i64 0,.slice none 0 0] 30)=w0:=⟨_,rfl⟩
 rw [hw0] at hb0 hg0 hs0
 have Q0:=hide (h.start.later hb0)
 have R0:=hide hg0
 have S0:=hide hs0
 have TB:=hide ht
 clear h ht hb0 hg0 hs0
 go_enter Tryz.func114,Tryz.ntmps114
 have X:=hide (opI s w0 h0 ((uh TB).grown (uh Q0).gr).k |> fun h=>by rw [ho'] at h;exact h)
 go_wp2_with fail
 refine (uh X).mono ?_
 rintro r w' ⟨rfl,hw'⟩
 rw [hw']
 clear hw' w' X
 clear h0 ho'
 have BGx:=hide (show w.heap.size≤w0.heap.size from Nat.le_of_lt (uh S0))
 have BLx:=hide (uh S0)
 have Qx1:=hide ((uh Q0).later (below_new w0 (.cells #[.int .i64 3,.string ⟨#[]⟩,.int .i64 op,.int .i64 0,.int .i64 0,.int .i64 0,.int .i64 0,.string ⟨#[]⟩,.slice none 0 0,.int .i64 0,.int .i64 0,.int .i64 0,.int .i64 0,.string ⟨#[]⟩,.slice none 0 0,.int .i64 0,.slice none 0 0] 30)))
 have Rx1:=hide (row_keep (uh R0) (below_new w0 (.cells #[.int .i64 3,.string ⟨#[]⟩,.int .i64 op,.int .i64 0,.int .i64 0,.int .i64 0,.int .i64 0,.string ⟨#[]⟩,.slice none 0 0,.int .i64 0,.int .i64 0,.int .i64 0,.int .i64 0,.string ⟨#[]⟩,.slice none 0 0,.int .i64 0,.slice none 0 0] 30)))
 have Sx1:=hide (Nat.lt_of_lt_of_le (uh S0) ((below_new w0 (.cells #[.int .i64 3,.string ⟨#[]⟩,.int .i64 op,.int .i64 0,.int .i64 0,.int .i64 0,.int .i64 0,.string ⟨#[]⟩,.slice none 0 0,.int .i64 0,.int .i64 0,.int .i64 0,.int .i64 0,.string ⟨#[]⟩,.slice none 0 0,.int .i64 0,.slice none 0 0] 30))).size)
 have Bx0:=hide (show (w0.alloc (.cells #[.int .i64 3,.string ⟨#[]⟩,.int .i64 op,.int .i64 0,.int .i64 0,.int .i64 0,.int .i64 0,.string ⟨#[]⟩,.slice none 0 0,.int .i64 0,.int .i64 0,.int .i64 0,.int .i64 0,.string ⟨#[]⟩,.slice none 0 0,.int .i64 0,.slice none 0 0] 30)).heap[w0.heap.size]?=some (.cells #[.int .i64 3,.string ⟨#[]⟩,.int .i64 op,.int .i64 0,.int .i64 0,.int .i64 0,.int .i64 0,.string ⟨#[]⟩,.slice none 0 0,.int .i64 0,.int .i64 0,.int .i64 0,.int .i64 0,.string ⟨#[]⟩,.slice none 0 0,.int .i64 0,.slice none 0 0] 30 (0,0)) from Array.getElem?_push_size)
 clear Q0 R0 S0
 have X:=hide (uh SH (w0.alloc (.cells #[.int .i64 3,.string ⟨#[]⟩,.int .i64 op,.int .i64 0,.int .i64 0,.int .i64 0,.int .i64 0,.string ⟨#[]⟩,.slice none 0 0,.int .i64 0,.int .i64 0,.int .i64 0,.int .i64 0,.string ⟨#[]⟩,.slice none 0 0,.int .i64 0,.slice none 0 0] 30)))
 go_wp2_with fail
 generalize (w0.alloc (.cells #[.int .i64 3,.string ⟨#[]⟩,.int .i64 op,.int .i64 0,.int .i64 0,.int .i64 0,.int .i64 0,.string ⟨#[]⟩,.slice none 0 0,.int .i64 0,.int .i64 0,.int .i64 0,.int .i64 0,.string ⟨#[]⟩,.slice none 0 0,.int .i64 0,.slice none 0 0] 30))=w1 at *
 generalize w0.heap.size=gx at *
 refine (uh X).mono ?_
 rintro r w2 ⟨rfl,hb⟩
 have Qx2:=hide ((uh Qx1).later hb)
 have Rx2:=hide (row_keep (uh Rx1) hb)
 have Sx2:=hide (Nat.lt_of_lt_of_le (uh Sx1) (hb).size)
 have Bxx2:=hide (row_keep (uh Bx0) hb)
 clear hb X Qx1 Rx1 Sx1 Bx0
 have BGs:=hide (show w.heap.size≤w2.heap.size from Nat.le_of_lt (uh Sx2))
 have NEsx:=hide (show w2.heap.size≠gx from Nat.ne_of_gt (Array.getElem?_eq_some_iff.1 (uh Bxx2)).1)
 have Qx3:=hide ((uh Qx2).later (below_new w2 (.cells #[.bool false,.bool true,.bool true,.int .i64 0,.int .i64 0,.int .i64 0,.bool false] 129)))
 have Rx3:=hide (row_keep (uh Rx2) (below_new w2 (.cells #[.bool false,.bool true,.bool true,.int .i64 0,.int .i64 0,.int .i64 0,.bool false] 129)))
 have Sx3:=hide (Nat.lt_of_lt_of_le (uh Sx2) ((below_new w2 (.cells #[.bool false,.bool true,.bool true,.int .i64 0,.int .i64 0,.int .i64 0,.bool false] 129))).size)
 have Bxx3:=hide (row_keep (uh Bxx2) (below_new w2 (.cells #[.bool false,.bool true,.bool true,.int .i64 0,.int .i64 0,.int .i64 0,.bool false] 129)))
 have Bs0:=hide (show (w2.alloc (.cells #[.bool false,.bool true,.bool true,.int .i64 0,.int .i64 0,.int .i64 0,.bool false] 129)).heap[w2.heap.size]?=some (.cells #[.bool false,.bool true,.bool true,.int .i64 0,.int .i64 0,.int .i64 0,.bool false] 129 (0,0)) from Array.getElem?_push_size)
 clear Qx2 Rx2 Sx2 Bxx2
 have X:=hide (uh RG (w2.alloc (.cells #[.bool false,.bool true,.bool true,.int .i64 0,.int .i64 0,.int .i64 0,.bool false] 129)))
 have cx2:=Lib.cell_of_heap (uh Bxx3) 2
 have fx2:=Lib.frozen_of_heap (uh Bxx3) 2
 go_wp2_with fail
 generalize (w2.alloc (.cells #[.bool false,.bool true,.bool true,.int .i64 0,.int .i64 0,.int .i64 0,.bool false] 129))=w3 at *
 generalize w2.heap.size=gs at *
 clear cx2 fx2
 refine (uh X).mono ?_
 rintro r w' ⟨rfl,hw'⟩
 rw [hw']
 clear hw' w' X
 have X:=hide (agI rb ts w3 (uh Qx3).pr ((uh TB).grown (uh Qx3).gr))
 have cs1:=Lib.cell_of_heap (uh Bs0) 1
 have fs1:=Lib.frozen_of_heap (uh Bs0) 1
 go_wp2_with fail
 clear cs1 fs1
 refine (uh X).mono ?_
 rintro r w4 ⟨hg,hm⟩
 cases ho:pArg ts with
 | none =>
  rw [ho] at hm
  have hr:r = .panicked pn:=hm
  subst hr
  exact ⟨rfl,uh FN _ ((uh OE).trans (bnd_no ho _)) (grownBy_trans (uh Qx3).gr hg)⟩
 | some p =>
  obtain ⟨x4,q4⟩:=p
  rw [ho] at hm
  obtain ⟨v,rfl,⟨c1,c1p,rfl,hn⟩,hz⟩:=hm
  have OE4:=hide ((uh OE).trans (bnd_at ho _))
  have PM4:=hide (uh Sx3)
  have PZ4:=hide hg.size
  have PBx4:=hide (show gx<w3.heap.size from (Array.getElem?_eq_some_iff.1 (uh Bxx3)).1)
  have Rx4:=hide ((uh Qx3).blk hg (uh Rx3) (Nat.le_refl _))
  have Sx4:=hide (Nat.lt_of_lt_of_le (uh Sx3) (hg).size)
  have Bxx4:=hide ((uh Qx3).blk hg (uh Bxx3) (uh BGx))
  have Bxs4:=hide ((uh Qx3).blk hg (uh Bs0) (uh BGs))
  have Qg4:=hide ((uh Qx3).next hz hg)
  clear hg hz ho X Rx3 Sx3 Bxx3 Bs0 Qx3 OE
  have Nt14:=hide (hn).half
  have Lt14:=hide (Nat.le_refl w4.heap.size)
  clear hn
  have FA:=hide (fun (b:Ag) (q:List Tk) (c2:Option Addr) (c2p:Nat) w' (ho:O=some (⟨3,⟨#[]⟩,op,x4,b,0,[]⟩,q)) (h:Pq w w' rb q) (hn:NdL w' w.heap.size ⟨3,⟨#[]⟩,op,x4,b,0,[]⟩ ⟨c1,c1p,c2,c2p,none,0⟩)=>uh FY _ _ (.agg #[.int .i64 3,.string ⟨#[]⟩,.int .i64 op,.int .i64 x4.f,.int .i64 x4.r,.int .i64 x4.e.k,.int .i64 x4.e.n,.string x4.e.s,.slice c1 x4.e.l.length c1p,.int .i64 b.f,.int .i64 b.r,.int .i64 b.e.k,.int .i64 b.e.n,.string b.e.s,.slice c2 b.e.l.length c2p,.int .i64 0,.slice none 0 0]) w' ho h.gr ⟨⟨c1,c1p,c2,c2p,none,0⟩,rfl,hn⟩ h.pr)
  clear FY
  have FB:=hide (fun b q c2 c2p w' ho h=>uh FA b q c2 c2p w' ho h)
  clear FA
  generalize x4.e.k=k1 at FB ⊢
  generalize x4.e.n=n1 at FB ⊢
  generalize x4.e.s=s1 at FB ⊢
  generalize x4.e.l.length=l1 at FB ⊢
  generalize x4.f=f1 at FB ⊢
  generalize x4.r=r1 at FB ⊢
  have Qx5:=hide ((uh Qg4).row (uh Bxx4) (by decide) (by decide) (uh BGx) #[.int .i64 3,.string ⟨#[]⟩,.int .i64 op,.int .i64 f1,.int .i64 r1,.int .i64 k1,.int .i64 n1,.string s1,.slice c1 l1 c1p,.int .i64 0,.int .i64 0,.int .i64 0,.int .i64 0,.string ⟨#[]⟩,.slice none 0 0,.int .i64 0,.slice none 0 0])
  have Rx5:=hide ((setRow_other w4 gx w.heap.size #[.int .i64 3,.string ⟨#[]⟩,.int .i64 op,.int .i64 f1,.int .i64 r1,.int .i64 k1,.int .i64 n1,.string s1,.slice c1 l1 c1p,.int .i64 0,.int .i64 0,.int .i64 0,.int .i64 0,.string ⟨#[]⟩,.slice none 0 0,.int .i64 0,.slice none 0 0] (Nat.ne_of_lt (uh BLx))).trans (uh Rx4))
  have Sx5:=hide ((show w.heap.size<((w4.setRow gx #[.int .i64 3,.string ⟨#[]⟩,.int .i64 op,.int .i64 f1,.int .i64 r1,.int .i64 k1,.int .i64 n1,.string s1,.slice c1 l1 c1p,.int .i64 0,.int .i64 0,.int .i64 0,.int .i64 0,.string ⟨#[]⟩,.slice none 0 0,.int .i64 0,.slice none 0 0])).heap.size by rw [setRow_size];exact uh Sx4))
  have Bxx5:=hide ((show ((w4.setRow gx #[.int .i64 3,.string ⟨#[]⟩,.int .i64 op,.int .i64 f1,.int .i64 r1,.int .i64 k1,.int .i64 n1,.string s1,.slice c1 l1 c1p,.int .i64 0,.int .i64 0,.int .i64 0,.int .i64 0,.string ⟨#[]⟩,.slice none 0 0,.int .i64 0,.slice none 0 0])).heap[gx]?=some (.cells #[.int .i64 3,.string ⟨#[]⟩,.int .i64 op,.int .i64 f1,.int .i64 r1,.int .i64 k1,.int .i64 n1,.string s1,.slice c1 l1 c1p,.int .i64 0,.int .i64 0,.int .i64 0,.int .i64 0,.string ⟨#[]⟩,.slice none 0 0,.int .i64 0,.slice none 0 0] 30 (0,0)) from setRow_heap _ _ _ _ _ _ (uh Bxx4)))
  have Bxs5:=hide ((setRow_other w4 gx gs #[.int .i64 3,.string ⟨#[]⟩,.int .i64 op,.int .i64 f1,.int .i64 r1,.int .i64 k1,.int .i64 n1,.string s1,.slice c1 l1 c1p,.int .i64 0,.int .i64 0,.int .i64 0,.int .i64 0,.string ⟨#[]⟩,.slice none 0 0,.int .i64 0,.slice none 0 0] (uh NEsx)).trans (uh Bxs4))
  have Nxt15:=hide ((uh Nt14).drawn (grownBy_row #[.int .i64 3,.string ⟨#[]⟩,.int .i64 op,.int .i64 f1,.int .i64 r1,.int .i64 k1,.int .i64 n1,.string s1,.slice c1 l1 c1p,.int .i64 0,.int .i64 0,.int .i64 0,.int .i64 0,.string ⟨#[]⟩,.slice none 0 0,.int .i64 0,.slice none 0 0]) (uh PBx4))
  have Lxt15:=hide ((show w4.heap.size≤((w4.setRow gx #[.int .i64 3,.string ⟨#[]⟩,.int .i64 op,.int .i64 f1,.int .i64 r1,.int .i64 k1,.int .i64 n1,.string s1,.slice c1 l1 c1p,.int .i64 0,.int .i64 0,.int .i64 0,.int .i64 0,.string ⟨#[]⟩,.slice none 0 0,.int .i64 0,.slice none 0 0])).heap.size by rw [setRow_size];exact uh Lt14))
  clear Qg4 Rx4 Sx4 Bxs4 Nt14 Lt14
  have X:=hide (markI_any (mkS 44) (w4.setRow gx #[.int .i64 3,.string ⟨#[]⟩,.int .i64 op,.int .i64 f1,.int .i64 r1,.int .i64 k1,.int .i64 n1,.string s1,.slice c1 l1 c1p,.int .i64 0,.int .i64 0,.int .i64 0,.int .i64 0,.string ⟨#[]⟩,.slice none 0 0,.int .i64 0,.slice none 0 0]) |> fun h=>by unfold Tk.v Tk.cs at h;exact h)
  have cs1:=Lib.cell_of_heap (uh Bxs5) 1
  have fs1:=Lib.frozen_of_heap (uh Bxs5) 1
  have cs2:=Lib.cell_of_heap (uh Bxs5) 2
  have fs2:=Lib.frozen_of_heap (uh Bxs5) 2
  go_wp2_with (first|((with_reducible show wpList _ _ _ (⟨_,.store _ _ _,_,_,_,_⟩::_) _ _);refine wpList_store_part rfl 28 _ _ rfl gx 3 #[.int .i64 f1,.int .i64 r1,.int .i64 k1,.int .i64 n1,.string s1,.slice c1 l1 c1p] rfl rfl 30 #[.int .i64 3,.string ⟨#[]⟩,.int .i64 op,.int .i64 0,.int .i64 0,.int .i64 0,.int .i64 0,.string ⟨#[]⟩,.slice none 0 0,.int .i64 0,.int .i64 0,.int .i64 0,.int .i64 0,.string ⟨#[]⟩,.slice none 0 0,.int .i64 0,.slice none 0 0] #[.int .i64 3,.string ⟨#[]⟩,.int .i64 op,.int .i64 f1,.int .i64 r1,.int .i64 k1,.int .i64 n1,.string s1,.slice c1 l1 c1p,.int .i64 0,.int .i64 0,.int .i64 0,.int .i64 0,.string ⟨#[]⟩,.slice none 0 0,.int .i64 0,.slice none 0 0] (uh Bxx4) szAg (by simp) (ag_one _ _ _ _ _ _ _ _) rfl ?_))
  generalize (w4.setRow gx #[.int .i64 3,.string ⟨#[]⟩,.int .i64 op,.int .i64 f1,.int .i64 r1,.int .i64 k1,.int .i64 n1,.string s1,.slice c1 l1 c1p,.int .i64 0,.int .i64 0,.int .i64 0,.int .i64 0,.string ⟨#[]⟩,.slice none 0 0,.int .i64 0,.slice none 0 0])=w5 at *
  clear Bxx4
  clear cs1 fs1 cs2 fs2
  refine (uh X).mono ?_
  rintro r w6 ⟨rfl,hb⟩
  have Qx6:=hide ((uh Qx5).later hb)
  have Rx6:=hide (row_keep (uh Rx5) hb)
  have Sx6:=hide (Nat.lt_of_lt_of_le (uh Sx5) (hb).size)
  have Bxx6:=hide (row_keep (uh Bxx5) hb)
  have Bxs6:=hide (row_keep (uh Bxs5) hb)
  have Nxt16:=hide ((uh Nxt15).later hb)
  have Lxt16:=hide (Nat.le_trans (uh Lxt15) (hb).size)
  clear hb X Qx5 Rx5 Sx5 Bxx5 Bxs5 Nxt15 Lxt15
  have X:=hide (wmI 44 (by decide) rb q4 w6 (uh Qx6).pr)
  go_wp2_with fail
  refine (uh X).mono ?_
  rintro r w7 ⟨hg,hm⟩
  cases ho:pMs (mkS 44) q4 with
  | none =>
   rw [ho] at hm
   have hr:r = .panicked pn:=hm
   subst hr
   exact ⟨rfl,uh FN _ ((uh OE4).trans (bnd_no ho _)) (grownBy_trans (uh Qx6).gr hg)⟩
  | some p =>
   obtain ⟨x7,q7⟩:=p
   rw [ho] at hm
   obtain ⟨v,rfl,hv,hz⟩:=hm
   have OE7:=hide ((uh OE4).trans (bnd_at ho _))
   have Rx7:=hide ((uh Qx6).blk hg (uh Rx6) (Nat.le_refl _))
   have Sx7:=hide (Nat.lt_of_lt_of_le (uh Sx6) (hg).size)
   have Bxx7:=hide ((uh Qx6).blk hg (uh Bxx6) (uh BGx))
   have Bxs7:=hide ((uh Qx6).blk hg (uh Bxs6) (uh BGs))
   have Nxt17:=hide ((uh Nxt16).drawn hg (Nat.lt_trans (uh Qx6).lt (uh PM4)))
   have Lxt17:=hide (Nat.le_trans (uh Lxt16) (hg).size)
   have Qg7:=hide ((uh Qx6).next hz hg)
   unfold VUn at hv
   subst hv
   clear hg hz ho X Rx6 Sx6 Bxx6 Bxs6 Nxt16 Lxt16 Qx6 OE4
   have X:=hide (agI rb q7 w7 (uh Qg7).pr ((uh TB).grown (uh Qg7).gr))
   have cs2:=Lib.cell_of_heap (uh Bxs7) 2
   have fs2:=Lib.frozen_of_heap (uh Bxs7) 2
   go_wp2_with fail
   clear cs2 fs2
   refine (uh X).mono ?_
   rintro r w8 ⟨hg,hm⟩
   cases ho:pArg q7 with
   | none =>
    rw [ho] at hm
    have hr:r = .panicked pn:=hm
    subst hr
    exact ⟨rfl,uh FN _ ((uh OE7).trans (bnd_no ho _)) (grownBy_trans (uh Qg7).gr hg)⟩
   | some p =>
    obtain ⟨x8,q8⟩:=p
    rw [ho] at hm
    obtain ⟨v,rfl,⟨c2,c2p,rfl,hn⟩,hz⟩:=hm
    have OE8:=hide ((uh OE7).trans (bnd_at ho _))
    have PM8:=hide (uh Sx7)
    have PBx8:=hide (show gx<w7.heap.size from (Array.getElem?_eq_some_iff.1 (uh Bxx7)).1)
    have PLt18:=hide (uh Lxt17)
    have Rx8:=hide ((uh Qg7).blk hg (uh Rx7) (Nat.le_refl _))
    have Bxx8:=hide ((uh Qg7).blk hg (uh Bxx7) (uh BGx))
    have Bxs8:=hide ((uh Qg7).blk hg (uh Bxs7) (uh BGs))
    have Nxt18:=hide ((uh Nxt17).drawn hg (Nat.lt_trans (uh Qg7).lt (uh PM4)))
    have Qg8:=hide ((uh Qg7).next hz hg)
    clear hg hz ho X Rx7 Sx7 Bxx7 Bxs7 Nxt17 Lxt17 Qg7 OE7
    have Nt28:=hide (hn).half
    clear hn
    have FC:=hide (fun w' h=>uh FB x8 q8 c2 c2p w' (uh OE8) h)
    have FD:=hide (fun w' (h:HalfX w' w3.heap.size w4.heap.size x4.e c1) (h':HalfX w' w7.heap.size w8.heap.size x8.e c2)=>(NdL.two (a:=x4) (b:=x8) h h' (uh PLt18) (Nat.le_trans (uh PZ4) (uh PLt18)) 3 ⟨#[]⟩ op 0 none c1p c2p 0).lower (Nat.le_of_lt (uh PM4)))
    clear FB OE8 FN
    have FE:=hide (fun w' h h1 h2=>uh FC w' h (uh FD w' h1 h2))
    clear FC FD
    generalize x8.e.k=k2 at FE ⊢
    generalize x8.e.n=n2 at FE ⊢
    generalize x8.e.s=s2 at FE ⊢
    generalize x8.e.l.length=l2 at FE ⊢
    generalize x8.f=f2 at FE ⊢
    generalize x8.r=r2 at FE ⊢
    have Qx9:=hide ((uh Qg8).row (uh Bxx8) (by decide) (by decide) (uh BGx) #[.int .i64 3,.string ⟨#[]⟩,.int .i64 op,.int .i64 f1,.int .i64 r1,.int .i64 k1,.int .i64 n1,.string s1,.slice c1 l1 c1p,.int .i64 f2,.int .i64 r2,.int .i64 k2,.int .i64 n2,.string s2,.slice c2 l2 c2p,.int .i64 0,.slice none 0 0])
    have Rx9:=hide ((setRow_other w8 gx w.heap.size #[.int .i64 3,.string ⟨#[]⟩,.int .i64 op,.int .i64 f1,.int .i64 r1,.int .i64 k1,.int .i64 n1,.string s1,.slice c1 l1 c1p,.int .i64 f2,.int .i64 r2,.int .i64 k2,.int .i64 n2,.string s2,.slice c2 l2 c2p,.int .i64 0,.slice none 0 0] (Nat.ne_of_lt (uh BLx))).trans (uh Rx8))
    have Bxx9:=hide ((show ((w8.setRow gx #[.int .i64 3,.string ⟨#[]⟩,.int .i64 op,.int .i64 f1,.int .i64 r1,.int .i64 k1,.int .i64 n1,.string s1,.slice c1 l1 c1p,.int .i64 f2,.int .i64 r2,.int .i64 k2,.int .i64 n2,.string s2,.slice c2 l2 c2p,.int .i64 0,.slice none 0 0])).heap[gx]?=some (.cells #[.int .i64 3,.string ⟨#[]⟩,.int .i64 op,.int .i64 f1,.int .i64 r1,.int .i64 k1,.int .i64 n1,.string s1,.slice c1 l1 c1p,.int .i64 f2,.int .i64 r2,.int .i64 k2,.int .i64 n2,.string s2,.slice c2 l2 c2p,.int .i64 0,.slice none 0 0] 30 (0,0)) from setRow_heap _ _ _ _ _ _ (uh Bxx8)))
    have Bxs9:=hide ((setRow_other w8 gx gs #[.int .i64 3,.string ⟨#[]⟩,.int .i64 op,.int .i64 f1,.int .i64 r1,.int .i64 k1,.int .i64 n1,.string s1,.slice c1 l1 c1p,.int .i64 f2,.int .i64 r2,.int .i64 k2,.int .i64 n2,.string s2,.slice c2 l2 c2p,.int .i64 0,.slice none 0 0] (uh NEsx)).trans (uh Bxs8))
    have Nxt19:=hide ((uh Nxt18).drawn (grownBy_row #[.int .i64 3,.string ⟨#[]⟩,.int .i64 op,.int .i64 f1,.int .i64 r1,.int .i64 k1,.int .i64 n1,.string s1,.slice c1 l1 c1p,.int .i64 f2,.int .i64 r2,.int .i64 k2,.int .i64 n2,.string s2,.slice c2 l2 c2p,.int .i64 0,.slice none 0 0]) (uh PBx4))
    have Nxt29:=hide ((uh Nt28).drawn (grownBy_row #[.int .i64 3,.string ⟨#[]⟩,.int .i64 op,.int .i64 f1,.int .i64 r1,.int .i64 k1,.int .i64 n1,.string s1,.slice c1 l1 c1p,.int .i64 f2,.int .i64 r2,.int .i64 k2,.int .i64 n2,.string s2,.slice c2 l2 c2p,.int .i64 0,.slice none 0 0]) (uh PBx8))
    clear Qg8 Rx8 Bxs8 Nxt18 Nt28
    have cs5:=Lib.cell_of_heap (uh Bxs9) 5
    go_wp2_with (first|((with_reducible show wpList _ _ _ (⟨_,.store _ _ _,_,_,_,_⟩::_) _ _);refine wpList_store_part rfl 28 _ _ rfl gx 9 #[.int .i64 f2,.int .i64 r2,.int .i64 k2,.int .i64 n2,.string s2,.slice c2 l2 c2p] rfl rfl 30 #[.int .i64 3,.string ⟨#[]⟩,.int .i64 op,.int .i64 f1,.int .i64 r1,.int .i64 k1,.int .i64 n1,.string s1,.slice c1 l1 c1p,.int .i64 0,.int .i64 0,.int .i64 0,.int .i64 0,.string ⟨#[]⟩,.slice none 0 0,.int .i64 0,.slice none 0 0] #[.int .i64 3,.string ⟨#[]⟩,.int .i64 op,.int .i64 f1,.int .i64 r1,.int .i64 k1,.int .i64 n1,.string s1,.slice c1 l1 c1p,.int .i64 f2,.int .i64 r2,.int .i64 k2,.int .i64 n2,.string s2,.slice c2 l2 c2p,.int .i64 0,.slice none 0 0] (uh Bxx8) szAg (by simp) (ag_one _ _ _ _ _ _ _ _) rfl ?_)|((with_reducible show wpList _ _ _ (⟨_,.load _ _,_,_,_,_⟩::_) _ _);refine wpList_load_row rfl 30 _ rfl gx rfl 30 #[.int .i64 3,.string ⟨#[]⟩,.int .i64 op,.int .i64 f1,.int .i64 r1,.int .i64 k1,.int .i64 n1,.string s1,.slice c1 l1 c1p,.int .i64 f2,.int .i64 r2,.int .i64 k2,.int .i64 n2,.string s2,.slice c2 l2 c2p,.int .i64 0,.slice none 0 0] (0,0) _ (uh Bxx9) Tryz.underlying30 rfl (by kernel_rfl) ?_)|((with_reducible show wpList _ _ _ (⟨_,.store _ _ _,_,_,_,_⟩::_) _ _);refine wpList_store_row rfl 30 _ _ rfl w.heap.size #[.int .i64 3,.string ⟨#[]⟩,.int .i64 op,.int .i64 f1,.int .i64 r1,.int .i64 k1,.int .i64 n1,.string s1,.slice c1 l1 c1p,.int .i64 f2,.int .i64 r2,.int .i64 k2,.int .i64 n2,.string s2,.slice c2 l2 c2p,.int .i64 0,.slice none 0 0] rfl rfl 30 _ (uh Rx9) szLn rfl (by simp [Value.oneCell']) ?_))
    refine bodyPost_ret (results_cell_row (P:=Tryz.prog) rfl _ _ w.heap.size 30 #[.int .i64 3,.string ⟨#[]⟩,.int .i64 op,.int .i64 f1,.int .i64 r1,.int .i64 k1,.int .i64 n1,.string s1,.slice c1 l1 c1p,.int .i64 f2,.int .i64 r2,.int .i64 k2,.int .i64 n2,.string s2,.slice c2 l2 c2p,.int .i64 0,.slice none 0 0] (0,0) _ rfl (setRow_heap _ _ _ _ _ _ (uh Rx9)) Tryz.underlying30 rfl szLn) rfl ?_
    exact uh FE _ ((uh Qx9).row (uh Rx9) (by decide) (by decide) (Nat.le_refl _) _) ((uh Nxt19).drawn (grownBy_row _) (uh PM4)) ((uh Nxt29).drawn (grownBy_row _) (uh PM8))
theorem li_one (s:ByteArray) (op:Int) (ho':opN s=op) (h0:s≠E0) (h7:7≤op) (h14:op≤14) (rb:Nat) (ts:List Tk) (w:World) (h:Pr w rb ts) (ht:TabP w rb):Calls Tryz.prog 114 #[.pointer (some ⟨rb,0,none⟩),.string s] w (PnR (qIw s ts) (VLn w.heap.size) rb w):=by
 have b1:inB op 1 6=false:=inB_no (by omega)
 have b2:inB op 1 15=true:=(inB_iff _ _ _).2 (by omega)
 have b3:regB op=false:=by unfold regB;rw [Bool.or_eq_false_iff,beq_eq_false_iff_ne,beq_eq_false_iff_ne];omega
 have b4:(inB op 17 21 || op == 23)=false:=by rw [inB_no (by omega),Bool.false_or,beq_eq_false_iff_ne];omega
 have b5:inB op 1 23=true:=(inB_iff _ _ _).2 (by omega)
 have SH:=hide (fun w=>(show Calls Tryz.prog 149 #[.int .i64 op] w fun r w'=>r = .returned (.tuple #[.agg #[.bool false,.bool false,.bool true,.int .i64 0,.int .i64 0,.int .i64 0,.bool false],.bool true])∧Below w.heap.size w w' from by have h:=shiI_any op w;rw [b1,b2,b3,b4,b5] at h;exact h))
 have RG:=hide (fun w=>(show Calls Tryz.prog 102 #[.int .i64 op] w fun e w'=>e = .returned (.bool false)∧w'=w from by have h:=regB_any op w;rw [b3] at h;exact h))
 clear b1 b2 b3 b4 b5
 have OE:=hide ((qIw_at (s:=s) (ts:=ts) ho' (by omega)).trans (qIns_one (op:=op) (ts:=ts) (by omega) h14))
 have FN:=hide (fun w' (ho:qIw s ts=none) (hg:w.grownBy w' (some rb))=>(show PnR (qIw s ts) (VLn w.heap.size) rb w (.panicked pn) w' from pnR_none ho rfl hg))
 have FY:=hide (fun x q v w' (ho:qIw s ts=some (x,q)) (hg:w.grownBy w' (some rb)) (hv:(VLn w.heap.size) x w' v) (hz:Pr w' rb q)=>(show PnR (qIw s ts) (VLn w.heap.size) rb w (.returned v) w' from pnR_some ho rfl hg hv hz))
 generalize PnR (qIw s ts) (VLn w.heap.size) rb w=R at *
 generalize qIw s ts=O at *
 have hb0:=below_new w (.cells #[.int .i64 0,.string ⟨#[]⟩,.int .i64 0,.int .i64 0,.int .i64 0,.int .i64 0,.int .i64 0,.string ⟨#[]⟩,.slice none 0 0,.int .i64 0,.int .i64 0,.int .i64 0,.int .i64 0,.string ⟨#[]⟩,.slice none 0 0,.int .i64 0,.slice none 0 0] 30)
 have hg0:(w.alloc (.cells #[.int .i64 0,.string ⟨#[]⟩,.int .i64 0,.int .i64 0,.int .i64 0,.int .i64 0,.int .i64 0,.string ⟨#[]⟩,.slice none 0 0,.int .i64 0,.int .i64 0,.int .i64 0,.int .i64 0,.string ⟨#[]⟩,.slice none 0 0,.int .i64 0,.slice none 0 0] 30)).heap[w.heap.size]?=some (.cells #[.int .i64 0,.string ⟨#[]⟩,.int .i64 0,.int .i64 0,.int .i64 0,.int .i64 0,.int .i64 0,.string ⟨#[]⟩,.slice none 0 0,.int .i64 0,.int .i64 0,.int .i64 0,.int .i64 0,.string ⟨#[]⟩,.slice none 0 0,.int .i64 0,.slice none 0 0] 30 (0,0)):=Array.getElem?_push_size
 have hs0:w.heap.size<(w.alloc (.cells #[.int .i64 0,.string ⟨#[]⟩,.int .i64 0,.int .i64 0,.int .i64 0,.int .i64 0,.int .i64 0,.string ⟨#[]⟩,.slice none 0 0,.int .i64 0,.int .i64 0,.int .i64 0,.int .i64 0,.string ⟨#[]⟩,.slice none 0 0,.int .i64 0,.slice none 0 0] 30)).heap.size:=by simp
 obtain ⟨w0,hw0⟩:∃ w0,w.alloc (.cells #[.int .i64 0,.string ⟨#[]⟩,.int .i64 0,.int .i64 0,.int .i64 0,.int .i64 0,.int .i64 0,.string ⟨#[]⟩,.slice none 0 0,.int .i64 0,.int .i64 0,.int .i64 0,.int .i64 0,.string ⟨#[]⟩,.slice none 0 0,.int .i64 0,.slice none 0 0] 30)=w0:=⟨_,rfl⟩
 rw [hw0] at hb0 hg0 hs0
 have Q0:=hide (h.start.later hb0)
 have R0:=hide hg0
 have S0:=hide hs0
 have TB:=hide ht
 clear h ht hb0 hg0 hs0
 go_enter Tryz.func114,Tryz.ntmps114
 have X:=hide (opI s w0 h0 ((uh TB).grown (uh Q0).gr).k |> fun h=>by rw [ho'] at h;exact h)
 go_wp2_with fail
 refine (uh X).mono ?_
 rintro r w' ⟨rfl,hw'⟩
 rw [hw']
 clear hw' w' X
 clear h0 ho'
 have BGx:=hide (show w.heap.size≤w0.heap.size from Nat.le_of_lt (uh S0))
 have BLx:=hide (uh S0)
 have Qx1:=hide ((uh Q0).later (below_new w0 (.cells #[.int .i64 3,.string ⟨#[]⟩,.int .i64 op,.int .i64 0,.int .i64 0,.int .i64 0,.int .i64 0,.string ⟨#[]⟩,.slice none 0 0,.int .i64 0,.int .i64 0,.int .i64 0,.int .i64 0,.string ⟨#[]⟩,.slice none 0 0,.int .i64 0,.slice none 0 0] 30)))
 have Rx1:=hide (row_keep (uh R0) (below_new w0 (.cells #[.int .i64 3,.string ⟨#[]⟩,.int .i64 op,.int .i64 0,.int .i64 0,.int .i64 0,.int .i64 0,.string ⟨#[]⟩,.slice none 0 0,.int .i64 0,.int .i64 0,.int .i64 0,.int .i64 0,.string ⟨#[]⟩,.slice none 0 0,.int .i64 0,.slice none 0 0] 30)))
 have Sx1:=hide (Nat.lt_of_lt_of_le (uh S0) ((below_new w0 (.cells #[.int .i64 3,.string ⟨#[]⟩,.int .i64 op,.int .i64 0,.int .i64 0,.int .i64 0,.int .i64 0,.string ⟨#[]⟩,.slice none 0 0,.int .i64 0,.int .i64 0,.int .i64 0,.int .i64 0,.string ⟨#[]⟩,.slice none 0 0,.int .i64 0,.slice none 0 0] 30))).size)
 have Bx0:=hide (show (w0.alloc (.cells #[.int .i64 3,.string ⟨#[]⟩,.int .i64 op,.int .i64 0,.int .i64 0,.int .i64 0,.int .i64 0,.string ⟨#[]⟩,.slice none 0 0,.int .i64 0,.int .i64 0,.int .i64 0,.int .i64 0,.string ⟨#[]⟩,.slice none 0 0,.int .i64 0,.slice none 0 0] 30)).heap[w0.heap.size]?=some (.cells #[.int .i64 3,.string ⟨#[]⟩,.int .i64 op,.int .i64 0,.int .i64 0,.int .i64 0,.int .i64 0,.string ⟨#[]⟩,.slice none 0 0,.int .i64 0,.int .i64 0,.int .i64 0,.int .i64 0,.string ⟨#[]⟩,.slice none 0 0,.int .i64 0,.slice none 0 0] 30 (0,0)) from Array.getElem?_push_size)
 clear Q0 R0 S0
 have X:=hide (uh SH (w0.alloc (.cells #[.int .i64 3,.string ⟨#[]⟩,.int .i64 op,.int .i64 0,.int .i64 0,.int .i64 0,.int .i64 0,.string ⟨#[]⟩,.slice none 0 0,.int .i64 0,.int .i64 0,.int .i64 0,.int .i64 0,.string ⟨#[]⟩,.slice none 0 0,.int .i64 0,.slice none 0 0] 30)))
 go_wp2_with fail
 generalize (w0.alloc (.cells #[.int .i64 3,.string ⟨#[]⟩,.int .i64 op,.int .i64 0,.int .i64 0,.int .i64 0,.int .i64 0,.string ⟨#[]⟩,.slice none 0 0,.int .i64 0,.int .i64 0,.int .i64 0,.int .i64 0,.string ⟨#[]⟩,.slice none 0 0,.int .i64 0,.slice none 0 0] 30))=w1 at *
 generalize w0.heap.size=gx at *
 refine (uh X).mono ?_
 rintro r w2 ⟨rfl,hb⟩
 have Qx2:=hide ((uh Qx1).later hb)
 have Rx2:=hide (row_keep (uh Rx1) hb)
 have Sx2:=hide (Nat.lt_of_lt_of_le (uh Sx1) (hb).size)
 have Bxx2:=hide (row_keep (uh Bx0) hb)
 clear hb X Qx1 Rx1 Sx1 Bx0
 have BGs:=hide (show w.heap.size≤w2.heap.size from Nat.le_of_lt (uh Sx2))
 have NEsx:=hide (show w2.heap.size≠gx from Nat.ne_of_gt (Array.getElem?_eq_some_iff.1 (uh Bxx2)).1)
 have Qx3:=hide ((uh Qx2).later (below_new w2 (.cells #[.bool false,.bool false,.bool true,.int .i64 0,.int .i64 0,.int .i64 0,.bool false] 129)))
 have Rx3:=hide (row_keep (uh Rx2) (below_new w2 (.cells #[.bool false,.bool false,.bool true,.int .i64 0,.int .i64 0,.int .i64 0,.bool false] 129)))
 have Sx3:=hide (Nat.lt_of_lt_of_le (uh Sx2) ((below_new w2 (.cells #[.bool false,.bool false,.bool true,.int .i64 0,.int .i64 0,.int .i64 0,.bool false] 129))).size)
 have Bxx3:=hide (row_keep (uh Bxx2) (below_new w2 (.cells #[.bool false,.bool false,.bool true,.int .i64 0,.int .i64 0,.int .i64 0,.bool false] 129)))
 have Bs0:=hide (show (w2.alloc (.cells #[.bool false,.bool false,.bool true,.int .i64 0,.int .i64 0,.int .i64 0,.bool false] 129)).heap[w2.heap.size]?=some (.cells #[.bool false,.bool false,.bool true,.int .i64 0,.int .i64 0,.int .i64 0,.bool false] 129 (0,0)) from Array.getElem?_push_size)
 clear Qx2 Rx2 Sx2 Bxx2
 have X:=hide (uh RG (w2.alloc (.cells #[.bool false,.bool false,.bool true,.int .i64 0,.int .i64 0,.int .i64 0,.bool false] 129)))
 have cx2:=Lib.cell_of_heap (uh Bxx3) 2
 have fx2:=Lib.frozen_of_heap (uh Bxx3) 2
 go_wp2_with fail
 generalize (w2.alloc (.cells #[.bool false,.bool false,.bool true,.int .i64 0,.int .i64 0,.int .i64 0,.bool false] 129))=w3 at *
 generalize w2.heap.size=gs at *
 clear cx2 fx2
 refine (uh X).mono ?_
 rintro r w' ⟨rfl,hw'⟩
 rw [hw']
 clear hw' w' X
 have X:=hide (uh RG w3)
 have cs1:=Lib.cell_of_heap (uh Bs0) 1
 have fs1:=Lib.frozen_of_heap (uh Bs0) 1
 have cs2:=Lib.cell_of_heap (uh Bs0) 2
 have fs2:=Lib.frozen_of_heap (uh Bs0) 2
 have cx2:=Lib.cell_of_heap (uh Bxx3) 2
 have fx2:=Lib.frozen_of_heap (uh Bxx3) 2
 go_wp2_with fail
 clear cs1 fs1 cs2 fs2 cx2 fx2
 refine (uh X).mono ?_
 rintro r w' ⟨rfl,hw'⟩
 rw [hw']
 clear hw' w' X
 have X:=hide (agI rb ts w3 (uh Qx3).pr ((uh TB).grown (uh Qx3).gr))
 have cs2:=Lib.cell_of_heap (uh Bs0) 2
 have fs2:=Lib.frozen_of_heap (uh Bs0) 2
 go_wp2_with fail
 clear cs2 fs2
 refine (uh X).mono ?_
 rintro r w4 ⟨hg,hm⟩
 cases ho:pArg ts with
 | none =>
  rw [ho] at hm
  have hr:r = .panicked pn:=hm
  subst hr
  exact ⟨rfl,uh FN _ ((uh OE).trans (bnd_no ho _)) (grownBy_trans (uh Qx3).gr hg)⟩
 | some p =>
  obtain ⟨x4,q4⟩:=p
  rw [ho] at hm
  obtain ⟨v,rfl,⟨c2,c2p,rfl,hn⟩,hz⟩:=hm
  have OE4:=hide ((uh OE).trans (bnd_at ho _))
  have PM4:=hide (uh Sx3)
  have PBx4:=hide (show gx<w3.heap.size from (Array.getElem?_eq_some_iff.1 (uh Bxx3)).1)
  have Rx4:=hide ((uh Qx3).blk hg (uh Rx3) (Nat.le_refl _))
  have Bxx4:=hide ((uh Qx3).blk hg (uh Bxx3) (uh BGx))
  have Bxs4:=hide ((uh Qx3).blk hg (uh Bs0) (uh BGs))
  have Qg4:=hide ((uh Qx3).next hz hg)
  clear hg hz ho X Rx3 Sx3 Bxx3 Bs0 Qx3 OE
  have Nt24:=hide (hn).half
  clear hn
  have FE:=hide (fun w' (h:Pq w w' rb q4) (hn:HalfX w' w3.heap.size w4.heap.size x4.e c2)=>uh FY _ _ (.agg #[.int .i64 3,.string ⟨#[]⟩,.int .i64 op,.int .i64 0,.int .i64 0,.int .i64 0,.int .i64 0,.string ⟨#[]⟩,.slice none 0 0,.int .i64 x4.f,.int .i64 x4.r,.int .i64 x4.e.k,.int .i64 x4.e.n,.string x4.e.s,.slice c2 x4.e.l.length c2p,.int .i64 0,.slice none 0 0]) w' (uh OE4) h.gr ⟨⟨none,0,c2,c2p,none,0⟩,rfl,NdL.dst (hn.new.lower (Nat.le_of_lt (uh PM4))) _ _ _ _ _ _ _ _ _⟩ h.pr)
  clear FY OE4 FN
  have FF:=hide (fun w' h=>uh FE w' h)
  clear FE
  generalize x4.e.k=k2 at FF ⊢
  generalize x4.e.n=n2 at FF ⊢
  generalize x4.e.s=s2 at FF ⊢
  generalize x4.e.l.length=l2 at FF ⊢
  generalize x4.f=f2 at FF ⊢
  generalize x4.r=r2 at FF ⊢
  have Qx5:=hide ((uh Qg4).row (uh Bxx4) (by decide) (by decide) (uh BGx) #[.int .i64 3,.string ⟨#[]⟩,.int .i64 op,.int .i64 0,.int .i64 0,.int .i64 0,.int .i64 0,.string ⟨#[]⟩,.slice none 0 0,.int .i64 f2,.int .i64 r2,.int .i64 k2,.int .i64 n2,.string s2,.slice c2 l2 c2p,.int .i64 0,.slice none 0 0])
  have Rx5:=hide ((setRow_other w4 gx w.heap.size #[.int .i64 3,.string ⟨#[]⟩,.int .i64 op,.int .i64 0,.int .i64 0,.int .i64 0,.int .i64 0,.string ⟨#[]⟩,.slice none 0 0,.int .i64 f2,.int .i64 r2,.int .i64 k2,.int .i64 n2,.string s2,.slice c2 l2 c2p,.int .i64 0,.slice none 0 0] (Nat.ne_of_lt (uh BLx))).trans (uh Rx4))
  have Bxx5:=hide ((show ((w4.setRow gx #[.int .i64 3,.string ⟨#[]⟩,.int .i64 op,.int .i64 0,.int .i64 0,.int .i64 0,.int .i64 0,.string ⟨#[]⟩,.slice none 0 0,.int .i64 f2,.int .i64 r2,.int .i64 k2,.int .i64 n2,.string s2,.slice c2 l2 c2p,.int .i64 0,.slice none 0 0])).heap[gx]?=some (.cells #[.int .i64 3,.string ⟨#[]⟩,.int .i64 op,.int .i64 0,.int .i64 0,.int .i64 0,.int .i64 0,.string ⟨#[]⟩,.slice none 0 0,.int .i64 f2,.int .i64 r2,.int .i64 k2,.int .i64 n2,.string s2,.slice c2 l2 c2p,.int .i64 0,.slice none 0 0] 30 (0,0)) from setRow_heap _ _ _ _ _ _ (uh Bxx4)))
  have Bxs5:=hide ((setRow_other w4 gx gs #[.int .i64 3,.string ⟨#[]⟩,.int .i64 op,.int .i64 0,.int .i64 0,.int .i64 0,.int .i64 0,.string ⟨#[]⟩,.slice none 0 0,.int .i64 f2,.int .i64 r2,.int .i64 k2,.int .i64 n2,.string s2,.slice c2 l2 c2p,.int .i64 0,.slice none 0 0] (uh NEsx)).trans (uh Bxs4))
  have Nxt25:=hide ((uh Nt24).drawn (grownBy_row #[.int .i64 3,.string ⟨#[]⟩,.int .i64 op,.int .i64 0,.int .i64 0,.int .i64 0,.int .i64 0,.string ⟨#[]⟩,.slice none 0 0,.int .i64 f2,.int .i64 r2,.int .i64 k2,.int .i64 n2,.string s2,.slice c2 l2 c2p,.int .i64 0,.slice none 0 0]) (uh PBx4))
  clear Qg4 Rx4 Bxs4 Nt24
  have cs5:=Lib.cell_of_heap (uh Bxs5) 5
  go_wp2_with (first|((with_reducible show wpList _ _ _ (⟨_,.store _ _ _,_,_,_,_⟩::_) _ _);refine wpList_store_part rfl 28 _ _ rfl gx 9 #[.int .i64 f2,.int .i64 r2,.int .i64 k2,.int .i64 n2,.string s2,.slice c2 l2 c2p] rfl rfl 30 #[.int .i64 3,.string ⟨#[]⟩,.int .i64 op,.int .i64 0,.int .i64 0,.int .i64 0,.int .i64 0,.string ⟨#[]⟩,.slice none 0 0,.int .i64 0,.int .i64 0,.int .i64 0,.int .i64 0,.string ⟨#[]⟩,.slice none 0 0,.int .i64 0,.slice none 0 0] #[.int .i64 3,.string ⟨#[]⟩,.int .i64 op,.int .i64 0,.int .i64 0,.int .i64 0,.int .i64 0,.string ⟨#[]⟩,.slice none 0 0,.int .i64 f2,.int .i64 r2,.int .i64 k2,.int .i64 n2,.string s2,.slice c2 l2 c2p,.int .i64 0,.slice none 0 0] (uh Bxx4) szAg (by simp) (ag_one _ _ _ _ _ _ _ _) rfl ?_)|((with_reducible show wpList _ _ _ (⟨_,.load _ _,_,_,_,_⟩::_) _ _);refine wpList_load_row rfl 30 _ rfl gx rfl 30 #[.int .i64 3,.string ⟨#[]⟩,.int .i64 op,.int .i64 0,.int .i64 0,.int .i64 0,.int .i64 0,.string ⟨#[]⟩,.slice none 0 0,.int .i64 f2,.int .i64 r2,.int .i64 k2,.int .i64 n2,.string s2,.slice c2 l2 c2p,.int .i64 0,.slice none 0 0] (0,0) _ (uh Bxx5) Tryz.underlying30 rfl (by kernel_rfl) ?_)|((with_reducible show wpList _ _ _ (⟨_,.store _ _ _,_,_,_,_⟩::_) _ _);refine wpList_store_row rfl 30 _ _ rfl w.heap.size #[.int .i64 3,.string ⟨#[]⟩,.int .i64 op,.int .i64 0,.int .i64 0,.int .i64 0,.int .i64 0,.string ⟨#[]⟩,.slice none 0 0,.int .i64 f2,.int .i64 r2,.int .i64 k2,.int .i64 n2,.string s2,.slice c2 l2 c2p,.int .i64 0,.slice none 0 0] rfl rfl 30 _ (uh Rx5) szLn rfl (by simp [Value.oneCell']) ?_))
  refine bodyPost_ret (results_cell_row (P:=Tryz.prog) rfl _ _ w.heap.size 30 #[.int .i64 3,.string ⟨#[]⟩,.int .i64 op,.int .i64 0,.int .i64 0,.int .i64 0,.int .i64 0,.string ⟨#[]⟩,.slice none 0 0,.int .i64 f2,.int .i64 r2,.int .i64 k2,.int .i64 n2,.string s2,.slice c2 l2 c2p,.int .i64 0,.slice none 0 0] (0,0) _ rfl (setRow_heap _ _ _ _ _ _ (uh Rx5)) Tryz.underlying30 rfl szLn) rfl ?_
  exact uh FF _ ((uh Qx5).row (uh Rx5) (by decide) (by decide) (Nat.le_refl _) _) ((uh Nxt25).drawn (grownBy_row _) (uh PM4))
theorem li_jsr (s:ByteArray) (op:Int) (ho':opN s=op) (h0:s≠E0) (h15:op=15) (rb:Nat) (ts:List Tk) (w:World) (h:Pr w rb ts) (ht:TabP w rb):Calls Tryz.prog 114 #[.pointer (some ⟨rb,0,none⟩),.string s] w (PnR (qIw s ts) (VLn w.heap.size) rb w):=by
 have b1:inB op 1 6=false:=inB_no (by omega)
 have b2:inB op 1 15=true:=(inB_iff _ _ _).2 (by omega)
 have b3:regB op=true:=by unfold regB;rw [Bool.or_eq_true,beq_iff_eq,beq_iff_eq];omega
 have b4:(inB op 17 21 || op == 23)=false:=by rw [inB_no (by omega),Bool.false_or,beq_eq_false_iff_ne];omega
 have b5:inB op 1 23=true:=(inB_iff _ _ _).2 (by omega)
 have SH:=hide (fun w=>(show Calls Tryz.prog 149 #[.int .i64 op] w fun r w'=>r = .returned (.tuple #[.agg #[.bool false,.bool false,.bool true,.int .i64 7,.int .i64 0,.int .i64 0,.bool false],.bool true])∧Below w.heap.size w w' from by have h:=shiI_any op w;rw [b1,b2,b3,b4,b5] at h;exact h))
 have RG:=hide (fun w=>(show Calls Tryz.prog 102 #[.int .i64 op] w fun e w'=>e = .returned (.bool true)∧w'=w from by have h:=regB_any op w;rw [b3] at h;exact h))
 clear b1 b2 b3 b4 b5
 have OEH:=hide ((qIw_at (s:=s) (ts:=ts) ho' (by omega)).trans ((congrArg (fun o=>qIns o ts) h15).trans (qIns_jsr (ts:=ts))))
 have HOP:=hide h15
 clear h15
 have OE:=hide (uh OEH)
 have FN:=hide (fun w' (ho:qIw s ts=none) (hg:w.grownBy w' (some rb))=>(show PnR (qIw s ts) (VLn w.heap.size) rb w (.panicked pn) w' from pnR_none ho rfl hg))
 have FY:=hide (fun x q v w' (ho:qIw s ts=some (x,q)) (hg:w.grownBy w' (some rb)) (hv:(VLn w.heap.size) x w' v) (hz:Pr w' rb q)=>(show PnR (qIw s ts) (VLn w.heap.size) rb w (.returned v) w' from pnR_some ho rfl hg hv hz))
 generalize PnR (qIw s ts) (VLn w.heap.size) rb w=R at *
 generalize qIw s ts=O at *
 have hb0:=below_new w (.cells #[.int .i64 0,.string ⟨#[]⟩,.int .i64 0,.int .i64 0,.int .i64 0,.int .i64 0,.int .i64 0,.string ⟨#[]⟩,.slice none 0 0,.int .i64 0,.int .i64 0,.int .i64 0,.int .i64 0,.string ⟨#[]⟩,.slice none 0 0,.int .i64 0,.slice none 0 0] 30)
 have hg0:(w.alloc (.cells #[.int .i64 0,.string ⟨#[]⟩,.int .i64 0,.int .i64 0,.int .i64 0,.int .i64 0,.int .i64 0,.string ⟨#[]⟩,.slice none 0 0,.int .i64 0,.int .i64 0,.int .i64 0,.int .i64 0,.string ⟨#[]⟩,.slice none 0 0,.int .i64 0,.slice none 0 0] 30)).heap[w.heap.size]?=some (.cells #[.int .i64 0,.string ⟨#[]⟩,.int .i64 0,.int .i64 0,.int .i64 0,.int .i64 0,.int .i64 0,.string ⟨#[]⟩,.slice none 0 0,.int .i64 0,.int .i64 0,.int .i64 0,.int .i64 0,.string ⟨#[]⟩,.slice none 0 0,.int .i64 0,.slice none 0 0] 30 (0,0)):=Array.getElem?_push_size
 have hs0:w.heap.size<(w.alloc (.cells #[.int .i64 0,.string ⟨#[]⟩,.int .i64 0,.int .i64 0,.int .i64 0,.int .i64 0,.int .i64 0,.string ⟨#[]⟩,.slice none 0 0,.int .i64 0,.int .i64 0,.int .i64 0,.int .i64 0,.string ⟨#[]⟩,.slice none 0 0,.int .i64 0,.slice none 0 0] 30)).heap.size:=by simp
 obtain ⟨w0,hw0⟩:∃ w0,w.alloc (.cells #[.int .i64 0,.string ⟨#[]⟩,.int .i64 0,.int .i64 0,.int .i64 0,.int .i64 0,.int .i64 0,.string ⟨#[]⟩,.slice none 0 0,.int .i64 0,.int .i64 0,.int .i64 0,.int .i64 0,.string ⟨#[]⟩,.slice none 0 0,.int .i64 0,.slice none 0 0] 30)=w0:=⟨_,rfl⟩
 rw [hw0] at hb0 hg0 hs0
 have Q0:=hide (h.start.later hb0)
 have R0:=hide hg0
 have S0:=hide hs0
 have TB:=hide ht
 clear h ht hb0 hg0 hs0
 go_enter Tryz.func114,Tryz.ntmps114
 clear OEH
 have X:=hide (opI s w0 h0 ((uh TB).grown (uh Q0).gr).k |> fun h=>by rw [ho'] at h;exact h)
 go_wp2_with fail
 refine (uh X).mono ?_
 rintro r w' ⟨rfl,hw'⟩
 rw [hw']
 clear hw' w' X
 clear h0 ho'
 have BGx:=hide (show w.heap.size≤w0.heap.size from Nat.le_of_lt (uh S0))
 have BLx:=hide (uh S0)
 have Qx1:=hide ((uh Q0).later (below_new w0 (.cells #[.int .i64 3,.string ⟨#[]⟩,.int .i64 op,.int .i64 0,.int .i64 0,.int .i64 0,.int .i64 0,.string ⟨#[]⟩,.slice none 0 0,.int .i64 0,.int .i64 0,.int .i64 0,.int .i64 0,.string ⟨#[]⟩,.slice none 0 0,.int .i64 0,.slice none 0 0] 30)))
 have Rx1:=hide (row_keep (uh R0) (below_new w0 (.cells #[.int .i64 3,.string ⟨#[]⟩,.int .i64 op,.int .i64 0,.int .i64 0,.int .i64 0,.int .i64 0,.string ⟨#[]⟩,.slice none 0 0,.int .i64 0,.int .i64 0,.int .i64 0,.int .i64 0,.string ⟨#[]⟩,.slice none 0 0,.int .i64 0,.slice none 0 0] 30)))
 have Sx1:=hide (Nat.lt_of_lt_of_le (uh S0) ((below_new w0 (.cells #[.int .i64 3,.string ⟨#[]⟩,.int .i64 op,.int .i64 0,.int .i64 0,.int .i64 0,.int .i64 0,.string ⟨#[]⟩,.slice none 0 0,.int .i64 0,.int .i64 0,.int .i64 0,.int .i64 0,.string ⟨#[]⟩,.slice none 0 0,.int .i64 0,.slice none 0 0] 30))).size)
 have Bx0:=hide (show (w0.alloc (.cells #[.int .i64 3,.string ⟨#[]⟩,.int .i64 op,.int .i64 0,.int .i64 0,.int .i64 0,.int .i64 0,.string ⟨#[]⟩,.slice none 0 0,.int .i64 0,.int .i64 0,.int .i64 0,.int .i64 0,.string ⟨#[]⟩,.slice none 0 0,.int .i64 0,.slice none 0 0] 30)).heap[w0.heap.size]?=some (.cells #[.int .i64 3,.string ⟨#[]⟩,.int .i64 op,.int .i64 0,.int .i64 0,.int .i64 0,.int .i64 0,.string ⟨#[]⟩,.slice none 0 0,.int .i64 0,.int .i64 0,.int .i64 0,.int .i64 0,.string ⟨#[]⟩,.slice none 0 0,.int .i64 0,.slice none 0 0] 30 (0,0)) from Array.getElem?_push_size)
 clear Q0 R0 S0
 have X:=hide (uh SH (w0.alloc (.cells #[.int .i64 3,.string ⟨#[]⟩,.int .i64 op,.int .i64 0,.int .i64 0,.int .i64 0,.int .i64 0,.string ⟨#[]⟩,.slice none 0 0,.int .i64 0,.int .i64 0,.int .i64 0,.int .i64 0,.string ⟨#[]⟩,.slice none 0 0,.int .i64 0,.slice none 0 0] 30)))
 go_wp2_with fail
 generalize (w0.alloc (.cells #[.int .i64 3,.string ⟨#[]⟩,.int .i64 op,.int .i64 0,.int .i64 0,.int .i64 0,.int .i64 0,.string ⟨#[]⟩,.slice none 0 0,.int .i64 0,.int .i64 0,.int .i64 0,.int .i64 0,.string ⟨#[]⟩,.slice none 0 0,.int .i64 0,.slice none 0 0] 30))=w1 at *
 generalize w0.heap.size=gx at *
 refine (uh X).mono ?_
 rintro r w2 ⟨rfl,hb⟩
 have Qx2:=hide ((uh Qx1).later hb)
 have Rx2:=hide (row_keep (uh Rx1) hb)
 have Sx2:=hide (Nat.lt_of_lt_of_le (uh Sx1) (hb).size)
 have Bxx2:=hide (row_keep (uh Bx0) hb)
 clear hb X Qx1 Rx1 Sx1 Bx0
 have BGs:=hide (show w.heap.size≤w2.heap.size from Nat.le_of_lt (uh Sx2))
 have NEsx:=hide (show w2.heap.size≠gx from Nat.ne_of_gt (Array.getElem?_eq_some_iff.1 (uh Bxx2)).1)
 have Qx3:=hide ((uh Qx2).later (below_new w2 (.cells #[.bool false,.bool false,.bool true,.int .i64 7,.int .i64 0,.int .i64 0,.bool false] 129)))
 have Rx3:=hide (row_keep (uh Rx2) (below_new w2 (.cells #[.bool false,.bool false,.bool true,.int .i64 7,.int .i64 0,.int .i64 0,.bool false] 129)))
 have Sx3:=hide (Nat.lt_of_lt_of_le (uh Sx2) ((below_new w2 (.cells #[.bool false,.bool false,.bool true,.int .i64 7,.int .i64 0,.int .i64 0,.bool false] 129))).size)
 have Bxx3:=hide (row_keep (uh Bxx2) (below_new w2 (.cells #[.bool false,.bool false,.bool true,.int .i64 7,.int .i64 0,.int .i64 0,.bool false] 129)))
 have Bs0:=hide (show (w2.alloc (.cells #[.bool false,.bool false,.bool true,.int .i64 7,.int .i64 0,.int .i64 0,.bool false] 129)).heap[w2.heap.size]?=some (.cells #[.bool false,.bool false,.bool true,.int .i64 7,.int .i64 0,.int .i64 0,.bool false] 129 (0,0)) from Array.getElem?_push_size)
 clear Qx2 Rx2 Sx2 Bxx2
 have X:=hide (uh RG (w2.alloc (.cells #[.bool false,.bool false,.bool true,.int .i64 7,.int .i64 0,.int .i64 0,.bool false] 129)))
 have cx2:=Lib.cell_of_heap (uh Bxx3) 2
 have fx2:=Lib.frozen_of_heap (uh Bxx3) 2
 go_wp2_with fail
 generalize (w2.alloc (.cells #[.bool false,.bool false,.bool true,.int .i64 7,.int .i64 0,.int .i64 0,.bool false] 129))=w3 at *
 generalize w2.heap.size=gs at *
 clear cx2 fx2
 refine (uh X).mono ?_
 rintro r w' ⟨rfl,hw'⟩
 rw [hw']
 clear hw' w' X
 have X:=hide (rgRI rb ts w3 (uh Qx3).pr ((uh TB).grown (uh Qx3).gr))
 go_wp2_with fail
 refine (uh X).mono ?_
 rintro r w4 ⟨hg,hm⟩
 cases ho:qRg ts with
 | none =>
  rw [ho] at hm
  have hr:r = .panicked pn:=hm
  subst hr
  exact ⟨rfl,uh FN _ ((uh OE).trans (bnd_no ho _)) (grownBy_trans (uh Qx3).gr hg)⟩
 | some p =>
  obtain ⟨x4,q4⟩:=p
  rw [ho] at hm
  obtain ⟨v,rfl,hv,hz⟩:=hm
  have OE4:=hide ((uh OE).trans (bnd_at ho _))
  have Rx4:=hide ((uh Qx3).blk hg (uh Rx3) (Nat.le_refl _))
  have Sx4:=hide (Nat.lt_of_lt_of_le (uh Sx3) (hg).size)
  have Bxx4:=hide ((uh Qx3).blk hg (uh Bxx3) (uh BGx))
  have Bxs4:=hide ((uh Qx3).blk hg (uh Bs0) (uh BGs))
  have Qg4:=hide ((uh Qx3).next hz hg)
  unfold VIn at hv
  subst hv
  clear hg hz ho X Rx3 Sx3 Bxx3 Bs0 Qx3 OE
  have Qx5:=hide ((uh Qg4).row (uh Bxx4) (by decide) (by decide) (uh BGx) #[.int .i64 3,.string ⟨#[]⟩,.int .i64 op,.int .i64 0,.int .i64 0,.int .i64 0,.int .i64 0,.string ⟨#[]⟩,.slice none 0 0,.int .i64 0,.int .i64 0,.int .i64 0,.int .i64 0,.string ⟨#[]⟩,.slice none 0 0,.int .i64 x4,.slice none 0 0])
  have Rx5:=hide ((setRow_other w4 gx w.heap.size #[.int .i64 3,.string ⟨#[]⟩,.int .i64 op,.int .i64 0,.int .i64 0,.int .i64 0,.int .i64 0,.string ⟨#[]⟩,.slice none 0 0,.int .i64 0,.int .i64 0,.int .i64 0,.int .i64 0,.string ⟨#[]⟩,.slice none 0 0,.int .i64 x4,.slice none 0 0] (Nat.ne_of_lt (uh BLx))).trans (uh Rx4))
  have Sx5:=hide ((show w.heap.size<((w4.setRow gx #[.int .i64 3,.string ⟨#[]⟩,.int .i64 op,.int .i64 0,.int .i64 0,.int .i64 0,.int .i64 0,.string ⟨#[]⟩,.slice none 0 0,.int .i64 0,.int .i64 0,.int .i64 0,.int .i64 0,.string ⟨#[]⟩,.slice none 0 0,.int .i64 x4,.slice none 0 0])).heap.size by rw [setRow_size];exact uh Sx4))
  have Bxx5:=hide ((show ((w4.setRow gx #[.int .i64 3,.string ⟨#[]⟩,.int .i64 op,.int .i64 0,.int .i64 0,.int .i64 0,.int .i64 0,.string ⟨#[]⟩,.slice none 0 0,.int .i64 0,.int .i64 0,.int .i64 0,.int .i64 0,.string ⟨#[]⟩,.slice none 0 0,.int .i64 x4,.slice none 0 0])).heap[gx]?=some (.cells #[.int .i64 3,.string ⟨#[]⟩,.int .i64 op,.int .i64 0,.int .i64 0,.int .i64 0,.int .i64 0,.string ⟨#[]⟩,.slice none 0 0,.int .i64 0,.int .i64 0,.int .i64 0,.int .i64 0,.string ⟨#[]⟩,.slice none 0 0,.int .i64 x4,.slice none 0 0] 30 (0,0)) from setRow_heap _ _ _ _ _ _ (uh Bxx4)))
  have Bxs5:=hide ((setRow_other w4 gx gs #[.int .i64 3,.string ⟨#[]⟩,.int .i64 op,.int .i64 0,.int .i64 0,.int .i64 0,.int .i64 0,.string ⟨#[]⟩,.slice none 0 0,.int .i64 0,.int .i64 0,.int .i64 0,.int .i64 0,.string ⟨#[]⟩,.slice none 0 0,.int .i64 x4,.slice none 0 0] (uh NEsx)).trans (uh Bxs4))
  clear Qg4 Rx4 Sx4 Bxs4
  have X:=hide (uh RG (w4.setRow gx #[.int .i64 3,.string ⟨#[]⟩,.int .i64 op,.int .i64 0,.int .i64 0,.int .i64 0,.int .i64 0,.string ⟨#[]⟩,.slice none 0 0,.int .i64 0,.int .i64 0,.int .i64 0,.int .i64 0,.string ⟨#[]⟩,.slice none 0 0,.int .i64 x4,.slice none 0 0]))
  have cs1:=Lib.cell_of_heap (uh Bxs5) 1
  have fs1:=Lib.frozen_of_heap (uh Bxs5) 1
  have cs2:=Lib.cell_of_heap (uh Bxs5) 2
  have fs2:=Lib.frozen_of_heap (uh Bxs5) 2
  have cx2:=Lib.cell_of_heap (uh Bxx5) 2
  have fx2:=Lib.frozen_of_heap (uh Bxx5) 2
  go_wp2_with (first|((with_reducible show wpList _ _ _ (⟨_,.store _ _ _,_,_,_,_⟩::_) _ _);refine wpList_store_cell rfl 3 _ _ rfl gx 15 (.int .i64 x4) rfl rfl 30 #[.int .i64 3,.string ⟨#[]⟩,.int .i64 op,.int .i64 0,.int .i64 0,.int .i64 0,.int .i64 0,.string ⟨#[]⟩,.slice none 0 0,.int .i64 0,.int .i64 0,.int .i64 0,.int .i64 0,.string ⟨#[]⟩,.slice none 0 0,.int .i64 0,.slice none 0 0] #[.int .i64 3,.string ⟨#[]⟩,.int .i64 op,.int .i64 0,.int .i64 0,.int .i64 0,.int .i64 0,.string ⟨#[]⟩,.slice none 0 0,.int .i64 0,.int .i64 0,.int .i64 0,.int .i64 0,.string ⟨#[]⟩,.slice none 0 0,.int .i64 x4,.slice none 0 0] (uh Bxx4) (by kernel_rfl) (by simp) rfl rfl rfl ?_))
  generalize (w4.setRow gx #[.int .i64 3,.string ⟨#[]⟩,.int .i64 op,.int .i64 0,.int .i64 0,.int .i64 0,.int .i64 0,.string ⟨#[]⟩,.slice none 0 0,.int .i64 0,.int .i64 0,.int .i64 0,.int .i64 0,.string ⟨#[]⟩,.slice none 0 0,.int .i64 x4,.slice none 0 0])=w5 at *
  clear Bxx4
  clear cs1 fs1 cs2 fs2 cx2 fx2
  refine (uh X).mono ?_
  rintro r w' ⟨rfl,hw'⟩
  rw [hw']
  clear hw' w' X
  have X:=hide (markI_any (mkS 44) w5 |> fun h=>by unfold Tk.v Tk.cs at h;exact h)
  go_wp2_with fail
  refine (uh X).mono ?_
  rintro r w6 ⟨rfl,hb⟩
  have Qx6:=hide ((uh Qx5).later hb)
  have Rx6:=hide (row_keep (uh Rx5) hb)
  have Sx6:=hide (Nat.lt_of_lt_of_le (uh Sx5) (hb).size)
  have Bxx6:=hide (row_keep (uh Bxx5) hb)
  have Bxs6:=hide (row_keep (uh Bxs5) hb)
  clear hb X Qx5 Rx5 Sx5 Bxx5 Bxs5
  have X:=hide (wmI 44 (by decide) rb q4 w6 (uh Qx6).pr)
  go_wp2_with fail
  refine (uh X).mono ?_
  rintro r w7 ⟨hg,hm⟩
  cases ho:pMs (mkS 44) q4 with
  | none =>
   rw [ho] at hm
   have hr:r = .panicked pn:=hm
   subst hr
   exact ⟨rfl,uh FN _ ((uh OE4).trans (bnd_no ho _)) (grownBy_trans (uh Qx6).gr hg)⟩
  | some p =>
   obtain ⟨x7,q7⟩:=p
   rw [ho] at hm
   obtain ⟨v,rfl,hv,hz⟩:=hm
   have OE7:=hide ((uh OE4).trans (bnd_at ho _))
   have Rx7:=hide ((uh Qx6).blk hg (uh Rx6) (Nat.le_refl _))
   have Sx7:=hide (Nat.lt_of_lt_of_le (uh Sx6) (hg).size)
   have Bxx7:=hide ((uh Qx6).blk hg (uh Bxx6) (uh BGx))
   have Bxs7:=hide ((uh Qx6).blk hg (uh Bxs6) (uh BGs))
   have Qg7:=hide ((uh Qx6).next hz hg)
   unfold VUn at hv
   subst hv
   clear hg hz ho X Rx6 Sx6 Bxx6 Bxs6 Qx6 OE4
   have X:=hide (agI rb q7 w7 (uh Qg7).pr ((uh TB).grown (uh Qg7).gr))
   have cs2:=Lib.cell_of_heap (uh Bxs7) 2
   have fs2:=Lib.frozen_of_heap (uh Bxs7) 2
   go_wp2_with fail
   clear cs2 fs2
   refine (uh X).mono ?_
   rintro r w8 ⟨hg,hm⟩
   cases ho:pArg q7 with
   | none =>
    rw [ho] at hm
    have hr:r = .panicked pn:=hm
    subst hr
    exact ⟨rfl,uh FN _ ((uh OE7).trans (bnd_no ho _)) (grownBy_trans (uh Qg7).gr hg)⟩
   | some p =>
    obtain ⟨x8,q8⟩:=p
    rw [ho] at hm
    obtain ⟨v,rfl,⟨c2,c2p,rfl,hn⟩,hz⟩:=hm
    have OE8:=hide ((uh OE7).trans (bnd_at ho _))
    have PM8:=hide (uh Sx7)
    have PBx8:=hide (show gx<w7.heap.size from (Array.getElem?_eq_some_iff.1 (uh Bxx7)).1)
    have Rx8:=hide ((uh Qg7).blk hg (uh Rx7) (Nat.le_refl _))
    have Bxx8:=hide ((uh Qg7).blk hg (uh Bxx7) (uh BGx))
    have Bxs8:=hide ((uh Qg7).blk hg (uh Bxs7) (uh BGs))
    have Qg8:=hide ((uh Qg7).next hz hg)
    clear hg hz ho X Rx7 Sx7 Bxx7 Bxs7 Qg7 OE7
    have Nt28:=hide (hn).half
    clear hn
    have FE:=hide (fun w' (h:Pq w w' rb q8) (hn:HalfX w' w7.heap.size w8.heap.size x8.e c2)=>uh FY _ _ (.agg #[.int .i64 3,.string ⟨#[]⟩,.int .i64 op,.int .i64 0,.int .i64 0,.int .i64 0,.int .i64 0,.string ⟨#[]⟩,.slice none 0 0,.int .i64 x8.f,.int .i64 x8.r,.int .i64 x8.e.k,.int .i64 x8.e.n,.string x8.e.s,.slice c2 x8.e.l.length c2p,.int .i64 x4,.slice none 0 0]) w' (uh OE8) h.gr ⟨⟨none,0,c2,c2p,none,0⟩,by rw [uh HOP];rfl,NdL.dst (hn.new.lower (Nat.le_of_lt (uh PM8))) _ _ _ _ _ _ _ _ _⟩ h.pr)
    clear FY OE8 FN
    have FF:=hide (fun w' h=>uh FE w' h)
    clear FE
    generalize x8.e.k=k2 at FF ⊢
    generalize x8.e.n=n2 at FF ⊢
    generalize x8.e.s=s2 at FF ⊢
    generalize x8.e.l.length=l2 at FF ⊢
    generalize x8.f=f2 at FF ⊢
    generalize x8.r=r2 at FF ⊢
    have Qx9:=hide ((uh Qg8).row (uh Bxx8) (by decide) (by decide) (uh BGx) #[.int .i64 3,.string ⟨#[]⟩,.int .i64 op,.int .i64 0,.int .i64 0,.int .i64 0,.int .i64 0,.string ⟨#[]⟩,.slice none 0 0,.int .i64 f2,.int .i64 r2,.int .i64 k2,.int .i64 n2,.string s2,.slice c2 l2 c2p,.int .i64 x4,.slice none 0 0])
    have Rx9:=hide ((setRow_other w8 gx w.heap.size #[.int .i64 3,.string ⟨#[]⟩,.int .i64 op,.int .i64 0,.int .i64 0,.int .i64 0,.int .i64 0,.string ⟨#[]⟩,.slice none 0 0,.int .i64 f2,.int .i64 r2,.int .i64 k2,.int .i64 n2,.string s2,.slice c2 l2 c2p,.int .i64 x4,.slice none 0 0] (Nat.ne_of_lt (uh BLx))).trans (uh Rx8))
    have Bxx9:=hide ((show ((w8.setRow gx #[.int .i64 3,.string ⟨#[]⟩,.int .i64 op,.int .i64 0,.int .i64 0,.int .i64 0,.int .i64 0,.string ⟨#[]⟩,.slice none 0 0,.int .i64 f2,.int .i64 r2,.int .i64 k2,.int .i64 n2,.string s2,.slice c2 l2 c2p,.int .i64 x4,.slice none 0 0])).heap[gx]?=some (.cells #[.int .i64 3,.string ⟨#[]⟩,.int .i64 op,.int .i64 0,.int .i64 0,.int .i64 0,.int .i64 0,.string ⟨#[]⟩,.slice none 0 0,.int .i64 f2,.int .i64 r2,.int .i64 k2,.int .i64 n2,.string s2,.slice c2 l2 c2p,.int .i64 x4,.slice none 0 0] 30 (0,0)) from setRow_heap _ _ _ _ _ _ (uh Bxx8)))
    have Bxs9:=hide ((setRow_other w8 gx gs #[.int .i64 3,.string ⟨#[]⟩,.int .i64 op,.int .i64 0,.int .i64 0,.int .i64 0,.int .i64 0,.string ⟨#[]⟩,.slice none 0 0,.int .i64 f2,.int .i64 r2,.int .i64 k2,.int .i64 n2,.string s2,.slice c2 l2 c2p,.int .i64 x4,.slice none 0 0] (uh NEsx)).trans (uh Bxs8))
    have Nxt29:=hide ((uh Nt28).drawn (grownBy_row #[.int .i64 3,.string ⟨#[]⟩,.int .i64 op,.int .i64 0,.int .i64 0,.int .i64 0,.int .i64 0,.string ⟨#[]⟩,.slice none 0 0,.int .i64 f2,.int .i64 r2,.int .i64 k2,.int .i64 n2,.string s2,.slice c2 l2 c2p,.int .i64 x4,.slice none 0 0]) (uh PBx8))
    clear Qg8 Rx8 Bxs8 Nt28
    have cs5:=Lib.cell_of_heap (uh Bxs9) 5
    go_wp2_with (first|((with_reducible show wpList _ _ _ (⟨_,.store _ _ _,_,_,_,_⟩::_) _ _);refine wpList_store_part rfl 28 _ _ rfl gx 9 #[.int .i64 f2,.int .i64 r2,.int .i64 k2,.int .i64 n2,.string s2,.slice c2 l2 c2p] rfl rfl 30 #[.int .i64 3,.string ⟨#[]⟩,.int .i64 op,.int .i64 0,.int .i64 0,.int .i64 0,.int .i64 0,.string ⟨#[]⟩,.slice none 0 0,.int .i64 0,.int .i64 0,.int .i64 0,.int .i64 0,.string ⟨#[]⟩,.slice none 0 0,.int .i64 x4,.slice none 0 0] #[.int .i64 3,.string ⟨#[]⟩,.int .i64 op,.int .i64 0,.int .i64 0,.int .i64 0,.int .i64 0,.string ⟨#[]⟩,.slice none 0 0,.int .i64 f2,.int .i64 r2,.int .i64 k2,.int .i64 n2,.string s2,.slice c2 l2 c2p,.int .i64 x4,.slice none 0 0] (uh Bxx8) szAg (by simp) (ag_one _ _ _ _ _ _ _ _) rfl ?_)|((with_reducible show wpList _ _ _ (⟨_,.load _ _,_,_,_,_⟩::_) _ _);refine wpList_load_row rfl 30 _ rfl gx rfl 30 #[.int .i64 3,.string ⟨#[]⟩,.int .i64 op,.int .i64 0,.int .i64 0,.int .i64 0,.int .i64 0,.string ⟨#[]⟩,.slice none 0 0,.int .i64 f2,.int .i64 r2,.int .i64 k2,.int .i64 n2,.string s2,.slice c2 l2 c2p,.int .i64 x4,.slice none 0 0] (0,0) _ (uh Bxx9) Tryz.underlying30 rfl (by kernel_rfl) ?_)|((with_reducible show wpList _ _ _ (⟨_,.store _ _ _,_,_,_,_⟩::_) _ _);refine wpList_store_row rfl 30 _ _ rfl w.heap.size #[.int .i64 3,.string ⟨#[]⟩,.int .i64 op,.int .i64 0,.int .i64 0,.int .i64 0,.int .i64 0,.string ⟨#[]⟩,.slice none 0 0,.int .i64 f2,.int .i64 r2,.int .i64 k2,.int .i64 n2,.string s2,.slice c2 l2 c2p,.int .i64 x4,.slice none 0 0] rfl rfl 30 _ (uh Rx9) szLn rfl (by simp [Value.oneCell']) ?_))
    refine bodyPost_ret (results_cell_row (P:=Tryz.prog) rfl _ _ w.heap.size 30 #[.int .i64 3,.string ⟨#[]⟩,.int .i64 op,.int .i64 0,.int .i64 0,.int .i64 0,.int .i64 0,.string ⟨#[]⟩,.slice none 0 0,.int .i64 f2,.int .i64 r2,.int .i64 k2,.int .i64 n2,.string s2,.slice c2 l2 c2p,.int .i64 x4,.slice none 0 0] (0,0) _ rfl (setRow_heap _ _ _ _ _ _ (uh Rx9)) Tryz.underlying30 rfl szLn) rfl ?_
    exact uh FF _ ((uh Qx9).row (uh Rx9) (by decide) (by decide) (Nat.le_refl _) _) ((uh Nxt29).drawn (grownBy_row _) (uh PM8))
theorem li_term (s:ByteArray) (op:Int) (ho':opN s=op) (h0:s≠E0) (h17:17≤op) (h23:op≤23) (h22:op≠22) (rb:Nat) (ts:List Tk) (w:World) (h:Pr w rb ts) (ht:TabP w rb):Calls Tryz.prog 114 #[.pointer (some ⟨rb,0,none⟩),.string s] w (PnR (qIw s ts) (VLn w.heap.size) rb w):=by
 have b1:inB op 1 6=false:=inB_no (by omega)
 have b2:inB op 1 15=false:=inB_no (by omega)
 have b3:regB op=false:=by unfold regB;rw [Bool.or_eq_false_iff,beq_eq_false_iff_ne,beq_eq_false_iff_ne];omega
 have b4:(inB op 17 21 || op == 23)=true:=by rw [Bool.or_eq_true,inB_iff,beq_iff_eq];omega
 have b5:inB op 1 23=true:=(inB_iff _ _ _).2 (by omega)
 have SH:=hide (fun w=>(show Calls Tryz.prog 149 #[.int .i64 op] w fun r w'=>r = .returned (.tuple #[.agg #[.bool false,.bool false,.bool false,.int .i64 0,.int .i64 1,.int .i64 1,.bool false],.bool true])∧Below w.heap.size w w' from by have h:=shiI_any op w;rw [b1,b2,b3,b4,b5] at h;exact h))
 have RG:=hide (fun w=>(show Calls Tryz.prog 102 #[.int .i64 op] w fun e w'=>e = .returned (.bool false)∧w'=w from by have h:=regB_any op w;rw [b3] at h;exact h))
 clear b1 b2 b3 b4 b5
 have OE:=hide ((qIw_at (s:=s) (ts:=ts) ho' (by omega)).trans (qIns_term (op:=op) (ts:=ts) (by omega) h22))
 have FN:=hide (fun w' (ho:qIw s ts=none) (hg:w.grownBy w' (some rb))=>(show PnR (qIw s ts) (VLn w.heap.size) rb w (.panicked pn) w' from pnR_none ho rfl hg))
 have FY:=hide (fun x q v w' (ho:qIw s ts=some (x,q)) (hg:w.grownBy w' (some rb)) (hv:(VLn w.heap.size) x w' v) (hz:Pr w' rb q)=>(show PnR (qIw s ts) (VLn w.heap.size) rb w (.returned v) w' from pnR_some ho rfl hg hv hz))
 generalize PnR (qIw s ts) (VLn w.heap.size) rb w=R at *
 generalize qIw s ts=O at *
 have hb0:=below_new w (.cells #[.int .i64 0,.string ⟨#[]⟩,.int .i64 0,.int .i64 0,.int .i64 0,.int .i64 0,.int .i64 0,.string ⟨#[]⟩,.slice none 0 0,.int .i64 0,.int .i64 0,.int .i64 0,.int .i64 0,.string ⟨#[]⟩,.slice none 0 0,.int .i64 0,.slice none 0 0] 30)
 have hg0:(w.alloc (.cells #[.int .i64 0,.string ⟨#[]⟩,.int .i64 0,.int .i64 0,.int .i64 0,.int .i64 0,.int .i64 0,.string ⟨#[]⟩,.slice none 0 0,.int .i64 0,.int .i64 0,.int .i64 0,.int .i64 0,.string ⟨#[]⟩,.slice none 0 0,.int .i64 0,.slice none 0 0] 30)).heap[w.heap.size]?=some (.cells #[.int .i64 0,.string ⟨#[]⟩,.int .i64 0,.int .i64 0,.int .i64 0,.int .i64 0,.int .i64 0,.string ⟨#[]⟩,.slice none 0 0,.int .i64 0,.int .i64 0,.int .i64 0,.int .i64 0,.string ⟨#[]⟩,.slice none 0 0,.int .i64 0,.slice none 0 0] 30 (0,0)):=Array.getElem?_push_size
 have hs0:w.heap.size<(w.alloc (.cells #[.int .i64 0,.string ⟨#[]⟩,.int .i64 0,.int .i64 0,.int .i64 0,.int .i64 0,.int .i64 0,.string ⟨#[]⟩,.slice none 0 0,.int .i64 0,.int .i64 0,.int .i64 0,.int .i64 0,.string ⟨#[]⟩,.slice none 0 0,.int .i64 0,.slice none 0 0] 30)).heap.size:=by simp
 obtain ⟨w0,hw0⟩:∃ w0,w.alloc (.cells #[.int .i64 0,.string ⟨#[]⟩,.int .i64 0,.int .i64 0,.int .i64 0,.int .i64 0,.int .i64 0,.string ⟨#[]⟩,.slice none 0 0,.int .i64 0,.int .i64 0,.int .i64 0,.int .i64 0,.string ⟨#[]⟩,.slice none 0 0,.int .i64 0,.slice none 0 0] 30)=w0:=⟨_,rfl⟩
 rw [hw0] at hb0 hg0 hs0
 have Q0:=hide (h.start.later hb0)
 have R0:=hide hg0
 have S0:=hide hs0
 have TB:=hide ht
 clear h ht hb0 hg0 hs0
 go_enter Tryz.func114,Tryz.ntmps114
 have X:=hide (opI s w0 h0 ((uh TB).grown (uh Q0).gr).k |> fun h=>by rw [ho'] at h;exact h)
 go_wp2_with fail
 refine (uh X).mono ?_
 rintro r w' ⟨rfl,hw'⟩
 rw [hw']
 clear hw' w' X
 clear h0 ho'
 have BGx:=hide (show w.heap.size≤w0.heap.size from Nat.le_of_lt (uh S0))
 have BLx:=hide (uh S0)
 have Qx1:=hide ((uh Q0).later (below_new w0 (.cells #[.int .i64 3,.string ⟨#[]⟩,.int .i64 op,.int .i64 0,.int .i64 0,.int .i64 0,.int .i64 0,.string ⟨#[]⟩,.slice none 0 0,.int .i64 0,.int .i64 0,.int .i64 0,.int .i64 0,.string ⟨#[]⟩,.slice none 0 0,.int .i64 0,.slice none 0 0] 30)))
 have Rx1:=hide (row_keep (uh R0) (below_new w0 (.cells #[.int .i64 3,.string ⟨#[]⟩,.int .i64 op,.int .i64 0,.int .i64 0,.int .i64 0,.int .i64 0,.string ⟨#[]⟩,.slice none 0 0,.int .i64 0,.int .i64 0,.int .i64 0,.int .i64 0,.string ⟨#[]⟩,.slice none 0 0,.int .i64 0,.slice none 0 0] 30)))
 have Sx1:=hide (Nat.lt_of_lt_of_le (uh S0) ((below_new w0 (.cells #[.int .i64 3,.string ⟨#[]⟩,.int .i64 op,.int .i64 0,.int .i64 0,.int .i64 0,.int .i64 0,.string ⟨#[]⟩,.slice none 0 0,.int .i64 0,.int .i64 0,.int .i64 0,.int .i64 0,.string ⟨#[]⟩,.slice none 0 0,.int .i64 0,.slice none 0 0] 30))).size)
 have Bx0:=hide (show (w0.alloc (.cells #[.int .i64 3,.string ⟨#[]⟩,.int .i64 op,.int .i64 0,.int .i64 0,.int .i64 0,.int .i64 0,.string ⟨#[]⟩,.slice none 0 0,.int .i64 0,.int .i64 0,.int .i64 0,.int .i64 0,.string ⟨#[]⟩,.slice none 0 0,.int .i64 0,.slice none 0 0] 30)).heap[w0.heap.size]?=some (.cells #[.int .i64 3,.string ⟨#[]⟩,.int .i64 op,.int .i64 0,.int .i64 0,.int .i64 0,.int .i64 0,.string ⟨#[]⟩,.slice none 0 0,.int .i64 0,.int .i64 0,.int .i64 0,.int .i64 0,.string ⟨#[]⟩,.slice none 0 0,.int .i64 0,.slice none 0 0] 30 (0,0)) from Array.getElem?_push_size)
 clear Q0 R0 S0
 have X:=hide (uh SH (w0.alloc (.cells #[.int .i64 3,.string ⟨#[]⟩,.int .i64 op,.int .i64 0,.int .i64 0,.int .i64 0,.int .i64 0,.string ⟨#[]⟩,.slice none 0 0,.int .i64 0,.int .i64 0,.int .i64 0,.int .i64 0,.string ⟨#[]⟩,.slice none 0 0,.int .i64 0,.slice none 0 0] 30)))
 go_wp2_with fail
 generalize (w0.alloc (.cells #[.int .i64 3,.string ⟨#[]⟩,.int .i64 op,.int .i64 0,.int .i64 0,.int .i64 0,.int .i64 0,.string ⟨#[]⟩,.slice none 0 0,.int .i64 0,.int .i64 0,.int .i64 0,.int .i64 0,.string ⟨#[]⟩,.slice none 0 0,.int .i64 0,.slice none 0 0] 30))=w1 at *
 generalize w0.heap.size=gx at *
 refine (uh X).mono ?_
 rintro r w2 ⟨rfl,hb⟩
 have Qx2:=hide ((uh Qx1).later hb)
 have Rx2:=hide (row_keep (uh Rx1) hb)
 have Sx2:=hide (Nat.lt_of_lt_of_le (uh Sx1) (hb).size)
 have Bxx2:=hide (row_keep (uh Bx0) hb)
 clear hb X Qx1 Rx1 Sx1 Bx0
 have Qx3:=hide ((uh Qx2).later (below_new w2 (.cells #[.bool false,.bool false,.bool false,.int .i64 0,.int .i64 1,.int .i64 1,.bool false] 129)))
 have Rx3:=hide (row_keep (uh Rx2) (below_new w2 (.cells #[.bool false,.bool false,.bool false,.int .i64 0,.int .i64 1,.int .i64 1,.bool false] 129)))
 have Sx3:=hide (Nat.lt_of_lt_of_le (uh Sx2) ((below_new w2 (.cells #[.bool false,.bool false,.bool false,.int .i64 0,.int .i64 1,.int .i64 1,.bool false] 129))).size)
 have Bxx3:=hide (row_keep (uh Bxx2) (below_new w2 (.cells #[.bool false,.bool false,.bool false,.int .i64 0,.int .i64 1,.int .i64 1,.bool false] 129)))
 have Bs0:=hide (show (w2.alloc (.cells #[.bool false,.bool false,.bool false,.int .i64 0,.int .i64 1,.int .i64 1,.bool false] 129)).heap[w2.heap.size]?=some (.cells #[.bool false,.bool false,.bool false,.int .i64 0,.int .i64 1,.int .i64 1,.bool false] 129 (0,0)) from Array.getElem?_push_size)
 clear Qx2 Rx2 Sx2 Bxx2
 have X:=hide (uh RG (w2.alloc (.cells #[.bool false,.bool false,.bool false,.int .i64 0,.int .i64 1,.int .i64 1,.bool false] 129)))
 have cx2:=Lib.cell_of_heap (uh Bxx3) 2
 have fx2:=Lib.frozen_of_heap (uh Bxx3) 2
 go_wp2_with fail
 generalize (w2.alloc (.cells #[.bool false,.bool false,.bool false,.int .i64 0,.int .i64 1,.int .i64 1,.bool false] 129))=w3 at *
 generalize w2.heap.size=gs at *
 clear cx2 fx2
 refine (uh X).mono ?_
 rintro r w' ⟨rfl,hw'⟩
 rw [hw']
 clear hw' w' X
 have X:=hide (exsI 0 (by omega) rb ts w3 (uh Qx3).pr ((uh TB).grown (uh Qx3).gr))
 have cs1:=Lib.cell_of_heap (uh Bs0) 1
 have fs1:=Lib.frozen_of_heap (uh Bs0) 1
 have cs2:=Lib.cell_of_heap (uh Bs0) 2
 have fs2:=Lib.frozen_of_heap (uh Bs0) 2
 have cs5:=Lib.cell_of_heap (uh Bs0) 5
 have fs5:=Lib.frozen_of_heap (uh Bs0) 5
 go_wp2_with fail
 clear cs1 fs1 cs2 fs2 cs5 fs5
 refine (uh X).mono ?_
 rintro r w4 ⟨hg,hm⟩
 cases ho:qTs (readF 6) 1 ts with
 | none =>
  rw [ho] at hm
  have hr:r = .panicked pn:=hm
  subst hr
  exact ⟨rfl,uh FN _ ((uh OE).trans (bnd_no ho _)) (grownBy_trans (uh Qx3).gr hg)⟩
 | some p =>
  obtain ⟨x4,q4⟩:=p
  rw [ho] at hm
  obtain ⟨v,rfl,⟨c,cp,rfl,hn⟩,hz⟩:=hm
  have OE4:=hide ((uh OE).trans (bnd_at ho _))
  have PM4:=hide (uh Sx3)
  have PBx4:=hide (show gx<w3.heap.size from (Array.getElem?_eq_some_iff.1 (uh Bxx3)).1)
  have Rx4:=hide ((uh Qx3).blk hg (uh Rx3) (Nat.le_refl _))
  have Bxx4:=hide ((uh Qx3).blk hg (uh Bxx3) (uh BGx))
  have Qg4:=hide ((uh Qx3).next hz hg)
  clear hg hz ho X Rx3 Sx3 Bxx3 Bs0 Qx3 OE
  have Nt34:=hide (hn).half
  clear hn
  have FE:=hide (fun w' (h:Pq w w' rb q4) (hn:HalfX w' w3.heap.size w4.heap.size ⟨0,0,⟨#[]⟩,x4⟩ c)=>uh FY _ _ (.agg #[.int .i64 3,.string ⟨#[]⟩,.int .i64 op,.int .i64 0,.int .i64 0,.int .i64 0,.int .i64 0,.string ⟨#[]⟩,.slice none 0 0,.int .i64 0,.int .i64 0,.int .i64 0,.int .i64 0,.string ⟨#[]⟩,.slice none 0 0,.int .i64 0,.slice c x4.length cp]) w' (uh OE4) h.gr ⟨⟨none,0,none,0,c,cp⟩,rfl,NdL.lst (hn.new.lower (Nat.le_of_lt (uh PM4))) _ _ _ _ _ _ _ _ _⟩ h.pr)
  clear FY OE4 FN
  have FF:=hide (fun w' h=>uh FE w' h)
  clear FE
  generalize x4.length=ll at FF ⊢
  have Qx5:=hide ((uh Qg4).row (uh Bxx4) (by decide) (by decide) (uh BGx) #[.int .i64 3,.string ⟨#[]⟩,.int .i64 op,.int .i64 0,.int .i64 0,.int .i64 0,.int .i64 0,.string ⟨#[]⟩,.slice none 0 0,.int .i64 0,.int .i64 0,.int .i64 0,.int .i64 0,.string ⟨#[]⟩,.slice none 0 0,.int .i64 0,.slice c ll cp])
  have Rx5:=hide ((setRow_other w4 gx w.heap.size #[.int .i64 3,.string ⟨#[]⟩,.int .i64 op,.int .i64 0,.int .i64 0,.int .i64 0,.int .i64 0,.string ⟨#[]⟩,.slice none 0 0,.int .i64 0,.int .i64 0,.int .i64 0,.int .i64 0,.string ⟨#[]⟩,.slice none 0 0,.int .i64 0,.slice c ll cp] (Nat.ne_of_lt (uh BLx))).trans (uh Rx4))
  have Bxx5:=hide ((show ((w4.setRow gx #[.int .i64 3,.string ⟨#[]⟩,.int .i64 op,.int .i64 0,.int .i64 0,.int .i64 0,.int .i64 0,.string ⟨#[]⟩,.slice none 0 0,.int .i64 0,.int .i64 0,.int .i64 0,.int .i64 0,.string ⟨#[]⟩,.slice none 0 0,.int .i64 0,.slice c ll cp])).heap[gx]?=some (.cells #[.int .i64 3,.string ⟨#[]⟩,.int .i64 op,.int .i64 0,.int .i64 0,.int .i64 0,.int .i64 0,.string ⟨#[]⟩,.slice none 0 0,.int .i64 0,.int .i64 0,.int .i64 0,.int .i64 0,.string ⟨#[]⟩,.slice none 0 0,.int .i64 0,.slice c ll cp] 30 (0,0)) from setRow_heap _ _ _ _ _ _ (uh Bxx4)))
  have Nxt35:=hide ((uh Nt34).drawn (grownBy_row #[.int .i64 3,.string ⟨#[]⟩,.int .i64 op,.int .i64 0,.int .i64 0,.int .i64 0,.int .i64 0,.string ⟨#[]⟩,.slice none 0 0,.int .i64 0,.int .i64 0,.int .i64 0,.int .i64 0,.string ⟨#[]⟩,.slice none 0 0,.int .i64 0,.slice c ll cp]) (uh PBx4))
  clear Qg4 Rx4 Nt34
  go_wp2_with (first|((with_reducible show wpList _ _ _ (⟨_,.store _ _ _,_,_,_,_⟩::_) _ _);refine wpList_store_cell rfl 24 _ _ rfl gx 16 (.slice c ll cp) rfl rfl 30 #[.int .i64 3,.string ⟨#[]⟩,.int .i64 op,.int .i64 0,.int .i64 0,.int .i64 0,.int .i64 0,.string ⟨#[]⟩,.slice none 0 0,.int .i64 0,.int .i64 0,.int .i64 0,.int .i64 0,.string ⟨#[]⟩,.slice none 0 0,.int .i64 0,.slice none 0 0] #[.int .i64 3,.string ⟨#[]⟩,.int .i64 op,.int .i64 0,.int .i64 0,.int .i64 0,.int .i64 0,.string ⟨#[]⟩,.slice none 0 0,.int .i64 0,.int .i64 0,.int .i64 0,.int .i64 0,.string ⟨#[]⟩,.slice none 0 0,.int .i64 0,.slice c ll cp] (uh Bxx4) (by kernel_rfl) (by simp) rfl rfl rfl ?_)|((with_reducible show wpList _ _ _ (⟨_,.load _ _,_,_,_,_⟩::_) _ _);refine wpList_load_row rfl 30 _ rfl gx rfl 30 #[.int .i64 3,.string ⟨#[]⟩,.int .i64 op,.int .i64 0,.int .i64 0,.int .i64 0,.int .i64 0,.string ⟨#[]⟩,.slice none 0 0,.int .i64 0,.int .i64 0,.int .i64 0,.int .i64 0,.string ⟨#[]⟩,.slice none 0 0,.int .i64 0,.slice c ll cp] (0,0) _ (uh Bxx5) Tryz.underlying30 rfl (by kernel_rfl) ?_)|((with_reducible show wpList _ _ _ (⟨_,.store _ _ _,_,_,_,_⟩::_) _ _);refine wpList_store_row rfl 30 _ _ rfl w.heap.size #[.int .i64 3,.string ⟨#[]⟩,.int .i64 op,.int .i64 0,.int .i64 0,.int .i64 0,.int .i64 0,.string ⟨#[]⟩,.slice none 0 0,.int .i64 0,.int .i64 0,.int .i64 0,.int .i64 0,.string ⟨#[]⟩,.slice none 0 0,.int .i64 0,.slice c ll cp] rfl rfl 30 _ (uh Rx5) szLn rfl (by simp [Value.oneCell']) ?_))
  refine bodyPost_ret (results_cell_row (P:=Tryz.prog) rfl _ _ w.heap.size 30 #[.int .i64 3,.string ⟨#[]⟩,.int .i64 op,.int .i64 0,.int .i64 0,.int .i64 0,.int .i64 0,.string ⟨#[]⟩,.slice none 0 0,.int .i64 0,.int .i64 0,.int .i64 0,.int .i64 0,.string ⟨#[]⟩,.slice none 0 0,.int .i64 0,.slice c ll cp] (0,0) _ rfl (setRow_heap _ _ _ _ _ _ (uh Rx5)) Tryz.underlying30 rfl szLn) rfl ?_
  exact uh FF _ ((uh Qx5).row (uh Rx5) (by decide) (by decide) (Nat.le_refl _) _) ((uh Nxt35).drawn (grownBy_row _) (uh PM4))
theorem insI (s:ByteArray) (h0:s≠E0) (rb:Nat) (ts:List Tk) (w:World) (h:Pr w rb ts) (ht:TabP w rb):Calls Tryz.prog 114 #[.pointer (some ⟨rb,0,none⟩),.string s] w (PnR (qIw s ts) (VLn w.heap.size) rb w):=by
 obtain ⟨h1,h2⟩:=opN_in s
 by_cases e0:opN s=0
 · exact li_no s _ rfl h0 e0 rb ts w h ht
 by_cases e6:opN s≤6
 · exact li_two s _ rfl h0 (by omega) e6 rb ts w h ht
 by_cases e14:opN s≤14
 · exact li_one s _ rfl h0 (by omega) e14 rb ts w h ht
 by_cases e15:opN s=15
 · exact li_jsr s _ rfl h0 e15 rb ts w h ht
 by_cases e16:opN s=16
 · exact li_rts s _ rfl h0 e16 rb ts w h ht
 by_cases e22:opN s=22
 · exact li_halt s _ rfl h0 e22 rb ts w h ht
 · exact li_term s _ rfl h0 (by omega) h2 e22 rb ts w h ht
def d10 (x:Nat):UInt8:=UInt8.ofNat (48+x)
def decG:Nat→Nat→List UInt8→List UInt8
 | 0, _, t => t
 | n + 1, m, t => if m = 0 then t else decG n (m / 10) (d10 (m % 10) :: t)
theorem decG_more:∀ (n k m:Nat) (t:List UInt8),m≤n→m≤k→decG n m t=decG k m t:=by
 intro n
 induction n with
 | zero =>
  intro k m t hn hk
  obtain rfl:m=0:=by omega
  cases k with
  | zero => rfl
  | succ k => rfl
 | succ n ih =>
  intro k m t hn hk
  by_cases h0:m=0
  ·
   subst h0
   cases k with
   | zero => rfl
   | succ k => rfl
  ·
   cases k with
   | zero => omega
   | succ k =>
    simp only [decG]
    rw [ih k (m / 10) _ (by omega) (by omega)]
def decA (m:Nat) (t:List UInt8):List UInt8:=decG m m t
theorem decA_0 (t:List UInt8):decA 0 t=t:=rfl
theorem decA_s {m:Nat} (h:m≠0) (t:List UInt8):decA m t=decA (m / 10) (d10 (m%10)::t):=by
 obtain ⟨n,rfl⟩:∃ n,m=n+1:=⟨m-1,by omega⟩
 unfold decA
 rw [decG,if_neg h]
 exact decG_more _ _ _ _ (by omega) (Nat.le_refl _)
def mkTx (k:Nat):ByteArray:=⟨#[109]⟩++strOf (decA k [])
theorem one_conv10 (W:World) (d:Nat) (hd:d<10) (x:Int) (hx:x=48+(d:Int)) (b:Nat) (hb:b=W.heap.size):(convert 22 9 (.slice (some ⟨b,0,none⟩) 1 1)).run Tryz.prog (W.alloc (.cells #[.int .u8 x] 5)) = .ok (.string (strOf [d10 d])) (W.alloc (.cells #[.int .u8 x] 5)):=by
 subst hb
 exact run_convert_bytes_back (P:=Tryz.prog) (W.alloc (.cells #[.int .u8 x] 5)) 22 9 5 ⟨W.heap.size,0,none⟩ 1 [d10 d] Tryz.underlying22 Tryz.underlying5 Tryz.underlying9 (fun j hj=>by
  obtain rfl:j=0:=by simp at hj;omega
  have e:((d10 d).toNat:Int)=x:=by unfold d10;simp;omega
  simp only [List.getElem_cons_zero,e]
  simp [Addr.add])
theorem markTx_any (k:Nat) (hk0:0<k) (hk:k≤16777216) (w:World):Calls Tryz.prog 92 #[.int .i64 k] w fun e w'=>e = .returned (.string (mkTx k))∧Below w.heap.size w w':=by
 unfold mkTx
 obtain ⟨T,hT⟩:∃ T,decA k []=T:=⟨_,rfl⟩
 have HT:=hide hT
 rw [hT]
 clear hT
 go_enter Tryz.func92,Tryz.ntmps92
 go_wp2
 go_loopw [0,3] (fun i s wr=>∃ (m:Nat) (t:List UInt8),m+t.length≤16777216∧i = .int .i64 m∧s = .string (strOf t)∧Hid (decA m t=T)∧Below w.heap.size w wr) (fun i _ _=>(intOf i).toNat)
 case atStart=>exact ⟨k,[],by simp;omega,rfl,rfl,uh HT,Below.refl _ _⟩
 case round =>
  clear HT
  obtain ⟨m,t,hm,rfl,rfl,hd,hb⟩:=hrel
  by_cases h0:m=0
  ·
   subst h0
   have E:=hide ((decA_0 t).symm.trans hd.out)
   have hsz:(strOf t).size≤16777216:=by rw [strOf_size];omega
   clear hd
   rw [uh E] at hsz ⊢
   go_wp2
   go_ret
   exact ⟨rfl,hb⟩
  ·
   have E:=hide ((decA_s h0 t).symm.trans hd.out)
   have hc:=one_conv10 wr (m%10) (by omega) (48+(m:Int)%10) (by omega)
   have hsz:(strOf t).size≤16777216:=by rw [strOf_size];omega
   have hsz1:=strOf_size [d10 (m%10)]
   have hp:(0:Int)<(m:Int):=by omega
   have AP:=hide (strOf_append [d10 (m%10)] t)
   clear hd
   go_wp2
   go_roundw
   case rel=>exact ⟨m / 10,d10 (m%10)::t,by rw [List.length_cons];omega,by go_num,by rw [uh AP];rfl,uh E,hb.alloc hb.size _⟩
   case measure=>simp [intOf];omega
section
theorem own:ownKnob Tryz.prog.godebug=none:=by kernel_rfl
theorem laidOut:laidOutB Tryz.prog=true:=by kernel_rfl
section
variable {H:Type} {enc:TypeId × Value→H} {W:World} {b0 base:Nat} {spare:TypeId→Bool} {held:Bool}
end
def strData {H:Type} (L:List ByteArray):DataW H:=.agg (L.map fun s=>.lit (.string s.data.toList))
theorem cells_of_strs {H:Type} {enc:TypeId × Value→H} {P:Program} {w:World} {base:Nat} {sp:Nat→Bool} {held:Bool} {fuel:Nat} {t e:TypeId} {n:Nat} {cs:List Value} {L:List ByteArray} {p:List MemPlace}
  (ht:P.underlying t=some (.array n e)) (he:P.underlying e=some .string) (hce:P.cellsOf e=1) (hct:P.cellsOf t=n)
  (h:DataW.trod enc P w base sp held fuel t cs=some (strData L,p)):cs=L.map Value.string:=by
 cases fuel with
 | zero => simp [DataW.trod] at h
 | succ fuel =>
  simp only [DataW.trod,ht,hce,hct,Nat.mul_one] at h
  split at h
  ·
   rename_i hl
   obtain ⟨xs,hm,hx⟩:=Option.map_eq_some_iff.1 h
   have hxs:xs.map (·.1)=L.map fun s=>(DataW.lit (.string s.data.toList):DataW H):=by
    have:=congrArg Prod.fst hx
    simpa [strData] using this
   have hxl:xs.length=n:=by simpa using Lib.mapM_length hm
   have hzl:L.length=n:=by
    have:=congrArg List.length hxs
    simp at this
    omega
   apply List.ext_getElem?
   intro i
   by_cases hi:i<n
   ·
    obtain ⟨b,hb,hf⟩:=Lib.mapM_at hm i i (by simp [hi])
    obtain ⟨z,hc,rfl,_⟩:=DataW.trod_string he hf
    have h1:cs[i]?=some (.string z):=by
     have:=congrArg (·[0]?) hc
     simpa [List.getElem?_take,List.getElem?_drop] using this
    have h2:(xs.map (·.1))[i]?=some (DataW.lit (.string z.data.toList):DataW H):=by simp [hb]
    rw [hxs] at h2
    simp only [List.getElem?_map,Option.map_eq_some_iff,DataW.lit.injEq,Lit.string.injEq] at h2
    obtain ⟨z',hz',e⟩:=h2
    obtain rfl:=bytes_inj e
    simp [h1,hz']
   · rw [List.getElem?_eq_none (by omega),List.getElem?_eq_none (by simp;omega)]
  · cases h
theorem strs_of_head {P:Program} {W:World} {name:String} {L:List ByteArray} {rest:List (String × DataW Unit)} {g:Nat} {t e:TypeId} {n:Nat}
  (hg:P.globalNamed name=some g) (hty:(P.globals[g]?).map (·.type)=some t) (ht:P.underlying t=some (.array n e)) (he:P.underlying e=some .string) (hce:P.cellsOf e=1) (hct:P.cellsOf t=n)
  (h:laidMet P ((name,strData L)::rest) W):∃ u fr,W.heap[g]?=some (.cells (L.map Value.string).toArray u fr):=by
 obtain ⟨ps,⟨g',t',cs,fuel,p,q,hg',ht',hvar,hd,_,_⟩,_⟩:=h
 obtain rfl:=Option.some.inj (hg.symm.trans hg')
 obtain rfl:=Option.some.inj (hty.symm.trans ht')
 have hcs:=cells_of_strs ht he hce hct hd
 unfold World.var? at hvar
 rw [hg] at hvar
 simp only [Option.bind_some] at hvar
 split at hvar
 ·
  rename_i c u fr hh
  cases hvar
  exact ⟨u,fr,by rw [hh,←hcs]⟩
 · cases hvar
theorem gOp : Tryz.prog.globalNamed "loop.example/g00329/impl.opWords" = some 0 := by kernel_rfl
theorem tOp:(Tryz.prog.globals[0]?).map (·.type)=some 137:=by kernel_rfl
theorem gRg : Tryz.prog.globalNamed "loop.example/g00329/impl.regWords" = some 3 := by kernel_rfl
theorem tRg:(Tryz.prog.globals[3]?).map (·.type)=some 178:=by kernel_rfl
theorem opD_eq:(Rows.laid_loop_example_g00329_impl_opWords:DataW Unit)=strData opL:=by kernel_rfl
theorem rgD_eq:(Rows.laid_loop_example_g00329_impl_regWords:DataW Unit)=strData wRg:=by kernel_rfl
end
section
section
variable {H:Type} {enc:TypeId × Value→H} {W:World} {b0 base:Nat} {spare:TypeId→Bool} {held:Bool}
end
theorem gDb : Tryz.prog.globalNamed "math/bits.deBruijn64tab" = some 11 := by kernel_rfl
theorem tDb:(Tryz.prog.globals[11]?).map (·.type)=some 276:=by kernel_rfl
def dbT:List Int:=[0,1,56,2,57,49,28,3,61,58,42,50,38,29,17,4,62,47,59,36,45,43,51,22,53,39,33,30,24,18,12,5,63,55,48,27,60,41,37,16,46,35,44,21,52,32,23,11,54,26,40,15,34,20,31,10,25,14,19,9,13,8,7,6]
theorem dbT_eq:(Rows.laid_math_bits_deBruijn64tab:DataW Unit)=Lib.tabData .u8 dbT:=by kernel_rfl
theorem db_of {W : World} {rest : List (String × DataW Unit)} (h : laidMet Tryz.prog (("math/bits.deBruijn64tab", Rows.laid_math_bits_deBruijn64tab) :: rest) W) : W.cell? ⟨11, 7, none⟩ = some (.int .u8 3) := by
 rw [dbT_eq] at h
 have h2:=Lib.tabIs_of_head gDb tDb Tryz.underlying276 Tryz.underlying5 (by kernel_rfl) (by kernel_rfl) h
 exact h2.cell gDb 7 (by decide)
end
theorem lexR_len (s:ByteArray):∀ (n k:Nat) (acc:List Tk),s.size-k≤n→acc.length≤800→(lexR s k acc).1.length≤800:=by
 intro n
 induction n with
 | zero =>
  intro k acc hn h8
  rw [lexR_end (by omega)]
  exact h8
 | succ n ih =>
  intro k acc hn h8
  by_cases hlt:k<s.size
  ·
   by_cases h59:bAt s.data.toList k=59
   · rw [lexR_semi hlt h59];exact h8
   ·
    cases hbl:blB (bAt s.data.toList k)
    ·
     cases hok:(oneT badS s k).ok
     · rw [lexR_bad hlt h59 hbl (.inl hok)];simp
     ·
      by_cases h800:acc.length=800
      · rw [lexR_bad hlt h59 hbl (.inr h800)];simp
      ·
       rw [lexR_next hlt h59 hbl hok h800]
       have:=oneE_bd s k hlt
       exact ih _ _ (by omega) (by rw [List.length_append];simp;omega)
    ·
     rw [lexR_blank hlt h59 hbl]
     exact ih _ _ (by omega) h8
  · rw [lexR_end hlt];exact h8
theorem lex_len (s:ByteArray):(lexR s 0 []).1.length≤800:=lexR_len s s.size 0 [] (by omega) (by simp)
theorem gES : Tryz.prog.globalNamed "strconv.ErrSyntax" = some 8 := by kernel_rfl
theorem gER : Tryz.prog.globalNamed "strconv.ErrRange" = some 9 := by kernel_rfl
theorem tES:(Tryz.prog.globals[8]?).map (·.type)=some 103:=by kernel_rfl
theorem tER:(Tryz.prog.globals[9]?).map (·.type)=some 103:=by kernel_rfl
theorem cellsES:Tryz.prog.cellsOf 274=1:=by kernel_rfl
theorem cellsSt:Tryz.prog.cellsOf 9=1:=by kernel_rfl
theorem star : "*" ++ "errors.errorString" = "*errors.errorString" := by decide
theorem rowES (u : TypeId) (h : Tryz.prog.typeName? 3 u = some "*errors.errorString") : u = 272 :=
 typeName_ptr_named (nm := "errors.errorString") (by rw [star]; kernel_rfl) (by kernel_rfl) (by decide) u (by rw [star]; exact h)
theorem NdL.row {w:World} {B g:Nat} {x:Ln} {p:La} (h:NdL w B x p) (cs:Array Value) (hg:g<B):NdL (w.setRow g cs) B x p:=by
 obtain ⟨F1,F2,F3,h1,h2,h3,h4,h5⟩:=h
 have k:∀ b∈F1++(F2++F3),(w.setRow g cs).heap[b]?=w.heap[b]?:=fun b hb=>setRow_other w g b cs (by have:=h5 b hb;omega)
 exact ⟨F1,F2,F3,OwX.keep _ _ _ (fun b hb=>k b (by simp [hb])) h1,OwX.keep _ _ _ (fun b hb=>k b (by simp [hb])) h2,OwX.keep _ _ _ (fun b hb=>k b (by simp [hb])) h3,h4,h5⟩
theorem cs_one (x:Ln) (p:La):(x.cs p).all (·.oneCell')=true:=by unfold Ln.cs;simp [Value.oneCell']
theorem szLc (x:Ln) (p:La):(Tryz.prog.info? 30).map (·.size)=some (x.cs p).size:=szLn
theorem tok_ne {t:Tk} (h:t.ok=true) (hk:t.k=5∨t.k=3):t.s≠E0:=by
 intro e
 obtain ⟨k,n,s⟩:=t
 simp only at hk e
 subst e
 rcases hk with rfl|rfl
 ·
  obtain ⟨h0,e,_⟩:=kp_of h rfl
  have:keptB E0=true:=by
   have h0:0≤atV keptL E0:=h0
   unfold atV at h0
   split at h0
   · assumption
   · omega
  exact absurd this (by decide +kernel)
 ·
  unfold Tk.ok at h
  simp only at h
  split at h
  · rename_i q;exact absurd q (by decide)
  split at h
  · cases h
  split at h
  · rename_i q;exact absurd q (by decide)
  split at h
  · exact absurd h (by decide +kernel)
  · rename_i q;exact absurd rfl q
theorem qLn_tok {t:Tk} {r:List Tk} (h:t.ok=true):qLn (t::r)=if t.k=1 then qNam t.s r else if t.k=5 then qIw t.s r else if t.k=3 then qDot t.s r else none:=by
 show (if t.k=1 then qNam t.s r else if t.k=5 then (if atV keptL t.s<23 then qIns (atV keptL t.s+1) r else none) else if t.k=3 then qDot t.s r else none)=_
 by_cases h5:t.k=5
 ·
  rw [if_neg (show ¬ t.k=1 by omega),if_pos h5,if_neg (show ¬ t.k=1 by omega),if_pos h5]
  obtain ⟨g1,_,_⟩:=kp_of h h5
  by_cases h23:atV keptL t.s<23
  ·
   have eo:opN t.s=atV keptL t.s+1:=by unfold opN;rw [if_pos ⟨g1,h23⟩]
   unfold qIw
   rw [if_pos h23,eo,if_neg (by omega)]
  ·
   have eo:opN t.s=0:=by unfold opN;rw [if_neg (fun q=>h23 q.2)]
   unfold qIw
   rw [if_neg h23,eo,if_pos rfl]
 ·
  by_cases h1:t.k=1
  · rw [if_pos h1,if_pos h1]
  · rw [if_neg h1,if_neg h1,if_neg h5,if_neg h5]
theorem linI (rb:Nat) (ts:List Tk) (w:World) (h:Pr w rb ts) (ht:TabP w rb):Calls Tryz.prog 53 #[.pointer (some ⟨rb,0,none⟩)] w (PnR (qLn ts) (VLn w.heap.size) rb w):=by
 have OKT:=h.ok
 have FN:=hide (fun w' (ho:qLn ts=none) (hg:w.grownBy w' (some rb))=>(show PnR (qLn ts) (VLn w.heap.size) rb w (.panicked pn) w' from pnR_none ho rfl hg))
 have FY:=hide (fun x q v w' (ho:qLn ts=some (x,q)) (hg:w.grownBy w' (some rb)) (hv:VLn w.heap.size x w' v) (hz:Pr w' rb q)=>(show PnR (qLn ts) (VLn w.heap.size) rb w (.returned v) w' from pnR_some ho rfl hg hv hz))
 have hb0:=below_new w (.cells #[.int .i64 0,.string ⟨#[]⟩,.int .i64 0,.int .i64 0,.int .i64 0,.int .i64 0,.int .i64 0,.string ⟨#[]⟩,.slice none 0 0,.int .i64 0,.int .i64 0,.int .i64 0,.int .i64 0,.string ⟨#[]⟩,.slice none 0 0,.int .i64 0,.slice none 0 0] 30)
 have hg0:(w.alloc (.cells #[.int .i64 0,.string ⟨#[]⟩,.int .i64 0,.int .i64 0,.int .i64 0,.int .i64 0,.int .i64 0,.string ⟨#[]⟩,.slice none 0 0,.int .i64 0,.int .i64 0,.int .i64 0,.int .i64 0,.string ⟨#[]⟩,.slice none 0 0,.int .i64 0,.slice none 0 0] 30)).heap[w.heap.size]?=some (.cells #[.int .i64 0,.string ⟨#[]⟩,.int .i64 0,.int .i64 0,.int .i64 0,.int .i64 0,.int .i64 0,.string ⟨#[]⟩,.slice none 0 0,.int .i64 0,.int .i64 0,.int .i64 0,.int .i64 0,.string ⟨#[]⟩,.slice none 0 0,.int .i64 0,.slice none 0 0] 30 (0,0)):=Array.getElem?_push_size
 have hs0:w.heap.size<(w.alloc (.cells #[.int .i64 0,.string ⟨#[]⟩,.int .i64 0,.int .i64 0,.int .i64 0,.int .i64 0,.int .i64 0,.string ⟨#[]⟩,.slice none 0 0,.int .i64 0,.int .i64 0,.int .i64 0,.int .i64 0,.string ⟨#[]⟩,.slice none 0 0,.int .i64 0,.slice none 0 0] 30)).heap.size:=by simp
 obtain ⟨w0,hw0⟩:∃ w0,w.alloc (.cells #[.int .i64 0,.string ⟨#[]⟩,.int .i64 0,.int .i64 0,.int .i64 0,.int .i64 0,.int .i64 0,.string ⟨#[]⟩,.slice none 0 0,.int .i64 0,.int .i64 0,.int .i64 0,.int .i64 0,.string ⟨#[]⟩,.slice none 0 0,.int .i64 0,.slice none 0 0] 30)=w0:=⟨_,rfl⟩
 rw [hw0] at hb0 hg0 hs0
 have Q0:=hide (h.start.later hb0)
 have R0:=hide hg0
 have S0:=hide hs0
 have TB:=hide ht
 have X:=hide (nxtI rb ts w0 (uh Q0).pr)
 obtain ⟨a,n,cap,hz⟩:=(uh Q0).pr
 have c0:=hz.cell
 have hl:=hz.sl.ln
 clear h ht hb0 hg0 hs0 hz
 cases ts with
 | nil =>
  obtain rfl:n=0:=by simpa using hl.symm
  have F:=hide (fun w' (h:Pq w w' rb [])=>uh FY ln0 [] (.agg #[.int .i64 0,.string ⟨#[]⟩,.int .i64 0,.int .i64 0,.int .i64 0,.int .i64 0,.int .i64 0,.string ⟨#[]⟩,.slice none 0 0,.int .i64 0,.int .i64 0,.int .i64 0,.int .i64 0,.string ⟨#[]⟩,.slice none 0 0,.int .i64 0,.slice none 0 0]) w' rfl h.gr ⟨⟨none,0,none,0,none,0⟩,rfl,NdL.none _ _ _ _ _ _ _⟩ h.pr)
  generalize PnR (qLn []) (VLn w.heap.size) rb w=R at *
  clear FN FY X hl
  go_enter Tryz.func53,Tryz.ntmps53
  go_wp2_with (refine wpList_store_row rfl 30 _ _ rfl w.heap.size #[.int .i64 0,.string ⟨#[]⟩,.int .i64 0,.int .i64 0,.int .i64 0,.int .i64 0,.int .i64 0,.string ⟨#[]⟩,.slice none 0 0,.int .i64 0,.int .i64 0,.int .i64 0,.int .i64 0,.string ⟨#[]⟩,.slice none 0 0,.int .i64 0,.slice none 0 0] rfl rfl 30 _ (uh R0) szLn rfl (by simp [Value.oneCell']) ?_)
  refine bodyPost_ret (results_cell_row (P:=Tryz.prog) rfl _ _ w.heap.size 30 #[.int .i64 0,.string ⟨#[]⟩,.int .i64 0,.int .i64 0,.int .i64 0,.int .i64 0,.int .i64 0,.string ⟨#[]⟩,.slice none 0 0,.int .i64 0,.int .i64 0,.int .i64 0,.int .i64 0,.string ⟨#[]⟩,.slice none 0 0,.int .i64 0,.slice none 0 0] (0,0) _ rfl (setRow_heap _ _ _ _ _ _ (uh R0)) Tryz.underlying30 rfl szLn) rfl ?_
  exact uh F _ ((uh Q0).row (uh R0) (by decide) (by decide) (Nat.le_refl _) _)
 | cons t q =>
  have hok:=OKT.head.1
  have QE:=hide (qLn_tok (r:=q) hok)
  have TN:=hide (fun hk=>tok_ne hok hk)
  generalize PnR (qLn (t::q)) (VLn w.heap.size) rb w=R at *
  generalize qLn (t::q)=O at *
  have hn1:0<n:=by simp at hl;omega
  have hn2:((n:Int) == 0)=false:=by rw [beq_eq_false_iff_ne];omega
  clear OKT hok hl
  go_enter Tryz.func53,Tryz.ntmps53
  go_wp2_with fail
  refine (uh X).mono ?_
  rintro r w1 ⟨hg,v,rfl,hv,hz⟩
  unfold VTk at hv
  subst hv
  have Q1:=hide (((uh Q0).next hz hg).later (below_new w1 (.cells #[.int .i64 t.k,.int .i64 t.n,.string t.s] 71)))
  have R1:=hide (row_keep ((uh Q0).blk hg (uh R0) (Nat.le_refl _)) (below_new w1 (.cells #[.int .i64 t.k,.int .i64 t.n,.string t.s] 71)))
  have S1:=hide (Nat.lt_of_lt_of_le (Nat.lt_of_lt_of_le (uh S0) hg.size) (below_new w1 (.cells #[.int .i64 t.k,.int .i64 t.n,.string t.s] 71)).size)
  clear hg hz X Q0 R0 S0 c0
  generalize t.k=tk at *
  generalize t.n=tn at *
  generalize t.s=tx at *
  by_cases h1:tk=1
  ·
   have OE:=hide ((uh QE).trans (if_pos h1))
   subst h1
   have X:=hide (namI tx rb q (w1.alloc (.cells #[.int .i64 1,.int .i64 tn,.string tx] 71)) (uh Q1).pr ((uh TB).grown (uh Q1).gr))
   clear QE TN
   go_wp2_with fail
   generalize w1.alloc (.cells #[.int .i64 1,.int .i64 tn,.string tx] 71)=w2 at *
   refine (uh X).mono ?_
   rintro r w3 ⟨hg,hm⟩
   cases ho:qNam tx q with
   | none =>
    rw [ho] at hm
    have hr:r = .panicked pn:=hm
    subst hr
    exact ⟨rfl,uh FN _ ((uh OE).trans ho) (grownBy_trans (uh Q1).gr hg)⟩
   | some pp =>
    obtain ⟨x,q2⟩:=pp
    rw [ho] at hm
    obtain ⟨v,rfl,⟨p,rfl,hn⟩,hz⟩:=hm
    have Q3:=hide ((uh Q1).next hz hg)
    have R3:=hide ((uh Q1).blk hg (uh R1) (Nat.le_refl _))
    have F:=hide (fun w' (h:Pq w w' rb q2) (hn:NdL w' w.heap.size x p)=>uh FY x q2 (.agg (x.cs p)) w' ((uh OE).trans ho) h.gr ⟨p,rfl,hn⟩ h.pr)
    have NN:=hide (hn.lower (show w.heap.size+1≤w2.heap.size from uh S1))
    clear hg hz hn ho OE FN FY X Q1 R1
    have CO:=hide (cs_one x p)
    have SO:=hide (szLc x p)
    have SH:=hide (show (#[.int .i64 0,.string ⟨#[]⟩,.int .i64 0,.int .i64 0,.int .i64 0,.int .i64 0,.int .i64 0,.string ⟨#[]⟩,.slice none 0 0,.int .i64 0,.int .i64 0,.int .i64 0,.int .i64 0,.string ⟨#[]⟩,.slice none 0 0,.int .i64 0,.slice none 0 0]:Array Value).size=(x.cs p).size from rfl)
    generalize x.cs p=row at *
    go_wp2_with (refine wpList_store_row rfl 30 _ _ rfl w.heap.size row rfl rfl 30 _ (uh R3) (uh SO) (uh SH) (uh CO) ?_)
    refine bodyPost_ret (results_cell_row (P:=Tryz.prog) rfl _ _ w.heap.size 30 row (0,0) _ rfl (setRow_heap _ _ _ _ _ _ (uh R3)) Tryz.underlying30 rfl (uh SO)) rfl ?_
    exact uh F _ ((uh Q3).row (uh R3) (by decide) (by decide) (Nat.le_refl _) _) (((uh NN).row _ (Nat.lt_succ_self _)).lower (Nat.le_succ _))
  by_cases h5:tk=5
  ·
   have OE:=hide ((uh QE).trans ((if_neg h1).trans (if_pos h5)))
   have TN1:=hide (uh TN (.inl h5))
   subst h5
   have X:=hide (insI tx (uh TN1) rb q (w1.alloc (.cells #[.int .i64 5,.int .i64 tn,.string tx] 71)) (uh Q1).pr ((uh TB).grown (uh Q1).gr))
   clear QE TN
   go_wp2_with fail
   generalize w1.alloc (.cells #[.int .i64 5,.int .i64 tn,.string tx] 71)=w2 at *
   refine (uh X).mono ?_
   rintro r w3 ⟨hg,hm⟩
   cases ho:qIw tx q with
   | none =>
    rw [ho] at hm
    have hr:r = .panicked pn:=hm
    subst hr
    exact ⟨rfl,uh FN _ ((uh OE).trans ho) (grownBy_trans (uh Q1).gr hg)⟩
   | some pp =>
    obtain ⟨x,q2⟩:=pp
    rw [ho] at hm
    obtain ⟨v,rfl,⟨p,rfl,hn⟩,hz⟩:=hm
    have Q3:=hide ((uh Q1).next hz hg)
    have R3:=hide ((uh Q1).blk hg (uh R1) (Nat.le_refl _))
    have F:=hide (fun w' (h:Pq w w' rb q2) (hn:NdL w' w.heap.size x p)=>uh FY x q2 (.agg (x.cs p)) w' ((uh OE).trans ho) h.gr ⟨p,rfl,hn⟩ h.pr)
    have NN:=hide (hn.lower (show w.heap.size+1≤w2.heap.size from uh S1))
    clear hg hz hn ho OE FN FY X Q1 R1
    have CO:=hide (cs_one x p)
    have SO:=hide (szLc x p)
    have SH:=hide (show (#[.int .i64 0,.string ⟨#[]⟩,.int .i64 0,.int .i64 0,.int .i64 0,.int .i64 0,.int .i64 0,.string ⟨#[]⟩,.slice none 0 0,.int .i64 0,.int .i64 0,.int .i64 0,.int .i64 0,.string ⟨#[]⟩,.slice none 0 0,.int .i64 0,.slice none 0 0]:Array Value).size=(x.cs p).size from rfl)
    generalize x.cs p=row at *
    go_wp2_with (refine wpList_store_row rfl 30 _ _ rfl w.heap.size row rfl rfl 30 _ (uh R3) (uh SO) (uh SH) (uh CO) ?_)
    refine bodyPost_ret (results_cell_row (P:=Tryz.prog) rfl _ _ w.heap.size 30 row (0,0) _ rfl (setRow_heap _ _ _ _ _ _ (uh R3)) Tryz.underlying30 rfl (uh SO)) rfl ?_
    exact uh F _ ((uh Q3).row (uh R3) (by decide) (by decide) (Nat.le_refl _) _) (((uh NN).row _ (Nat.lt_succ_self _)).lower (Nat.le_succ _))
  by_cases h3:tk=3
  ·
   have OE:=hide ((uh QE).trans ((if_neg h1).trans ((if_neg h5).trans (if_pos h3))))
   have TN1:=hide (uh TN (.inr h3))
   subst h3
   have X:=hide (dotI tx (uh TN1) rb q (w1.alloc (.cells #[.int .i64 3,.int .i64 tn,.string tx] 71)) (uh Q1).pr ((uh TB).grown (uh Q1).gr))
   clear QE TN
   go_wp2_with fail
   generalize w1.alloc (.cells #[.int .i64 3,.int .i64 tn,.string tx] 71)=w2 at *
   refine (uh X).mono ?_
   rintro r w3 ⟨hg,hm⟩
   cases ho:qDot tx q with
   | none =>
    rw [ho] at hm
    have hr:r = .panicked pn:=hm
    subst hr
    exact ⟨rfl,uh FN _ ((uh OE).trans ho) (grownBy_trans (uh Q1).gr hg)⟩
   | some pp =>
    obtain ⟨x,q2⟩:=pp
    rw [ho] at hm
    obtain ⟨v,rfl,⟨p,rfl,hn⟩,hz⟩:=hm
    have Q3:=hide ((uh Q1).next hz hg)
    have R3:=hide ((uh Q1).blk hg (uh R1) (Nat.le_refl _))
    have F:=hide (fun w' (h:Pq w w' rb q2) (hn:NdL w' w.heap.size x p)=>uh FY x q2 (.agg (x.cs p)) w' ((uh OE).trans ho) h.gr ⟨p,rfl,hn⟩ h.pr)
    have NN:=hide (hn.lower (show w.heap.size+1≤w2.heap.size from uh S1))
    clear hg hz hn ho OE FN FY X Q1 R1
    have CO:=hide (cs_one x p)
    have SO:=hide (szLc x p)
    have SH:=hide (show (#[.int .i64 0,.string ⟨#[]⟩,.int .i64 0,.int .i64 0,.int .i64 0,.int .i64 0,.int .i64 0,.string ⟨#[]⟩,.slice none 0 0,.int .i64 0,.int .i64 0,.int .i64 0,.int .i64 0,.string ⟨#[]⟩,.slice none 0 0,.int .i64 0,.slice none 0 0]:Array Value).size=(x.cs p).size from rfl)
    generalize x.cs p=row at *
    go_wp2_with (refine wpList_store_row rfl 30 _ _ rfl w.heap.size row rfl rfl 30 _ (uh R3) (uh SO) (uh SH) (uh CO) ?_)
    refine bodyPost_ret (results_cell_row (P:=Tryz.prog) rfl _ _ w.heap.size 30 row (0,0) _ rfl (setRow_heap _ _ _ _ _ _ (uh R3)) Tryz.underlying30 rfl (uh SO)) rfl ?_
    exact uh F _ ((uh Q3).row (uh R3) (by decide) (by decide) (Nat.le_refl _) _) (((uh NN).row _ (Nat.lt_succ_self _)).lower (Nat.le_succ _))
  have F:=hide (uh FN _ ((uh QE).trans ((if_neg h1).trans ((if_neg h5).trans (if_neg h3)))) (uh Q1).gr)
  have g1:(tk == 1)=false:=beq_eq_false_iff_ne.2 h1
  have g5:(tk == 5)=false:=beq_eq_false_iff_ne.2 h5
  have g3:(tk == 3)=false:=beq_eq_false_iff_ne.2 h3
  clear FN FY QE TN Q1 R1 S1
  go_wp2
  exact ⟨rfl,uh F⟩
theorem OwnT.slP {w:World} {B:Nat} {v:Value} {ts:List Tk} (h:OwnT w B v ts) (ok:AllOk ts) (hl:ts.length≤1048576):∃ a n cap,v = .slice a n cap∧Sl w a n cap ts:=by
 obtain ⟨la,cap,e,hr⟩:=h.rd
 obtain ⟨h1,⟨h2,h3⟩|⟨g,cap',cur,h2,h3,h4,h5,h6,h7,h8⟩⟩:=h
 ·
  have hn:ts = []:=List.eq_nil_of_length_eq_zero h3
  subst hn
  refine ⟨none,0,0,h2,⟨rfl,Nat.le_refl _,by unfold maxLen;omega,.inl rfl,ok,by omega,.inl rfl⟩⟩
 ·
  rw [e] at h2
  injection h2 with e1 e2 e3
  subst e1 e3
  exact ⟨_,_,_,e,⟨rfl,h5,h6,hr,ok,hl,.inr ⟨g,0,cur,(0,0),rfl,h4⟩⟩⟩
def RoR (s:ByteArray) (w:World) (r:Ending) (w':World):Prop:=Below w.heap.size w w'∧(((lexR s 0 []).2=false∧r = .panicked pn)∨((lexR s 0 []).2=true∧∃ rb,r = .returned (.pointer (some ⟨rb,0,none⟩))∧w.heap.size≤rb∧Pr w' rb (lexR s 0 []).1))
theorem roI (s:ByteArray) (w:World) (hz:s.size≤1048576) (he:Env w):Calls Tryz.prog 52 #[.string s] w (RoR s w):=by
 have FN:=hide (fun w' (h:(lexR s 0 []).2=false) (hb:Below w.heap.size w w')=>(show RoR s w (.panicked pn) w' from ⟨hb,.inl ⟨h,rfl⟩⟩))
 have FY:=hide (fun w' rb (h:(lexR s 0 []).2=true) (hb:Below w.heap.size w w') (h1:w.heap.size≤rb) (h2:Pr w' rb (lexR s 0 []).1)=>(show RoR s w (.returned (.pointer (some ⟨rb,0,none⟩))) w' from ⟨hb,.inr ⟨h,rb,rfl,h1,h2⟩⟩))
 have X:=hide (lexI_any s w hz he)
 have OK:=hide (lex_ok s)
 have LN:=hide (lex_len s)
 generalize RoR s w=R at *
 generalize (lexR s 0 []).1=ts at *
 generalize (lexR s 0 []).2=b at *
 clear he
 go_enter Tryz.func52,Tryz.ntmps52
 go_wp2_with fail
 refine (uh X).mono ?_
 rintro r w1 ⟨v,rfl,ho,hb⟩
 cases b with
 | false =>
  have F:=hide (uh FN w1 rfl hb)
  clear FN FY ho hb X OK LN
  go_wp2
  exact ⟨rfl,uh F⟩
 | true =>
  obtain ⟨a,n,cap,rfl,hs⟩:=ho.slP (uh OK) (by have:=uh LN;omega)
  have hb2:=below_new w1 (.cells #[.slice a n cap] 146)
  have PR:=hide (show Pr (w1.alloc (.cells #[.slice a n cap] 146)) w1.heap.size ts from ⟨a,n,cap,heap_alloc_new w1 _,hs.later hb2⟩)
  have F:=hide (uh FY _ _ rfl (hb.trans (hb2.mono hb.size)) hb.size (uh PR))
  clear FN FY ho hb X OK LN hs hb2 PR
  go_wp2
  (try go_ret)
  exact uh F
theorem NwL.lower {w:World} {B C:Nat} {x:Ln} {p:La} (h:NwL w B x p) (hC:C≤B):NwL w C x p:=⟨h.a.lower hC,h.b.lower hC,h.l.lower hC⟩
theorem NwL.row {w:World} {B g:Nat} {x:Ln} {p:La} (h:NwL w B x p) (cs:Array Value) (hg:g<B):NwL (w.setRow g cs) B x p:=⟨h.a.row cs hg,h.b.row cs hg,h.l.row cs hg⟩
theorem NwL.later {w w':World} {B:Nat} {x:Ln} {p:La} (h:NwL w B x p) (hb:Below w.heap.size w w'):NwL w' B x p:=⟨h.a.later hb,h.b.later hb,h.l.later hb⟩
theorem lab_yes {ts:List Tk} {k1:Nat} {b1:Bool} {x:ByteArray} {o:Option (Ln × List Tk)} (hs:seeB ts k1 b1 (mkS 58)=true):OutG (if seeM (ts.drop k1) 58=true then some ((⟨1,x,0,a0,a0,0,[]⟩:Ln),(ts.drop k1).tail) else o) ts b1 ⟨1,x,0,a0,a0,0,[]⟩ (k1+1) b1:=by
 obtain ⟨rfl,_,_⟩:=seeB_bad hs
 rw [see_M] at hs
 rw [if_pos hs,List.tail_drop]
 exact OutG.ret _ _ _
theorem set_yes {ts:List Tk} {k1 k2:Nat} {b1 b2:Bool} {x:ByteArray} {e:Ex} {u:Ln × List Tk} (h0:seeB ts k1 b1 (mkS 58)=false) (hs:seeB ts k1 b1 (mkS 61)=true) (h:OutG (readF 6 (ts.drop (k1+1))) ts b1 e k2 b2):OutG (if seeM (ts.drop k1) 58=true then some u else if seeM (ts.drop k1) 61=true then bnd (readF 6 (ts.drop k1).tail) (fun e q=>some ((⟨2,x,0,a0,a0,0,[e]⟩:Ln),q)) else none) ts b1 ⟨2,x,0,a0,a0,0,[e]⟩ k2 b2:=by
 obtain ⟨rfl,_,_⟩:=seeB_bad hs
 rw [see_M] at hs h0
 rw [if_neg (by rw [h0];decide),if_pos hs,List.tail_drop]
 exact h.bind (OutG.ret _ _ _)
theorem nam_no {ts:List Tk} {k1:Nat} {b1:Bool} {x y:Ln} {u:Ln × List Tk} {o:Option (Ln × List Tk)} (h0:seeB ts k1 b1 (mkS 58)=false) (hs:seeB ts k1 b1 (mkS 61)=false):OutG (if seeM (ts.drop k1) 58=true then some u else if seeM (ts.drop k1) 61=true then o else none) ts b1 y k1 true:=by
 refine OutG.fail _ _ _ (fun hb=>?_)
 subst hb
 rw [see_M] at hs h0
 rw [if_neg (by rw [h0];decide),if_neg (by rw [hs];decide)]
theorem ln13S (rb:Nat) (la:Option Addr) (cap:Nat) (ts:List Tk) (k:Nat) (bad:Bool) (w:World) (hl:ts.length≤1048576) (h:Rz w rb la cap ts k bad):Calls Tryz.prog 118 #[.pointer (some ⟨rb,0,none⟩)] w (LnR (pLn (ts.drop k)) rb la cap ts bad w):=by
 have PE:=hide (pLn_bnd (ts.drop k))
 have FY:=hide (fun (x:Ln) (p:La) k' bad' w' (hn:NwL w' w.heap.size x p) (h:Rq w w' rb la cap ts k' bad') (ho:OutG (pLn (ts.drop k)) ts bad x k' bad')=>(show LnR (pLn (ts.drop k)) rb la cap ts bad w (.returned (.agg (x.cs p))) w' from ⟨x,p,k',bad',rfl,hn,h.rz,h.gr,ho⟩))
 generalize LnR (pLn (ts.drop k)) rb la cap ts bad w=R at *
 have hb0:=below_new w (.cells #[.int .i64 0,.string ⟨#[]⟩,.int .i64 0,.int .i64 0,.int .i64 0,.int .i64 0,.int .i64 0,.string ⟨#[]⟩,.slice none 0 0,.int .i64 0,.int .i64 0,.int .i64 0,.int .i64 0,.string ⟨#[]⟩,.slice none 0 0,.int .i64 0,.slice none 0 0] 30)
 have hg0:(w.alloc (.cells #[.int .i64 0,.string ⟨#[]⟩,.int .i64 0,.int .i64 0,.int .i64 0,.int .i64 0,.int .i64 0,.string ⟨#[]⟩,.slice none 0 0,.int .i64 0,.int .i64 0,.int .i64 0,.int .i64 0,.string ⟨#[]⟩,.slice none 0 0,.int .i64 0,.slice none 0 0] 30)).heap[w.heap.size]?=some (.cells #[.int .i64 0,.string ⟨#[]⟩,.int .i64 0,.int .i64 0,.int .i64 0,.int .i64 0,.int .i64 0,.string ⟨#[]⟩,.slice none 0 0,.int .i64 0,.int .i64 0,.int .i64 0,.int .i64 0,.string ⟨#[]⟩,.slice none 0 0,.int .i64 0,.slice none 0 0] 30 (0,0)):=Array.getElem?_push_size
 have hs0:w.heap.size<(w.alloc (.cells #[.int .i64 0,.string ⟨#[]⟩,.int .i64 0,.int .i64 0,.int .i64 0,.int .i64 0,.int .i64 0,.string ⟨#[]⟩,.slice none 0 0,.int .i64 0,.int .i64 0,.int .i64 0,.int .i64 0,.string ⟨#[]⟩,.slice none 0 0,.int .i64 0,.slice none 0 0] 30)).heap.size:=by simp
 obtain ⟨w0,hw0⟩:∃ w0,w.alloc (.cells #[.int .i64 0,.string ⟨#[]⟩,.int .i64 0,.int .i64 0,.int .i64 0,.int .i64 0,.int .i64 0,.string ⟨#[]⟩,.slice none 0 0,.int .i64 0,.int .i64 0,.int .i64 0,.int .i64 0,.string ⟨#[]⟩,.slice none 0 0,.int .i64 0,.slice none 0 0] 30)=w0:=⟨_,rfl⟩
 rw [hw0] at hb0 hg0 hs0
 have Q0:=hide (h.start.later hb0)
 have R0:=hide hg0
 have S0:=hide hs0
 clear h hb0 hg0 hs0
 go_enter Tryz.func118,Tryz.ntmps118
 have OO1:=hide (next_out ts k bad)
 have X:=hide (nextS_any rb la cap ts k bad w0 hl (uh Q0).rz)
 generalize nextT ts k bad=t1 at OO1 X
 generalize nextK ts k bad=k1 at OO1 X
 generalize (!nextB ts k bad)=b1 at OO1 X
 unfold Tk.v Tk.cs at X
 go_wp2_with fail
 refine (uh X).mono ?_
 rintro r w1 ⟨rfl,hr,hg⟩
 have Rx1:=hide ((uh Q0).blk hg (uh R0) (Nat.le_refl _))
 have Sx1:=hide (Nat.lt_of_lt_of_le (uh S0) (hg).size)
 have Qg1:=hide ((uh Q0).next hr hg)
 clear hg hr X R0 S0 Q0
 have QE:=hide (show OutG (pNx (ts.drop k)) ts bad t1 k1 b1 from uh OO1)
 have FA:=hide (fun (x:Ln) (q:La) k' bad' w' hn h (ho:OutG (if t1.k=5 then (if atV keptL t1.s<23 then pIns (atV keptL t1.s+1) (ts.drop k1) else none) else if t1.k=3 then pDot t1.s (ts.drop k1) else if t1.k=1 then (if seeM (ts.drop k1) 58=true then some (⟨1,t1.s,0,a0,a0,0,[]⟩,(ts.drop k1).tail) else if seeM (ts.drop k1) 61=true then bnd (readF 6 (ts.drop k1).tail) (fun e q=>some (⟨2,t1.s,0,a0,a0,0,[e]⟩,q)) else none) else none) ts b1 x k' bad')=>uh FY x q k' bad' w' hn h (by rw [uh PE];exact (uh QE).bind ho))
 clear FY PE QE OO1
 generalize t1.k=tk at *
 generalize t1.n=tn at *
 generalize t1.s=tx at *
 by_cases h5:tk=5
 ·
  subst h5
  have hz:=atV_lt tx
  have F5:=hide (fun xx pp k' bad' w' hn h ho=>uh FA xx pp k' bad' w' hn h (by rw [if_pos rfl];exact ho))
  clear FA
  have FA:=hide (fun xx pp k' bad' w' hn h ho=>uh F5 xx pp k' bad' w' hn h ho)
  clear F5
  have Qx2:=hide ((uh Qg1).later (below_new w1 (.cells #[.int .i64 5,.int .i64 tn,.string tx] 71)))
  have Rx2:=hide (row_keep (uh Rx1) (below_new w1 (.cells #[.int .i64 5,.int .i64 tn,.string tx] 71)))
  have Sx2:=hide (Nat.lt_of_lt_of_le (uh Sx1) ((below_new w1 (.cells #[.int .i64 5,.int .i64 tn,.string tx] 71))).size)
  have Bt0:=hide (show (w1.alloc (.cells #[.int .i64 5,.int .i64 tn,.string tx] 71)).heap[w1.heap.size]?=some (.cells #[.int .i64 5,.int .i64 tn,.string tx] 71 (0,0)) from Array.getElem?_push_size)
  clear Qg1 Rx1 Sx1
  go_wp2_with fail
  generalize (w1.alloc (.cells #[.int .i64 5,.int .i64 tn,.string tx] 71))=w2 at *
  generalize w1.heap.size=gt at *
  have Qx3:=hide ((uh Qx2).later below_drew)
  have Rx3:=hide (row_keep (uh Rx2) below_drew)
  have Sx3:=hide (Nat.lt_of_lt_of_le (uh Sx2) (below_drew).size)
  have Bxt3:=hide (row_keep (uh Bt0) below_drew)
  clear Qx2 Rx2 Sx2 Bt0
  have KA:=hide (kept_any w2.drew)
  have D0:=hide (show (fun w'=>w'.heap[gt]?=some (.cells #[.int .i64 5,.int .i64 tn,.string tx] 71 (0,0))) w2.drew from uh Bxt3)
  refine wp_region_held_drew (S:=fun w'=>w'.heap[gt]?=some (.cells #[.int .i64 5,.int .i64 tn,.string tx] 71 (0,0))) (by kernel_rfl) (uh D0) (fun hS=>?_)
  have HS:=hide hS
  clear hS D0
  generalize w2.drew=Y0 at *
  refine tkB 1 (.pointer (some ⟨gt,2,none⟩)) rfl (uh HS) ?_
  go_simp
  refine tkA 2 (.string tx) rfl (.inl ⟨by rfl,fun w hc=>?_⟩) (uh HS) ?_
  · have q2:=Lib.cell_of_heap hc 2;clear hc;go_simp
  go_simp
  refine wpAnyH_ready (rs:=[0]) (by kernel_rfl) (by simp) ?_
  refine AllReadyH.cons rfl (fun K2 hK=>?_) AllReadyH.nil
  go_simp
  refine (uh KA).mono ?_
  rintro r w3 ⟨rfl,hk,hb⟩
  have AT:=hide (at_any keptL tx _ 31 31 w3 (show keptL.length=31 by decide) (by omega) hk)
  have Qx4:=hide ((uh Qx3).later hb)
  have Rx4:=hide (row_keep (uh Rx3) hb)
  have Sx4:=hide (Nat.lt_of_lt_of_le (uh Sx3) (hb).size)
  have Bxt4:=hide (row_keep (uh Bxt3) hb)
  clear hb hk KA Qx3 Rx3 Sx3 Bxt3
  refine hK.out _ _ (uh Bxt4) (fun hS=>?_)
  clear HS
  clear hS hK K2
  refine wpAnyH_ready (rs:=[3]) (by kernel_rfl) (by simp) ?_
  refine AllReadyH.cons rfl (fun K2 hK=>?_) AllReadyH.nil
  go_simp
  generalize atV keptL tx=z at *
  refine (uh AT).mono ?_
  rintro r w' ⟨rfl,hw'⟩
  rw [hw']
  clear hw' w' AT
  refine hK.out _ _ (uh Bxt4) (fun hS=>?_)
  have HS:=hide hS
  clear hS hK K2
  refine tkB 4 (.int .i64 z) rfl (uh HS) ?_
  go_simp
  refine wpAnyH_done (by kernel_rfl) ?_ _
  clear HS
  by_cases h23:z<23
  ·
   have hw1:IntKind.i64.wrap (z+1)=z+1:=by rw [IntKind.wrap_i64];omega
   have X:=hide (ins13S (z+1) rb la cap ts k1 b1 w3 hl (uh Qx4).rz)
   unfold LnR at X
   go_wp2_with fail
   refine (uh X).mono ?_
   rintro r w4 ⟨xx,pp,k4,b4,rfl,hn,hr,hg,ho⟩
   have PM4:=hide (uh Sx4)
   have Rx5:=hide ((uh Qx4).blk hg (uh Rx4) (Nat.le_refl _))
   have Qg4:=hide ((uh Qx4).next hr hg)
   clear hg hr X Rx4 Sx4 Bxt4 Qx4
   have OO4:=hide ho
   have NN:=hide (hn.lower (show w.heap.size+1≤w3.heap.size from uh PM4))
   have FE:=hide (fun w' h hn=>uh FA xx pp k4 b4 w' hn h (by rw [if_pos h23];exact (uh OO4)))
   clear FA hn ho
   have CO:=hide (cs_one xx pp)
   have SO:=hide (szLc xx pp)
   have SH:=hide (show (#[.int .i64 0,.string ⟨#[]⟩,.int .i64 0,.int .i64 0,.int .i64 0,.int .i64 0,.int .i64 0,.string ⟨#[]⟩,.slice none 0 0,.int .i64 0,.int .i64 0,.int .i64 0,.int .i64 0,.string ⟨#[]⟩,.slice none 0 0,.int .i64 0,.slice none 0 0]:Array Value).size=(xx.cs pp).size from rfl)
   generalize xx.cs pp=row at *
   go_wp2_with (refine wpList_store_row rfl 30 _ _ rfl w.heap.size row rfl rfl 30 _ (uh Rx5) (uh SO) (uh SH) (uh CO) ?_)
   refine bodyPost_ret (results_cell_row (P:=Tryz.prog) rfl _ _ w.heap.size 30 row (0,0) _ rfl (setRow_heap _ _ _ _ _ _ (uh Rx5)) Tryz.underlying30 rfl (uh SO)) rfl ?_
   exact uh FE _ ((uh Qg4).rowG (Nat.le_refl _) _) (((uh NN).row _ (Nat.lt_succ_self _)).lower (Nat.le_succ _))
  ·
   have h23':decide (z<23)=false:=decide_eq_false h23
   have FE:=hide (fun w' h=>(show R (.returned (.agg #[.int .i64 0,.string ⟨#[]⟩,.int .i64 0,.int .i64 0,.int .i64 0,.int .i64 0,.int .i64 0,.string ⟨#[]⟩,.slice none 0 0,.int .i64 0,.int .i64 0,.int .i64 0,.int .i64 0,.string ⟨#[]⟩,.slice none 0 0,.int .i64 0,.slice none 0 0])) w' from uh FA ⟨0,⟨#[]⟩,0,a0,a0,0,[]⟩ ⟨none,0,none,0,none,0⟩ k1 true w' (NwL.nil _ _ _ _ _ _ _) h (OutG.fail _ _ _ (fun _=>if_neg h23))))
   clear FA
   have c2:=(uh Qx4).rz.cells.2.2
   have f2:=(uh Qx4).rz.frz 2
   have QB:=hide ((uh Qx4).next ((uh Qx4).rz.setB true) (grownBy_set _))
   have RB:=hide ((heap_setCell_other _ ⟨rb,2,none⟩ w.heap.size (.bool true) (by have:=(uh Qx4).lt;simp;omega)).trans (uh Rx4))
   clear Qx4 Rx4
   go_wp2_with (first|((with_reducible show wpList _ _ _ (⟨_,.store _ _ _,_,_,_,_⟩::_) _ _);refine wpList_store_row rfl 30 _ _ rfl w.heap.size #[.int .i64 0,.string ⟨#[]⟩,.int .i64 0,.int .i64 0,.int .i64 0,.int .i64 0,.int .i64 0,.string ⟨#[]⟩,.slice none 0 0,.int .i64 0,.int .i64 0,.int .i64 0,.int .i64 0,.string ⟨#[]⟩,.slice none 0 0,.int .i64 0,.slice none 0 0] rfl rfl 30 _ (uh RB) szLn rfl (by simp [Value.oneCell']) ?_))
   refine bodyPost_ret (results_cell_row (P:=Tryz.prog) rfl _ _ w.heap.size 30 #[.int .i64 0,.string ⟨#[]⟩,.int .i64 0,.int .i64 0,.int .i64 0,.int .i64 0,.int .i64 0,.string ⟨#[]⟩,.slice none 0 0,.int .i64 0,.int .i64 0,.int .i64 0,.int .i64 0,.string ⟨#[]⟩,.slice none 0 0,.int .i64 0,.slice none 0 0] (0,0) _ rfl (setRow_heap _ _ _ _ _ _ (uh RB)) Tryz.underlying30 rfl szLn) rfl ?_
   exact uh FE _ ((uh QB).rowG (Nat.le_refl _) _)
 by_cases h3:tk=3
 ·
  subst h3
  have F3:=hide (fun xx pp k' bad' w' hn h ho=>uh FA xx pp k' bad' w' hn h (by rw [if_neg (by decide),if_pos rfl];exact ho))
  clear FA h5
  have FA:=hide (fun xx pp k' bad' w' hn h ho=>uh F3 xx pp k' bad' w' hn h ho)
  clear F3
  have Qx2:=hide ((uh Qg1).later (below_new w1 (.cells #[.int .i64 3,.int .i64 tn,.string tx] 71)))
  have Rx2:=hide (row_keep (uh Rx1) (below_new w1 (.cells #[.int .i64 3,.int .i64 tn,.string tx] 71)))
  have Sx2:=hide (Nat.lt_of_lt_of_le (uh Sx1) ((below_new w1 (.cells #[.int .i64 3,.int .i64 tn,.string tx] 71))).size)
  clear Qg1 Rx1 Sx1
  have X:=hide (dot13S tx rb la cap ts k1 b1 (w1.alloc (.cells #[.int .i64 3,.int .i64 tn,.string tx] 71)) hl (uh Qx2).rz)
  unfold LnR at X
  go_wp2_with fail
  generalize (w1.alloc (.cells #[.int .i64 3,.int .i64 tn,.string tx] 71))=w2 at *
  generalize w1.heap.size=gt at *
  refine (uh X).mono ?_
  rintro r w3 ⟨xx,pp,k3,b3,rfl,hn,hr,hg,ho⟩
  have PM3:=hide (uh Sx2)
  have Rx3:=hide ((uh Qx2).blk hg (uh Rx2) (Nat.le_refl _))
  have Qg3:=hide ((uh Qx2).next hr hg)
  clear hg hr X Rx2 Sx2 Qx2
  have OO3:=hide ho
  have NN:=hide (hn.lower (show w.heap.size+1≤w2.heap.size from uh PM3))
  have FE:=hide (fun w' h hn=>uh FA xx pp k3 b3 w' hn h ((uh OO3)))
  clear FA hn ho
  have CO:=hide (cs_one xx pp)
  have SO:=hide (szLc xx pp)
  have SH:=hide (show (#[.int .i64 0,.string ⟨#[]⟩,.int .i64 0,.int .i64 0,.int .i64 0,.int .i64 0,.int .i64 0,.string ⟨#[]⟩,.slice none 0 0,.int .i64 0,.int .i64 0,.int .i64 0,.int .i64 0,.string ⟨#[]⟩,.slice none 0 0,.int .i64 0,.slice none 0 0]:Array Value).size=(xx.cs pp).size from rfl)
  generalize xx.cs pp=row at *
  go_wp2_with (refine wpList_store_row rfl 30 _ _ rfl w.heap.size row rfl rfl 30 _ (uh Rx3) (uh SO) (uh SH) (uh CO) ?_)
  refine bodyPost_ret (results_cell_row (P:=Tryz.prog) rfl _ _ w.heap.size 30 row (0,0) _ rfl (setRow_heap _ _ _ _ _ _ (uh Rx3)) Tryz.underlying30 rfl (uh SO)) rfl ?_
  exact uh FE _ ((uh Qg3).rowG (Nat.le_refl _) _) (((uh NN).row _ (Nat.lt_succ_self _)).lower (Nat.le_succ _))
 by_cases h1:tk=1
 ·
  subst h1
  have F1:=hide (fun xx pp k' bad' w' hn h ho=>uh FA xx pp k' bad' w' hn h (by rw [if_neg (by decide),if_neg (by decide),if_pos rfl];exact ho))
  clear FA h5 h3
  have FA:=hide (fun xx pp k' bad' w' hn h ho=>uh F1 xx pp k' bad' w' hn h ho)
  clear F1
  have BGt:=hide (show w.heap.size≤w1.heap.size from Nat.le_of_lt (uh Sx1))
  have Qx2:=hide ((uh Qg1).later (below_new w1 (.cells #[.int .i64 1,.int .i64 tn,.string tx] 71)))
  have Rx2:=hide (row_keep (uh Rx1) (below_new w1 (.cells #[.int .i64 1,.int .i64 tn,.string tx] 71)))
  have Sx2:=hide (Nat.lt_of_lt_of_le (uh Sx1) ((below_new w1 (.cells #[.int .i64 1,.int .i64 tn,.string tx] 71))).size)
  have Bt0:=hide (show (w1.alloc (.cells #[.int .i64 1,.int .i64 tn,.string tx] 71)).heap[w1.heap.size]?=some (.cells #[.int .i64 1,.int .i64 tn,.string tx] 71 (0,0)) from Array.getElem?_push_size)
  clear Qg1 Rx1 Sx1
  cases hs:seeB ts k1 b1 (mkS 58) with
  | true =>
   have HS:=hide hs
   have X:=hide (isS_any rb la cap ts k1 b1 (mkS 58) (w1.alloc (.cells #[.int .i64 1,.int .i64 tn,.string tx] 71)) hl (uh Qx2).rz)
   rw [hs] at X
   unfold mkS at X
   clear hs
   go_wp2_with fail
   generalize (w1.alloc (.cells #[.int .i64 1,.int .i64 tn,.string tx] 71))=w2 at *
   generalize w1.heap.size=gt at *
   refine (uh X).mono ?_
   rintro r w3 ⟨rfl,hr,hg⟩
   (try rw [if_pos rfl] at hr)
   have Rx3:=hide ((uh Qx2).blk hg (uh Rx2) (Nat.le_refl _))
   have Bxt3:=hide ((uh Qx2).blk hg (uh Bt0) (uh BGt))
   have Qg3:=hide ((uh Qx2).next hr hg)
   clear hg hr X Rx2 Sx2 Bt0 Qx2
   have FE:=hide (fun w' h=>(show R (.returned (.agg #[.int .i64 1,.string tx,.int .i64 0,.int .i64 0,.int .i64 0,.int .i64 0,.int .i64 0,.string ⟨#[]⟩,.slice none 0 0,.int .i64 0,.int .i64 0,.int .i64 0,.int .i64 0,.string ⟨#[]⟩,.slice none 0 0,.int .i64 0,.slice none 0 0])) w' from uh FA ⟨1,tx,0,a0,a0,0,[]⟩ ⟨none,0,none,0,none,0⟩ (k1+1) b1 w' (NwL.nil _ _ _ _ _ _ _) h (lab_yes (uh HS))))
   clear FA HS
   have ct2:=Lib.cell_of_heap (uh Bxt3) 2
   go_wp2_with (first|((with_reducible show wpList _ _ _ (⟨_,.store _ _ _,_,_,_,_⟩::_) _ _);refine wpList_store_row rfl 30 _ _ rfl w.heap.size #[.int .i64 1,.string tx,.int .i64 0,.int .i64 0,.int .i64 0,.int .i64 0,.int .i64 0,.string ⟨#[]⟩,.slice none 0 0,.int .i64 0,.int .i64 0,.int .i64 0,.int .i64 0,.string ⟨#[]⟩,.slice none 0 0,.int .i64 0,.slice none 0 0] rfl rfl 30 _ (uh Rx3) szLn rfl (by simp [Value.oneCell']) ?_))
   refine bodyPost_ret (results_cell_row (P:=Tryz.prog) rfl _ _ w.heap.size 30 #[.int .i64 1,.string tx,.int .i64 0,.int .i64 0,.int .i64 0,.int .i64 0,.int .i64 0,.string ⟨#[]⟩,.slice none 0 0,.int .i64 0,.int .i64 0,.int .i64 0,.int .i64 0,.string ⟨#[]⟩,.slice none 0 0,.int .i64 0,.slice none 0 0] (0,0) _ rfl (setRow_heap _ _ _ _ _ _ (uh Rx3)) Tryz.underlying30 rfl szLn) rfl ?_
   exact uh FE _ ((uh Qg3).rowG (Nat.le_refl _) _)
  | false =>
   have HS:=hide hs
   have X:=hide (isS_any rb la cap ts k1 b1 (mkS 58) (w1.alloc (.cells #[.int .i64 1,.int .i64 tn,.string tx] 71)) hl (uh Qx2).rz)
   rw [hs] at X
   unfold mkS at X
   clear hs
   go_wp2_with fail
   generalize (w1.alloc (.cells #[.int .i64 1,.int .i64 tn,.string tx] 71))=w2 at *
   generalize w1.heap.size=gt at *
   refine (uh X).mono ?_
   rintro r w3 ⟨rfl,hr,hg⟩
   (try rw [if_neg (by decide)] at hr)
   have Rx3:=hide ((uh Qx2).blk hg (uh Rx2) (Nat.le_refl _))
   have Sx3:=hide (Nat.lt_of_lt_of_le (uh Sx2) (hg).size)
   have Bxt3:=hide ((uh Qx2).blk hg (uh Bt0) (uh BGt))
   have Qg3:=hide ((uh Qx2).next hr hg)
   clear hg hr X Rx2 Sx2 Bt0 Qx2
   cases hs:seeB ts k1 b1 (mkS 61) with
   | false =>
    have HT:=hide hs
    have X:=hide (isS_any rb la cap ts k1 b1 (mkS 61) w3 hl (uh Qg3).rz)
    rw [hs] at X
    unfold mkS at X
    clear hs
    go_wp2_with fail
    refine (uh X).mono ?_
    rintro r w4 ⟨rfl,hr,hg⟩
    (try rw [if_neg (by decide)] at hr)
    have Rx4:=hide ((uh Qg3).blk hg (uh Rx3) (Nat.le_refl _))
    have Qg4:=hide ((uh Qg3).next hr hg)
    clear hg hr X Rx3 Sx3 Bxt3 Qg3
    have FE:=hide (fun w' h=>(show R (.returned (.agg #[.int .i64 0,.string ⟨#[]⟩,.int .i64 0,.int .i64 0,.int .i64 0,.int .i64 0,.int .i64 0,.string ⟨#[]⟩,.slice none 0 0,.int .i64 0,.int .i64 0,.int .i64 0,.int .i64 0,.string ⟨#[]⟩,.slice none 0 0,.int .i64 0,.slice none 0 0])) w' from uh FA ⟨0,⟨#[]⟩,0,a0,a0,0,[]⟩ ⟨none,0,none,0,none,0⟩ k1 true w' (NwL.nil _ _ _ _ _ _ _) h (nam_no (x:=ln0) (uh HS) (uh HT))))
    clear FA
    have c2:=(uh Qg4).rz.cells.2.2
    have f2:=(uh Qg4).rz.frz 2
    have QB:=hide ((uh Qg4).next ((uh Qg4).rz.setB true) (grownBy_set _))
    have RB:=hide ((heap_setCell_other _ ⟨rb,2,none⟩ w.heap.size (.bool true) (by have:=(uh Qg4).lt;simp;omega)).trans (uh Rx4))
    clear Qg4 Rx4
    go_wp2_with (first|((with_reducible show wpList _ _ _ (⟨_,.store _ _ _,_,_,_,_⟩::_) _ _);refine wpList_store_row rfl 30 _ _ rfl w.heap.size #[.int .i64 0,.string ⟨#[]⟩,.int .i64 0,.int .i64 0,.int .i64 0,.int .i64 0,.int .i64 0,.string ⟨#[]⟩,.slice none 0 0,.int .i64 0,.int .i64 0,.int .i64 0,.int .i64 0,.string ⟨#[]⟩,.slice none 0 0,.int .i64 0,.slice none 0 0] rfl rfl 30 _ (uh RB) szLn rfl (by simp [Value.oneCell']) ?_))
    refine bodyPost_ret (results_cell_row (P:=Tryz.prog) rfl _ _ w.heap.size 30 #[.int .i64 0,.string ⟨#[]⟩,.int .i64 0,.int .i64 0,.int .i64 0,.int .i64 0,.int .i64 0,.string ⟨#[]⟩,.slice none 0 0,.int .i64 0,.int .i64 0,.int .i64 0,.int .i64 0,.string ⟨#[]⟩,.slice none 0 0,.int .i64 0,.slice none 0 0] (0,0) _ rfl (setRow_heap _ _ _ _ _ _ (uh RB)) Tryz.underlying30 rfl szLn) rfl ?_
    exact uh FE _ ((uh QB).rowG (Nat.le_refl _) _)
   | true =>
    have HT:=hide hs
    have X:=hide (isS_any rb la cap ts k1 b1 (mkS 61) w3 hl (uh Qg3).rz)
    rw [hs] at X
    unfold mkS at X
    clear hs
    go_wp2_with fail
    refine (uh X).mono ?_
    rintro r w4 ⟨rfl,hr,hg⟩
    (try rw [if_pos rfl] at hr)
    have Rx4:=hide ((uh Qg3).blk hg (uh Rx3) (Nat.le_refl _))
    have Sx4:=hide (Nat.lt_of_lt_of_le (uh Sx3) (hg).size)
    have Bxt4:=hide ((uh Qg3).blk hg (uh Bxt3) (uh BGt))
    have Qg4:=hide ((uh Qg3).next hr hg)
    clear hg hr X Rx3 Sx3 Bxt3 Qg3
    have X:=hide (readS_6 1 rfl rb la cap ts (k1+1) b1 w4 hl (uh Qg4).rz)
    unfold RdR at X
    go_wp2_with fail
    refine (uh X).mono ?_
    rintro r w5 ⟨e3,c3,c3p,k5,b5,rfl,hn,hr,hg,ho⟩
    have PM5:=hide (uh Sx4)
    have PZ5:=hide hg.size
    have Rx5:=hide ((uh Qg4).blk hg (uh Rx4) (Nat.le_refl _))
    have Bxt5:=hide ((uh Qg4).blk hg (uh Bxt4) (uh BGt))
    have Qg5:=hide ((uh Qg4).next hr hg)
    clear hg hr X Rx4 Sx4 Bxt4 Qg4
    have OO5:=hide ho.g
    have Nt35:=hide (hn).half
    clear hn ho
    unfold Ex.cs
    simp only
    have FB:=hide (fun g w' h (h2:NewX w' w.heap.size ⟨0,0,E0,[e3]⟩ (some ⟨g,0,none⟩))=>(show R (.returned (.agg #[.int .i64 2,.string tx,.int .i64 0,.int .i64 0,.int .i64 0,.int .i64 0,.int .i64 0,.string ⟨#[]⟩,.slice none 0 0,.int .i64 0,.int .i64 0,.int .i64 0,.int .i64 0,.string ⟨#[]⟩,.slice none 0 0,.int .i64 0,.slice (some ⟨g,0,none⟩) 1 1])) w' from uh FA ⟨2,tx,0,a0,a0,0,[e3]⟩ ⟨none,0,none,0,some ⟨g,0,none⟩,1⟩ k5 b5 w' ⟨NewX.nil _ _ _ _ _ _,NewX.nil _ _ _ _ _ _,h2⟩ h (set_yes (uh HS) (uh HT) (uh OO5))))
    clear FA HS HT
    have N3:=hide (uh Nt35).new
    have O3:=hide (fun W (h:NewX W w4.heap.size e3 c3) (hB:w4.heap.size≤W.heap.size)=>NewX.one (cp:=c3p) h hB 0 0 E0 26)
    generalize e3.k=kk at O3 ⊢
    generalize e3.n=nn at O3 ⊢
    generalize e3.s=ss at O3 ⊢
    generalize e3.l.length=ll at O3 ⊢
    have N4:=hide (show NewX ((w5.alloc (.cells #[.int .i64 kk,.int .i64 nn,.string ss,.slice c3 ll c3p] 26)).alloc (.cells #[.int .i64 kk,.int .i64 nn,.string ss,.slice c3 ll c3p] 26)) w4.heap.size ⟨0,0,E0,[e3]⟩ (some ⟨w5.heap.size+1,0,none⟩) from by
     have h1:(w5.alloc (.cells #[.int .i64 kk,.int .i64 nn,.string ss,.slice c3 ll c3p] 26)).heap.size=w5.heap.size+1:=by simp
     have:=uh O3 (w5.alloc (.cells #[.int .i64 kk,.int .i64 nn,.string ss,.slice c3 ll c3p] 26)) ((uh N3).later (below_new _ _)) (by rw [h1];have:=uh PZ5;omega)
     rw [h1] at this
     exact this)
    have PMX:=hide (uh PM5)
    clear N3 O3
    have ctx:=Lib.cell_of_heap (uh Bxt5) 2
    have ctl:gt<w5.heap.size:=(Array.getElem?_eq_some_iff.1 (uh Bxt5)).1
    have Qx6:=hide ((uh Qg5).later (two_below w5 (.cells #[.int .i64 kk,.int .i64 nn,.string ss,.slice c3 ll c3p] 26) (.cells #[.int .i64 kk,.int .i64 nn,.string ss,.slice c3 ll c3p] 26)))
    have Rx6:=hide (row_keep (uh Rx5) (two_below w5 (.cells #[.int .i64 kk,.int .i64 nn,.string ss,.slice c3 ll c3p] 26) (.cells #[.int .i64 kk,.int .i64 nn,.string ss,.slice c3 ll c3p] 26)))
    clear Qg5 Rx5 Bxt5
    have FE:=hide (fun w' h h2=>uh FB (w5.heap.size+1) w' h h2)
    clear FB
    go_wp2_with (first|((with_reducible show wpList _ _ _ (⟨_,.store _ _ _,_,_,_,_⟩::_) _ _);refine wpList_store_row rfl 30 _ _ rfl w.heap.size #[.int .i64 2,.string tx,.int .i64 0,.int .i64 0,.int .i64 0,.int .i64 0,.int .i64 0,.string ⟨#[]⟩,.slice none 0 0,.int .i64 0,.int .i64 0,.int .i64 0,.int .i64 0,.string ⟨#[]⟩,.slice none 0 0,.int .i64 0,.slice (some ⟨w5.heap.size+1,0,none⟩) 1 1] rfl rfl 30 _ (uh Rx6) szLn rfl (by simp [Value.oneCell']) ?_))
    refine bodyPost_ret (results_cell_row (P:=Tryz.prog) rfl _ _ w.heap.size 30 #[.int .i64 2,.string tx,.int .i64 0,.int .i64 0,.int .i64 0,.int .i64 0,.int .i64 0,.string ⟨#[]⟩,.slice none 0 0,.int .i64 0,.int .i64 0,.int .i64 0,.int .i64 0,.string ⟨#[]⟩,.slice none 0 0,.int .i64 0,.slice (some ⟨w5.heap.size+1,0,none⟩) 1 1] (0,0) _ rfl (setRow_heap _ _ _ _ _ _ (uh Rx6)) Tryz.underlying30 rfl szLn) rfl ?_
    exact uh FE _ ((uh Qx6).rowG (Nat.le_refl _) _) (((uh N4).row _ (uh PMX)).lower (Nat.le_of_lt (uh PMX)))
 have g5:(tk == 5)=false:=beq_eq_false_iff_ne.2 h5
 have g3:(tk == 3)=false:=beq_eq_false_iff_ne.2 h3
 have g1:(tk == 1)=false:=beq_eq_false_iff_ne.2 h1
 have FB:=hide (fun xx pp k' bad' w' hn h ho=>uh FA xx pp k' bad' w' hn h ((congrArg (fun o=>OutG o ts b1 xx k' bad') ((if_neg h5).trans ((if_neg h3).trans (if_neg h1)))).mpr ho))
 clear FA h5 h3 h1
 have FA:=hide (fun xx pp k' bad' w' hn h ho=>uh FB xx pp k' bad' w' hn h ho)
 clear FB
 have Qx2:=hide ((uh Qg1).later (below_new w1 (.cells #[.int .i64 tk,.int .i64 tn,.string tx] 71)))
 have Rx2:=hide (row_keep (uh Rx1) (below_new w1 (.cells #[.int .i64 tk,.int .i64 tn,.string tx] 71)))
 clear Qg1 Rx1 Sx1
 have FE:=hide (fun w' h=>(show R (.returned (.agg #[.int .i64 0,.string ⟨#[]⟩,.int .i64 0,.int .i64 0,.int .i64 0,.int .i64 0,.int .i64 0,.string ⟨#[]⟩,.slice none 0 0,.int .i64 0,.int .i64 0,.int .i64 0,.int .i64 0,.string ⟨#[]⟩,.slice none 0 0,.int .i64 0,.slice none 0 0])) w' from uh FA ⟨0,⟨#[]⟩,0,a0,a0,0,[]⟩ ⟨none,0,none,0,none,0⟩ k1 true w' (NwL.nil _ _ _ _ _ _ _) h (OutG.fail _ _ _ (fun _=>rfl))))
 clear FA
 have c2:=(uh Qx2).rz.cells.2.2
 have f2:=(uh Qx2).rz.frz 2
 have QB:=hide ((uh Qx2).next ((uh Qx2).rz.setB true) (grownBy_set _))
 have RB:=hide ((heap_setCell_other _ ⟨rb,2,none⟩ w.heap.size (.bool true) (by have:=(uh Qx2).lt;simp;omega)).trans (uh Rx2))
 clear Qx2 Rx2
 go_wp2_with (first|((with_reducible show wpList _ _ _ (⟨_,.store _ _ _,_,_,_,_⟩::_) _ _);refine wpList_store_row rfl 30 _ _ rfl w.heap.size #[.int .i64 0,.string ⟨#[]⟩,.int .i64 0,.int .i64 0,.int .i64 0,.int .i64 0,.int .i64 0,.string ⟨#[]⟩,.slice none 0 0,.int .i64 0,.int .i64 0,.int .i64 0,.int .i64 0,.string ⟨#[]⟩,.slice none 0 0,.int .i64 0,.slice none 0 0] rfl rfl 30 _ (uh RB) szLn rfl (by simp [Value.oneCell']) ?_))
 refine bodyPost_ret (results_cell_row (P:=Tryz.prog) rfl _ _ w.heap.size 30 #[.int .i64 0,.string ⟨#[]⟩,.int .i64 0,.int .i64 0,.int .i64 0,.int .i64 0,.int .i64 0,.string ⟨#[]⟩,.slice none 0 0,.int .i64 0,.int .i64 0,.int .i64 0,.int .i64 0,.string ⟨#[]⟩,.slice none 0 0,.int .i64 0,.slice none 0 0] (0,0) _ rfl (setRow_heap _ _ _ _ _ _ (uh RB)) Tryz.underlying30 rfl szLn) rfl ?_
 exact uh FE _ ((uh QB).rowG (Nat.le_refl _) _)
theorem catch_idle (p q:Addr) (w:World) :
  CallsD Tryz.prog 51 #[.pointer (some p),.pointer (some q)] .returning w fun e u' w'=>e = .returned (.tuple #[])∧u' = .returning∧w'=w:=by
 refine callsD_of_wpS Tryz.func51 rfl fun c₀ cs hu=>?_
 apply wpS_seq
 apply wpS_region
 simp [wpOpsS,go_sem,recoverD,hu,Tryz.ntmps51,Exit.thenS]
 refine wpS_cond (t:=false) (by simp [Act.eval,Array.replicate]) ?_
 simp only [Bool.false_eq_true,if_false]
 refine wpS_of_wp (wp_skip ?_)
 cases c₀
 simp_all [bodyPostS,results,Tryz.results51]
theorem szL17:(Tryz.prog.info? 30).map (·.size)=some 17:=by kernel_rfl
theorem catch_panic (xb ob:Nat) (row:Array Value) (b:Bool) (u:TypeId) (pv:Value) (w:World) (hx:w.heap[xb]?=some (.cells row 30 (0,0))) (hr:row.size=17) (ho:w.heap[ob]?=some (.cells #[.bool b] 4 (0,0))) (hne:ob≠xb) :
  CallsD Tryz.prog 51 #[.pointer (some ⟨xb,0,none⟩),.pointer (some ⟨ob,0,none⟩)] (.panicking [{ v:=.iface u pv,recovered:=false }]) w fun e u' w' =>
   e = .returned (.tuple #[])∧u' = .panicking [{ v:=.iface u pv,recovered:=true }]∧w'=(w.setRow xb #[.int .i64 0,.string ⟨#[]⟩,.int .i64 0,.int .i64 0,.int .i64 0,.int .i64 0,.int .i64 0,.string ⟨#[]⟩,.slice none 0 0,.int .i64 0,.int .i64 0,.int .i64 0,.int .i64 0,.string ⟨#[]⟩,.slice none 0 0,.int .i64 0,.slice none 0 0]).setRow ob #[.bool false]:=by
 refine callsD_of_wpS Tryz.func51 rfl fun c₀ cs hu=>?_
 have HX:=hide hx
 have HO:=hide ((setRow_other w xb ob #[.int .i64 0,.string ⟨#[]⟩,.int .i64 0,.int .i64 0,.int .i64 0,.int .i64 0,.int .i64 0,.string ⟨#[]⟩,.slice none 0 0,.int .i64 0,.int .i64 0,.int .i64 0,.int .i64 0,.string ⟨#[]⟩,.slice none 0 0,.int .i64 0,.slice none 0 0] hne).trans ho)
 apply wpS_seq
 apply wpS_region
 simp [wpOpsS,go_sem,recoverD,hu,Tryz.ntmps51,Exit.thenS]
 refine wpS_cond (t:=true) (by simp [Act.eval,Array.replicate]) ?_
 simp only [if_true]
 refine wpS_of_wp ?_
 have F:=hide (show ∀ a',a'=({ tmps:=#[.pointer (some ⟨xb,0,none⟩),.pointer (some ⟨ob,0,none⟩),.iface u pv,.bool true,.agg #[.int .i64 0,.string ⟨#[]⟩,.int .i64 0,.int .i64 0,.int .i64 0,.int .i64 0,.int .i64 0,.string ⟨#[]⟩,.slice none 0 0,.int .i64 0,.int .i64 0,.int .i64 0,.int .i64 0,.string ⟨#[]⟩,.slice none 0 0,.int .i64 0,.slice none 0 0]],defers:=[] }:Act)→bodyPostS Tryz.prog Tryz.f51 c₀ cs (fun e u' w'=>e = .returned (.tuple #[])∧u' = .panicking [{ v:=.iface u pv,recovered:=true }]∧w'=(w.setRow xb #[.int .i64 0,.string ⟨#[]⟩,.int .i64 0,.int .i64 0,.int .i64 0,.int .i64 0,.int .i64 0,.string ⟨#[]⟩,.slice none 0 0,.int .i64 0,.int .i64 0,.int .i64 0,.int .i64 0,.string ⟨#[]⟩,.slice none 0 0,.int .i64 0,.slice none 0 0]).setRow ob #[.bool false]) .normal a' ({ c₀ with mode:=.panicking [{ v:=.iface u pv,recovered:=true }] }::cs) ((w.setRow xb #[.int .i64 0,.string ⟨#[]⟩,.int .i64 0,.int .i64 0,.int .i64 0,.int .i64 0,.int .i64 0,.string ⟨#[]⟩,.slice none 0 0,.int .i64 0,.int .i64 0,.int .i64 0,.int .i64 0,.string ⟨#[]⟩,.slice none 0 0,.int .i64 0,.slice none 0 0]).setRow ob #[.bool false]) from by
  rintro a' rfl
  exact ⟨rfl,_,rfl,.tuple #[],by simp [results,Tryz.results51],rfl,rfl,rfl⟩)
 change Code.wp _ _ _ { tmps:=#[.pointer (some ⟨xb,0,none⟩),.pointer (some ⟨ob,0,none⟩),.iface u pv,.bool true,undef],defers:=[] } w
 clear hx ho
 go_wp2_with (first|(refine wpList_store_row rfl 30 _ _ rfl xb #[.int .i64 0,.string ⟨#[]⟩,.int .i64 0,.int .i64 0,.int .i64 0,.int .i64 0,.int .i64 0,.string ⟨#[]⟩,.slice none 0 0,.int .i64 0,.int .i64 0,.int .i64 0,.int .i64 0,.string ⟨#[]⟩,.slice none 0 0,.int .i64 0,.slice none 0 0] rfl rfl 30 _ (uh HX) szL17 (by rw [hr];rfl) (by simp [Value.oneCell']) ?_)|(refine wpList_store_cell rfl 4 _ _ rfl ob 0 (.bool false) rfl rfl 4 #[.bool b] #[.bool false] (uh HO) (by kernel_rfl) (by simp) rfl rfl rfl ?_))
 exact uh F _ rfl
def parseN (s:ByteArray):Option Ln:=if (lexR s 0 []).2=true then pOf (lexR s 0 []).1 else none
def PnL (s:ByteArray) (w:World) (r:Ending) (w':World):Prop:=Below w.heap.size w w'∧((parseN s=none∧r = .returned (.tuple #[.agg #[.int .i64 0,.string ⟨#[]⟩,.int .i64 0,.int .i64 0,.int .i64 0,.int .i64 0,.int .i64 0,.string ⟨#[]⟩,.slice none 0 0,.int .i64 0,.int .i64 0,.int .i64 0,.int .i64 0,.string ⟨#[]⟩,.slice none 0 0,.int .i64 0,.slice none 0 0],.bool false]))∨∃ x p,parseN s=some x∧r = .returned (.tuple #[.agg (x.cs p),.bool true])∧NdL w' w.heap.size x p)
theorem parse_no {s:ByteArray} (h:(lexR s 0 []).2=false):parseN s=none:=by unfold parseN;rw [h];rfl
theorem parse_q {s:ByteArray} (h:(lexR s 0 []).2=true):parseN s=qOf (lexR s 0 []).1:=by unfold parseN;rw [if_pos h,qOf_eq (lex_ok s)]
theorem qOf_none {ts:List Tk} (h:qLn ts=none):qOf ts=none:=by unfold qOf;rw [h]
theorem qOf_more {ts:List Tk} {x:Ln} {q:List Tk} (h:qLn ts=some (x,q)) (hq:q≠[]):qOf ts=none:=by
 unfold qOf
 rw [h]
 cases q with
 | nil => exact absurd rfl hq
 | cons t r => rfl
theorem qOf_end {ts:List Tk} {x:Ln} (h:qLn ts=some (x,[])):qOf ts=some x:=by unfold qOf;rw [h]
structure TabR (w:World):Prop where
 e:Env w
 g:TabG w
 d:TabD w
 u:TabU w
theorem TabU.lt {w:World} (h:TabU w):5<w.heap.size:=by obtain ⟨t,fr,h⟩:=h;exact (Array.getElem?_eq_some_iff.1 h).1
theorem TabR.later {w w':World} (h:TabR w) (hb:Below w.heap.size w w'):TabR w':=⟨h.e.later hb,h.g.later hb h.g.lt,h.d.next hb,by obtain ⟨t,fr,q⟩:=h.u;exact ⟨t,fr,row_keep q hb⟩⟩
theorem TabR.p {w w':World} {rb:Nat} (h:TabR w) (hb:Below w.heap.size w w') (hr:w.heap.size≤rb):TabP w' rb:=by
 have h':=h.later hb
 have l1:=h.e.tab.lt
 have l2:=h.g.lt
 have l3:=h.d.lt
 have l4:=h.u.lt
 exact ⟨h'.e.tab,h'.g,h'.d,h'.u,by omega,by omega,by omega,by omega,by omega⟩
theorem run_bool (w:World) (k:Nat) (b:Bool) (hk:w.cell? ⟨k,0,none⟩=some (.bool b)):(loadVar 4 ⟨k,0,none⟩).run Tryz.prog w = .ok (.bool b) w:=by simp [go_sem,hk]
theorem results_rowB {P:Program} {fn:Func} {p q:Tmp} {ty tb:TypeId} (h:fn.results=#[.cell p ty,.cell q tb]) (tmps:Array Value) (w:World) (g k:Nat) (t:TypeId) (cs:Array Value) (fr:Nat × Nat) (d:TypeDesc) (b:Bool)
  (hp:tmps.getD p undef = .pointer (some ⟨g,0,none⟩)) (hg:w.heap[g]?=some (.cells cs t fr)) (hq:tmps.getD q undef = .pointer (some ⟨k,0,none⟩)) (hk:(loadVar tb ⟨k,0,none⟩).run P w = .ok (.bool b) w)
  (hu:P.underlying ty=some d) (hd:(match d with | .struct _ | .array _ _=>true|_=>false)=true) (hi:(P.info? ty).map (·.size)=some cs.size) :
  (results fn tmps).run P w = .ok (.tuple #[.agg cs,.bool b]) w:=by
 have hp':tmps[p]?.getD undef = .pointer (some ⟨g,0,none⟩):=by simpa using hp
 have hq':tmps[q]?.getD undef = .pointer (some ⟨k,0,none⟩):=by simpa using hq
 simp [results,h,hp',hq',asAddr,run_loadVar_row w g t ty cs fr d hg hu hd hi,hk]
theorem leave_no {R:Ending→World→Prop} (tmps:Array Value) (w0 w1:World) (xb:Nat) (row:Array Value) (b:Bool) (hx:w1.heap[xb]?=some (.cells row 30 (0,0))) (hr:row.size=17) (ho:w1.heap[xb+1]?=some (.cells #[.bool b] 4 (0,0))) (h2:tmps.getD 2 undef = .pointer (some ⟨xb,0,none⟩)) (h3:tmps.getD 3 undef = .pointer (some ⟨xb+1,0,none⟩))
  (h:R (.returned (.tuple #[.agg #[.int .i64 0,.string ⟨#[]⟩,.int .i64 0,.int .i64 0,.int .i64 0,.int .i64 0,.int .i64 0,.string ⟨#[]⟩,.slice none 0 0,.int .i64 0,.int .i64 0,.int .i64 0,.int .i64 0,.string ⟨#[]⟩,.slice none 0 0,.int .i64 0,.slice none 0 0],.bool false])) ((w1.setRow xb #[.int .i64 0,.string ⟨#[]⟩,.int .i64 0,.int .i64 0,.int .i64 0,.int .i64 0,.int .i64 0,.string ⟨#[]⟩,.slice none 0 0,.int .i64 0,.int .i64 0,.int .i64 0,.int .i64 0,.string ⟨#[]⟩,.slice none 0 0,.int .i64 0,.slice none 0 0]).setRow (xb+1) #[.bool false])) :
  Leaves Tryz.prog Tryz.f13 tmps R [{ target:=.fn (.func 51) #[.pointer (some ⟨xb,0,none⟩),.pointer (some ⟨xb+1,0,none⟩)],args:=#[] }] (.panicking pn) w1:=by
 refine leaves_cons (f:=51) (args:=#[.pointer (some ⟨xb,0,none⟩),.pointer (some ⟨xb+1,0,none⟩)]) (by simp) (by simp [go_sem]) ?_
 refine (catch_panic xb (xb+1) row b 9 (.string noL) w1 hx hr ho (by omega)).mono ?_
 rintro e u' w'' ⟨rfl,rfl,rfl⟩
 have hx':((w1.setRow xb #[.int .i64 0,.string ⟨#[]⟩,.int .i64 0,.int .i64 0,.int .i64 0,.int .i64 0,.int .i64 0,.string ⟨#[]⟩,.slice none 0 0,.int .i64 0,.int .i64 0,.int .i64 0,.int .i64 0,.string ⟨#[]⟩,.slice none 0 0,.int .i64 0,.slice none 0 0]).setRow (xb+1) #[.bool false]).heap[xb]?=some (.cells #[.int .i64 0,.string ⟨#[]⟩,.int .i64 0,.int .i64 0,.int .i64 0,.int .i64 0,.int .i64 0,.string ⟨#[]⟩,.slice none 0 0,.int .i64 0,.int .i64 0,.int .i64 0,.int .i64 0,.string ⟨#[]⟩,.slice none 0 0,.int .i64 0,.slice none 0 0] 30 (0,0)):=(setRow_other _ _ _ _ (by omega)).trans (setRow_heap _ _ _ _ _ _ hx)
 have ho':((w1.setRow xb #[.int .i64 0,.string ⟨#[]⟩,.int .i64 0,.int .i64 0,.int .i64 0,.int .i64 0,.int .i64 0,.string ⟨#[]⟩,.slice none 0 0,.int .i64 0,.int .i64 0,.int .i64 0,.int .i64 0,.string ⟨#[]⟩,.slice none 0 0,.int .i64 0,.slice none 0 0]).setRow (xb+1) #[.bool false]).heap[xb+1]?=some (.cells #[.bool false] 4 (0,0)):=setRow_heap _ _ _ _ _ _ ((setRow_other _ _ _ _ (by omega)).trans ho)
 exact ⟨_,results_rowB rfl tmps _ xb (xb+1) 30 #[.int .i64 0,.string ⟨#[]⟩,.int .i64 0,.int .i64 0,.int .i64 0,.int .i64 0,.int .i64 0,.string ⟨#[]⟩,.slice none 0 0,.int .i64 0,.int .i64 0,.int .i64 0,.int .i64 0,.string ⟨#[]⟩,.slice none 0 0,.int .i64 0,.slice none 0 0] (0,0) _ false h2 hx' h3 (run_bool _ _ _ (Lib.cell_of_heap ho' 0)) Tryz.underlying30 rfl szL17,h⟩
theorem leave_yes {R:Ending→World→Prop} (tmps:Array Value) (w1:World) (xb:Nat) (row:Array Value) (hx:w1.heap[xb]?=some (.cells row 30 (0,0))) (hr:(Tryz.prog.info? 30).map (·.size)=some row.size) (ho:w1.heap[xb+1]?=some (.cells #[.bool true] 4 (0,0))) (h2:tmps.getD 2 undef = .pointer (some ⟨xb,0,none⟩)) (h3:tmps.getD 3 undef = .pointer (some ⟨xb+1,0,none⟩))
  (h:R (.returned (.tuple #[.agg row,.bool true])) w1) :
  Leaves Tryz.prog Tryz.f13 tmps R [{ target:=.fn (.func 51) #[.pointer (some ⟨xb,0,none⟩),.pointer (some ⟨xb+1,0,none⟩)],args:=#[] }] .returning w1:=by
 refine leaves_cons (f:=51) (args:=#[.pointer (some ⟨xb,0,none⟩),.pointer (some ⟨xb+1,0,none⟩)]) (by simp) (by simp [go_sem]) ?_
 refine (catch_idle ⟨xb,0,none⟩ ⟨xb+1,0,none⟩ w1).mono ?_
 rintro e u' w'' ⟨rfl,rfl,rfl⟩
 exact ⟨_,results_rowB rfl tmps _ xb (xb+1) 30 row (0,0) _ true h2 hx h3 (run_bool _ _ _ (Lib.cell_of_heap ho 0)) Tryz.underlying30 rfl hr,h⟩
theorem plI (s:ByteArray) (w:World) (hz:s.size≤1048576) (ht:TabR w):Calls Tryz.prog 13 #[.string s] w (PnL s w):=by
 have hmf:∀ (fn:Fn) (first cap:Array Value) (w:World),(Instr.makeFunc fn first cap).run Tryz.prog w = .ok (.func fn first cap) w:=fun _ _ _ _=>rfl
 have hbx:=below_new w (.cells #[.int .i64 0,.string ⟨#[]⟩,.int .i64 0,.int .i64 0,.int .i64 0,.int .i64 0,.int .i64 0,.string ⟨#[]⟩,.slice none 0 0,.int .i64 0,.int .i64 0,.int .i64 0,.int .i64 0,.string ⟨#[]⟩,.slice none 0 0,.int .i64 0,.slice none 0 0] 30)
 have hbo:=below_new (w.alloc (.cells #[.int .i64 0,.string ⟨#[]⟩,.int .i64 0,.int .i64 0,.int .i64 0,.int .i64 0,.int .i64 0,.string ⟨#[]⟩,.slice none 0 0,.int .i64 0,.int .i64 0,.int .i64 0,.int .i64 0,.string ⟨#[]⟩,.slice none 0 0,.int .i64 0,.slice none 0 0] 30)) (.cells #[.bool false] 4)
 have hb0:=hbx.trans (hbo.mono hbx.size)
 have gx:((w.alloc (.cells #[.int .i64 0,.string ⟨#[]⟩,.int .i64 0,.int .i64 0,.int .i64 0,.int .i64 0,.int .i64 0,.string ⟨#[]⟩,.slice none 0 0,.int .i64 0,.int .i64 0,.int .i64 0,.int .i64 0,.string ⟨#[]⟩,.slice none 0 0,.int .i64 0,.slice none 0 0] 30)).alloc (.cells #[.bool false] 4)).heap[w.heap.size]?=some (.cells #[.int .i64 0,.string ⟨#[]⟩,.int .i64 0,.int .i64 0,.int .i64 0,.int .i64 0,.int .i64 0,.string ⟨#[]⟩,.slice none 0 0,.int .i64 0,.int .i64 0,.int .i64 0,.int .i64 0,.string ⟨#[]⟩,.slice none 0 0,.int .i64 0,.slice none 0 0] 30 (0,0)):=row_keep (heap_alloc_new w _) hbo
 have go:((w.alloc (.cells #[.int .i64 0,.string ⟨#[]⟩,.int .i64 0,.int .i64 0,.int .i64 0,.int .i64 0,.int .i64 0,.string ⟨#[]⟩,.slice none 0 0,.int .i64 0,.int .i64 0,.int .i64 0,.int .i64 0,.string ⟨#[]⟩,.slice none 0 0,.int .i64 0,.slice none 0 0] 30)).alloc (.cells #[.bool false] 4)).heap[w.heap.size+1]?=some (.cells #[.bool false] 4 (0,0)):=by
  have h1:(w.alloc (.cells #[.int .i64 0,.string ⟨#[]⟩,.int .i64 0,.int .i64 0,.int .i64 0,.int .i64 0,.int .i64 0,.string ⟨#[]⟩,.slice none 0 0,.int .i64 0,.int .i64 0,.int .i64 0,.int .i64 0,.string ⟨#[]⟩,.slice none 0 0,.int .i64 0,.slice none 0 0] 30)).heap.size=w.heap.size+1:=by simp
  rw [←h1];exact Array.getElem?_push_size
 have hs0:((w.alloc (.cells #[.int .i64 0,.string ⟨#[]⟩,.int .i64 0,.int .i64 0,.int .i64 0,.int .i64 0,.int .i64 0,.string ⟨#[]⟩,.slice none 0 0,.int .i64 0,.int .i64 0,.int .i64 0,.int .i64 0,.string ⟨#[]⟩,.slice none 0 0,.int .i64 0,.slice none 0 0] 30)).alloc (.cells #[.bool false] 4)).heap.size=w.heap.size+2:=by simp
 have B0:=hide hb0
 have GX:=hide gx
 have GO:=hide go
 have S0:=hide hs0
 have X:=hide (roI s ((w.alloc (.cells #[.int .i64 0,.string ⟨#[]⟩,.int .i64 0,.int .i64 0,.int .i64 0,.int .i64 0,.int .i64 0,.string ⟨#[]⟩,.slice none 0 0,.int .i64 0,.int .i64 0,.int .i64 0,.int .i64 0,.string ⟨#[]⟩,.slice none 0 0,.int .i64 0,.slice none 0 0] 30)).alloc (.cells #[.bool false] 4)) hz (ht.later hb0).e)
 have TR:=hide (ht.later hb0)
 have FN:=hide (fun w' (h:parseN s=none) (hb:Below w.heap.size w w')=>(show PnL s w (.returned (.tuple #[.agg #[.int .i64 0,.string ⟨#[]⟩,.int .i64 0,.int .i64 0,.int .i64 0,.int .i64 0,.int .i64 0,.string ⟨#[]⟩,.slice none 0 0,.int .i64 0,.int .i64 0,.int .i64 0,.int .i64 0,.string ⟨#[]⟩,.slice none 0 0,.int .i64 0,.slice none 0 0],.bool false])) w' from ⟨hb,.inl ⟨h,rfl⟩⟩))
 have FY:=hide (fun w' x p (h:parseN s=some x) (hb:Below w.heap.size w w') (hn:NdL w' w.heap.size x p)=>(show PnL s w (.returned (.tuple #[.agg (x.cs p),.bool true])) w' from ⟨hb,.inr ⟨x,p,h,rfl,hn⟩⟩))
 generalize PnL s w=R at *
 clear ht hbx hbo hb0 gx go hs0
 go_enter_defers Tryz.func13,Tryz.ntmps13
 go_wp2_with fail
 generalize (w.alloc (.cells #[.int .i64 0,.string ⟨#[]⟩,.int .i64 0,.int .i64 0,.int .i64 0,.int .i64 0,.int .i64 0,.string ⟨#[]⟩,.slice none 0 0,.int .i64 0,.int .i64 0,.int .i64 0,.int .i64 0,.string ⟨#[]⟩,.slice none 0 0,.int .i64 0,.slice none 0 0] 30)).alloc (.cells #[.bool false] 4)=w0 at *
 refine (uh X).mono ?_
 rintro r w1 ⟨hb1,hm⟩
 rcases hm with ⟨hl,rfl⟩|⟨hl,rb,rfl,hrb,hpr⟩
 ·
  have hx1:=row_keep (uh GX) hb1
  have ho1:=row_keep (uh GO) hb1
  have B1:=hide ((uh B0).trans (hb1.mono (uh B0).size))
  refine leave_no _ w0 w1 w.heap.size _ false hx1 rfl ho1 rfl rfl ?_
  exact uh FN _ (parse_no hl) (((uh B1).grown (grownBy_row _) (uh B1).size (fun k e=>by cases e;exact Nat.le_refl _)).grown (grownBy_row _) (by rw [setRow_size];exact (uh B1).size) (fun k e=>by cases e;exact Nat.le_succ _))
 ·
  have PE:=hide (parse_q hl)
  have TP:=(uh TR).p hb1 hrb
  have X2:=hide (linI rb (lexR s 0 []).1 w1 hpr TP)
  have B1:=hide ((uh B0).trans (hb1.mono (uh B0).size))
  have GX1:=hide (row_keep (uh GX) hb1)
  have GO1:=hide (row_keep (uh GO) hb1)
  have hrb2:w.heap.size+2≤rb:=by have:=uh S0;omega
  have hlt:=hpr.lt
  have OKL:=hide (lex_ok s)
  clear hb1 hpr hl X TP B0 GX GO TR
  generalize (lexR s 0 []).1=ts at *
  go_wp2_with fail
  refine (uh X2).mono ?_
  rintro r w2 ⟨hg,hm⟩
  have B2:=hide ((uh B1).grown hg (uh B1).size (fun k e=>by cases e;omega))
  have GX2:=hide ((hg.block _ (Array.getElem?_eq_some_iff.1 (uh GX1)).1 (fun e=>by simp at e;omega)).trans (uh GX1))
  have GO2:=hide ((hg.block _ (Array.getElem?_eq_some_iff.1 (uh GO1)).1 (fun e=>by simp at e;omega)).trans (uh GO1))
  have SZ:=hide (show w.heap.size+2≤w1.heap.size by omega)
  clear hg B1 GX1 GO1 X2
  cases hq:qLn ts with
  | none =>
   rw [hq] at hm
   have hr:r = .panicked pn:=hm
   subst hr
   refine leave_no _ w0 w2 w.heap.size _ false (uh GX2) rfl (uh GO2) rfl rfl ?_
   exact uh FN _ ((uh PE).trans (qOf_none hq)) (((uh B2).grown (grownBy_row _) (uh B2).size (fun k e=>by cases e;exact Nat.le_refl _)).grown (grownBy_row _) (by rw [setRow_size];exact (uh B2).size) (fun k e=>by cases e;exact Nat.le_succ _))
  | some pp =>
   obtain ⟨x,q⟩:=pp
   rw [hq] at hm
   obtain ⟨v,rfl,⟨p,rfl,hn⟩,hz⟩:=hm
   have CO:=hide (cs_one x p)
   have SO:=hide (szLc x p)
   have SH:=hide (show (#[.int .i64 0,.string ⟨#[]⟩,.int .i64 0,.int .i64 0,.int .i64 0,.int .i64 0,.int .i64 0,.string ⟨#[]⟩,.slice none 0 0,.int .i64 0,.int .i64 0,.int .i64 0,.int .i64 0,.string ⟨#[]⟩,.slice none 0 0,.int .i64 0,.slice none 0 0]:Array Value).size=(x.cs p).size from rfl)
   have SH2:=hide (show (x.cs p).size=17 from rfl)
   have NN:=hide (hn.lower (uh SZ))
   have FZ:=hide (fun w' (h:q = []) (hb:Below w.heap.size w w') (hn:NdL w' w.heap.size x p)=>uh FY w' x p ((uh PE).trans (qOf_end (h▸hq))) hb hn)
   have FM:=hide (fun w' (h:q≠[]) (hb:Below w.heap.size w w')=>uh FN w' ((uh PE).trans (qOf_more hq h)) hb)
   have E1:=hide (endI rb q (w2.setRow w.heap.size (x.cs p)) (hz.row (uh GX2) (by decide) (by decide) _))
   clear hn hz hq PE FN FY
   have FW:=hide (fun w' h hb hn=>uh FZ w' h hb hn)
   clear FZ
   generalize x.cs p=row at *
   go_wp2_with (refine wpList_store_row rfl 30 _ _ rfl w.heap.size row rfl rfl 30 _ (uh GX2) (uh SO) (uh SH) (uh CO) ?_)
   have GX3:=hide (setRow_heap _ _ _ row _ _ (uh GX2))
   have GO3:=hide ((setRow_other w2 w.heap.size (w.heap.size+1) row (by omega)).trans (uh GO2))
   have B3:=hide ((uh B2).grown (grownBy_row row) (uh B2).size (fun k e=>by cases e;exact Nat.le_refl _))
   have N3:=hide ((uh NN).row row (show w.heap.size<w.heap.size+2 by omega))
   clear GX2 GO2 B2 NN
   generalize w2.setRow w.heap.size row=w3 at *
   refine (uh E1).mono ?_
   rintro r w' ⟨hr,hw'⟩
   rw [hw']
   clear hw' w' E1
   by_cases hqn:q = []
   ·
    rw [if_pos hqn] at hr
    subst hr
    have F:=hide (fun w' hb hn=>uh FW w' hqn hb hn)
    clear FW FM
    have GO4:=hide ((setRow_other w3 w.heap.size (w.heap.size+1) row (by omega)).trans (uh GO3))
    have GX4:=hide (setRow_heap _ _ _ row _ _ (uh GX3))
    go_wp2_with (first|((with_reducible show wpList _ _ _ (⟨_,.load _ _,_,_,_,_⟩::_) _ _);refine wpList_load_row rfl 30 _ rfl w.heap.size rfl 30 row (0,0) _ (uh GX3) Tryz.underlying30 rfl (uh SO) ?_)|((with_reducible show wpList _ _ _ (⟨_,.store _ _ _,_,_,_,_⟩::_) _ _);refine wpList_store_row rfl 30 _ _ rfl w.heap.size row rfl rfl 30 _ (uh GX3) (uh SO) rfl (uh CO) ?_)|((with_reducible show wpList _ _ _ (⟨_,.store _ _ _,_,_,_,_⟩::_) _ _);refine wpList_store_cell rfl 4 _ _ rfl (w.heap.size+1) 0 (.bool true) rfl rfl 4 #[.bool false] #[.bool true] (uh GO4) (by kernel_rfl) (by simp) rfl rfl rfl ?_))
    refine leave_yes _ _ w.heap.size row ((setRow_other _ _ _ _ (by omega)).trans (uh GX4)) (uh SO) (setRow_heap _ _ _ _ _ _ (uh GO4)) rfl rfl ?_
    exact uh F _ (((uh B3).grown (grownBy_row _) (uh B3).size (fun k e=>by cases e;exact Nat.le_refl _)).grown (grownBy_row _) (by rw [setRow_size];exact (uh B3).size) (fun k e=>by cases e;exact Nat.le_succ _)) ((((uh N3).row _ (show w.heap.size<w.heap.size+2 by omega)).row _ (show w.heap.size+1<w.heap.size+2 by omega)).lower (by omega))
   ·
    rw [if_neg hqn] at hr
    subst hr
    refine leave_no _ w0 w3 w.heap.size _ false (uh GX3) (uh SH2) (uh GO3) rfl rfl ?_
    exact uh FM _ hqn (((uh B3).grown (grownBy_row _) (uh B3).size (fun k e=>by cases e;exact Nat.le_refl _)).grown (grownBy_row _) (by rw [setRow_size];exact (uh B3).size) (fun k e=>by cases e;exact Nat.le_succ _))
def zP:Nat→Nat
 | 0 => 0
 | d + 1 => 8 + 2 * zP d
theorem name_sz {s:ByteArray} (h:nameB s=true):s.size≤6:=by
 unfold nameB at h
 rw [Bool.and_eq_true] at h
 obtain ⟨c,r,_,_,_,hl⟩:=form_open h.1
 rw [←size_len]
 exact hl
theorem plain_sz:∀ (d:Nat) (e:Ex),okF d true e=true→e.sz≤zP d:=by
 intro d
 induction d with
 | zero => intro e h; rw [okF] at h; cases h
 | succ d ih =>
  intro e h
  have hE:E0.size=0:=rfl
  rw [zP]
  rcases plain_cases h with ⟨n,_,rfl⟩|⟨s,hs,rfl⟩|rfl|⟨a,ha,rfl⟩|⟨k,a,b,_,ha,hb,rfl⟩
  · rw [sz_leaf,hE];omega
  · rw [sz_leaf];have:=name_sz hs;omega
  · rw [sz_leaf,hE];omega
  · rw [show E0=(⟨#[]⟩:ByteArray) from rfl,sz_one];have:=ih a ha;omega
  · rw [show E0=(⟨#[]⟩:ByteArray) from rfl,sz_two];have:=ih a ha;have:=ih b hb;omega
theorem plain_small {e:Ex} (h:okF 6 true e=true):e.sz≤504:=plain_sz 6 e h
theorem ag_small {a:Ag} (h:agX a=true):a.e.sz≤504:=by
 by_cases h6:6≤a.f
 · exact plain_small (agX_e h h6)
 ·
  unfold agX at h
  obtain ⟨f1,f2⟩:=agX_f (a:=a) (by unfold agX;exact h)
  rw [if_pos ((inB_iff _ _ _).2 (by omega))] at h
  have:=zro_is (Bool.and_eq_true_iff.1 h).2
  rw [this]
  show (Ex.mk 0 0 ⟨#[]⟩ []).sz≤504
  rw [sz_leaf]
  decide
theorem lst_len:∀ l:List Ex,l.all (okF 6 true)=true→l.length≤(cmT l).length:=by
 intro l
 cases l with
 | nil => intro _; exact Nat.le_refl 0
 | cons e r =>
  intro ok
  obtain ⟨oke,okl⟩:=Bool.and_eq_true_iff.1 (show (okF 6 true e&&r.all (okF 6 true))=true from ok)
  have h1:0<(toksF 6 e).length:=List.length_pos_iff.2 (toks_ne oke)
  have h2:r.length≤((r.map fun x=>mkT 44::toksF 6 x).flatten).length:=by
   clear okl ok oke h1
   induction r with
   | nil => exact Nat.le_refl 0
   | cons x r ih => simp only [List.map_cons, List.flatten_cons, List.length_append, List.length_cons]; omega
  show r.length+1≤(toksF 6 e++_).length
  rw [List.length_append]
  omega
theorem all_small {l:List Ex} (h:l.all (okF 6 true)=true):∀ i,i<l.length→(xAt l i).sz≤1048576:=fun i hi=>by
 have:=plain_small (List.all_eq_true.1 h _ (xAt_mem hi))
 omega
theorem a0_small:a0.e.sz≤1048576:=by
 show (Ex.mk 0 0 ⟨#[]⟩ []).sz≤1048576
 rw [sz_leaf]
 decide
theorem tms_small {k:Int} {ts q:List Tk} {x:Ln} (h:AllOk ts) (hl:ts.length≤1048576) (hp:pTms k ts=some (x,q)):SzL x:=by
 unfold pTms at hp
 split at hp
 · cases hp
 ·
  rename_i l q hl'
  obtain ⟨_,ho,e⟩:=pLst_some _ _ _ _ h hl'
  cases hp
  have:=lst_len l ho
  have:(cmT l).length≤ts.length:=by rw [e];simp
  exact ⟨by show (0:Nat)≤_;omega,a0_small,a0_small,by show l.length≤_;omega,all_small ho⟩
theorem ln_small {ts q:List Tk} {x:Ln} (h:AllOk ts) (hl:ts.length≤1048576) (hp:pLn ts=some (x,q)):SzL x:=by
 have e0:(ByteArray.mk #[]).size≤1048576:=by decide
 have n0:∀ i,i<([]:List Ex).length→(xAt [] i).sz≤1048576:=fun i hi=>by simp at hi
 cases ts with
 | nil => cases hp
 | cons t r =>
  obtain ⟨ht,hr⟩:=h.head
  have hts:=ok_size ht
  have hl2:r.length≤1048576:=by simp at hl;omega
  rw [pLn_eq] at hp
  split at hp
  ·
   split at hp
   ·
    unfold pIns at hp
    split at hp
    ·
     split at hp
     · cases hp
     ·
      rename_i a q1 ha
      obtain ⟨oa,ea⟩:=pArg_some hr ha
      split at hp
      ·
       split at hp
       · cases hp
       ·
        rename_i b q2 hb
        obtain ⟨ob,_⟩:=pArg_some (ok_rest hr ea).tail hb
        cases hp
        have:=ag_small oa
        have:=ag_small ob
        exact ⟨e0,by show a.e.sz≤_;omega,by show b.e.sz≤_;omega,by simp,n0⟩
      · cases hp
    split at hp
    ·
     split at hp
     · cases hp
     ·
      rename_i b q1 hb
      have:=ag_small (pArg_some hr hb).1
      cases hp
      exact ⟨e0,a0_small,by show b.e.sz≤_;omega,by simp,n0⟩
    split at hp
    ·
     split at hp
     · cases hp
     ·
      rename_i t1 q1
      split at hp
      ·
       split at hp
       · cases hp
       ·
        rename_i b q2 hb
        have:=ag_small (pArg_some hr.head.2.tail hb).1
        cases hp
        exact ⟨e0,a0_small,by show b.e.sz≤_;omega,by simp,n0⟩
      · cases hp
    split at hp
    ·
     split at hp
     · cases hp
     ·
      cases hp
      exact ⟨e0,a0_small,a0_small,by simp,n0⟩
    split at hp
    ·
     cases hp
     exact ⟨e0,a0_small,a0_small,by simp,n0⟩
    ·
     split at hp
     · cases hp
     ·
      rename_i e q1 he
      obtain ⟨ok,_⟩:=toks_read 6 _ _ _ hr he
      cases hp
      exact ⟨e0,a0_small,a0_small,by simp,all_small (by simp [ok])⟩
   · cases hp
  split at hp
  ·
   unfold pDot at hp
   split at hp
   · exact tms_small hr hl2 hp
   split at hp
   · exact tms_small hr hl2 hp
   split at hp
   · exact tms_small hr hl2 hp
   split at hp
   ·
    cases hp
    exact ⟨e0,a0_small,a0_small,by simp,n0⟩
   split at hp
   ·
    split at hp
    · cases hp
    ·
     rename_i t1 q1
     have h1:=ok_size hr.head.1
     split at hp
     ·
      split at hp
      · cases hp
      ·
       split at hp
       ·
        cases hp
        exact ⟨by show t1.s.size≤_;omega,a0_small,a0_small,by simp,n0⟩
       · cases hp
     ·
      cases hp
      exact ⟨by show t1.s.size≤_;omega,a0_small,a0_small,by simp,n0⟩
   · cases hp
  split at hp
  ·
   split at hp
   ·
    injection hp with hp
    injection hp with hp1 _
    subst hp1
    exact ⟨by show t.s.size≤_;omega,a0_small,a0_small,by simp,n0⟩
   split at hp
   ·
    split at hp
    · cases hp
    ·
     rename_i e q1 he
     obtain ⟨ok,_⟩:=toks_read 6 _ _ _ hr.tail he
     cases hp
     exact ⟨by show t.s.size≤_;omega,a0_small,a0_small,by simp,all_small (by simp [ok])⟩
   · cases hp
  · cases hp
def OfR (o:Option Ln) (w:World) (r:Ending) (w':World):Prop:=Below w.heap.size w w'∧((o=none∧r = .returned (.tuple #[.agg #[.int .i64 0,.string ⟨#[]⟩,.int .i64 0,.int .i64 0,.int .i64 0,.int .i64 0,.int .i64 0,.string ⟨#[]⟩,.slice none 0 0,.int .i64 0,.int .i64 0,.int .i64 0,.int .i64 0,.string ⟨#[]⟩,.slice none 0 0,.int .i64 0,.slice none 0 0],.bool false]))∨∃ x p,o=some x∧r = .returned (.tuple #[.agg (x.cs p),.bool true])∧NwL w' w.heap.size x p)
theorem of_bad {ts:List Tk} {x:Ln} {k:Nat} (hne:ts≠[]) (h:OutG (pLn (ts.drop 0)) ts false x k true):pOf ts=none:=by
 unfold pOf
 rw [if_neg hne]
 have h:=h.2 rfl
 rw [List.drop_zero] at h
 cases hp:pLn ts with
 | none => rfl
 | some q => rw [hp] at h; exact absurd h.1 (by decide)
theorem of_good {ts:List Tk} {x:Ln} {k:Nat} (h:OutG (pLn (ts.drop 0)) ts false x k false):pLn ts=some (x,ts.drop k):=by
 have h:=h.2 rfl
 rw [List.drop_zero] at h
 cases hp:pLn ts with
 | none => rw [hp] at h; exact absurd (show false = true from h) (by decide)
 | some q =>
  obtain ⟨y,q⟩:=q
  rw [hp] at h
  obtain ⟨_,rfl,rfl⟩:=h
  rfl
theorem of_more {ts:List Tk} {x:Ln} {k:Nat} (hne:ts≠[]) (h:pLn ts=some (x,ts.drop k)) (hk:k≤ts.length) (hk2:k≠ts.length):pOf ts=none:=by
 unfold pOf
 rw [if_neg hne,h]
 cases hd:ts.drop k with
 | nil => exact absurd (Nat.le_antisymm hk (List.drop_eq_nil_iff.1 hd)) hk2
 | cons t r => rfl
theorem of_end {ts:List Tk} {x:Ln} (hne:ts≠[]) (h:pLn ts=some (x,ts.drop ts.length)):pOf ts=if lnX x=true then some x else none:=by
 unfold pOf
 rw [if_neg hne,h,List.drop_length]
theorem of13S (la:Option Addr) (cap:Nat) (ts:List Tk) (w:World) (ok:AllOk ts) (hl:ts.length≤1048576) (hr:RdT w la ts):Calls Tryz.prog 56 #[.slice la ts.length cap] w (OfR (pOf ts) w):=by
 have FN:=hide (fun w' (h:pOf ts=none) (hb:Below w.heap.size w w')=>(show OfR (pOf ts) w (.returned (.tuple #[.agg #[.int .i64 0,.string ⟨#[]⟩,.int .i64 0,.int .i64 0,.int .i64 0,.int .i64 0,.int .i64 0,.string ⟨#[]⟩,.slice none 0 0,.int .i64 0,.int .i64 0,.int .i64 0,.int .i64 0,.string ⟨#[]⟩,.slice none 0 0,.int .i64 0,.slice none 0 0],.bool false])) w' from ⟨hb,.inl ⟨h,rfl⟩⟩))
 have FY:=hide (fun w' x p (h:pOf ts=some x) (hb:Below w.heap.size w w') (hn:NwL w' w.heap.size x p)=>(show OfR (pOf ts) w (.returned (.tuple #[.agg (x.cs p),.bool true])) w' from ⟨hb,.inr ⟨x,p,h,rfl,hn⟩⟩))
 have B0:=hide (below_new w (.cells #[.int .i64 0,.string ⟨#[]⟩,.int .i64 0,.int .i64 0,.int .i64 0,.int .i64 0,.int .i64 0,.string ⟨#[]⟩,.slice none 0 0,.int .i64 0,.int .i64 0,.int .i64 0,.int .i64 0,.string ⟨#[]⟩,.slice none 0 0,.int .i64 0,.slice none 0 0] 30))
 have R0:=hide (heap_alloc_new w (.cells #[.int .i64 0,.string ⟨#[]⟩,.int .i64 0,.int .i64 0,.int .i64 0,.int .i64 0,.int .i64 0,.string ⟨#[]⟩,.slice none 0 0,.int .i64 0,.int .i64 0,.int .i64 0,.int .i64 0,.string ⟨#[]⟩,.slice none 0 0,.int .i64 0,.slice none 0 0] 30))
 have S0:(w.alloc (.cells #[.int .i64 0,.string ⟨#[]⟩,.int .i64 0,.int .i64 0,.int .i64 0,.int .i64 0,.int .i64 0,.string ⟨#[]⟩,.slice none 0 0,.int .i64 0,.int .i64 0,.int .i64 0,.int .i64 0,.string ⟨#[]⟩,.slice none 0 0,.int .i64 0,.slice none 0 0] 30)).heap.size=w.heap.size+1:=by simp
 generalize OfR (pOf ts) w=R at *
 by_cases hne:ts = []
 ·
  subst hne
  have F:=hide (fun w' (hb:Below w.heap.size w w')=>uh FY w' ln0 ⟨none,0,none,0,none,0⟩ rfl hb (NwL.nil _ _ _ _ _ _ _))
  clear FN FY hr ok S0
  go_enter Tryz.func56,Tryz.ntmps56
  go_wp2_with ((with_reducible show wpList _ _ _ (⟨_,.store _ _ _,_,_,_,_⟩::_) _ _);refine wpList_store_row rfl 30 _ _ rfl w.heap.size #[.int .i64 0,.string ⟨#[]⟩,.int .i64 0,.int .i64 0,.int .i64 0,.int .i64 0,.int .i64 0,.string ⟨#[]⟩,.slice none 0 0,.int .i64 0,.int .i64 0,.int .i64 0,.int .i64 0,.string ⟨#[]⟩,.slice none 0 0,.int .i64 0,.slice none 0 0] rfl rfl 30 _ (uh R0) szLn rfl (by simp [Value.oneCell']) ?_)
  refine bodyPost_ret (results_row2 (P:=Tryz.prog) rfl _ _ w.heap.size 30 #[.int .i64 0,.string ⟨#[]⟩,.int .i64 0,.int .i64 0,.int .i64 0,.int .i64 0,.int .i64 0,.string ⟨#[]⟩,.slice none 0 0,.int .i64 0,.int .i64 0,.int .i64 0,.int .i64 0,.string ⟨#[]⟩,.slice none 0 0,.int .i64 0,.slice none 0 0] (0,0) _ rfl (setRow_heap _ _ _ _ _ _ (uh R0)) Tryz.underlying30 rfl szLn) rfl ?_
  exact uh F _ ((uh B0).grown (grownBy_row _) (uh B0).size (fun k e=>by cases e;exact Nat.le_refl _))
 ·
  have hl0:0<ts.length:=List.length_pos_iff.2 hne
  have hl1:((ts.length:Int) == 0)=false:=by rw [beq_eq_false_iff_ne];omega
  have hrd:RdT (w.alloc (.cells #[.int .i64 0,.string ⟨#[]⟩,.int .i64 0,.int .i64 0,.int .i64 0,.int .i64 0,.int .i64 0,.string ⟨#[]⟩,.slice none 0 0,.int .i64 0,.int .i64 0,.int .i64 0,.int .i64 0,.string ⟨#[]⟩,.slice none 0 0,.int .i64 0,.slice none 0 0] 30)) la ts:=hr.later (uh B0)
  have hfar:∀ ad,la=some ad→ad.block<w.heap.size:=by
   rcases hr with h|⟨b,off,ha,hlt,_⟩
   · exact absurd h hne
   · intro ad e;rw [ha] at e;cases e;exact hlt
  have OB:=hide (fun x k h=>of_bad (ts:=ts) (x:=x) (k:=k) hne h)
  have OM:=hide (fun x k h h1 h2=>of_more (ts:=ts) (x:=x) (k:=k) hne h h1 h2)
  have OE:=hide (fun x h=>of_end (ts:=ts) (x:=x) hne h)
  have OS:=hide (fun x q h=>ln_small (ts:=ts) (x:=x) (q:=q) ok hl h)
  clear hr ok hne
  obtain ⟨w0,hw0⟩:∃ w0,w.alloc (.cells #[.int .i64 0,.string ⟨#[]⟩,.int .i64 0,.int .i64 0,.int .i64 0,.int .i64 0,.int .i64 0,.string ⟨#[]⟩,.slice none 0 0,.int .i64 0,.int .i64 0,.int .i64 0,.int .i64 0,.string ⟨#[]⟩,.slice none 0 0,.int .i64 0,.slice none 0 0] 30)=w0:=⟨_,rfl⟩
  rw [hw0] at B0 R0 S0 hrd
  have S0':=hide S0
  clear S0
  have hb1:=below_new w0 (.cells #[.slice la ts.length cap,.int .i64 0,.bool false] 153)
  have RZ:=hide (show Rz (w0.alloc (.cells #[.slice la ts.length cap,.int .i64 0,.bool false] 153)) w0.heap.size la cap ts 0 false from ⟨Array.getElem?_push_size,hrd.later hb1,.inr (fun ad e=>by have:=hfar ad e;have:=uh S0';omega),Nat.zero_le _⟩)
  have X:=hide (ln13S w0.heap.size la cap ts 0 false _ hl (uh RZ))
  have B1:=hide ((uh B0).trans (hb1.mono (uh B0).size))
  have R1:=hide (row_keep (uh R0) hb1)
  have S1:=hide (show w.heap.size+1≤w0.heap.size from Nat.le_of_eq (uh S0').symm)
  have S2:=hide (hb1.size)
  unfold LnR at X
  clear hb1 hrd hfar B0 R0 RZ
  go_enter Tryz.func56,Tryz.ntmps56
  clear S0'
  go_wp2_with fail
  generalize w0.alloc (.cells #[.slice la ts.length cap,.int .i64 0,.bool false] 153)=w1 at *
  generalize w0.heap.size=rb at *
  refine (uh X).mono ?_
  rintro r w2 ⟨x,p,k,b,rfl,hn,hz,hg,ho⟩
  have B2:=hide ((uh B1).grown hg (uh B1).size (fun k e=>by cases e;have:=uh S1;omega))
  have R2:=hide ((hg.block _ (Array.getElem?_eq_some_iff.1 (uh R1)).1 (fun e=>by have:=uh S1;simp at e;omega)).trans (uh R1))
  have N2:=hide (hn.lower (show w.heap.size+1≤w1.heap.size from Nat.le_trans (uh S1) (uh S2)))
  have Z2:=hide hz
  have hk:=hz.le
  have OO:=hide ho
  clear hn hz hg ho X B1 R1 S2
  unfold Ln.cs
  have hb3:=below_new w2 (.cells #[.int .i64 x.k,.string x.s,.int .i64 x.op,.int .i64 x.src.f,.int .i64 x.src.r,.int .i64 x.src.e.k,.int .i64 x.src.e.n,.string x.src.e.s,.slice p.b1 x.src.e.l.length p.c1,.int .i64 x.dst.f,.int .i64 x.dst.r,.int .i64 x.dst.e.k,.int .i64 x.dst.e.n,.string x.dst.e.s,.slice p.b2 x.dst.e.l.length p.c2,.int .i64 x.n,.slice p.b3 x.l.length p.c3] 30)
  have g3:(w2.alloc (.cells #[.int .i64 x.k,.string x.s,.int .i64 x.op,.int .i64 x.src.f,.int .i64 x.src.r,.int .i64 x.src.e.k,.int .i64 x.src.e.n,.string x.src.e.s,.slice p.b1 x.src.e.l.length p.c1,.int .i64 x.dst.f,.int .i64 x.dst.r,.int .i64 x.dst.e.k,.int .i64 x.dst.e.n,.string x.dst.e.s,.slice p.b2 x.dst.e.l.length p.c2,.int .i64 x.n,.slice p.b3 x.l.length p.c3] 30)).heap[w2.heap.size]?=some (.cells #[.int .i64 x.k,.string x.s,.int .i64 x.op,.int .i64 x.src.f,.int .i64 x.src.r,.int .i64 x.src.e.k,.int .i64 x.src.e.n,.string x.src.e.s,.slice p.b1 x.src.e.l.length p.c1,.int .i64 x.dst.f,.int .i64 x.dst.r,.int .i64 x.dst.e.k,.int .i64 x.dst.e.n,.string x.dst.e.s,.slice p.b2 x.dst.e.l.length p.c2,.int .i64 x.n,.slice p.b3 x.l.length p.c3] 30 (0,0)):=Array.getElem?_push_size
  have B3:=hide ((uh B2).trans (hb3.mono (uh B2).size))
  have R3:=hide (row_keep (uh R2) hb3)
  have N3:=hide ((uh N2).later hb3)
  obtain ⟨c0,c1,c2⟩:=((uh Z2).later hb3).cells
  have G3:=hide g3
  have STN:=hide (show (#[.int .i64 0,.string ⟨#[]⟩,.int .i64 0,.int .i64 0,.int .i64 0,.int .i64 0,.int .i64 0,.string ⟨#[]⟩,.slice none 0 0,.int .i64 0,.int .i64 0,.int .i64 0,.int .i64 0,.string ⟨#[]⟩,.slice none 0 0,.int .i64 0,.slice none 0 0]:Array Value).size=(#[.int .i64 x.k,.string x.s,.int .i64 x.op,.int .i64 x.src.f,.int .i64 x.src.r,.int .i64 x.src.e.k,.int .i64 x.src.e.n,.string x.src.e.s,.slice p.b1 x.src.e.l.length p.c1,.int .i64 x.dst.f,.int .i64 x.dst.r,.int .i64 x.dst.e.k,.int .i64 x.dst.e.n,.string x.dst.e.s,.slice p.b2 x.dst.e.l.length p.c2,.int .i64 x.n,.slice p.b3 x.l.length p.c3]:Array Value).size from rfl)
  clear hb3 g3 B2 R2 N2 Z2
  cases b with
  | true =>
   have F:=hide (fun w' hb=>uh FN w' (uh OB x k (uh OO)) hb)
   clear FN FY OB OM OE OS OO N3
   go_wp2_with (first|((with_reducible show wpList _ _ _ (⟨_,.store _ _ _,_,_,_,_⟩::_) _ _);refine storeM rfl 30 _ _ rfl #[.int .i64 x.k,.string x.s,.int .i64 x.op,.int .i64 x.src.f,.int .i64 x.src.r,.int .i64 x.src.e.k,.int .i64 x.src.e.n,.string x.src.e.s,.slice p.b1 x.src.e.l.length p.c1,.int .i64 x.dst.f,.int .i64 x.dst.r,.int .i64 x.dst.e.k,.int .i64 x.dst.e.n,.string x.dst.e.s,.slice p.b2 x.dst.e.l.length p.c2,.int .i64 x.n,.slice p.b3 x.l.length p.c3] rfl rfl _ szLn rfl (by simp [Value.oneCell']) ?_)|((with_reducible show wpList _ _ _ (⟨_,.store _ _ _,_,_,_,_⟩::_) _ _);refine wpList_store_row rfl 30 _ _ rfl w.heap.size #[.int .i64 0,.string ⟨#[]⟩,.int .i64 0,.int .i64 0,.int .i64 0,.int .i64 0,.int .i64 0,.string ⟨#[]⟩,.slice none 0 0,.int .i64 0,.int .i64 0,.int .i64 0,.int .i64 0,.string ⟨#[]⟩,.slice none 0 0,.int .i64 0,.slice none 0 0] rfl rfl 30 _ (uh R3) szLn rfl (by simp [Value.oneCell']) ?_))
   refine bodyPost_ret (results_row2 (P:=Tryz.prog) rfl _ _ w.heap.size 30 #[.int .i64 0,.string ⟨#[]⟩,.int .i64 0,.int .i64 0,.int .i64 0,.int .i64 0,.int .i64 0,.string ⟨#[]⟩,.slice none 0 0,.int .i64 0,.int .i64 0,.int .i64 0,.int .i64 0,.string ⟨#[]⟩,.slice none 0 0,.int .i64 0,.slice none 0 0] (0,0) _ rfl (setRow_heap _ _ _ _ _ _ (uh R3)) Tryz.underlying30 rfl szLn) rfl ?_
   exact uh F _ ((uh B3).grown (grownBy_row _) (uh B3).size (fun k e=>by cases e;exact Nat.le_refl _))
  | false =>
   have OG:=hide (of_good (uh OO))
   clear OB OO
   by_cases hkl:k=ts.length
   ·
    subst hkl
    have SX:=hide (uh OS x _ (uh OG))
    have OF:=hide (uh OE x (uh OG))
    have Y:=hide (lnS_any x p (w2.alloc (.cells #[.int .i64 x.k,.string x.s,.int .i64 x.op,.int .i64 x.src.f,.int .i64 x.src.r,.int .i64 x.src.e.k,.int .i64 x.src.e.n,.string x.src.e.s,.slice p.b1 x.src.e.l.length p.c1,.int .i64 x.dst.f,.int .i64 x.dst.r,.int .i64 x.dst.e.k,.int .i64 x.dst.e.n,.string x.dst.e.s,.slice p.b2 x.dst.e.l.length p.c2,.int .i64 x.n,.slice p.b3 x.l.length p.c3] 30)) (uh N3).rd (uh SX))
    clear OM OE OS OG SX hk
    unfold Ln.cs at Y
    generalize ts.length=n at *
    go_wp2_with ((with_reducible show wpList _ _ _ (⟨_,.store _ _ _,_,_,_,_⟩::_) _ _);refine storeM rfl 30 _ _ rfl #[.int .i64 x.k,.string x.s,.int .i64 x.op,.int .i64 x.src.f,.int .i64 x.src.r,.int .i64 x.src.e.k,.int .i64 x.src.e.n,.string x.src.e.s,.slice p.b1 x.src.e.l.length p.c1,.int .i64 x.dst.f,.int .i64 x.dst.r,.int .i64 x.dst.e.k,.int .i64 x.dst.e.n,.string x.dst.e.s,.slice p.b2 x.dst.e.l.length p.c2,.int .i64 x.n,.slice p.b3 x.l.length p.c3] rfl rfl _ szLn rfl (by simp [Value.oneCell']) ?_)
    generalize w2.alloc (.cells #[.int .i64 x.k,.string x.s,.int .i64 x.op,.int .i64 x.src.f,.int .i64 x.src.r,.int .i64 x.src.e.k,.int .i64 x.src.e.n,.string x.src.e.s,.slice p.b1 x.src.e.l.length p.c1,.int .i64 x.dst.f,.int .i64 x.dst.r,.int .i64 x.dst.e.k,.int .i64 x.dst.e.n,.string x.dst.e.s,.slice p.b2 x.dst.e.l.length p.c2,.int .i64 x.n,.slice p.b3 x.l.length p.c3] 30)=w3 at *
    refine (uh Y).mono ?_
    rintro r w4 ⟨rfl,hb4⟩
    have B4:=hide ((uh B3).trans (hb4.mono (uh B3).size))
    have R4:=hide (row_keep (uh R3) hb4)
    have N4:=hide ((uh N3).later hb4)
    have G4:=hide (row_keep (uh G3) hb4)
    clear hb4 B3 R3 N3 G3 Y c0 c1 c2
    cases hx:lnX x with
    | false =>
     have F:=hide (fun w' hb=>uh FN w' ((uh OF).trans (if_neg (by rw [hx];decide))) hb)
     clear FN FY OF N4 G4 hx
     go_wp2_with ((with_reducible show wpList _ _ _ (⟨_,.store _ _ _,_,_,_,_⟩::_) _ _);refine wpList_store_row rfl 30 _ _ rfl w.heap.size #[.int .i64 0,.string ⟨#[]⟩,.int .i64 0,.int .i64 0,.int .i64 0,.int .i64 0,.int .i64 0,.string ⟨#[]⟩,.slice none 0 0,.int .i64 0,.int .i64 0,.int .i64 0,.int .i64 0,.string ⟨#[]⟩,.slice none 0 0,.int .i64 0,.slice none 0 0] rfl rfl 30 _ (uh R4) szLn rfl (by simp [Value.oneCell']) ?_)
     refine bodyPost_ret (results_row2 (P:=Tryz.prog) rfl _ _ w.heap.size 30 #[.int .i64 0,.string ⟨#[]⟩,.int .i64 0,.int .i64 0,.int .i64 0,.int .i64 0,.int .i64 0,.string ⟨#[]⟩,.slice none 0 0,.int .i64 0,.int .i64 0,.int .i64 0,.int .i64 0,.string ⟨#[]⟩,.slice none 0 0,.int .i64 0,.slice none 0 0] (0,0) _ rfl (setRow_heap _ _ _ _ _ _ (uh R4)) Tryz.underlying30 rfl szLn) rfl ?_
     exact uh F _ ((uh B4).grown (grownBy_row _) (uh B4).size (fun k e=>by cases e;exact Nat.le_refl _))
    | true =>
     have F:=hide (fun w' hb hn=>uh FY w' x p ((uh OF).trans (if_pos hx)) hb hn)
     clear FN FY OF hx
     unfold Ln.cs at F
     go_wp2_with (first|((with_reducible show wpList _ _ _ (⟨_,.load _ _,_,_,_,_⟩::_) _ _);refine wpList_load_row rfl 30 _ rfl w2.heap.size rfl 30 #[.int .i64 x.k,.string x.s,.int .i64 x.op,.int .i64 x.src.f,.int .i64 x.src.r,.int .i64 x.src.e.k,.int .i64 x.src.e.n,.string x.src.e.s,.slice p.b1 x.src.e.l.length p.c1,.int .i64 x.dst.f,.int .i64 x.dst.r,.int .i64 x.dst.e.k,.int .i64 x.dst.e.n,.string x.dst.e.s,.slice p.b2 x.dst.e.l.length p.c2,.int .i64 x.n,.slice p.b3 x.l.length p.c3] (0,0) _ (uh G4) Tryz.underlying30 rfl (by kernel_rfl) ?_)|((with_reducible show wpList _ _ _ (⟨_,.store _ _ _,_,_,_,_⟩::_) _ _);refine wpList_store_row rfl 30 _ _ rfl w.heap.size #[.int .i64 x.k,.string x.s,.int .i64 x.op,.int .i64 x.src.f,.int .i64 x.src.r,.int .i64 x.src.e.k,.int .i64 x.src.e.n,.string x.src.e.s,.slice p.b1 x.src.e.l.length p.c1,.int .i64 x.dst.f,.int .i64 x.dst.r,.int .i64 x.dst.e.k,.int .i64 x.dst.e.n,.string x.dst.e.s,.slice p.b2 x.dst.e.l.length p.c2,.int .i64 x.n,.slice p.b3 x.l.length p.c3] rfl rfl 30 _ (uh R4) szLn rfl (by simp [Value.oneCell']) ?_))
     refine bodyPost_ret (results_row2 (P:=Tryz.prog) rfl _ _ w.heap.size 30 #[.int .i64 x.k,.string x.s,.int .i64 x.op,.int .i64 x.src.f,.int .i64 x.src.r,.int .i64 x.src.e.k,.int .i64 x.src.e.n,.string x.src.e.s,.slice p.b1 x.src.e.l.length p.c1,.int .i64 x.dst.f,.int .i64 x.dst.r,.int .i64 x.dst.e.k,.int .i64 x.dst.e.n,.string x.dst.e.s,.slice p.b2 x.dst.e.l.length p.c2,.int .i64 x.n,.slice p.b3 x.l.length p.c3] (0,0) _ rfl (setRow_heap _ _ _ _ _ _ (uh R4)) Tryz.underlying30 rfl szLn) rfl ?_
     exact uh F _ ((uh B4).grown (grownBy_row _) (uh B4).size (fun k e=>by cases e;exact Nat.le_refl _)) (((uh N4).row _ (Nat.lt_succ_self _)).lower (Nat.le_succ _))
   ·
    have F:=hide (fun w' hb=>uh FN w' (uh OM x k (uh OG) hk hkl) hb)
    have hk2:¬ (k:Int)=(ts.length:Int):=by omega
    clear FN FY OM OE OS OG N3 hkl
    generalize ts.length=n at *
    go_wp2_with (first|((with_reducible show wpList _ _ _ (⟨_,.store _ _ _,_,_,_,_⟩::_) _ _);refine storeM rfl 30 _ _ rfl #[.int .i64 x.k,.string x.s,.int .i64 x.op,.int .i64 x.src.f,.int .i64 x.src.r,.int .i64 x.src.e.k,.int .i64 x.src.e.n,.string x.src.e.s,.slice p.b1 x.src.e.l.length p.c1,.int .i64 x.dst.f,.int .i64 x.dst.r,.int .i64 x.dst.e.k,.int .i64 x.dst.e.n,.string x.dst.e.s,.slice p.b2 x.dst.e.l.length p.c2,.int .i64 x.n,.slice p.b3 x.l.length p.c3] rfl rfl _ szLn rfl (by simp [Value.oneCell']) ?_)|((with_reducible show wpList _ _ _ (⟨_,.store _ _ _,_,_,_,_⟩::_) _ _);refine wpList_store_row rfl 30 _ _ rfl w.heap.size #[.int .i64 0,.string ⟨#[]⟩,.int .i64 0,.int .i64 0,.int .i64 0,.int .i64 0,.int .i64 0,.string ⟨#[]⟩,.slice none 0 0,.int .i64 0,.int .i64 0,.int .i64 0,.int .i64 0,.string ⟨#[]⟩,.slice none 0 0,.int .i64 0,.slice none 0 0] rfl rfl 30 _ (uh R3) szLn rfl (by simp [Value.oneCell']) ?_))
    refine bodyPost_ret (results_row2 (P:=Tryz.prog) rfl _ _ w.heap.size 30 #[.int .i64 0,.string ⟨#[]⟩,.int .i64 0,.int .i64 0,.int .i64 0,.int .i64 0,.int .i64 0,.string ⟨#[]⟩,.slice none 0 0,.int .i64 0,.int .i64 0,.int .i64 0,.int .i64 0,.string ⟨#[]⟩,.slice none 0 0,.int .i64 0,.slice none 0 0] (0,0) _ rfl (setRow_heap _ _ _ _ _ _ (uh R3)) Tryz.underlying30 rfl szLn) rfl ?_
    exact uh F _ ((uh B3).grown (grownBy_row _) (uh B3).size (fun k e=>by cases e;exact Nat.le_refl _))
theorem plS (s:ByteArray) (w:World) (hz:s.size≤1048576):Calls Tryz.prog 14 #[.string s] w (OfR (parseN s) w):=by
 have FN:=hide (fun w' (h:parseN s=none) (hb:Below w.heap.size w w')=>(show OfR (parseN s) w (.returned (.tuple #[.agg #[.int .i64 0,.string ⟨#[]⟩,.int .i64 0,.int .i64 0,.int .i64 0,.int .i64 0,.int .i64 0,.string ⟨#[]⟩,.slice none 0 0,.int .i64 0,.int .i64 0,.int .i64 0,.int .i64 0,.string ⟨#[]⟩,.slice none 0 0,.int .i64 0,.slice none 0 0],.bool false])) w' from ⟨hb,.inl ⟨h,rfl⟩⟩))
 have FY:=hide (fun w' x p (h:parseN s=some x) (hb:Below w.heap.size w w') (hn:NwL w' w.heap.size x p)=>(show OfR (parseN s) w (.returned (.tuple #[.agg (x.cs p),.bool true])) w' from ⟨hb,.inr ⟨x,p,h,rfl,hn⟩⟩))
 have P0:=hide (fun h=>parse_no (s:=s) h)
 have P1:=hide (show (lexR s 0 []).2=true→parseN s=pOf (lexR s 0 []).1 from fun h=>by unfold parseN;rw [if_pos h])
 have B0:=hide (below_new w (.cells #[.int .i64 0,.string ⟨#[]⟩,.int .i64 0,.int .i64 0,.int .i64 0,.int .i64 0,.int .i64 0,.string ⟨#[]⟩,.slice none 0 0,.int .i64 0,.int .i64 0,.int .i64 0,.int .i64 0,.string ⟨#[]⟩,.slice none 0 0,.int .i64 0,.slice none 0 0] 30))
 have R0:=hide (heap_alloc_new w (.cells #[.int .i64 0,.string ⟨#[]⟩,.int .i64 0,.int .i64 0,.int .i64 0,.int .i64 0,.int .i64 0,.string ⟨#[]⟩,.slice none 0 0,.int .i64 0,.int .i64 0,.int .i64 0,.int .i64 0,.string ⟨#[]⟩,.slice none 0 0,.int .i64 0,.slice none 0 0] 30))
 have S0:=hide (show (w.alloc (.cells #[.int .i64 0,.string ⟨#[]⟩,.int .i64 0,.int .i64 0,.int .i64 0,.int .i64 0,.int .i64 0,.string ⟨#[]⟩,.slice none 0 0,.int .i64 0,.int .i64 0,.int .i64 0,.int .i64 0,.string ⟨#[]⟩,.slice none 0 0,.int .i64 0,.slice none 0 0] 30)).heap.size=w.heap.size+1 by simp)
 have X:=hide (lexS_any s (w.alloc (.cells #[.int .i64 0,.string ⟨#[]⟩,.int .i64 0,.int .i64 0,.int .i64 0,.int .i64 0,.int .i64 0,.string ⟨#[]⟩,.slice none 0 0,.int .i64 0,.int .i64 0,.int .i64 0,.int .i64 0,.string ⟨#[]⟩,.slice none 0 0,.int .i64 0,.slice none 0 0] 30)) hz)
 have OK:=hide (lex_ok s)
 have LN:=hide (lex_len s)
 generalize OfR (parseN s) w=R at *
 generalize parseN s=O at *
 generalize (lexR s 0 []).1=ts at *
 generalize (lexR s 0 []).2=b at *
 obtain ⟨w0,hw0⟩:∃ w0,w.alloc (.cells #[.int .i64 0,.string ⟨#[]⟩,.int .i64 0,.int .i64 0,.int .i64 0,.int .i64 0,.int .i64 0,.string ⟨#[]⟩,.slice none 0 0,.int .i64 0,.int .i64 0,.int .i64 0,.int .i64 0,.string ⟨#[]⟩,.slice none 0 0,.int .i64 0,.slice none 0 0] 30)=w0:=⟨_,rfl⟩
 rw [hw0] at B0 R0 S0 X
 go_enter Tryz.func14,Tryz.ntmps14
 go_wp2_with fail
 refine (uh X).mono ?_
 rintro r w1 ⟨v,rfl,ho,hb⟩
 have B1:=hide ((uh B0).trans (hb.mono (uh B0).size))
 have R1:=hide (row_keep (uh R0) hb)
 have S1:=hide (Nat.le_trans (Nat.le_of_eq (uh S0).symm) hb.size)
 clear hb X B0 R0 S0
 cases b with
 | false =>
  have F:=hide (fun w' hb=>uh FN w' (uh P0 rfl) hb)
  clear FN FY P0 P1 ho OK LN
  go_wp2_with ((with_reducible show wpList _ _ _ (⟨_,.store _ _ _,_,_,_,_⟩::_) _ _);refine wpList_store_row rfl 30 _ _ rfl w.heap.size #[.int .i64 0,.string ⟨#[]⟩,.int .i64 0,.int .i64 0,.int .i64 0,.int .i64 0,.int .i64 0,.string ⟨#[]⟩,.slice none 0 0,.int .i64 0,.int .i64 0,.int .i64 0,.int .i64 0,.string ⟨#[]⟩,.slice none 0 0,.int .i64 0,.slice none 0 0] rfl rfl 30 _ (uh R1) szLn rfl (by simp [Value.oneCell']) ?_)
  refine bodyPost_ret (results_row2 (P:=Tryz.prog) rfl _ _ w.heap.size 30 #[.int .i64 0,.string ⟨#[]⟩,.int .i64 0,.int .i64 0,.int .i64 0,.int .i64 0,.int .i64 0,.string ⟨#[]⟩,.slice none 0 0,.int .i64 0,.int .i64 0,.int .i64 0,.int .i64 0,.string ⟨#[]⟩,.slice none 0 0,.int .i64 0,.slice none 0 0] (0,0) _ rfl (setRow_heap _ _ _ _ _ _ (uh R1)) Tryz.underlying30 rfl szLn) rfl ?_
  exact uh F _ ((uh B1).grown (grownBy_row _) (uh B1).size (fun k e=>by cases e;exact Nat.le_refl _))
 | true =>
  obtain ⟨la,cap,rfl,hrd⟩:=ho.rd
  have PE:=hide (uh P1 rfl)
  have Y:=hide (of13S la cap ts w1 (uh OK) (by have:=uh LN;omega) hrd)
  clear P0 P1 ho hrd OK LN
  unfold OfR at Y
  generalize ts.length=n at *
  go_wp2_with fail
  refine (uh Y).mono ?_
  rintro r w2 ⟨hb,hm⟩
  have B2:=hide ((uh B1).trans (hb.mono (uh B1).size))
  have R2:=hide (row_keep (uh R1) hb)
  clear hb B1 R1 Y
  rcases hm with ⟨hn,rfl⟩|⟨x,p,hx,rfl,hn⟩
  ·
   have F:=hide (fun w' hb=>uh FN w' ((uh PE).trans hn) hb)
   clear FN FY PE hn
   go_wp2_with ((with_reducible show wpList _ _ _ (⟨_,.store _ _ _,_,_,_,_⟩::_) _ _);refine wpList_store_row rfl 30 _ _ rfl w.heap.size #[.int .i64 0,.string ⟨#[]⟩,.int .i64 0,.int .i64 0,.int .i64 0,.int .i64 0,.int .i64 0,.string ⟨#[]⟩,.slice none 0 0,.int .i64 0,.int .i64 0,.int .i64 0,.int .i64 0,.string ⟨#[]⟩,.slice none 0 0,.int .i64 0,.slice none 0 0] rfl rfl 30 _ (uh R2) szLn rfl (by simp [Value.oneCell']) ?_)
   refine bodyPost_ret (results_row2 (P:=Tryz.prog) rfl _ _ w.heap.size 30 #[.int .i64 0,.string ⟨#[]⟩,.int .i64 0,.int .i64 0,.int .i64 0,.int .i64 0,.int .i64 0,.string ⟨#[]⟩,.slice none 0 0,.int .i64 0,.int .i64 0,.int .i64 0,.int .i64 0,.string ⟨#[]⟩,.slice none 0 0,.int .i64 0,.slice none 0 0] (0,0) _ rfl (setRow_heap _ _ _ _ _ _ (uh R2)) Tryz.underlying30 rfl szLn) rfl ?_
   exact uh F _ ((uh B2).grown (grownBy_row _) (uh B2).size (fun k e=>by cases e;exact Nat.le_refl _))
  ·
   have F:=hide (fun w' hb hn=>uh FY w' x p ((uh PE).trans hx) hb hn)
   have N2:=hide (hn.lower (uh S1))
   clear FN FY PE hx hn
   have F2:=hide (fun w' hb hn=>uh F w' hb hn)
   clear F
   have CO:=hide (cs_one x p)
   have SO:=hide (szLc x p)
   have SH:=hide (show (#[.int .i64 0,.string ⟨#[]⟩,.int .i64 0,.int .i64 0,.int .i64 0,.int .i64 0,.int .i64 0,.string ⟨#[]⟩,.slice none 0 0,.int .i64 0,.int .i64 0,.int .i64 0,.int .i64 0,.string ⟨#[]⟩,.slice none 0 0,.int .i64 0,.slice none 0 0]:Array Value).size=(x.cs p).size from rfl)
   generalize x.cs p=row at *
   go_wp2_with ((with_reducible show wpList _ _ _ (⟨_,.store _ _ _,_,_,_,_⟩::_) _ _);refine wpList_store_row rfl 30 _ _ rfl w.heap.size row rfl rfl 30 _ (uh R2) (uh SO) (uh SH) (uh CO) ?_)
   refine bodyPost_ret (results_row2 (P:=Tryz.prog) rfl _ _ w.heap.size 30 row (0,0) _ rfl (setRow_heap _ _ _ _ _ _ (uh R2)) Tryz.underlying30 rfl (uh SO)) rfl ?_
   exact uh F2 _ ((uh B2).grown (grownBy_row _) (uh B2).size (fun k e=>by cases e;exact Nat.le_refl _)) (((uh N2).row _ (Nat.lt_succ_self _)).lower (Nat.le_succ _))
def Ex.ct:Ex→Nat
 | ⟨_, _, _, l⟩ => l.length + (l.map Ex.ct).sum
def ctX (l:List Ex):Nat:=l.length+(l.map Ex.ct).sum
theorem ct_is (e:Ex):e.ct=ctX e.l:=by obtain ⟨k,n,s,l⟩:=e;rw [Ex.ct];rfl
theorem ctX_take (l:List Ex) (k:Nat) (h:k<l.length):ctX (l.take (k+1))=ctX (l.take k)+1+(xAt l k).ct:=by
 unfold ctX
 rw [List.take_succ_eq_append_getElem h,List.map_append,List.sum_append,List.length_append,xAt_get h]
 simp
 omega
theorem ctX_le (l:List Ex) (k:Nat):ctX (l.take k)≤ctX l:=by
 induction l generalizing k with
 | nil => simp [ctX]
 | cons a r ih =>
  cases k with
  | zero => simp [ctX]
  | succ k =>
   have:=ih k
   unfold ctX at this ⊢
   simp only [List.take_succ_cons,List.map_cons,List.sum_cons,List.length_cons]
   omega
def posX (l:List Ex) (k i:Nat):Nat:=k+3*ctX (l.take i)
theorem posX_0 (l:List Ex) (k:Nat):posX l k 0=k:=by simp [posX,ctX]
theorem posX_s (l:List Ex) (k i:Nat) (h:i<l.length):posX l k (i+1)=posX l k i+3+3*(xAt l i).ct:=by
 unfold posX
 rw [ctX_take l i h]
 omega
theorem posX_end (l:List Ex) (k:Nat):posX l k l.length=k+3*ctX l:=by unfold posX;rw [List.take_length]
theorem posX_le (l:List Ex) (k i:Nat) (h:i<l.length):posX l k i+3+3*(xAt l i).ct≤k+3*ctX l:=by
 rw [←posX_s l k i h]
 unfold posX
 have:=ctX_le l (i+1)
 omega
def MkX:Ex→Nat→Ex→Prop
 | ⟨_, _, _, l⟩, k, e' => e'.l.length = l.length ∧ ∀ x ∈ l, ∀ i, l[i]? = some x → (xAt e'.l i).k = ((posX l k i : Nat) : Int) ∧ (xAt e'.l i).n = ((posX l k i + 1 : Nat) : Int) ∧ (xAt e'.l i).s = mkTx (posX l k i + 2) ∧ MkX x (posX l k i + 3) (xAt e'.l i)
def MkOne (l:List Ex) (k i:Nat) (y:Ex):Prop:=y.k=((posX l k i:Nat):Int)∧y.n=((posX l k i+1:Nat):Int)∧y.s=mkTx (posX l k i+2)∧MkX (xAt l i) (posX l k i+3) y
theorem MkX_eq (e:Ex) (k:Nat) (e':Ex):MkX e k e'↔(e'.l.length=e.l.length∧∀ i,i<e.l.length→MkOne e.l k i (xAt e'.l i)):=by
 obtain ⟨ek,n,s,l⟩:=e
 rw [MkX]
 refine and_congr Iff.rfl ⟨fun h i hi=>?_,fun h x hx i hi=>?_⟩
 · exact h _ (xAt_mem hi) i (by rw [xAt_get hi];exact List.getElem?_eq_getElem hi)
 ·
  obtain ⟨hl,e⟩:=List.getElem?_eq_some_iff.1 hi
  have:=h i hl
  unfold MkOne at this
  rw [xAt_get hl,e] at this
  exact this
theorem MkX.len {e:Ex} {k:Nat} {y:Ex} (h:MkX e k y):y.l.length=e.l.length:=((MkX_eq e k y).1 h).1
theorem MkX.of {e:Ex} {k:Nat} {y z:Ex} (h:MkX e k y) (hl:z.l=y.l):MkX e k z:=by
 rw [MkX_eq] at h ⊢
 rw [hl]
 exact h
theorem xAt_set_eq {l:List Ex} {i:Nat} (h:i<l.length) (y:Ex):xAt (l.set i y) i=y:=by
 unfold xAt
 rw [List.getD_eq_getElem?_getD,List.getElem?_set_self h]
 rfl
theorem xAt_set_ne {l:List Ex} {i j:Nat} (h:i≠j) (y:Ex):xAt (l.set i y) j=xAt l j:=by
 unfold xAt
 rw [List.getD_eq_getElem?_getD,List.getD_eq_getElem?_getD,List.getElem?_set_ne h]
theorem flat_apart:∀ (Fs:List (List Nat)) (i j x:Nat),Fs.flatten.Nodup→i≠j→x∈Fs.getD i []→x∉Fs.getD j []:=by
 intro Fs
 induction Fs with
 | nil => intro i j x _ _ h; simp at h
 | cons F r ih =>
  intro i j x hn hij hx hy
  rw [List.flatten_cons,List.nodup_append] at hn
  obtain ⟨h1,h2,h3⟩:=hn
  cases i with
  | zero =>
   cases j with
   | zero => exact hij rfl
   | succ j => exact h3 x (by simpa using hx) x (getD_flat (i := j) (by simpa using hy)) rfl
  | succ i =>
   cases j with
   | zero => exact h3 x (by simpa using hy) x (getD_flat (i := i) (by simpa using hx)) rfl
   | succ j => exact ih i j x h2 (by omega) (by simpa using hx) (by simpa using hy)
theorem flat_part:∀ (Fs:List (List Nat)) (i:Nat),Fs.flatten.Nodup→(Fs.getD i []).Nodup:=by
 intro Fs
 induction Fs with
 | nil => intro i _; simp
 | cons F r ih =>
  intro i hn
  rw [List.flatten_cons,List.nodup_append] at hn
  cases i with
  | zero => simpa using hn.1
  | succ i => simpa using ih i hn.2.1
theorem OwOne.turn {wr w5:World} {ys:List Ex} {b:Nat} {cs cs5:Array Value} {Fs:List (List Nat)} {i:Nat} {y:Ex} {c:Option Addr} {cp:Nat}
  (hr:∀ j,j<ys.length→OwOne wr cs j (xAt ys j) (Fs.getD j [])) (hn:(b::Fs.flatten).Nodup) (hi:i<ys.length)
  (hs:∀ j,j≠i*4→j≠i*4+1→j≠i*4+2→cs5[j]?=cs[j]?)
  (d0:cs5[i*4]?=some (.int .i64 y.k)) (d1:cs5[i*4+1]?=some (.int .i64 y.n)) (d2:cs5[i*4+2]?=some (.string y.s)) (d3:cs5[i*4+3]?=some (.slice c y.l.length cp)) (hx:OwX w5 y c (Fs.getD i []))
  (hk:∀ g,g∈Fs.flatten→g∉Fs.getD i []→w5.heap[g]?=wr.heap[g]?):∀ j,j<ys.length→OwOne w5 cs5 j (xAt (ys.set i y) j) (Fs.getD j []):=by
 rw [List.nodup_cons] at hn
 intro j hj
 by_cases hij:i=j
 ·
  subst hij
  rw [xAt_set_eq hi]
  exact ⟨d0,d1,d2,c,cp,d3,hx⟩
 ·
  rw [xAt_set_ne hij]
  obtain ⟨p0,p1,p2,c',cap',p3,p4⟩:=hr j hj
  exact ⟨(hs _ (by omega) (by omega) (by omega)).trans p0,(hs _ (by omega) (by omega) (by omega)).trans p1,(hs _ (by omega) (by omega) (by omega)).trans p2,c',cap',(hs _ (by omega) (by omega) (by omega)).trans p3,OwX.keep _ _ _ (fun g hg=>hk g (getD_flat hg) (flat_apart _ _ _ _ hn.2 (Ne.symm hij) hg)) p4⟩
def MarkP (e:Ex):Prop:=∀ (a:Option Addr) (cap k:Nat) (F:List Nat) (B:Nat) (w:World),OwX w e a F→F.Nodup→(∀ b∈F,B≤b)→B≤w.heap.size→0<k→k+3*e.ct≤8000000→Calls Tryz.prog 89 #[.slice a e.l.length cap,.int .i64 k] w fun r w'=>∃ e':Ex,r = .returned (.int .i64 ((k+3*e.ct:Nat):Int))∧MkX e k e'∧OwX w' e' a F∧Below B w w'∧∀ g,g<w.heap.size→g∉F→w'.heap[g]?=w.heap[g]?
structure Mkg (w wr:World) (l:List Ex) (K b:Nat) (Fs:List (List Nat)) (B i:Nat) (ys:List Ex) (cs:Array Value) (t:TypeId):Prop where
 hyl:ys.length=l.length
 row:wr.heap[b]?=some (.cells cs t (0,0))
 hz:l.length*4≤cs.size
 one:∀ j,j<l.length→OwOne wr cs j (xAt ys j) (Fs.getD j [])
 done:∀ j,j<i→MkOne l K j (xAt ys j)
 rest:∀ j,i≤j→xAt ys j=xAt l j
 bel:Below B w wr
 fr:∀ g,g<w.heap.size→g∉b::Fs.flatten→wr.heap[g]?=w.heap[g]?
theorem OwX.of {w:World} {x z:Ex} {c:Option Addr} {F:List Nat} (h:OwX w x c F) (hl:z.l=x.l):OwX w z c F:=by
 rw [OwX_eq] at h ⊢
 rw [hl]
 exact h
theorem Mkg.step {w wr w3 w5:World} {l ys:List Ex} {K b:Nat} {Fs:List (List Nat)} {B i:Nat} {cs:Array Value} {t:TypeId} {c:Option Addr} {cp:Nat} {x':Ex}
  (h:Mkg w wr l K b Fs B i ys cs t) (hi:i<l.length) (hF:Fs.length=l.length) (hn:(b::Fs.flatten).Nodup) (hB:∀ g∈b::Fs.flatten,B≤g)
  (q3:cs[i*4+3]?=some (.slice c (xAt l i).l.length cp))
  (hb3:Below ((wr.setCell ⟨b,i*4,none⟩ (.int .i64 ((posX l K i:Nat):Int))).setCell ⟨b,i*4+1,none⟩ (.int .i64 ((posX l K i+1:Nat):Int))).heap.size ((wr.setCell ⟨b,i*4,none⟩ (.int .i64 ((posX l K i:Nat):Int))).setCell ⟨b,i*4+1,none⟩ (.int .i64 ((posX l K i+1:Nat):Int))) w3)
  (hmk:MkX (xAt l i) (posX l K i+3) x') (hox:OwX w5 x' c (Fs.getD i []))
  (hb5:Below B (w3.setCell ⟨b,i*4+2,none⟩ (.string (mkTx (posX l K i+2)))) w5)
  (hf5:∀ g,g<(w3.setCell ⟨b,i*4+2,none⟩ (.string (mkTx (posX l K i+2)))).heap.size→g∉Fs.getD i []→w5.heap[g]?=(w3.setCell ⟨b,i*4+2,none⟩ (.string (mkTx (posX l K i+2)))).heap[g]?) :
  ∃ ys' cs',Mkg w w5 l K b Fs B (i+1) ys' cs' t:=by
 have hn':=List.nodup_cons.1 hn
 have hbl:b<wr.heap.size:=(Array.getElem?_eq_some_iff.1 h.row).1
 have r1:=heap_setCell_same wr b (i*4) cs t (.int .i64 ((posX l K i:Nat):Int)) h.row
 have r2:=heap_setCell_same _ b (i*4+1) _ t (.int .i64 ((posX l K i+1:Nat):Int)) r1
 have hsz2:((wr.setCell ⟨b,i*4,none⟩ (.int .i64 ((posX l K i:Nat):Int))).setCell ⟨b,i*4+1,none⟩ (.int .i64 ((posX l K i+1:Nat):Int))).heap.size=wr.heap.size:=by simp
 have hoth2:∀ g,g≠b→((wr.setCell ⟨b,i*4,none⟩ (.int .i64 ((posX l K i:Nat):Int))).setCell ⟨b,i*4+1,none⟩ (.int .i64 ((posX l K i+1:Nat):Int))).heap[g]?=wr.heap[g]?:=fun g hg=>by
  rw [heap_setCell_other _ _ _ _ hg,heap_setCell_other _ _ _ _ hg]
 have hbel2:Below B wr ((wr.setCell ⟨b,i*4,none⟩ (.int .i64 ((posX l K i:Nat):Int))).setCell ⟨b,i*4+1,none⟩ (.int .i64 ((posX l K i+1:Nat):Int))):=((Below.refl B wr).setCell (p:=⟨b,_,none⟩) (hB b List.mem_cons_self) _).setCell (p:=⟨b,_,none⟩) (hB b List.mem_cons_self) _
 generalize (wr.setCell ⟨b,i*4,none⟩ (.int .i64 ((posX l K i:Nat):Int))).setCell ⟨b,i*4+1,none⟩ (.int .i64 ((posX l K i+1:Nat):Int))=W2 at *
 rw [hsz2] at hb3
 have r3:=(hb3.block b hbl).trans r2
 have r4:=heap_setCell_same w3 b (i*4+2) _ t (.string (mkTx (posX l K i+2))) r3
 have hsz3:wr.heap.size≤w3.heap.size:=hsz2▸hb3.size
 have hsz4:(w3.setCell ⟨b,i*4+2,none⟩ (.string (mkTx (posX l K i+2)))).heap.size=w3.heap.size:=by simp
 have hoth4:∀ g,g<wr.heap.size→g≠b→(w3.setCell ⟨b,i*4+2,none⟩ (.string (mkTx (posX l K i+2)))).heap[g]?=wr.heap[g]?:=fun g hgl hg=>by
  rw [heap_setCell_other _ _ _ _ hg,hb3.block g hgl,hoth2 g hg]
 have hbB:B≤b:=hB b List.mem_cons_self
 have hbel4:Below B wr (w3.setCell ⟨b,i*4+2,none⟩ (.string (mkTx (posX l K i+2)))):=(hbel2.trans (hb3.mono (by omega))).setCell (p:=⟨b,_,none⟩) hbB _
 rw [hsz4] at hf5
 have hbi:b∉Fs.getD i []:=fun hb=>hn'.1 (getD_flat hb)
 have r5:=(hf5 b (by omega) hbi).trans r4
 have hlt:∀ g∈Fs.flatten,g<wr.heap.size:=fun g hg=>by
  obtain ⟨G,hG,hx⟩:=List.mem_flatten.1 hg
  obtain ⟨j,hj,rfl⟩:=List.getElem_of_mem hG
  obtain ⟨_,_,_,c',cp',_,ho⟩:=h.one j (hF▸hj)
  rw [List.getD_eq_getElem?_getD,List.getElem?_eq_getElem hj] at ho
  exact OwX.lt _ _ _ ho _ hx
 have hk5:∀ g,g<wr.heap.size→g≠b→g∉Fs.getD i []→w5.heap[g]?=wr.heap[g]?:=fun g hgl hg hgi=>(hf5 g (by omega) hgi).trans (hoth4 g hgl hg)
 have hz:=h.hz
 have T:=OwOne.turn (wr:=wr) (w5:=w5) (ys:=ys) (b:=b) (cs:=cs) (cs5:=((cs.setIfInBounds (i*4) (.int .i64 ((posX l K i:Nat):Int))).setIfInBounds (i*4+1) (.int .i64 ((posX l K i+1:Nat):Int))).setIfInBounds (i*4+2) (.string (mkTx (posX l K i+2)))) (Fs:=Fs) (i:=i) (y:=⟨((posX l K i:Nat):Int),((posX l K i+1:Nat):Int),mkTx (posX l K i+2),x'.l⟩) (c:=c) (cp:=cp)
  (fun j hj=>h.one j (h.hyl▸hj)) hn (by rw [h.hyl];exact hi)
  (fun j h0 h1 h2=>by rw [Array.getElem?_setIfInBounds_ne (by omega),Array.getElem?_setIfInBounds_ne (by omega),Array.getElem?_setIfInBounds_ne (by omega)])
  (by rw [Array.getElem?_setIfInBounds_ne (by omega),Array.getElem?_setIfInBounds_ne (by omega),Array.getElem?_setIfInBounds_self_of_lt (by omega)])
  (by rw [Array.getElem?_setIfInBounds_ne (by omega),Array.getElem?_setIfInBounds_self_of_lt (by simp;omega)])
  (by rw [Array.getElem?_setIfInBounds_self_of_lt (by simp;omega)])
  (by rw [Array.getElem?_setIfInBounds_ne (by omega),Array.getElem?_setIfInBounds_ne (by omega),Array.getElem?_setIfInBounds_ne (by omega),show (Ex.mk ((posX l K i:Nat):Int) ((posX l K i+1:Nat):Int) (mkTx (posX l K i+2)) x'.l).l.length=x'.l.length from rfl,hmk.len];exact q3)
  (hox.of rfl) (fun g hg hgi=>hk5 g (hlt g hg) (fun e=>hn'.1 (e▸hg)) hgi)
 rw [h.hyl] at T
 refine ⟨ys.set i ⟨((posX l K i:Nat):Int),((posX l K i+1:Nat):Int),mkTx (posX l K i+2),x'.l⟩,_,?_,r5,?_,T,fun j hj=>?_,fun j hj=>?_,h.bel.trans (hbel4.trans hb5),fun g hgl hg=>?_⟩
 · rw [List.length_set];exact h.hyl
 · simpa using hz
 ·
  by_cases hij:i=j
  ·
   subst hij
   rw [xAt_set_eq (by rw [h.hyl];exact hi)]
   exact ⟨rfl,rfl,rfl,hmk.of rfl⟩
  ·
   rw [xAt_set_ne hij]
   exact h.done j (by omega)
 ·
  rw [xAt_set_ne (by omega)]
  exact h.rest j (by omega)
 ·
  have h1:g≠b:=fun e=>hg (e▸List.mem_cons_self)
  have h2:g∉Fs.getD i []:=fun e=>hg (List.mem_cons_of_mem _ (getD_flat e))
  exact (hk5 g (Nat.lt_of_lt_of_le hgl h.bel.size) h1 h2).trans (h.fr g hgl hg)
theorem markXS_of (e:Ex) (ih:∀ i,i<e.l.length→MarkP (xAt e.l i)):MarkP e:=by
 intro a cap K F B w ho hnd hF hBw hK hbd
 have hct:=ct_is e
 rw [OwX_eq] at ho
 generalize hl:e.l=l at *
 rw [hct] at hbd ⊢
 have FIN:=hide (fun (y:Ex)=>MkX_eq e K y)
 rw [hl] at FIN
 rcases ho with ⟨rfl,rfl⟩|⟨b,cs,t,Fs,rfl,hh,hz,hFl,rfl,hone⟩
 ·
  have HE:=hide (show MkX e K e from (uh FIN e).2 ⟨by rw [hl],fun i hi=>by cases hi⟩)
  have HO:=hide (show OwX w e a [] from (OwX_eq _ _ _ _).2 (.inl ⟨hl,rfl⟩))
  clear ih hct hl FIN
  go_enter Tryz.func89,Tryz.ntmps89
  go_wp2
  go_loopw [1,5] (fun kv i wr=>i = .int .i64 0∧kv = .int .i64 K∧wr=w) (fun _ i _=>0)
  case atStart=>exact ⟨rfl,rfl,rfl⟩
  case round =>
   obtain ⟨rfl,rfl,rfl⟩:=hrel
   go_wp2
   go_ret
   exact ⟨e,by simp [ctX],uh HE,uh HO,Below.refl _ _,fun g _ _=>rfl⟩
 ·
  have M0:=hide (show Mkg w w l K b Fs B 0 l cs t from ⟨rfl,hh,hz,hone,fun j hj=>by omega,fun j _=>rfl,Below.refl _ _,fun g _ _=>rfl⟩)
  have FN:=hide (fun (wr:World) (ys:List Ex) (cs':Array Value) (t':TypeId) (h:Mkg w wr l K b Fs B l.length ys cs' t')=>(show MkX e K ⟨0,0,⟨#[]⟩,ys⟩∧OwX wr ⟨0,0,⟨#[]⟩,ys⟩ (some ⟨b,0,none⟩) (b::Fs.flatten) from
   ⟨(uh FIN _).2 ⟨h.hyl,fun i hi=>h.done i hi⟩,(OwX_eq _ _ _ _).2 (.inr ⟨b,cs',t',Fs,rfl,h.row,by show ys.length*4≤_;rw [h.hyl];exact h.hz,by show Fs.length=ys.length;rw [h.hyl];exact hFl,rfl,fun i hi=>h.one i (by have:i<ys.length:=hi;rwa [h.hyl] at this)⟩)⟩))
  have hcl:l.length≤ctX l:=by unfold ctX;omega
  obtain ⟨n,hn⟩:∃ n,l.length=n:=⟨_,rfl⟩
  have hnl:n≤8000000:=by omega
  have PE:=hide (posX_end l K)
  have P0:=hide (posX_0 l K)
  clear hone hh hz FIN hct hl hcl
  rw [hn] at ih PE FN ⊢
  rw [←uh PE]
  go_enter Tryz.func89,Tryz.ntmps89
  go_wp2
  go_loopw [1,5] (fun kv i wr=>∃ k:Nat,k≤n∧i = .int .i64 k∧kv = .int .i64 ((posX l K k:Nat):Int)∧∃ ys cs t,Mkg w wr l K b Fs B k ys cs t) (fun _ i _=>n-(intOf i).toNat)
  case atStart=>exact ⟨0,Nat.zero_le _,rfl,by rw [uh P0],_,_,_,uh M0⟩
  case round =>
   clear M0
   obtain ⟨k,hk,rfl,rfl,ys,cs,t,hM⟩:=hrel
   by_cases hlt:k<n
   ·
    obtain ⟨q0,q1,q2,c,cp,q3,q4⟩:=hM.one k (by omega)
    rw [hM.rest k (Nat.le_refl _)] at q0 q1 q2 q3 q4
    have hh:=hM.row
    have hz:=hM.hz
    have c0:=(Lib.cell_of_heap hh (k*4)).trans q0
    have c1:=(Lib.cell_of_heap hh (k*4+1)).trans q1
    have f0:=Lib.frozen_of_heap hh (k*4)
    have f1:=Lib.frozen_of_heap hh (k*4+1)
    have hbl:b<wr.heap.size:=(Array.getElem?_eq_some_iff.1 hh).1
    have hPl:=posX_le l K k (by omega)
    have hPs:=posX_s l K k (by omega)
    have r1:=heap_setCell_same wr b (k*4) cs t (.int .i64 ((posX l K k:Nat):Int)) hh
    have r2:=heap_setCell_same _ b (k*4+1) _ t (.int .i64 ((posX l K k+1:Nat):Int)) r1
    have C2:=hide (show ((wr.setCell ⟨b,k*4,none⟩ (.int .i64 ((posX l K k:Nat):Int))).setCell ⟨b,k*4+1,none⟩ (.int .i64 ((posX l K k+1:Nat):Int))).cell? ⟨b,k*4+2,none⟩=some (.string (xAt l k).s) by
     rw [Lib.cell_of_heap r2,Array.getElem?_setIfInBounds_ne (by omega),Array.getElem?_setIfInBounds_ne (by omega)];exact q2)
    have C3:=hide (show ((wr.setCell ⟨b,k*4,none⟩ (.int .i64 ((posX l K k:Nat):Int))).setCell ⟨b,k*4+1,none⟩ (.int .i64 ((posX l K k+1:Nat):Int))).cell? ⟨b,k*4+3,none⟩=some (.slice c (xAt l k).l.length cp) by
     rw [Lib.cell_of_heap r2,Array.getElem?_setIfInBounds_ne (by omega),Array.getElem?_setIfInBounds_ne (by omega)];exact q3)
    have F2:=hide (Lib.frozen_of_heap r2 (k*4+2))
    have GL:=hide (show b<((wr.setCell ⟨b,k*4,none⟩ (.int .i64 ((posX l K k:Nat):Int))).setCell ⟨b,k*4+1,none⟩ (.int .i64 ((posX l K k+1:Nat):Int))).heap.size by simpa using hbl)
    have ST:=hide (fun w3 w5 x' hb3 hmk hox hb5 hf5=>Mkg.step (w3:=w3) (w5:=w5) (x':=x') hM (by omega) hFl hnd hF q3 hb3 hmk hox hb5 hf5)
    have MX:=hide (fun W=>markTx_any (posX l K k+2) (by omega) (by omega) W)
    have hn':=List.nodup_cons.1 hnd
    have OC:=hide (fun w3 (hb3:Below ((wr.setCell ⟨b,k*4,none⟩ (.int .i64 ((posX l K k:Nat):Int))).setCell ⟨b,k*4+1,none⟩ (.int .i64 ((posX l K k+1:Nat):Int))).heap.size ((wr.setCell ⟨b,k*4,none⟩ (.int .i64 ((posX l K k:Nat):Int))).setCell ⟨b,k*4+1,none⟩ (.int .i64 ((posX l K k+1:Nat):Int))) w3) (v:Value) =>
     ih k hlt c cp (posX l K k+3) (Fs.getD k []) B (w3.setCell ⟨b,k*4+2,none⟩ v)
      (OwX.keep _ _ _ (fun g hg=>by
       have hne:g≠b:=fun e=>hn'.1 (e▸getD_flat hg)
       have hgl:=OwX.lt _ _ _ q4 g hg
       rw [heap_setCell_other _ _ _ _ hne,hb3.block g (by simpa using hgl),heap_setCell_other _ _ _ _ hne,heap_setCell_other _ _ _ _ hne]) q4)
      (flat_part _ _ hn'.2) (fun g hg=>hF g (List.mem_cons_of_mem _ (getD_flat hg))) (by have h1:=hb3.size;have h2:=hM.bel.size;simp at h1 ⊢;omega) (by omega) (by omega))
    have EN:((posX l K k:Nat):Int)+1=((posX l K k+1:Nat):Int):=by omega
    have EM:((posX l K k+1:Nat):Int)+1=((posX l K k+2:Nat):Int):=by omega
    have EP:((posX l K k+2:Nat):Int)+1=((posX l K k+3:Nat):Int):=by omega
    have EQ:=hide (show ((posX l K k+3+3*(xAt l k).ct:Nat):Int)=((posX l K (k+1):Nat):Int) by rw [hPs])
    have bA:0≤((posX l K k:Nat):Int)∧((posX l K k:Nat):Int)≤8000000:=by omega
    have bA2:0≤((posX l K k+1:Nat):Int)∧((posX l K k+1:Nat):Int)≤8000001:=by omega
    have bA3:0≤((posX l K k+2:Nat):Int)∧((posX l K k+2:Nat):Int)≤8000002:=by omega
    clear r1 r2 q0 q1 q2 q3 q4 hM hh hz hPl hPs hn' ih FN
    generalize (xAt l k).ct=ctk at *
    generalize hA:((posX l K k:Nat):Int)=A at *
    generalize hB2:((posX l K k+1:Nat):Int)=A2 at *
    generalize hC:((posX l K k+2:Nat):Int)=A3 at *
    generalize hD:((posX l K k+3:Nat):Int)=A4 at *
    generalize mkTx (posX l K k+2)=X at *
    generalize (xAt l k).s=xs at *
    go_wp2_with fail
    generalize (wr.setCell ⟨b,k*4,none⟩ (.int .i64 A)).setCell ⟨b,k*4+1,none⟩ (.int .i64 A2)=W2 at *
    refine (uh MX _).mono ?_
    rintro e w3 ⟨rfl,hb3⟩
    have d2:=(hb3.cell (p:=⟨b,k*4+2,none⟩) (uh GL)).trans (uh C2)
    have d3:=(hb3.cell (p:=⟨b,k*4+3,none⟩) (uh GL)).trans (uh C3)
    have e2:=(hb3.frozen (p:=⟨b,k*4+2,none⟩) (uh GL)).trans (uh F2)
    have OD:=hide (uh OC w3 hb3 (.string X))
    have HB3:=hide hb3
    clear OC C2 C3 F2 GL MX c0 c1 f0 f1 hb3
    go_wp2_with fail
    refine (uh OD).mono ?_
    rintro e w5 ⟨x',rfl,hmk,hox,hb5,hf5⟩
    have SS:=hide (uh ST w3 w5 x' (uh HB3) hmk hox hb5 hf5)
    clear hmk hox hb5 hf5 OD ST d2 d3 e2
    go_wp2
    go_roundw
    case rel =>
     obtain ⟨ys',cs',hM'⟩:=uh SS
     exact ⟨k+1,by omega,by go_num,by rw [←uh EQ];congr 1;omega,ys',cs',_,hM'⟩
    case measure=>simp [intOf];omega
   ·
    obtain rfl:k=n:=by omega
    have HM:=hide hM
    have FF:=hide (uh FN _ _ _ _ hM)
    clear hM
    go_wp2
    go_ret
    exact ⟨_,rfl,(uh FF).1,(uh FF).2,(uh HM).bel,(uh HM).fr⟩
theorem markXS_any (e:Ex):MarkP e:=by
 induction e using Ex.ind with
 | h k n s l ih => exact markXS_of _ (fun i hi => ih _ (xAt_mem hi))
def HeldP (e:Ex):Prop:=∀ (a:Option Addr) (cap K:Nat) (y:Ex) (w:World),MkX e K y→RdX w 0 y a→0<K→K+3*e.ct≤8000000→Calls Tryz.prog 91 #[.slice a e.l.length cap,.int .i64 K] w fun r w'=>r = .returned (.int .i64 ((K+3*e.ct:Nat):Int))∧Below w.heap.size w w'
theorem heldXS_of (e:Ex) (ih:∀ i,i<e.l.length→HeldP (xAt e.l i)):HeldP e:=by
 intro a cap K y w hy hr hK hbd
 have hct:=ct_is e
 rw [MkX_eq] at hy
 rw [RdX_eq] at hr
 generalize e.l=l at *
 rw [hct] at hbd ⊢
 obtain ⟨hyl,hy⟩:=hy
 generalize y.l=ys at *
 have hcl:l.length≤ctX l:=by unfold ctX;omega
 obtain ⟨n,hn⟩:∃ n,l.length=n:=⟨_,rfl⟩
 have hnl:n≤8000000:=by omega
 have PE:=hide (posX_end l K)
 have P0:=hide (posX_0 l K)
 clear hct hcl
 rw [hn] at ih PE hy hyl ⊢
 rw [←uh PE]
 go_enter Tryz.func91,Tryz.ntmps91
 go_wp2
 go_loopw [1,5] (fun kv i wr=>∃ (k:Nat) (x:Sub w.heap.size w),k≤n∧i = .int .i64 k∧kv = .int .i64 ((posX l K k:Nat):Int)∧wr=x.w) (fun _ i _=>n-(intOf i).toNat)
 case atStart=>exact ⟨0,⟨w,Below.refl _ _⟩,Nat.zero_le _,rfl,by rw [uh P0],rfl⟩
 case round =>
  obtain ⟨k,x,hk,rfl,rfl,rfl⟩:=hrel
  by_cases hlt:k<n
  ·
   rcases hr with h0|⟨p,po,rfl,_,hp,hpc⟩
   · rw [h0] at hyl;simp at hyl;omega
   obtain ⟨e0,e1,e2,c,cp,e3,e4⟩:=hpc k (by omega)
   obtain ⟨m0,m1,m2,m3⟩:=hy k hlt
   rw [m0] at e0
   rw [m1] at e1
   rw [m2] at e2
   rw [m3.len] at e3
   have d0:∀ z:Sub w.heap.size w,z.w.cell? ⟨p,po+k*4,none⟩=_:=fun z=>(z.h.cell (p:=⟨p,_,none⟩) hp).trans e0
   have d1:∀ z:Sub w.heap.size w,z.w.cell? ⟨p,po+k*4+1,none⟩=_:=fun z=>(z.h.cell (p:=⟨p,_,none⟩) hp).trans e1
   have d2:∀ z:Sub w.heap.size w,z.w.cell? ⟨p,po+k*4+2,none⟩=_:=fun z=>(z.h.cell (p:=⟨p,_,none⟩) hp).trans e2
   have d3:∀ z:Sub w.heap.size w,z.w.cell? ⟨p,po+k*4+3,none⟩=_:=fun z=>(z.h.cell (p:=⟨p,_,none⟩) hp).trans e3
   have hPl:=posX_le l K k (by omega)
   have hPs:=posX_s l K k (by omega)
   have MX:=hide (fun W=>markTx_any (posX l K k+2) (by omega) (by omega) W)
   have HC:=hide (fun z:Sub w.heap.size w=>ih k hlt c cp (posX l K k+3) (xAt ys k) z.w m3 (e4.later z.h) (by omega) (by omega))
   have ne:=Sub.ne w.heap.size w
   have HZ:=hide (Nat.le_refl w.heap.size)
   have EN:((posX l K k:Nat):Int)+1=((posX l K k+1:Nat):Int):=by omega
   have EM:((posX l K k+1:Nat):Int)+1=((posX l K k+2:Nat):Int):=by omega
   have EP:((posX l K k+2:Nat):Int)+1=((posX l K k+3:Nat):Int):=by omega
   have EQ:=hide (show ((posX l K k+3+3*(xAt l k).ct:Nat):Int)=((posX l K (k+1):Nat):Int) by rw [hPs])
   have bA:0≤((posX l K k:Nat):Int)∧((posX l K k:Nat):Int)≤8000000:=by omega
   have bA2:0≤((posX l K k+1:Nat):Int)∧((posX l K k+1:Nat):Int)≤8000001:=by omega
   have bA3:0≤((posX l K k+2:Nat):Int)∧((posX l K k+2:Nat):Int)≤8000002:=by omega
   have bA5:0≤((posX l K k+3+3*(xAt l k).ct:Nat):Int):=by omega
   clear e0 e1 e2 e3 e4 m0 m1 m2 m3 hpc hy hPl hPs ih
   generalize (xAt l k).l.length=ll at *
   generalize hE:((posX l K k+3+3*(xAt l k).ct:Nat):Int)=A5 at *
   generalize hA:((posX l K k:Nat):Int)=A at *
   generalize hB2:((posX l K k+1:Nat):Int)=A2 at *
   generalize hC:((posX l K k+2:Nat):Int)=A3 at *
   generalize hD:((posX l K k+3:Nat):Int)=A4 at *
   generalize mkTx (posX l K k+2)=X at *
   go_wp2_with fail
   refine wp_region_sub x (by kernel_rfl) (by kernel_rfl) ?_
   repeat (go_big_quiet_step (first|(go_at_call 92;exact Sub.call (uh HZ) (uh MX _))))
   refine wpQuiet_nil ?_
   intro z
   go_wp2_with fail
   refine (Sub.call (uh HZ) (uh HC _)).mono ?_
   rintro e _ ⟨rfl,z2,rfl⟩
   go_wp2
   go_roundw
   case rel=>exact ⟨k+1,z2,by omega,by go_num,congrArg (Value.int .i64) (uh EQ),rfl⟩
   case measure=>simp [intOf];omega
  ·
   obtain rfl:k=n:=by omega
   go_wp2
   go_ret
   exact ⟨rfl,x.h⟩
theorem heldXS_any (e:Ex):HeldP e:=by
 induction e using Ex.ind with
 | h k n s l ih => exact heldXS_of _ (fun i hi => ih _ (xAt_mem hi))
def Ln.ct (x:Ln):Nat:=1+3*x.src.e.ct+3*x.dst.e.ct+3*(Ex.mk 0 0 E0 x.l).ct
theorem apart3 {F1 F2 F3:List Nat} (h:(F1++(F2++F3)).Nodup):F1.Nodup∧F2.Nodup∧F3.Nodup∧(∀ b∈F2,b∉F1)∧(∀ b∈F3,b∉F1)∧(∀ b∈F1,b∉F2)∧(∀ b∈F3,b∉F2)∧(∀ b∈F1,b∉F3)∧∀ b∈F2,b∉F3:=by
 obtain ⟨h1,h23,h4⟩:=List.nodup_append.1 h
 obtain ⟨h2,h3,h5⟩:=List.nodup_append.1 h23
 exact ⟨h1,h2,h3,fun b hb hc=>h4 b hc b (by simp [hb]) rfl,fun b hb hc=>h4 b hc b (by simp [hb]) rfl,fun b hb hc=>h4 b hb b (by simp [hc]) rfl,fun b hb hc=>h5 b hc b hb rfl,fun b hb hc=>h4 b hb b (by simp [hc]) rfl,fun b hb hc=>h5 b hb b hc rfl⟩
def pnX (s:ByteArray):Ln:=(parseN s).getD ln0
def pnB (s:ByteArray):Bool:=(parseN s).isSome
theorem pnX_none {s:ByteArray} (h:parseN s=none):pnX s=ln0∧pnB s=false:=by unfold pnX pnB;rw [h];exact ⟨rfl,rfl⟩
theorem pnX_some {s:ByteArray} {x:Ln} (h:parseN s=some x):pnX s=x∧pnB s=true:=by unfold pnX pnB;rw [h];exact ⟨rfl,rfl⟩
theorem PnL.all {s:ByteArray} {w:World} {r:Ending} {w':World} (h:PnL s w r w'):∃ p:La,r = .returned (.tuple #[.agg ((pnX s).cs p),.bool (pnB s)])∧NdL w' w.heap.size (pnX s) p∧Below w.heap.size w w':=by
 obtain ⟨hb,⟨hn,rfl⟩|⟨x,p,hx,rfl,hn⟩⟩:=h
 ·
  obtain ⟨e1,e2⟩:=pnX_none hn
  rw [e1,e2]
  exact ⟨⟨none,0,none,0,none,0⟩,rfl,NdL.none _ _ _ _ _ _ _,hb⟩
 ·
  obtain ⟨e1,e2⟩:=pnX_some hx
  rw [e1,e2]
  exact ⟨p,rfl,hn,hb⟩
structure SmL (x:Ln) (n:Nat):Prop where
 s:x.s.size≤7
 a:x.src.e.sz≤504
 b:x.dst.e.sz≤504
 n:x.l.length≤n
 o:x.l.all (okF 6 true)=true
theorem SmL.more {x:Ln} {n m:Nat} (h:SmL x n) (hm:n≤m):SmL x m:={ h with n:=Nat.le_trans h.n hm }
theorem a0_504:a0.e.sz≤504:=by
 show (Ex.mk 0 0 ⟨#[]⟩ []).sz≤504
 rw [sz_leaf]
 decide
theorem tms_sm {k:Int} {ts q:List Tk} {x:Ln} (h:AllOk ts) (hl:ts.length≤1048576) (hp:pTms k ts=some (x,q)):SmL x ts.length:=by
 unfold pTms at hp
 split at hp
 · cases hp
 ·
  rename_i l q hl'
  obtain ⟨_,ho,e⟩:=pLst_some _ _ _ _ h hl'
  cases hp
  have:=lst_len l ho
  have:(cmT l).length≤ts.length:=by rw [e];simp
  exact ⟨by show (0:Nat)≤_;omega,a0_504,a0_504,by show l.length≤_;omega,ho⟩
theorem ln_sm {ts q:List Tk} {x:Ln} (h:AllOk ts) (hl:ts.length≤1048576) (hp:pLn ts=some (x,q)):SmL x ts.length:=by
 have e0:(ByteArray.mk #[]).size≤7:=by decide
 have n0:([]:List Ex).all (okF 6 true)=true:=rfl
 cases ts with
 | nil => cases hp
 | cons t r =>
  obtain ⟨ht,hr⟩:=h.head
  have hts:=ok_size ht
  have hl2:r.length≤1048576:=by simp at hl;omega
  rw [pLn_eq] at hp
  split at hp
  ·
   split at hp
   ·
    unfold pIns at hp
    split at hp
    ·
     split at hp
     · cases hp
     ·
      rename_i a q1 ha
      obtain ⟨oa,ea⟩:=pArg_some hr ha
      split at hp
      ·
       split at hp
       · cases hp
       ·
        rename_i b q2 hb
        obtain ⟨ob,_⟩:=pArg_some (ok_rest hr ea).tail hb
        cases hp
        have:=ag_small oa
        have:=ag_small ob
        exact ⟨e0,by show a.e.sz≤_;omega,by show b.e.sz≤_;omega,by simp,n0⟩
      · cases hp
    split at hp
    ·
     split at hp
     · cases hp
     ·
      rename_i b q1 hb
      have:=ag_small (pArg_some hr hb).1
      cases hp
      exact ⟨e0,a0_504,by show b.e.sz≤_;omega,by simp,n0⟩
    split at hp
    ·
     split at hp
     · cases hp
     ·
      rename_i t1 q1
      split at hp
      ·
       split at hp
       · cases hp
       ·
        rename_i b q2 hb
        have:=ag_small (pArg_some hr.head.2.tail hb).1
        cases hp
        exact ⟨e0,a0_504,by show b.e.sz≤_;omega,by simp,n0⟩
      · cases hp
    split at hp
    ·
     split at hp
     · cases hp
     ·
      cases hp
      exact ⟨e0,a0_504,a0_504,by simp,n0⟩
    split at hp
    ·
     cases hp
     exact ⟨e0,a0_504,a0_504,by simp,n0⟩
    ·
     split at hp
     · cases hp
     ·
      rename_i e q1 he
      obtain ⟨ok,_⟩:=toks_read 6 _ _ _ hr he
      cases hp
      exact ⟨e0,a0_504,a0_504,by simp,by simp [ok]⟩
   · cases hp
  split at hp
  ·
   unfold pDot at hp
   split at hp
   · exact (tms_sm hr hl2 hp).more (by simp)
   split at hp
   · exact (tms_sm hr hl2 hp).more (by simp)
   split at hp
   · exact (tms_sm hr hl2 hp).more (by simp)
   split at hp
   ·
    cases hp
    exact ⟨e0,a0_504,a0_504,by simp,n0⟩
   split at hp
   ·
    split at hp
    · cases hp
    ·
     rename_i t1 q1
     have h1:=ok_size hr.head.1
     split at hp
     ·
      split at hp
      · cases hp
      ·
       split at hp
       ·
        cases hp
        exact ⟨by show t1.s.size≤_;omega,a0_504,a0_504,by simp,n0⟩
       · cases hp
     ·
      cases hp
      exact ⟨by show t1.s.size≤_;omega,a0_504,a0_504,by simp,n0⟩
   · cases hp
  split at hp
  ·
   split at hp
   ·
    injection hp with hp
    injection hp with hp1 _
    subst hp1
    exact ⟨by show t.s.size≤_;omega,a0_504,a0_504,by simp,n0⟩
   split at hp
   ·
    split at hp
    · cases hp
    ·
     rename_i e q1 he
     obtain ⟨ok,_⟩:=toks_read 6 _ _ _ hr.tail he
     cases hp
     exact ⟨by show t.s.size≤_;omega,a0_504,a0_504,by simp,by simp [ok]⟩
   · cases hp
  · cases hp
theorem ct_szB (e:Ex):e.ct≤e.sz:=by
 induction e using Ex.ind with
 | h k n s l ih =>
  rw [Ex.ct,Ex.sz_eq]
  show l.length+(l.map Ex.ct).sum≤s.size+l.length+(l.map Ex.sz).sum
  have:(l.map Ex.ct).sum≤(l.map Ex.sz).sum:=by
   clear k n s
   induction l with
   | nil => simp
   | cons x r ihr =>
    have h1:=ih x List.mem_cons_self
    have h2:=ihr (fun y hy=>ih y (List.mem_cons_of_mem _ hy))
    simp only [List.map_cons,List.sum_cons]
    omega
  omega
theorem sum_small:∀ (l:List Ex),l.all (okF 6 true)=true→szX l≤504*l.length:=by
 intro l
 induction l with
 | nil => intro _; exact Nat.le_refl 0
 | cons e l ih =>
  intro h
  obtain ⟨h1,h2⟩:=Bool.and_eq_true_iff.1 (show (okF 6 true e&&l.all (okF 6 true))=true from h)
  have:=plain_small h1
  have:=ih h2
  show e.sz+szX l≤504*(l.length+1)
  omega
theorem SmL.sz {x:Ln} (h:SmL x 800):SzL x∧(Ex.mk 0 0 E0 x.l).sz≤1048576∧x.ct≤8000000:=by
 obtain ⟨h1,h2,h3,h4,h5⟩:=h
 have hs:=sum_small x.l h5
 have hl:(Ex.mk 0 0 E0 x.l).sz≤404000:=by
  have h2:=sz_is ⟨0,0,E0,x.l⟩
  have h3:(Ex.mk 0 0 E0 x.l).l=x.l:=rfl
  have h4:(Ex.mk 0 0 E0 x.l).s.size=0:=rfl
  rw [h3,h4] at h2
  omega
 refine ⟨⟨by omega,by omega,by omega,by omega,fun i hi=>?_⟩,by omega,?_⟩
 ·
  have:=plain_small (List.all_eq_true.1 h5 _ (xAt_mem hi))
  omega
 ·
  have c1:=ct_szB x.src.e
  have c2:=ct_szB x.dst.e
  have c3:=ct_szB (Ex.mk 0 0 E0 x.l)
  unfold Ln.ct
  omega
theorem pnX_small (s:ByteArray):SzL (pnX s)∧(Ex.mk 0 0 E0 (pnX s).l).sz≤1048576∧(pnX s).ct≤8000000:=by
 have z:SmL ln0 800:=⟨by decide,a0_504,a0_504,by simp [ln0],rfl⟩
 apply SmL.sz
 unfold pnX parseN
 split
 ·
  unfold pOf
  split
  · exact z
  ·
   split
   ·
    rename_i x hx
    split
    ·
     have:=lex_len s
     exact (ln_sm (lex_ok s) (by omega) hx).more this
    · exact z
   · exact z
 · exact z
def nlN:List UInt8→Nat
 | [] => 0
 | c :: r => if c = 10 then 0 else nlN r + 1
def splA:List UInt8→List UInt8→List (List UInt8)
 | cur, [] => if cur = [] then [] else [cur]
 | cur, c :: r => if c = 10 then cur :: splA [] r else splA (cur ++ [c]) r
theorem splA_eq:∀ (l cur:List UInt8),splA cur l=if cur++l = [] then [] else (cur++l.take (nlN l))::splA [] (l.drop (nlN l+1))
 | [], cur => by
  by_cases h:cur = []
  · subst h;rfl
  · simp [splA,nlN,h]
 | c :: r, cur => by
  by_cases h:c=10
  · simp [splA,nlN,h]
  ·
   have:=splA_eq r (cur++[c])
   simp [splA,nlN,h,this]
theorem splA_cons {l:List UInt8} (h:l≠[]):splA [] l=l.take (nlN l)::splA [] (l.drop (nlN l+1)):=by
 rw [splA_eq]
 simp [h]
theorem nl_ix:∀ l:List UInt8,(Lib.indexByte l 10 = -1∧nlN l=l.length)∨(Lib.indexByte l 10=(nlN l:Nat)∧nlN l<l.length)
 | [] => .inl ⟨rfl, rfl⟩
 | c :: r => by
  unfold Lib.indexByte nlN
  by_cases h:c=10
  ·
   rw [if_pos (by simp [h]),if_pos h]
   exact .inr ⟨rfl,by simp⟩
  ·
   rw [if_neg (by simp [h]),if_neg h]
   rcases nl_ix r with ⟨h1,h2⟩|⟨h1,h2⟩
   ·
    rw [if_pos (by rw [h1];rfl)]
    exact .inl ⟨rfl,by rw [h2];simp⟩
   ·
    rw [if_neg (by rw [h1];simp)]
    exact .inr ⟨by rw [h1];rfl,by simp;omega⟩
def bA (l:List UInt8):ByteArray:=⟨l.toArray⟩
theorem bA_of (s:ByteArray):bA s.data.toList=s:=by cases s;simp [bA]
theorem bA_size (l:List UInt8):(bA l).size=l.length:=by simp [bA,ByteArray.size]
theorem bA_data (l:List UInt8):(bA l).data.toList=l:=by simp [bA]
theorem bA_ext {s:ByteArray} {l:List UInt8} (h:s.data.toList=l):s=bA l:=by rw [←h,bA_of]
theorem bA_extract (l:List UInt8) (a b:Nat):(bA l).extract a b=bA ((l.take b).drop a):=by
 apply bA_ext
 simp [bA,List.drop_take]
def ptA:List Ln→List (List UInt8)→List Ln × Int
 | acc, [] => (acc, -1)
 | acc, s :: r => if pnB (bA s) = false ∨ acc.length = 100 then ([], acc.length) else ptA (acc ++ [pnX (bA s)]) r
def ptX (s:ByteArray):List Ln × Int:=ptA [] (splA [] s.data.toList)
theorem cutL (l:List UInt8) (w:World) (hz:l.length≤1048576):Calls Tryz.prog 141 #[.string (bA l),.string ⟨#[10]⟩] w fun e w'=>(∃ b,e = .returned (.tuple #[.string (bA (l.take (nlN l))),.string (bA (l.drop (nlN l+1))),.bool b]))∧Below w.heap.size w w':=by
 have IX:=hide (fun w=>ixsI (bA l) 10 w)
 rw [bA_data] at IX
 rcases nl_ix l with ⟨h1,h2⟩|⟨h1,h2⟩
 ·
  rw [h1] at IX
  have E1:=hide (show bA l=bA (l.take (nlN l)) by rw [h2,List.take_of_length_le (Nat.le_refl _)])
  have E2:=hide (show (⟨#[]⟩:ByteArray)=bA (l.drop (nlN l+1)) by rw [h2,List.drop_eq_nil_of_le (by omega)];rfl)
  clear h1 h2
  go_enter Tryz.func141,Tryz.ntmps141
  go_wp2_with (go_at_call 188;refine (uh IX _).mono ?_;rintro e w' ⟨rfl,hw'⟩;rw [hw'];clear hw' w')
  go_ret3
  exact ⟨⟨false,by rw [←uh E1,←uh E2];rfl⟩,Below.refl _ _⟩
 ·
  rw [h1] at IX
  have hs:=bA_size l
  have E1:=hide (show (bA l).extract 0 (nlN l)=bA (l.take (nlN l)) by rw [bA_extract];rfl)
  have E2:=hide (show (bA l).extract (nlN l+1) l.length=bA (l.drop (nlN l+1)) by rw [bA_extract,List.take_of_length_le (Nat.le_refl _)])
  clear h1
  generalize nlN l=n at *
  have mixed:Tryz.prog.follows Departure.mixedOrders=true:=by kernel_rfl
  have c2:n≤l.length:=by omega
  have c3:(0:Int)≤(n:Int)+1:=by omega
  have c4:n+1≤l.length:=by omega
  have c5:(n:Int)+1≤(l.length:Int):=by omega
  go_enter Tryz.func141,Tryz.ntmps141
  go_wp2_with (go_at_call 188;refine (uh IX _).mono ?_;rintro e w' ⟨rfl,hw'⟩;rw [hw'];clear hw' w')
  go_region_o
  go_wp2
  go_ret3
  exact ⟨⟨true,by rw [←uh E1,←uh E2];rfl⟩,below_drewN (Below.refl _ _) 1⟩
theorem cutI (l:List UInt8) (w:World) (hz:l.length≤1048576):Calls Tryz.prog 84 #[.string (bA l),.string ⟨#[10]⟩] w fun e w'=>(∃ b,e = .returned (.tuple #[.string (bA (l.take (nlN l))),.string (bA (l.drop (nlN l+1))),.bool b]))∧Below w.heap.size w w':=by
 have IX:=hide (fun w=>cutL l w hz)
 generalize bA (l.take (nlN l))=s1 at *
 generalize bA (l.drop (nlN l+1))=s2 at *
 go_enter Tryz.func84,Tryz.ntmps84
 go_wp2_with (go_at_call 141;refine (uh IX _).mono ?_;rintro e w' ⟨⟨b,rfl⟩,hw'⟩)
 go_ret3
 exact ⟨⟨b,rfl⟩,hw'⟩
section
theorem own_ty {w:World} {B m n:Nat} {t:TypeId} {v:Value} {cs:List Value} (h:w.ownsRow B t m v n cs) {g:Nat} (hg:v.ownBlock=some g):B≤g∧∃ cur,w.heap[g]?=some (.cells cur t (0,0)):=by
 obtain ⟨_,⟨rfl,_⟩|⟨g',cap,cur,rfl,hB,hh,r⟩⟩:=h
 · cases hg
 ·
  cases hg
  exact ⟨hB,cur,hh⟩
theorem own_two {w:World} {B B' m m' n n':Nat} {t t':TypeId} {v v':Value} {cs cs':List Value} (h:w.ownsRow B t m v n cs) (h':w.ownsRow B' t' m' v' n' cs') (hne:t≠t') {g:Nat} (hg:v.ownBlock=some g) (hg':v'.ownBlock=some g):False:=by
 obtain ⟨_,c,e⟩:=own_ty h hg
 obtain ⟨_,c',e'⟩:=own_ty h' hg'
 rw [e] at e'
 injection e' with e'
 injection e' with _ e'
 exact hne e'
section
variable {ops:Array Oper} {rest:List Oper} {o:Oper} {a:Act} {Q:Exit→Act→World→Prop} {w w0:World} {B:Nat} {K:Act→World→Prop}
end
end
section
def LnO (w:World) (x:Ln) (p:La) (F:List Nat):Prop:=∃ F1 F2 F3,F=F1++(F2++F3)∧OwX w x.src.e p.b1 F1∧OwX w x.dst.e p.b2 F2∧OwX w ⟨0,0,E0,x.l⟩ p.b3 F3
theorem LnO.keep {w w':World} {x:Ln} {p:La} {F:List Nat} (h:LnO w x p F) (hk:∀ b∈F,w'.heap[b]?=w.heap[b]?):LnO w' x p F:=by
 obtain ⟨F1,F2,F3,rfl,h1,h2,h3⟩:=h
 exact ⟨F1,F2,F3,rfl,OwX.keep _ _ _ (fun b hb=>hk b (by simp [hb])) h1,OwX.keep _ _ _ (fun b hb=>hk b (by simp [hb])) h2,OwX.keep _ _ _ (fun b hb=>hk b (by simp [hb])) h3⟩
theorem LnO.lt {w:World} {x:Ln} {p:La} {F:List Nat} (h:LnO w x p F):∀ b∈F,b<w.heap.size:=by
 obtain ⟨F1,F2,F3,rfl,h1,h2,h3⟩:=h
 intro b hb
 simp only [List.mem_append] at hb
 rcases hb with hb|hb|hb
 · exact OwX.lt _ _ _ h1 b hb
 · exact OwX.lt _ _ _ h2 b hb
 · exact OwX.lt _ _ _ h3 b hb
theorem LnO.later {w w':World} {x:Ln} {p:La} {F:List Nat} (h:LnO w x p F) (hb:Below w.heap.size w w'):LnO w' x p F:=h.keep fun b hF=>hb.block b (h.lt b hF)
theorem LnO.rd {w:World} {x:Ln} {p:La} {F:List Nat} (h:LnO w x p F):RdL w x p:=by
 obtain ⟨F1,F2,F3,rfl,h1,h2,h3⟩:=h
 exact ⟨OwX.rd _ _ _ (fun _ _=>Nat.zero_le _) h1,OwX.rd _ _ _ (fun _ _=>Nat.zero_le _) h2,OwX.rd _ _ _ (fun _ _=>Nat.zero_le _) h3⟩
theorem NdL.own {w:World} {B:Nat} {x:Ln} {p:La} (h:NdL w B x p):∃ F,LnO w x p F∧F.Nodup∧∀ b∈F,B≤b:=by
 obtain ⟨F1,F2,F3,h1,h2,h3,h4,h5⟩:=h
 exact ⟨_,⟨F1,F2,F3,rfl,h1,h2,h3⟩,h4,h5⟩
def cellsP:List Ln→List La→List Value
 | x :: l, p :: ps => (x.cs p).toList ++ cellsP l ps
 | _, _ => []
theorem cellsP_app:∀ (l:List Ln) (ps:List La) (x:Ln) (p:La),ps.length=l.length→cellsP (l++[x]) (ps++[p])=cellsP l ps++(x.cs p).toList
 | [], [], x, p, _ => by simp [cellsP]
 | [], _ :: _, _, _, h => by simp at h
 | _ :: _, [], _, _, h => by simp at h
 | y :: l, q :: ps, x, p, h => by
  have:=cellsP_app l ps x p (by simpa using h)
  simp only [List.cons_append,cellsP,this,List.append_assoc]
theorem csP_one (x:Ln) (p:La):∀ u∈(x.cs p).toList,u.oneCell'=true:=List.all_eq_true.1 rfl
def la0:La:=⟨none,0,none,0,none,0⟩
structure OwnP (w:World) (B:Nat) (v:Value) (l:List Ln) (ps:List La) (Fs:List (List Nat)):Prop where
 n1:ps.length=l.length
 n2:Fs.length=l.length
 row:w.ownsRow B 30 17 v l.length (cellsP l ps)
 own:∀ i,i<l.length→LnO w (l.getD i ln0) (ps.getD i la0) (Fs.getD i [])
 nd:Fs.flatten.Nodup
 ge:∀ b∈Fs.flatten,B≤b
 out:∀ g,v.ownBlock=some g→g∉Fs.flatten
section
variable {w w':World} {B:Nat} {v:Value} {l:List Ln} {ps:List La} {Fs:List (List Nat)}
theorem ownP_none (w:World) (B:Nat):OwnP w B (.slice none 0 0) [] [] []:=⟨rfl,rfl,⟨rfl,.inl ⟨rfl,rfl⟩⟩,fun i h=>by simp at h,by simp,fun b h=>by simp at h,fun g h=>by simp⟩
theorem mem_flat {b:Nat} (h:b∈Fs.flatten):∃ i,i<Fs.length∧b∈Fs.getD i []:=by
 obtain ⟨F,hF,hb⟩:=List.mem_flatten.1 h
 obtain ⟨i,hi,rfl⟩:=List.getElem_of_mem hF
 exact ⟨i,hi,by simpa [List.getD_eq_getElem?_getD,hi] using hb⟩
theorem OwnP.lt (h:OwnP w B v l ps Fs):∀ b∈Fs.flatten,b<w.heap.size:=by
 intro b hb
 obtain ⟨i,hi,hm⟩:=mem_flat hb
 exact (h.own i (by rw [←h.n2];exact hi)).lt b hm
theorem OwnP.at (h:OwnP w B v l ps Fs):∀ g,v.ownBlock=some g→B≤g∧g<w.heap.size:=by
 intro g hg
 obtain ⟨h1,cur,h2⟩:=own_ty h.row hg
 exact ⟨h1,(Array.getElem?_eq_some_iff.1 h2).1⟩
theorem OwnP.later (h:OwnP w B v l ps Fs) (hb:Below w.heap.size w w'):OwnP w' B v l ps Fs :=
 { h with
   row:=by
    obtain ⟨k1,k2|⟨g,cap,cur,e,hg,hh,r⟩⟩:=h.row
    · exact ⟨k1,.inl k2⟩
    · exact ⟨k1,.inr ⟨g,cap,cur,e,hg,(hb.block g (Array.getElem?_eq_some_iff.1 hh).1).trans hh,r⟩⟩
   own:=fun i hi=>(h.own i hi).later hb }
end
theorem infoP:(Tryz.prog.info? 30).map (fun i=>(i.zero,i.size,i.bytes))=some (some (.agg #[.int .i64 0,.string ⟨#[]⟩,.int .i64 0,.int .i64 0,.int .i64 0,.int .i64 0,.int .i64 0,.string ⟨#[]⟩,.slice none 0 0,.int .i64 0,.int .i64 0,.int .i64 0,.int .i64 0,.string ⟨#[]⟩,.slice none 0 0,.int .i64 0,.slice none 0 0]),17,208):=by kernel_rfl
section
variable {ops:Array Oper} {rest:List Oper} {o:Oper} {a:Act} {Q:Exit→Act→World→Prop} {w w0:World} {B:Nat} {K:Act→World→Prop}
theorem wp_appP (s x:Operand) (ho:o.op = .call { callee:=.builtin .append,args:=#[s,x],argTypes:=#[45,45] }) (hB:B≤w0.heap.size) (hD:Below B w0 w) {v:Value} {l:List Ln} {ps:List La} {Fs:List (List Nat)} (hs:a.eval s=v) (hown:OwnP w B v l ps Fs) (g C:Nat) (y:Ln) (p:La) (F:List Nat) (hx:a.eval x = .slice (some ⟨g,0,none⟩) 1 1) (hg:w.heap[g]?=some (.cells (y.cs p) 30 (0,0))) (hp:LnO w y p F) (hn:F.Nodup) (hC:∀ b∈F,C≤b) (hCB:B≤C) (h1:∀ b∈Fs.flatten,b<C) (h2:∀ g,v.ownBlock=some g→g<C) (hl:l.length≤1000)
  (h:∀ (v':Value) (z:Sub B w0),OwnP z.w B v' (l++[y]) (ps++[p]) (Fs++[F])→K (a.put o.dst v') z.w):o.wp Tryz.prog a w K Q:=by
 obtain ⟨i0,hi0,hz0,hz1,hz2⟩:=info_parts infoP
 have hsz:=hD.size
 refine wp_append_to s x 45 ho B 30 i0 _ 17 208 Tryz.underlying45 hi0 hz0 hz1 hz2 rfl (by decide) v l.length (cellsP l ps) hs hown.row ⟨g,0,none⟩ 1 1 (y.cs p).toList hx rfl (fun j u hj=>by
  have hc:=Lib.cell_of_heap hg j
  have e:(y.cs p)[j]?=some u:=by rw [←hj];simp
  have ha:(⟨g,0,none⟩:Addr).add j=⟨g,j,none⟩:=by simp [Addr.add];exact fun h=>h.symm
  rw [ha]
  exact hc.trans e) (csP_one y p) (by unfold maxLen;omega) (by omega) (by omega) (by decide) ?_
 intro g' cap w' k1 k2 k3
 have kp:∀ b,b<w.heap.size→v.ownBlock≠some b→w'.heap[b]?=w.heap[b]?:=fun b hb hne=>k2.block b hb (fun e=>hne e.symm)
 have fl:(Fs++[F]).flatten=Fs.flatten++F:=by simp
 refine h _ ⟨w',hD.grown k2 (Nat.le_trans hB hD.size) (fun k hk=>(hown.at k hk).1)⟩ ⟨by simp [hown.n1],by simp [hown.n2],by rw [List.length_append,cellsP_app _ _ _ _ hown.n1];exact k1,fun i hi=>?_,?_,?_,?_⟩
 ·
  rw [List.length_append,List.length_singleton] at hi
  by_cases hlt:i<l.length
  ·
   rw [show (l++[y]).getD i ln0=l.getD i ln0 by simp [List.getD_eq_getElem?_getD,List.getElem?_append,hlt],show (ps++[p]).getD i la0=ps.getD i la0 by simp [List.getD_eq_getElem?_getD,List.getElem?_append,show i<ps.length by rw [hown.n1];exact hlt],show (Fs++[F]).getD i []=Fs.getD i [] by simp [List.getD_eq_getElem?_getD,List.getElem?_append,show i<Fs.length by rw [hown.n2];exact hlt]]
   refine (hown.own i hlt).keep fun b hb=>kp b ((hown.own i hlt).lt b hb) fun e=>hown.out b e ?_
   refine List.mem_flatten.2 ⟨_,?_,hb⟩
   have hi2:i<Fs.length:=by rw [hown.n2];exact hlt
   simp [List.getD_eq_getElem?_getD,hi2]
  ·
   obtain rfl:i=l.length:=by omega
   rw [show (l++[y]).getD l.length ln0=y by simp [List.getD_eq_getElem?_getD],show (ps++[p]).getD l.length la0=p by rw [←hown.n1];simp [List.getD_eq_getElem?_getD],show (Fs++[F]).getD l.length []=F by rw [←hown.n2];simp [List.getD_eq_getElem?_getD]]
   exact hp.keep fun b hb=>kp b (hp.lt b hb) fun e=>by have:=h2 b e;have:=hC b hb;omega
 ·
  rw [fl,List.nodup_append]
  exact ⟨hown.nd,hn,fun b hb c hc e=>by have:=h1 b hb;have:=hC c hc;omega⟩
 ·
  intro b hb
  rw [fl,List.mem_append] at hb
  rcases hb with hb|hb
  · exact hown.ge b hb
  · exact Nat.le_trans hCB (hC b hb)
 ·
  intro k hk hm
  rw [fl,List.mem_append] at hm
  obtain rfl:g'=k:=by simpa [Value.ownBlock] using hk
  rcases k3 with e|e
  ·
   rcases hm with hm|hm
   · exact hown.out _ e hm
   · have:=h2 _ e;have:=hC _ hm;omega
  ·
   rcases hm with hm|hm
   · have:=hown.lt _ hm;omega
   · have:=hp.lt _ hm;omega
theorem appP (hgd:o.guard=none) (s x:Operand) (ho:o.op = .call { callee:=.builtin .append,args:=#[s,x],argTypes:=#[45,45] }) (hB:B≤w0.heap.size) (hD:Below B w0 w) {v:Value} {l:List Ln} {ps:List La} {Fs:List (List Nat)} (hs:a.eval s=v) (hown:OwnP w B v l ps Fs) (g C:Nat) (y:Ln) (p:La) (F:List Nat) (hx:a.eval x = .slice (some ⟨g,0,none⟩) 1 1) (hg:w.heap[g]?=some (.cells (y.cs p) 30 (0,0))) (hp:LnO w y p F) (hn:F.Nodup) (hC:∀ b∈F,C≤b) (hCB:B≤C) (h1:∀ b∈Fs.flatten,b<C) (h2:∀ g,v.ownBlock=some g→g<C) (hl:l.length≤1000)
  (h:∀ (v':Value) (z:Sub B w0),OwnP z.w B v' (l++[y]) (ps++[p]) (Fs++[F])→wpList Tryz.prog ops Q rest (a.put o.dst v') z.w):wpList Tryz.prog ops Q (o::rest) a w :=
 wpList_plain hgd fun _ hK=>wp_appP s x ho hB hD hs hown g C y p F hx hg hp hn hC hCB h1 h2 hl fun v' z k=>hK _ _ (h v' z k)
end
end
theorem OwnP.form {w:World} {B:Nat} {v:Value} {l:List Ln} {ps:List La} {Fs:List (List Nat)} (h:OwnP w B v l ps Fs):∃ a c,v = .slice a l.length c:=by
 obtain ⟨h1,⟨rfl,h2⟩|⟨g,cap,cur,e,r⟩⟩:=h.row
 · exact ⟨none,0,by rw [h2]⟩
 · exact ⟨some ⟨g,0,none⟩,cap,e⟩
theorem ptA_stop {acc:List Ln} {s:List UInt8} {r:List (List UInt8)} (h:pnB (bA s)=false∨acc.length=100):ptA acc (s::r)=([],(acc.length:Int)):=by unfold ptA;rw [if_pos h]
theorem ptA_go {acc:List Ln} {s:List UInt8} {r:List (List UInt8)} (h:pnB (bA s)=true) (hl:acc.length≠100):ptA acc (s::r)=ptA (acc++[pnX (bA s)]) r:=by
 rw [ptA,if_neg]
 rintro (e|e)
 · rw [h] at e;cases e
 · exact hl e
theorem foldP (x:Ln) (p:La):Array.foldl (fun (cs:Array Value) (y:Value × Nat)=>cs.setIfInBounds y.snd y.fst) #[.int .i64 0,.string ⟨#[]⟩,.int .i64 0,.int .i64 0,.int .i64 0,.int .i64 0,.int .i64 0,.string ⟨#[]⟩,.slice none 0 0,.int .i64 0,.int .i64 0,.int .i64 0,.int .i64 0,.string ⟨#[]⟩,.slice none 0 0,.int .i64 0,.slice none 0 0] (x.cs p).zipIdx 0 (x.cs p).size=x.cs p:=by kernel_rfl
theorem foldQ (x:Ln) (p:La):Array.foldl (fun (cs:Array Value) (y:Value × Nat)=>cs.setIfInBounds y.snd y.fst) #[.int .i64 0,.string ⟨#[]⟩,.int .i64 0,.int .i64 0,.int .i64 0,.int .i64 0,.int .i64 0,.string ⟨#[]⟩,.slice none 0 0,.int .i64 0,.int .i64 0,.int .i64 0,.int .i64 0,.string ⟨#[]⟩,.slice none 0 0,.int .i64 0,.slice none 0 0] (x.cs p).zipIdx 0 17=x.cs p:=by kernel_rfl
def szV:Value→Nat
 | .string b => b.size
 | _ => 0
def PtR (s:ByteArray) (w:World) (r:Ending) (w':World):Prop:=∃ v ps Fs,r = .returned (.tuple #[v,.int .i64 (ptX s).2])∧OwnP w' w.heap.size v (ptX s).1 ps Fs∧Below w.heap.size w w'
theorem ptI (s:ByteArray) (w:World) (hz:s.size≤1048576) (ht:TabR w):Calls Tryz.prog 27 #[.string s] w (PtR s w):=by
 have FN:=hide (fun v ps Fs w' x n (e:ptX s=(x,n)) (ho:OwnP w' w.heap.size v x ps Fs) (hb:Below w.heap.size w w')=>(show PtR s w (.returned (.tuple #[v,.int .i64 n])) w' from ⟨v,ps,Fs,by rw [e],by rw [e];exact ho,hb⟩))
 have E0:=hide (show ptX s=ptA [] (splA [] s.data.toList) from rfl)
 have hs:s=bA s.data.toList:=(bA_of s).symm
 have hl:s.data.toList.length≤1048576:=by rw [←bA_size,←hs];exact hz
 generalize PtR s w=R at *
 generalize ptX s=O at *
 generalize s.data.toList=r0 at *
 subst hs
 have TB:=hide ht
 have Z0:=hide hl
 clear hz ht hl
 go_enter Tryz.func27,Tryz.ntmps27
 go_wp2
 go_loopw [0,4] (fun sv v wr=>∃ (acc:List Ln) (q:List UInt8) (ps:List La) (Fs:List (List Nat)),sv = .string (bA q)∧q.length≤1048576∧acc.length≤100∧Hid (O=ptA acc (splA [] q))∧OwnP wr w.heap.size v acc ps Fs∧Below w.heap.size w wr) (fun sv _ _=>szV sv)
 case atStart=>exact ⟨[],r0,[],[],rfl,uh Z0,by decide,uh E0,ownP_none _ _,Below.refl _ _⟩
 case round =>
  clear E0 Z0
  obtain ⟨acc,q,ps,Fs,rfl,hq,ha,ho,own,hb⟩:=hrel
  by_cases hne:q = []
  ·
   subst hne
   have FO:=hide (uh FN _ ps Fs wr acc (-1) ho.out own hb)
   clear FN own hb ho ha
   rw [show bA []=⟨#[]⟩ from rfl]
   go_wp2
   (try go_ret2)
   exact uh FO
  ·
   have he:(bA q).toList.isEmpty=false:=by rw [Lib.toList_data,bA_data];simp [hne]
   have CU:=hide (cutI q wr hq)
   have HO:=hide (show O=ptA acc (q.take (nlN q)::splA [] (q.drop (nlN q+1))) by rw [←splA_cons hne];exact ho.out)
   have L1:=hide (show (bA (q.take (nlN q))).size≤1048576 by rw [bA_size,List.length_take];omega)
   have L2:=hide (show (q.drop (nlN q+1)).length≤1048576 by rw [List.length_drop];omega)
   have MS:=hide (show (bA (q.drop (nlN q+1))).size<(bA q).size by have:=List.length_pos_iff.2 hne;rw [bA_size,bA_size,List.length_drop];omega)
   obtain ⟨va,vc,rfl⟩:=own.form
   have OW:=hide own
   have BW:=hide hb
   have HA:=hide ha
   clear ho own hb hq hne ha
   generalize q.take (nlN q)=t1 at *
   generalize q.drop (nlN q+1)=t2 at *
   generalize hk:acc.length=k at *
   go_wp2_with fail
   refine (uh CU).mono ?_
   rintro r w1 ⟨⟨bb,rfl⟩,hb1⟩
   have O1:=hide ((uh OW).later hb1)
   have B1:=hide ((uh BW).trans (hb1.mono (uh BW).size))
   have PL:=hide (plI (bA t1) w1 (uh L1) ((uh TB).later (uh B1)))
   clear hb1 OW BW CU L1
   go_wp2_with fail
   refine (uh PL).mono ?_
   rintro r w2 hr
   obtain ⟨p,rfl,hn,hb2⟩:=hr.all
   obtain ⟨F,hF,hFn,hFg⟩:=hn.own
   have hb3:=below_new w2 (.cells ((pnX (bA t1)).cs p) 30)
   have G3:=hide (show (w2.alloc (.cells ((pnX (bA t1)).cs p) 30)).heap[w2.heap.size]?=some (.cells ((pnX (bA t1)).cs p) 30 (0,0)) from Array.getElem?_push_size)
   obtain ⟨w3,hw3⟩:∃ X,w2.alloc (.cells ((pnX (bA t1)).cs p) 30)=X:=⟨_,rfl⟩
   rw [hw3] at hb3 G3
   have B2:=hide ((uh B1).trans (hb2.mono (uh B1).size))
   have B3:=hide ((uh B2).trans (hb3.mono (uh B2).size))
   have CO:=hide (fun p=>cs_one (pnX (bA t1)) p)
   have SO:=hide (szLc (pnX (bA t1)) p)
   have SH:=hide (show (#[.int .i64 0,.string ⟨#[]⟩,.int .i64 0,.int .i64 0,.int .i64 0,.int .i64 0,.int .i64 0,.string ⟨#[]⟩,.slice none 0 0,.int .i64 0,.int .i64 0,.int .i64 0,.int .i64 0,.string ⟨#[]⟩,.slice none 0 0,.int .i64 0,.slice none 0 0]:Array Value).size=((pnX (bA t1)).cs p).size from rfl)
   have PS:=hide (fun h=>ptA_stop (acc:=acc) (s:=t1) (r:=splA [] t2) h)
   have PG:=hide (fun h h'=>ptA_go (acc:=acc) (s:=t1) (r:=splA [] t2) h h')
   have FO:=hide (fun h=>uh FN (.slice none 0 0) [] [] w3 [] acc.length ((uh HO).trans (uh PS h)) (ownP_none _ _) (uh B3))
   have HK:=hide hk
   have SM:=hide (fun b hb=>(uh O1).lt b hb)
   have SV:=hide (fun g hg=>((uh O1).at g hg).2)
   have O3:=hide ((((uh O1).later hb2).later hb3))
   have F3:=hide (hF.later hb3)
   have FG:=hide hFg
   have FD:=hide hFn
   have BB:=hide (uh B1).size
   clear hF hFn hFg hn hb2 hb3 hr O1 B1 B2 PL PS
   generalize hok:pnB (bA t1)=ok at *
   have OK:=hide hok
   clear hok
   cases ok with
   | false =>
    have F1:=hide (uh FO (.inl rfl))
    rw [uh HK] at F1
    clear FO FN HO HA TB HK SM SV O3 F3 FG FD BB G3 PG OK L2 MS
    go_wp2_with ((with_reducible show wpList _ _ _ (⟨_,.store _ _ _,_,_,_,_⟩::_) _ _);refine storeM rfl 30 _ _ rfl ((pnX (bA t1)).cs p) rfl rfl _ (uh SO) (uh SH) (uh CO p) ?_)
    (try go_ret2)
    exact uh F1
   | true =>
    by_cases h100:k=100
    ·
     have F1:=hide (uh FO (.inr ((uh HK).trans h100)))
     rw [uh HK] at F1
     clear FO FN HO HA TB HK SM SV O3 F3 FG FD BB G3 PG OK L2 MS
     subst h100
     go_wp2_with ((with_reducible show wpList _ _ _ (⟨_,.store _ _ _,_,_,_,_⟩::_) _ _);refine storeM rfl 30 _ _ rfl ((pnX (bA t1)).cs p) rfl rfl _ (uh SO) (uh SH) (uh CO p) ?_)
     (try go_ret2)
     exact uh F1
    ·
     have h1:¬ (k:Int)=100:=by omega
     have s17:((pnX (bA t1)).cs p).size=17:=rfl
     have hb4:=below_new w3 (.cells ((pnX (bA t1)).cs p) 30)
     have G4:=hide (show (w3.alloc (.cells ((pnX (bA t1)).cs p) 30)).heap[w3.heap.size]?=some (.cells ((pnX (bA t1)).cs p) 30 (0,0)) from Array.getElem?_push_size)
     obtain ⟨w4,hw4⟩:∃ X,w3.alloc (.cells ((pnX (bA t1)).cs p) 30)=X:=⟨_,rfl⟩
     rw [hw4] at hb4 G4
     have B4:=hide ((uh B3).trans (hb4.mono (uh B3).size))
     have O4:=hide ((uh O3).later hb4)
     have F4:=hide ((uh F3).later hb4)
     have HO5:=hide ((uh HO).trans (uh PG rfl (by rw [uh HK];exact h100)))
     have HL:=hide (show acc.length≤1000 by have:=uh HA;rw [uh HK];omega)
     have HL5:=hide (show (acc++[pnX (bA t1)]).length≤100 by have:=uh HA;have:=uh HK;simp;omega)
     have W3:=hide hw3
     have W4:=hide hw4
     clear hb4 hw3 hw4 FN FO O3 F3 HO PG HA OK HK h100 B3
     go_wp2_with (first|((with_reducible show wpList _ _ _ (⟨_,.store _ _ _,_,_,_,_⟩::_) _ _);refine storeM rfl 30 _ _ rfl ((pnX (bA t1)).cs p) rfl rfl _ (uh SO) (uh SH) (uh CO p) ?_;(try rw [uh W3]);(try rw [uh W4]))|((with_reducible show wpList _ _ _ (⟨_,.load _ _,_,_,_,_⟩::_) _ _);refine wpList_load_row rfl 30 _ rfl w2.heap.size rfl 30 ((pnX (bA t1)).cs p) (0,0) _ (uh G3) Tryz.underlying30 rfl (uh SO) ?_)|(at_builtin;go_must ((first|rw [foldP]|rw [foldQ]);rw [uh W4];refine appP rfl _ _ rfl (Nat.le_refl _) (uh B4) rfl (uh O4) w3.heap.size w1.heap.size (pnX (bA t1)) p F rfl (uh G4) (uh F4) (uh FD) (uh FG) (uh BB) (uh SM) (uh SV) (uh HL) ?_;intro v5 z5 hO;have O5:=hide hO;clear hO)))
     go_roundw
     case rel=>exact ⟨_,t2,_,_,rfl,uh L2,uh HL5,uh HO5,uh O5,z5.h⟩
     case measure=>exact uh MS
end Go.Proofs.YtjnblcgekpgkoaaGreatDoor
