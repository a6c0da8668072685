/- Contracts over this seat's translation, laid together; conditions stand as hypotheses of each. -/
import Derived.Test.YtjnblcgekpgkoaaGreatDoorTrC
import Derived.OrdersHeld
import Derived.Laws.BitsAllLaws
import Derived.Lib.Strings
import Derived.Lib.Slices
namespace Go.Proofs.YtjnblcgekpgkoaaGreatDoor
open Go.ChangeShapes Go.WideShapes Go.ChangeAt Go.RowKit
set_option maxHeartbeats 16000000
set_option linter.unusedVariables false
set_option maxRecDepth 8000
set_option linter.unusedSimpArgs false
theorem ins_one (op:Int) (h6:¬ op≤6) (h14:op≤14) (rb:Nat) (la:Option Addr) (cap:Nat) (ts:List Tk) (k:Nat) (bad:Bool) (w:World) (hl:ts.length≤1048576) (h:Rz w rb la cap ts k bad):Calls Tryz.prog 175 #[.pointer (some ⟨rb,0,none⟩),.int .i64 op] w (LnR (pIns op (ts.drop k)) rb la cap ts bad w):=by
 have PE:=hide (pIns_one (op:=op) (ts.drop k) h6 h14)
 have d0:decide (op≤6)=false:=decide_eq_false h6
 have d1:decide (op≤14)=true:=decide_eq_true h14
 have FY:=hide (fun (x:Ln) (p:La) k' bad' w' (hn:NwL w' w.heap.size x p) (h:Rq w w' rb la cap ts k' bad') (ho:OutG (pIns op (ts.drop k)) ts bad x k' bad')=>(show LnR (pIns op (ts.drop k)) rb la cap ts bad w (.returned (.agg (x.cs p))) w' from ⟨x,p,k',bad',rfl,hn,h.rz,h.gr,ho⟩))
 generalize LnR (pIns op (ts.drop k)) rb la cap ts bad w=R at *
 have hb0:=below_new w (.cells #[.int .i64 0,.string ⟨#[]⟩,.int .i64 0,.int .i64 0,.int .i64 0,.int .i64 0,.int .i64 0,.string ⟨#[]⟩,.slice none 0 0,.int .i64 0,.int .i64 0,.int .i64 0,.int .i64 0,.string ⟨#[]⟩,.slice none 0 0,.int .i64 0,.slice none 0 0] 30)
 have hg0:(w.alloc (.cells #[.int .i64 0,.string ⟨#[]⟩,.int .i64 0,.int .i64 0,.int .i64 0,.int .i64 0,.int .i64 0,.string ⟨#[]⟩,.slice none 0 0,.int .i64 0,.int .i64 0,.int .i64 0,.int .i64 0,.string ⟨#[]⟩,.slice none 0 0,.int .i64 0,.slice none 0 0] 30)).heap[w.heap.size]?=some (.cells #[.int .i64 0,.string ⟨#[]⟩,.int .i64 0,.int .i64 0,.int .i64 0,.int .i64 0,.int .i64 0,.string ⟨#[]⟩,.slice none 0 0,.int .i64 0,.int .i64 0,.int .i64 0,.int .i64 0,.string ⟨#[]⟩,.slice none 0 0,.int .i64 0,.slice none 0 0] 30 (0,0)):=Array.getElem?_push_size
 have hs0:w.heap.size<(w.alloc (.cells #[.int .i64 0,.string ⟨#[]⟩,.int .i64 0,.int .i64 0,.int .i64 0,.int .i64 0,.int .i64 0,.string ⟨#[]⟩,.slice none 0 0,.int .i64 0,.int .i64 0,.int .i64 0,.int .i64 0,.string ⟨#[]⟩,.slice none 0 0,.int .i64 0,.slice none 0 0] 30)).heap.size:=by simp
 obtain ⟨w0,hw0⟩:∃ w0,w.alloc (.cells #[.int .i64 0,.string ⟨#[]⟩,.int .i64 0,.int .i64 0,.int .i64 0,.int .i64 0,.int .i64 0,.string ⟨#[]⟩,.slice none 0 0,.int .i64 0,.int .i64 0,.int .i64 0,.int .i64 0,.string ⟨#[]⟩,.slice none 0 0,.int .i64 0,.slice none 0 0] 30)=w0:=⟨_,rfl⟩
 rw [hw0] at hb0 hg0 hs0
 have Q0:=hide (h.start.later hb0)
 have R0:=hide hg0
 have S0:=hide hs0
 clear h hb0 hg0 hs0
 go_enter Tryz.func175,Tryz.ntmps175
 have BGx:=hide (show w.heap.size≤w0.heap.size from Nat.le_of_lt (uh S0))
 have BLx:=hide (uh S0)
 have Qx1:=hide ((uh Q0).later (below_new w0 (.cells #[.int .i64 3,.string ⟨#[]⟩,.int .i64 op,.int .i64 0,.int .i64 0,.int .i64 0,.int .i64 0,.string ⟨#[]⟩,.slice none 0 0,.int .i64 0,.int .i64 0,.int .i64 0,.int .i64 0,.string ⟨#[]⟩,.slice none 0 0,.int .i64 0,.slice none 0 0] 30)))
 have Rx1:=hide (row_keep (uh R0) (below_new w0 (.cells #[.int .i64 3,.string ⟨#[]⟩,.int .i64 op,.int .i64 0,.int .i64 0,.int .i64 0,.int .i64 0,.string ⟨#[]⟩,.slice none 0 0,.int .i64 0,.int .i64 0,.int .i64 0,.int .i64 0,.string ⟨#[]⟩,.slice none 0 0,.int .i64 0,.slice none 0 0] 30)))
 have Sx1:=hide (Nat.lt_of_lt_of_le (uh S0) ((below_new w0 (.cells #[.int .i64 3,.string ⟨#[]⟩,.int .i64 op,.int .i64 0,.int .i64 0,.int .i64 0,.int .i64 0,.string ⟨#[]⟩,.slice none 0 0,.int .i64 0,.int .i64 0,.int .i64 0,.int .i64 0,.string ⟨#[]⟩,.slice none 0 0,.int .i64 0,.slice none 0 0] 30))).size)
 have Bx0:=hide (show (w0.alloc (.cells #[.int .i64 3,.string ⟨#[]⟩,.int .i64 op,.int .i64 0,.int .i64 0,.int .i64 0,.int .i64 0,.string ⟨#[]⟩,.slice none 0 0,.int .i64 0,.int .i64 0,.int .i64 0,.int .i64 0,.string ⟨#[]⟩,.slice none 0 0,.int .i64 0,.slice none 0 0] 30)).heap[w0.heap.size]?=some (.cells #[.int .i64 3,.string ⟨#[]⟩,.int .i64 op,.int .i64 0,.int .i64 0,.int .i64 0,.int .i64 0,.string ⟨#[]⟩,.slice none 0 0,.int .i64 0,.int .i64 0,.int .i64 0,.int .i64 0,.string ⟨#[]⟩,.slice none 0 0,.int .i64 0,.slice none 0 0] 30 (0,0)) from Array.getElem?_push_size)
 clear Q0 R0 S0
 have X:=hide (arg13S rb la cap ts k bad (w0.alloc (.cells #[.int .i64 3,.string ⟨#[]⟩,.int .i64 op,.int .i64 0,.int .i64 0,.int .i64 0,.int .i64 0,.string ⟨#[]⟩,.slice none 0 0,.int .i64 0,.int .i64 0,.int .i64 0,.int .i64 0,.string ⟨#[]⟩,.slice none 0 0,.int .i64 0,.slice none 0 0] 30)) hl (uh Qx1).rz)
 unfold PlR at X
 go_wp2_with fail
 generalize (w0.alloc (.cells #[.int .i64 3,.string ⟨#[]⟩,.int .i64 op,.int .i64 0,.int .i64 0,.int .i64 0,.int .i64 0,.string ⟨#[]⟩,.slice none 0 0,.int .i64 0,.int .i64 0,.int .i64 0,.int .i64 0,.string ⟨#[]⟩,.slice none 0 0,.int .i64 0,.slice none 0 0] 30))=w1 at *
 generalize w0.heap.size=gx at *
 refine (uh X).mono ?_
 rintro r w2 ⟨a2,c2,c2p,k2,b2,rfl,hn,hr,hg,ho⟩
 have PM2:=hide (uh Sx1)
 have PBx2:=hide (show gx<w1.heap.size from (Array.getElem?_eq_some_iff.1 (uh Bx0)).1)
 have Rx2:=hide ((uh Qx1).blk hg (uh Rx1) (Nat.le_refl _))
 have Bxx2:=hide ((uh Qx1).blk hg (uh Bx0) (uh BGx))
 have Qg2:=hide ((uh Qx1).next hr hg)
 clear hg hr X Rx1 Sx1 Bx0 Qx1
 have OO2:=hide ho
 have Nt22:=hide (hn).half
 clear hn ho
 unfold Ag.cs
 simp only
 have FA:=hide (fun w' h (h2:NewX w' w.heap.size a2.e c2)=>(show R (.returned (.agg #[.int .i64 3,.string ⟨#[]⟩,.int .i64 op,.int .i64 0,.int .i64 0,.int .i64 0,.int .i64 0,.string ⟨#[]⟩,.slice none 0 0,.int .i64 a2.f,.int .i64 a2.r,.int .i64 a2.e.k,.int .i64 a2.e.n,.string a2.e.s,.slice c2 a2.e.l.length c2p,.int .i64 0,.slice none 0 0])) w' from uh FY ⟨3,⟨#[]⟩,op,a0,a2,0,[]⟩ ⟨none,0,c2,c2p,none,0⟩ k2 b2 w' ⟨NewX.nil _ _ _ _ _ _,h2,NewX.nil _ _ _ _ _ _⟩ h (by rw [uh PE];exact (uh OO2).bind (OutG.ret _ _ _))))
 clear FY PE
 have FE:=hide (fun w' h=>uh FA w' h)
 clear FA
 generalize a2.e.k=k2a at FE ⊢
 generalize a2.e.n=n2 at FE ⊢
 generalize a2.e.s=s2 at FE ⊢
 generalize a2.e.l.length=l2 at FE ⊢
 generalize a2.f=f2 at FE ⊢
 generalize a2.r=r2 at FE ⊢
 have Qx3:=hide ((uh Qg2).rowG (uh BGx) #[.int .i64 3,.string ⟨#[]⟩,.int .i64 op,.int .i64 0,.int .i64 0,.int .i64 0,.int .i64 0,.string ⟨#[]⟩,.slice none 0 0,.int .i64 f2,.int .i64 r2,.int .i64 k2a,.int .i64 n2,.string s2,.slice c2 l2 c2p,.int .i64 0,.slice none 0 0])
 have Rx3:=hide ((setRow_other w2 gx w.heap.size #[.int .i64 3,.string ⟨#[]⟩,.int .i64 op,.int .i64 0,.int .i64 0,.int .i64 0,.int .i64 0,.string ⟨#[]⟩,.slice none 0 0,.int .i64 f2,.int .i64 r2,.int .i64 k2a,.int .i64 n2,.string s2,.slice c2 l2 c2p,.int .i64 0,.slice none 0 0] (Nat.ne_of_lt (uh BLx))).trans (uh Rx2))
 have Bxx3:=hide ((show ((w2.setRow gx #[.int .i64 3,.string ⟨#[]⟩,.int .i64 op,.int .i64 0,.int .i64 0,.int .i64 0,.int .i64 0,.string ⟨#[]⟩,.slice none 0 0,.int .i64 f2,.int .i64 r2,.int .i64 k2a,.int .i64 n2,.string s2,.slice c2 l2 c2p,.int .i64 0,.slice none 0 0])).heap[gx]?=some (.cells #[.int .i64 3,.string ⟨#[]⟩,.int .i64 op,.int .i64 0,.int .i64 0,.int .i64 0,.int .i64 0,.string ⟨#[]⟩,.slice none 0 0,.int .i64 f2,.int .i64 r2,.int .i64 k2a,.int .i64 n2,.string s2,.slice c2 l2 c2p,.int .i64 0,.slice none 0 0] 30 (0,0)) from setRow_heap _ _ _ _ _ _ (uh Bxx2)))
 have Nxt23:=hide ((uh Nt22).drawn (grownBy_row #[.int .i64 3,.string ⟨#[]⟩,.int .i64 op,.int .i64 0,.int .i64 0,.int .i64 0,.int .i64 0,.string ⟨#[]⟩,.slice none 0 0,.int .i64 f2,.int .i64 r2,.int .i64 k2a,.int .i64 n2,.string s2,.slice c2 l2 c2p,.int .i64 0,.slice none 0 0]) (uh PBx2))
 clear Qg2 Rx2 Nt22
 go_wp2_with (first|((with_reducible show wpList _ _ _ (⟨_,.store _ _ _,_,_,_,_⟩::_) _ _);refine wpList_store_part rfl 28 _ _ rfl gx 9 #[.int .i64 f2,.int .i64 r2,.int .i64 k2a,.int .i64 n2,.string s2,.slice c2 l2 c2p] rfl rfl 30 #[.int .i64 3,.string ⟨#[]⟩,.int .i64 op,.int .i64 0,.int .i64 0,.int .i64 0,.int .i64 0,.string ⟨#[]⟩,.slice none 0 0,.int .i64 0,.int .i64 0,.int .i64 0,.int .i64 0,.string ⟨#[]⟩,.slice none 0 0,.int .i64 0,.slice none 0 0] #[.int .i64 3,.string ⟨#[]⟩,.int .i64 op,.int .i64 0,.int .i64 0,.int .i64 0,.int .i64 0,.string ⟨#[]⟩,.slice none 0 0,.int .i64 f2,.int .i64 r2,.int .i64 k2a,.int .i64 n2,.string s2,.slice c2 l2 c2p,.int .i64 0,.slice none 0 0] (uh Bxx2) szAg (by simp) (ag_one _ _ _ _ _ _ _ _) rfl ?_)|((with_reducible show wpList _ _ _ (⟨_,.load _ _,_,_,_,_⟩::_) _ _);refine wpList_load_row rfl 30 _ rfl gx rfl 30 #[.int .i64 3,.string ⟨#[]⟩,.int .i64 op,.int .i64 0,.int .i64 0,.int .i64 0,.int .i64 0,.string ⟨#[]⟩,.slice none 0 0,.int .i64 f2,.int .i64 r2,.int .i64 k2a,.int .i64 n2,.string s2,.slice c2 l2 c2p,.int .i64 0,.slice none 0 0] (0,0) _ (uh Bxx3) Tryz.underlying30 rfl (by kernel_rfl) ?_)|((with_reducible show wpList _ _ _ (⟨_,.store _ _ _,_,_,_,_⟩::_) _ _);refine wpList_store_row rfl 30 _ _ rfl w.heap.size #[.int .i64 3,.string ⟨#[]⟩,.int .i64 op,.int .i64 0,.int .i64 0,.int .i64 0,.int .i64 0,.string ⟨#[]⟩,.slice none 0 0,.int .i64 f2,.int .i64 r2,.int .i64 k2a,.int .i64 n2,.string s2,.slice c2 l2 c2p,.int .i64 0,.slice none 0 0] rfl rfl 30 _ (uh Rx3) szLn rfl (by simp [Value.oneCell']) ?_))
 refine bodyPost_ret (results_cell_row (P:=Tryz.prog) rfl _ _ w.heap.size 30 #[.int .i64 3,.string ⟨#[]⟩,.int .i64 op,.int .i64 0,.int .i64 0,.int .i64 0,.int .i64 0,.string ⟨#[]⟩,.slice none 0 0,.int .i64 f2,.int .i64 r2,.int .i64 k2a,.int .i64 n2,.string s2,.slice c2 l2 c2p,.int .i64 0,.slice none 0 0] (0,0) _ rfl (setRow_heap _ _ _ _ _ _ (uh Rx3)) Tryz.underlying30 rfl szLn) rfl ?_
 exact uh FE _ ((uh Qx3).rowG (Nat.le_refl _) _) (((uh Nxt23).drawn (grownBy_row _) (uh PM2)).new.lower (Nat.le_of_lt (uh PM2)))
theorem ins_jsr  (rb:Nat) (la:Option Addr) (cap:Nat) (ts:List Tk) (k:Nat) (bad:Bool) (w:World) (hl:ts.length≤1048576) (h:Rz w rb la cap ts k bad):Calls Tryz.prog 175 #[.pointer (some ⟨rb,0,none⟩),.int .i64 15] w (LnR (pIns 15 (ts.drop k)) rb la cap ts bad w):=by
 have PE:=hide (pIns_jsr (ts.drop k))
 have FY:=hide (fun (x:Ln) (p:La) k' bad' w' (hn:NwL w' w.heap.size x p) (h:Rq w w' rb la cap ts k' bad') (ho:OutG (pIns 15 (ts.drop k)) ts bad x k' bad')=>(show LnR (pIns 15 (ts.drop k)) rb la cap ts bad w (.returned (.agg (x.cs p))) w' from ⟨x,p,k',bad',rfl,hn,h.rz,h.gr,ho⟩))
 generalize LnR (pIns 15 (ts.drop k)) rb la cap ts bad w=R at *
 have hb0:=below_new w (.cells #[.int .i64 0,.string ⟨#[]⟩,.int .i64 0,.int .i64 0,.int .i64 0,.int .i64 0,.int .i64 0,.string ⟨#[]⟩,.slice none 0 0,.int .i64 0,.int .i64 0,.int .i64 0,.int .i64 0,.string ⟨#[]⟩,.slice none 0 0,.int .i64 0,.slice none 0 0] 30)
 have hg0:(w.alloc (.cells #[.int .i64 0,.string ⟨#[]⟩,.int .i64 0,.int .i64 0,.int .i64 0,.int .i64 0,.int .i64 0,.string ⟨#[]⟩,.slice none 0 0,.int .i64 0,.int .i64 0,.int .i64 0,.int .i64 0,.string ⟨#[]⟩,.slice none 0 0,.int .i64 0,.slice none 0 0] 30)).heap[w.heap.size]?=some (.cells #[.int .i64 0,.string ⟨#[]⟩,.int .i64 0,.int .i64 0,.int .i64 0,.int .i64 0,.int .i64 0,.string ⟨#[]⟩,.slice none 0 0,.int .i64 0,.int .i64 0,.int .i64 0,.int .i64 0,.string ⟨#[]⟩,.slice none 0 0,.int .i64 0,.slice none 0 0] 30 (0,0)):=Array.getElem?_push_size
 have hs0:w.heap.size<(w.alloc (.cells #[.int .i64 0,.string ⟨#[]⟩,.int .i64 0,.int .i64 0,.int .i64 0,.int .i64 0,.int .i64 0,.string ⟨#[]⟩,.slice none 0 0,.int .i64 0,.int .i64 0,.int .i64 0,.int .i64 0,.string ⟨#[]⟩,.slice none 0 0,.int .i64 0,.slice none 0 0] 30)).heap.size:=by simp
 obtain ⟨w0,hw0⟩:∃ w0,w.alloc (.cells #[.int .i64 0,.string ⟨#[]⟩,.int .i64 0,.int .i64 0,.int .i64 0,.int .i64 0,.int .i64 0,.string ⟨#[]⟩,.slice none 0 0,.int .i64 0,.int .i64 0,.int .i64 0,.int .i64 0,.string ⟨#[]⟩,.slice none 0 0,.int .i64 0,.slice none 0 0] 30)=w0:=⟨_,rfl⟩
 rw [hw0] at hb0 hg0 hs0
 have Q0:=hide (h.start.later hb0)
 have R0:=hide hg0
 have S0:=hide hs0
 clear h hb0 hg0 hs0
 go_enter Tryz.func175,Tryz.ntmps175
 have BGx:=hide (show w.heap.size≤w0.heap.size from Nat.le_of_lt (uh S0))
 have BLx:=hide (uh S0)
 have Qx1:=hide ((uh Q0).later (below_new w0 (.cells #[.int .i64 3,.string ⟨#[]⟩,.int .i64 15,.int .i64 0,.int .i64 0,.int .i64 0,.int .i64 0,.string ⟨#[]⟩,.slice none 0 0,.int .i64 0,.int .i64 0,.int .i64 0,.int .i64 0,.string ⟨#[]⟩,.slice none 0 0,.int .i64 0,.slice none 0 0] 30)))
 have Rx1:=hide (row_keep (uh R0) (below_new w0 (.cells #[.int .i64 3,.string ⟨#[]⟩,.int .i64 15,.int .i64 0,.int .i64 0,.int .i64 0,.int .i64 0,.string ⟨#[]⟩,.slice none 0 0,.int .i64 0,.int .i64 0,.int .i64 0,.int .i64 0,.string ⟨#[]⟩,.slice none 0 0,.int .i64 0,.slice none 0 0] 30)))
 have Sx1:=hide (Nat.lt_of_lt_of_le (uh S0) ((below_new w0 (.cells #[.int .i64 3,.string ⟨#[]⟩,.int .i64 15,.int .i64 0,.int .i64 0,.int .i64 0,.int .i64 0,.string ⟨#[]⟩,.slice none 0 0,.int .i64 0,.int .i64 0,.int .i64 0,.int .i64 0,.string ⟨#[]⟩,.slice none 0 0,.int .i64 0,.slice none 0 0] 30))).size)
 have Bx0:=hide (show (w0.alloc (.cells #[.int .i64 3,.string ⟨#[]⟩,.int .i64 15,.int .i64 0,.int .i64 0,.int .i64 0,.int .i64 0,.string ⟨#[]⟩,.slice none 0 0,.int .i64 0,.int .i64 0,.int .i64 0,.int .i64 0,.string ⟨#[]⟩,.slice none 0 0,.int .i64 0,.slice none 0 0] 30)).heap[w0.heap.size]?=some (.cells #[.int .i64 3,.string ⟨#[]⟩,.int .i64 15,.int .i64 0,.int .i64 0,.int .i64 0,.int .i64 0,.string ⟨#[]⟩,.slice none 0 0,.int .i64 0,.int .i64 0,.int .i64 0,.int .i64 0,.string ⟨#[]⟩,.slice none 0 0,.int .i64 0,.slice none 0 0] 30 (0,0)) from Array.getElem?_push_size)
 clear Q0 R0 S0
 have OO2:=hide (next_out ts k bad)
 have X:=hide (nextS_any rb la cap ts k bad (w0.alloc (.cells #[.int .i64 3,.string ⟨#[]⟩,.int .i64 15,.int .i64 0,.int .i64 0,.int .i64 0,.int .i64 0,.string ⟨#[]⟩,.slice none 0 0,.int .i64 0,.int .i64 0,.int .i64 0,.int .i64 0,.string ⟨#[]⟩,.slice none 0 0,.int .i64 0,.slice none 0 0] 30)) hl (uh Qx1).rz)
 generalize nextT ts k bad=t2 at OO2 X
 generalize nextK ts k bad=k2 at OO2 X
 generalize (!nextB ts k bad)=b2 at OO2 X
 unfold Tk.v Tk.cs at X
 go_wp2_with fail
 generalize (w0.alloc (.cells #[.int .i64 3,.string ⟨#[]⟩,.int .i64 15,.int .i64 0,.int .i64 0,.int .i64 0,.int .i64 0,.string ⟨#[]⟩,.slice none 0 0,.int .i64 0,.int .i64 0,.int .i64 0,.int .i64 0,.string ⟨#[]⟩,.slice none 0 0,.int .i64 0,.slice none 0 0] 30))=w1 at *
 generalize w0.heap.size=gx at *
 refine (uh X).mono ?_
 rintro r w2 ⟨rfl,hr,hg⟩
 have Rx2:=hide ((uh Qx1).blk hg (uh Rx1) (Nat.le_refl _))
 have Sx2:=hide (Nat.lt_of_lt_of_le (uh Sx1) (hg).size)
 have Bxx2:=hide ((uh Qx1).blk hg (uh Bx0) (uh BGx))
 have Qg2:=hide ((uh Qx1).next hr hg)
 clear hg hr X Rx1 Sx1 Bx0 Qx1
 have RGT:=hide (rg13S t2 w2)
 unfold Tk.v Tk.cs at RGT
 have X:=hide (uh RGT)
 go_wp2_with fail
 refine (uh X).mono ?_
 rintro r w3 ⟨rfl,hb⟩
 have Qx3:=hide ((uh Qg2).later hb)
 have Rx3:=hide (row_keep (uh Rx2) hb)
 have Sx3:=hide (Nat.lt_of_lt_of_le (uh Sx2) (hb).size)
 have Bxx3:=hide (row_keep (uh Bxx2) hb)
 clear hb X Qg2 Rx2 Sx2 Bxx2
 clear RGT
 generalize hrn:regN t2=rn at *
 have HRN:=hide hrn
 clear hrn
 have Qx4:=hide ((uh Qx3).rowG (uh BGx) #[.int .i64 3,.string ⟨#[]⟩,.int .i64 15,.int .i64 0,.int .i64 0,.int .i64 0,.int .i64 0,.string ⟨#[]⟩,.slice none 0 0,.int .i64 0,.int .i64 0,.int .i64 0,.int .i64 0,.string ⟨#[]⟩,.slice none 0 0,.int .i64 rn,.slice none 0 0])
 have Rx4:=hide ((setRow_other w3 gx w.heap.size #[.int .i64 3,.string ⟨#[]⟩,.int .i64 15,.int .i64 0,.int .i64 0,.int .i64 0,.int .i64 0,.string ⟨#[]⟩,.slice none 0 0,.int .i64 0,.int .i64 0,.int .i64 0,.int .i64 0,.string ⟨#[]⟩,.slice none 0 0,.int .i64 rn,.slice none 0 0] (Nat.ne_of_lt (uh BLx))).trans (uh Rx3))
 have Sx4:=hide ((show w.heap.size<((w3.setRow gx #[.int .i64 3,.string ⟨#[]⟩,.int .i64 15,.int .i64 0,.int .i64 0,.int .i64 0,.int .i64 0,.string ⟨#[]⟩,.slice none 0 0,.int .i64 0,.int .i64 0,.int .i64 0,.int .i64 0,.string ⟨#[]⟩,.slice none 0 0,.int .i64 rn,.slice none 0 0])).heap.size by rw [setRow_size];exact uh Sx3))
 have Bxx4:=hide ((show ((w3.setRow gx #[.int .i64 3,.string ⟨#[]⟩,.int .i64 15,.int .i64 0,.int .i64 0,.int .i64 0,.int .i64 0,.string ⟨#[]⟩,.slice none 0 0,.int .i64 0,.int .i64 0,.int .i64 0,.int .i64 0,.string ⟨#[]⟩,.slice none 0 0,.int .i64 rn,.slice none 0 0])).heap[gx]?=some (.cells #[.int .i64 3,.string ⟨#[]⟩,.int .i64 15,.int .i64 0,.int .i64 0,.int .i64 0,.int .i64 0,.string ⟨#[]⟩,.slice none 0 0,.int .i64 0,.int .i64 0,.int .i64 0,.int .i64 0,.string ⟨#[]⟩,.slice none 0 0,.int .i64 rn,.slice none 0 0] 30 (0,0)) from setRow_heap _ _ _ _ _ _ (uh Bxx3)))
 clear Qx3 Rx3 Sx3
 have OO5:=hide (must_out ts k2 b2 ⟨#[44]⟩)
 have X:=hide (mustS_any rb la cap ts k2 b2 ⟨#[44]⟩ (w3.setRow gx #[.int .i64 3,.string ⟨#[]⟩,.int .i64 15,.int .i64 0,.int .i64 0,.int .i64 0,.int .i64 0,.string ⟨#[]⟩,.slice none 0 0,.int .i64 0,.int .i64 0,.int .i64 0,.int .i64 0,.string ⟨#[]⟩,.slice none 0 0,.int .i64 rn,.slice none 0 0]) hl (uh Qx4).rz)
 generalize (if seeB ts k2 b2 ⟨#[44]⟩=true then k2+1 else k2)=k5 at OO5 X
 generalize (!seeB ts k2 b2 ⟨#[44]⟩)=b5 at OO5 X
 go_wp2_with (first|((with_reducible show wpList _ _ _ (⟨_,.store _ _ _,_,_,_,_⟩::_) _ _);refine wpList_store_cell rfl 3 _ _ rfl gx 15 (.int .i64 rn) rfl rfl 30 #[.int .i64 3,.string ⟨#[]⟩,.int .i64 15,.int .i64 0,.int .i64 0,.int .i64 0,.int .i64 0,.string ⟨#[]⟩,.slice none 0 0,.int .i64 0,.int .i64 0,.int .i64 0,.int .i64 0,.string ⟨#[]⟩,.slice none 0 0,.int .i64 0,.slice none 0 0] #[.int .i64 3,.string ⟨#[]⟩,.int .i64 15,.int .i64 0,.int .i64 0,.int .i64 0,.int .i64 0,.string ⟨#[]⟩,.slice none 0 0,.int .i64 0,.int .i64 0,.int .i64 0,.int .i64 0,.string ⟨#[]⟩,.slice none 0 0,.int .i64 rn,.slice none 0 0] (uh Bxx3) (by kernel_rfl) (by simp) rfl rfl rfl ?_))
 generalize (w3.setRow gx #[.int .i64 3,.string ⟨#[]⟩,.int .i64 15,.int .i64 0,.int .i64 0,.int .i64 0,.int .i64 0,.string ⟨#[]⟩,.slice none 0 0,.int .i64 0,.int .i64 0,.int .i64 0,.int .i64 0,.string ⟨#[]⟩,.slice none 0 0,.int .i64 rn,.slice none 0 0])=w4 at *
 clear Bxx3
 refine (uh X).mono ?_
 rintro r w5 ⟨rfl,hr,hg⟩
 have Rx5:=hide ((uh Qx4).blk hg (uh Rx4) (Nat.le_refl _))
 have Sx5:=hide (Nat.lt_of_lt_of_le (uh Sx4) (hg).size)
 have Bxx5:=hide ((uh Qx4).blk hg (uh Bxx4) (uh BGx))
 have Qg5:=hide ((uh Qx4).next hr hg)
 clear hg hr X Rx4 Sx4 Bxx4 Qx4
 have X:=hide (arg13S rb la cap ts k5 b5 w5 hl (uh Qg5).rz)
 unfold PlR at X
 go_wp2_with fail
 refine (uh X).mono ?_
 rintro r w6 ⟨a2,c2,c2p,k6,b6,rfl,hn,hr,hg,ho⟩
 have PM6:=hide (uh Sx5)
 have PBx6:=hide (show gx<w5.heap.size from (Array.getElem?_eq_some_iff.1 (uh Bxx5)).1)
 have Rx6:=hide ((uh Qg5).blk hg (uh Rx5) (Nat.le_refl _))
 have Bxx6:=hide ((uh Qg5).blk hg (uh Bxx5) (uh BGx))
 have Qg6:=hide ((uh Qg5).next hr hg)
 clear hg hr X Rx5 Sx5 Bxx5 Qg5
 have OO6:=hide ho
 have Nt26:=hide (hn).half
 clear hn ho
 unfold Ag.cs
 simp only
 have FA:=hide (fun w' h (h2:NewX w' w.heap.size a2.e c2)=>(show R (.returned (.agg #[.int .i64 3,.string ⟨#[]⟩,.int .i64 15,.int .i64 0,.int .i64 0,.int .i64 0,.int .i64 0,.string ⟨#[]⟩,.slice none 0 0,.int .i64 a2.f,.int .i64 a2.r,.int .i64 a2.e.k,.int .i64 a2.e.n,.string a2.e.s,.slice c2 a2.e.l.length c2p,.int .i64 rn,.slice none 0 0])) w' from uh FY ⟨3,⟨#[]⟩,15,a0,a2,rn,[]⟩ ⟨none,0,c2,c2p,none,0⟩ k6 b6 w' ⟨NewX.nil _ _ _ _ _ _,h2,NewX.nil _ _ _ _ _ _⟩ h (by rw [uh PE];refine (uh OO2).bind ?_;refine (uh OO5).bind ?_;refine (uh OO6).bind ?_;rw [uh HRN];exact OutG.ret _ _ _)))
 clear FY PE HRN
 have FE:=hide (fun w' h=>uh FA w' h)
 clear FA
 generalize a2.e.k=k2a at FE ⊢
 generalize a2.e.n=n2 at FE ⊢
 generalize a2.e.s=s2 at FE ⊢
 generalize a2.e.l.length=l2 at FE ⊢
 generalize a2.f=f2 at FE ⊢
 generalize a2.r=r2 at FE ⊢
 have Qx7:=hide ((uh Qg6).rowG (uh BGx) #[.int .i64 3,.string ⟨#[]⟩,.int .i64 15,.int .i64 0,.int .i64 0,.int .i64 0,.int .i64 0,.string ⟨#[]⟩,.slice none 0 0,.int .i64 f2,.int .i64 r2,.int .i64 k2a,.int .i64 n2,.string s2,.slice c2 l2 c2p,.int .i64 rn,.slice none 0 0])
 have Rx7:=hide ((setRow_other w6 gx w.heap.size #[.int .i64 3,.string ⟨#[]⟩,.int .i64 15,.int .i64 0,.int .i64 0,.int .i64 0,.int .i64 0,.string ⟨#[]⟩,.slice none 0 0,.int .i64 f2,.int .i64 r2,.int .i64 k2a,.int .i64 n2,.string s2,.slice c2 l2 c2p,.int .i64 rn,.slice none 0 0] (Nat.ne_of_lt (uh BLx))).trans (uh Rx6))
 have Bxx7:=hide ((show ((w6.setRow gx #[.int .i64 3,.string ⟨#[]⟩,.int .i64 15,.int .i64 0,.int .i64 0,.int .i64 0,.int .i64 0,.string ⟨#[]⟩,.slice none 0 0,.int .i64 f2,.int .i64 r2,.int .i64 k2a,.int .i64 n2,.string s2,.slice c2 l2 c2p,.int .i64 rn,.slice none 0 0])).heap[gx]?=some (.cells #[.int .i64 3,.string ⟨#[]⟩,.int .i64 15,.int .i64 0,.int .i64 0,.int .i64 0,.int .i64 0,.string ⟨#[]⟩,.slice none 0 0,.int .i64 f2,.int .i64 r2,.int .i64 k2a,.int .i64 n2,.string s2,.slice c2 l2 c2p,.int .i64 rn,.slice none 0 0] 30 (0,0)) from setRow_heap _ _ _ _ _ _ (uh Bxx6)))
 have Nxt27:=hide ((uh Nt26).drawn (grownBy_row #[.int .i64 3,.string ⟨#[]⟩,.int .i64 15,.int .i64 0,.int .i64 0,.int .i64 0,.int .i64 0,.string ⟨#[]⟩,.slice none 0 0,.int .i64 f2,.int .i64 r2,.int .i64 k2a,.int .i64 n2,.string s2,.slice c2 l2 c2p,.int .i64 rn,.slice none 0 0]) (uh PBx6))
 clear Qg6 Rx6 Nt26
 go_wp2_with (first|((with_reducible show wpList _ _ _ (⟨_,.store _ _ _,_,_,_,_⟩::_) _ _);refine wpList_store_part rfl 28 _ _ rfl gx 9 #[.int .i64 f2,.int .i64 r2,.int .i64 k2a,.int .i64 n2,.string s2,.slice c2 l2 c2p] rfl rfl 30 #[.int .i64 3,.string ⟨#[]⟩,.int .i64 15,.int .i64 0,.int .i64 0,.int .i64 0,.int .i64 0,.string ⟨#[]⟩,.slice none 0 0,.int .i64 0,.int .i64 0,.int .i64 0,.int .i64 0,.string ⟨#[]⟩,.slice none 0 0,.int .i64 rn,.slice none 0 0] #[.int .i64 3,.string ⟨#[]⟩,.int .i64 15,.int .i64 0,.int .i64 0,.int .i64 0,.int .i64 0,.string ⟨#[]⟩,.slice none 0 0,.int .i64 f2,.int .i64 r2,.int .i64 k2a,.int .i64 n2,.string s2,.slice c2 l2 c2p,.int .i64 rn,.slice none 0 0] (uh Bxx6) szAg (by simp) (ag_one _ _ _ _ _ _ _ _) rfl ?_)|((with_reducible show wpList _ _ _ (⟨_,.load _ _,_,_,_,_⟩::_) _ _);refine wpList_load_row rfl 30 _ rfl gx rfl 30 #[.int .i64 3,.string ⟨#[]⟩,.int .i64 15,.int .i64 0,.int .i64 0,.int .i64 0,.int .i64 0,.string ⟨#[]⟩,.slice none 0 0,.int .i64 f2,.int .i64 r2,.int .i64 k2a,.int .i64 n2,.string s2,.slice c2 l2 c2p,.int .i64 rn,.slice none 0 0] (0,0) _ (uh Bxx7) Tryz.underlying30 rfl (by kernel_rfl) ?_)|((with_reducible show wpList _ _ _ (⟨_,.store _ _ _,_,_,_,_⟩::_) _ _);refine wpList_store_row rfl 30 _ _ rfl w.heap.size #[.int .i64 3,.string ⟨#[]⟩,.int .i64 15,.int .i64 0,.int .i64 0,.int .i64 0,.int .i64 0,.string ⟨#[]⟩,.slice none 0 0,.int .i64 f2,.int .i64 r2,.int .i64 k2a,.int .i64 n2,.string s2,.slice c2 l2 c2p,.int .i64 rn,.slice none 0 0] rfl rfl 30 _ (uh Rx7) szLn rfl (by simp [Value.oneCell']) ?_))
 refine bodyPost_ret (results_cell_row (P:=Tryz.prog) rfl _ _ w.heap.size 30 #[.int .i64 3,.string ⟨#[]⟩,.int .i64 15,.int .i64 0,.int .i64 0,.int .i64 0,.int .i64 0,.string ⟨#[]⟩,.slice none 0 0,.int .i64 f2,.int .i64 r2,.int .i64 k2a,.int .i64 n2,.string s2,.slice c2 l2 c2p,.int .i64 rn,.slice none 0 0] (0,0) _ rfl (setRow_heap _ _ _ _ _ _ (uh Rx7)) Tryz.underlying30 rfl szLn) rfl ?_
 exact uh FE _ ((uh Qx7).rowG (Nat.le_refl _) _) (((uh Nxt27).drawn (grownBy_row _) (uh PM6)).new.lower (Nat.le_of_lt (uh PM6)))
theorem ins_term (op:Int) (h16:16<op) (h22:op≠22) (rb:Nat) (la:Option Addr) (cap:Nat) (ts:List Tk) (k:Nat) (bad:Bool) (w:World) (hl:ts.length≤1048576) (h:Rz w rb la cap ts k bad):Calls Tryz.prog 175 #[.pointer (some ⟨rb,0,none⟩),.int .i64 op] w (LnR (pIns op (ts.drop k)) rb la cap ts bad w):=by
 have PE:=hide (pIns_term (op:=op) (ts.drop k) h16 h22)
 have d0:decide (op≤6)=false:=decide_eq_false (by omega)
 have d1:decide (op≤14)=false:=decide_eq_false (by omega)
 have d2:(op == 15)=false:=beq_eq_false_iff_ne.2 (by omega)
 have d3:(op == 16)=false:=beq_eq_false_iff_ne.2 (by omega)
 have d4:(op == 22)=false:=beq_eq_false_iff_ne.2 h22
 have FY:=hide (fun (x:Ln) (p:La) k' bad' w' (hn:NwL w' w.heap.size x p) (h:Rq w w' rb la cap ts k' bad') (ho:OutG (pIns op (ts.drop k)) ts bad x k' bad')=>(show LnR (pIns op (ts.drop k)) rb la cap ts bad w (.returned (.agg (x.cs p))) w' from ⟨x,p,k',bad',rfl,hn,h.rz,h.gr,ho⟩))
 generalize LnR (pIns op (ts.drop k)) rb la cap ts bad w=R at *
 have hb0:=below_new w (.cells #[.int .i64 0,.string ⟨#[]⟩,.int .i64 0,.int .i64 0,.int .i64 0,.int .i64 0,.int .i64 0,.string ⟨#[]⟩,.slice none 0 0,.int .i64 0,.int .i64 0,.int .i64 0,.int .i64 0,.string ⟨#[]⟩,.slice none 0 0,.int .i64 0,.slice none 0 0] 30)
 have hg0:(w.alloc (.cells #[.int .i64 0,.string ⟨#[]⟩,.int .i64 0,.int .i64 0,.int .i64 0,.int .i64 0,.int .i64 0,.string ⟨#[]⟩,.slice none 0 0,.int .i64 0,.int .i64 0,.int .i64 0,.int .i64 0,.string ⟨#[]⟩,.slice none 0 0,.int .i64 0,.slice none 0 0] 30)).heap[w.heap.size]?=some (.cells #[.int .i64 0,.string ⟨#[]⟩,.int .i64 0,.int .i64 0,.int .i64 0,.int .i64 0,.int .i64 0,.string ⟨#[]⟩,.slice none 0 0,.int .i64 0,.int .i64 0,.int .i64 0,.int .i64 0,.string ⟨#[]⟩,.slice none 0 0,.int .i64 0,.slice none 0 0] 30 (0,0)):=Array.getElem?_push_size
 have hs0:w.heap.size<(w.alloc (.cells #[.int .i64 0,.string ⟨#[]⟩,.int .i64 0,.int .i64 0,.int .i64 0,.int .i64 0,.int .i64 0,.string ⟨#[]⟩,.slice none 0 0,.int .i64 0,.int .i64 0,.int .i64 0,.int .i64 0,.string ⟨#[]⟩,.slice none 0 0,.int .i64 0,.slice none 0 0] 30)).heap.size:=by simp
 obtain ⟨w0,hw0⟩:∃ w0,w.alloc (.cells #[.int .i64 0,.string ⟨#[]⟩,.int .i64 0,.int .i64 0,.int .i64 0,.int .i64 0,.int .i64 0,.string ⟨#[]⟩,.slice none 0 0,.int .i64 0,.int .i64 0,.int .i64 0,.int .i64 0,.string ⟨#[]⟩,.slice none 0 0,.int .i64 0,.slice none 0 0] 30)=w0:=⟨_,rfl⟩
 rw [hw0] at hb0 hg0 hs0
 have Q0:=hide (h.start.later hb0)
 have R0:=hide hg0
 have S0:=hide hs0
 clear h hb0 hg0 hs0
 go_enter Tryz.func175,Tryz.ntmps175
 have BGx:=hide (show w.heap.size≤w0.heap.size from Nat.le_of_lt (uh S0))
 have BLx:=hide (uh S0)
 have Qx1:=hide ((uh Q0).later (below_new w0 (.cells #[.int .i64 3,.string ⟨#[]⟩,.int .i64 op,.int .i64 0,.int .i64 0,.int .i64 0,.int .i64 0,.string ⟨#[]⟩,.slice none 0 0,.int .i64 0,.int .i64 0,.int .i64 0,.int .i64 0,.string ⟨#[]⟩,.slice none 0 0,.int .i64 0,.slice none 0 0] 30)))
 have Rx1:=hide (row_keep (uh R0) (below_new w0 (.cells #[.int .i64 3,.string ⟨#[]⟩,.int .i64 op,.int .i64 0,.int .i64 0,.int .i64 0,.int .i64 0,.string ⟨#[]⟩,.slice none 0 0,.int .i64 0,.int .i64 0,.int .i64 0,.int .i64 0,.string ⟨#[]⟩,.slice none 0 0,.int .i64 0,.slice none 0 0] 30)))
 have Sx1:=hide (Nat.lt_of_lt_of_le (uh S0) ((below_new w0 (.cells #[.int .i64 3,.string ⟨#[]⟩,.int .i64 op,.int .i64 0,.int .i64 0,.int .i64 0,.int .i64 0,.string ⟨#[]⟩,.slice none 0 0,.int .i64 0,.int .i64 0,.int .i64 0,.int .i64 0,.string ⟨#[]⟩,.slice none 0 0,.int .i64 0,.slice none 0 0] 30))).size)
 have Bx0:=hide (show (w0.alloc (.cells #[.int .i64 3,.string ⟨#[]⟩,.int .i64 op,.int .i64 0,.int .i64 0,.int .i64 0,.int .i64 0,.string ⟨#[]⟩,.slice none 0 0,.int .i64 0,.int .i64 0,.int .i64 0,.int .i64 0,.string ⟨#[]⟩,.slice none 0 0,.int .i64 0,.slice none 0 0] 30)).heap[w0.heap.size]?=some (.cells #[.int .i64 3,.string ⟨#[]⟩,.int .i64 op,.int .i64 0,.int .i64 0,.int .i64 0,.int .i64 0,.string ⟨#[]⟩,.slice none 0 0,.int .i64 0,.int .i64 0,.int .i64 0,.int .i64 0,.string ⟨#[]⟩,.slice none 0 0,.int .i64 0,.slice none 0 0] 30 (0,0)) from Array.getElem?_push_size)
 clear Q0 R0 S0
 have X:=hide (readS_6 1 rfl rb la cap ts k bad (w0.alloc (.cells #[.int .i64 3,.string ⟨#[]⟩,.int .i64 op,.int .i64 0,.int .i64 0,.int .i64 0,.int .i64 0,.string ⟨#[]⟩,.slice none 0 0,.int .i64 0,.int .i64 0,.int .i64 0,.int .i64 0,.string ⟨#[]⟩,.slice none 0 0,.int .i64 0,.slice none 0 0] 30)) hl (uh Qx1).rz)
 unfold RdR at X
 go_wp2_with fail
 generalize (w0.alloc (.cells #[.int .i64 3,.string ⟨#[]⟩,.int .i64 op,.int .i64 0,.int .i64 0,.int .i64 0,.int .i64 0,.string ⟨#[]⟩,.slice none 0 0,.int .i64 0,.int .i64 0,.int .i64 0,.int .i64 0,.string ⟨#[]⟩,.slice none 0 0,.int .i64 0,.slice none 0 0] 30))=w1 at *
 generalize w0.heap.size=gx at *
 refine (uh X).mono ?_
 rintro r w2 ⟨e3,c3,c3p,k2,b2,rfl,hn,hr,hg,ho⟩
 have PM2:=hide (uh Sx1)
 have PZ2:=hide hg.size
 have PBx2:=hide (show gx<w1.heap.size from (Array.getElem?_eq_some_iff.1 (uh Bx0)).1)
 have Rx2:=hide ((uh Qx1).blk hg (uh Rx1) (Nat.le_refl _))
 have Bxx2:=hide ((uh Qx1).blk hg (uh Bx0) (uh BGx))
 have Qg2:=hide ((uh Qx1).next hr hg)
 clear hg hr X Rx1 Sx1 Bx0 Qx1
 have OO2:=hide ho.g
 have Nt32:=hide (hn).half
 clear hn ho
 unfold Ex.cs
 simp only
 have FA:=hide (fun g w' h (h2:NewX w' w.heap.size ⟨0,0,E0,[e3]⟩ (some ⟨g,0,none⟩))=>(show R (.returned (.agg #[.int .i64 3,.string ⟨#[]⟩,.int .i64 op,.int .i64 0,.int .i64 0,.int .i64 0,.int .i64 0,.string ⟨#[]⟩,.slice none 0 0,.int .i64 0,.int .i64 0,.int .i64 0,.int .i64 0,.string ⟨#[]⟩,.slice none 0 0,.int .i64 0,.slice (some ⟨g,0,none⟩) 1 1])) w' from uh FY ⟨3,⟨#[]⟩,op,a0,a0,0,[e3]⟩ ⟨none,0,none,0,some ⟨g,0,none⟩,1⟩ k2 b2 w' ⟨NewX.nil _ _ _ _ _ _,NewX.nil _ _ _ _ _ _,h2⟩ h (by rw [uh PE];exact (uh OO2).bind (OutG.ret _ _ _))))
 clear FY PE
 have N3:=hide (uh Nt32).new
 have O3:=hide (fun W (h:NewX W w1.heap.size e3 c3) (hB:w1.heap.size≤W.heap.size)=>NewX.one (cp:=c3p) h hB 0 0 E0 26)
 generalize e3.k=kk at O3 ⊢
 generalize e3.n=nn at O3 ⊢
 generalize e3.s=ss at O3 ⊢
 generalize e3.l.length=ll at O3 ⊢
 have N4:=hide (show NewX ((w2.alloc (.cells #[.int .i64 kk,.int .i64 nn,.string ss,.slice c3 ll c3p] 26)).alloc (.cells #[.int .i64 kk,.int .i64 nn,.string ss,.slice c3 ll c3p] 26)) w1.heap.size ⟨0,0,E0,[e3]⟩ (some ⟨w2.heap.size+1,0,none⟩) from by
  have h1:(w2.alloc (.cells #[.int .i64 kk,.int .i64 nn,.string ss,.slice c3 ll c3p] 26)).heap.size=w2.heap.size+1:=by simp
  have:=uh O3 (w2.alloc (.cells #[.int .i64 kk,.int .i64 nn,.string ss,.slice c3 ll c3p] 26)) ((uh N3).later (below_new _ _)) (by rw [h1];have:=uh PZ2;omega)
  rw [h1] at this
  exact this)
 have PBX:=hide (uh PBx2)
 have PMX:=hide (uh PM2)
 clear N3 O3
 have Qx3:=hide ((uh Qg2).later (two_below w2 (.cells #[.int .i64 kk,.int .i64 nn,.string ss,.slice c3 ll c3p] 26) (.cells #[.int .i64 kk,.int .i64 nn,.string ss,.slice c3 ll c3p] 26)))
 have Rx3:=hide (row_keep (uh Rx2) (two_below w2 (.cells #[.int .i64 kk,.int .i64 nn,.string ss,.slice c3 ll c3p] 26) (.cells #[.int .i64 kk,.int .i64 nn,.string ss,.slice c3 ll c3p] 26)))
 have Bxx3:=hide (row_keep (uh Bxx2) (two_below w2 (.cells #[.int .i64 kk,.int .i64 nn,.string ss,.slice c3 ll c3p] 26) (.cells #[.int .i64 kk,.int .i64 nn,.string ss,.slice c3 ll c3p] 26)))
 clear Qg2 Rx2 Bxx2
 have Qx4:=hide ((uh Qx3).rowG (uh BGx) #[.int .i64 3,.string ⟨#[]⟩,.int .i64 op,.int .i64 0,.int .i64 0,.int .i64 0,.int .i64 0,.string ⟨#[]⟩,.slice none 0 0,.int .i64 0,.int .i64 0,.int .i64 0,.int .i64 0,.string ⟨#[]⟩,.slice none 0 0,.int .i64 0,.slice (some ⟨w2.heap.size+1,0,none⟩) 1 1])
 have Rx4:=hide ((setRow_other ((w2.alloc (.cells #[.int .i64 kk,.int .i64 nn,.string ss,.slice c3 ll c3p] 26)).alloc (.cells #[.int .i64 kk,.int .i64 nn,.string ss,.slice c3 ll c3p] 26)) gx w.heap.size #[.int .i64 3,.string ⟨#[]⟩,.int .i64 op,.int .i64 0,.int .i64 0,.int .i64 0,.int .i64 0,.string ⟨#[]⟩,.slice none 0 0,.int .i64 0,.int .i64 0,.int .i64 0,.int .i64 0,.string ⟨#[]⟩,.slice none 0 0,.int .i64 0,.slice (some ⟨w2.heap.size+1,0,none⟩) 1 1] (Nat.ne_of_lt (uh BLx))).trans (uh Rx3))
 have Bxx4:=hide ((show ((((w2.alloc (.cells #[.int .i64 kk,.int .i64 nn,.string ss,.slice c3 ll c3p] 26)).alloc (.cells #[.int .i64 kk,.int .i64 nn,.string ss,.slice c3 ll c3p] 26)).setRow gx #[.int .i64 3,.string ⟨#[]⟩,.int .i64 op,.int .i64 0,.int .i64 0,.int .i64 0,.int .i64 0,.string ⟨#[]⟩,.slice none 0 0,.int .i64 0,.int .i64 0,.int .i64 0,.int .i64 0,.string ⟨#[]⟩,.slice none 0 0,.int .i64 0,.slice (some ⟨w2.heap.size+1,0,none⟩) 1 1])).heap[gx]?=some (.cells #[.int .i64 3,.string ⟨#[]⟩,.int .i64 op,.int .i64 0,.int .i64 0,.int .i64 0,.int .i64 0,.string ⟨#[]⟩,.slice none 0 0,.int .i64 0,.int .i64 0,.int .i64 0,.int .i64 0,.string ⟨#[]⟩,.slice none 0 0,.int .i64 0,.slice (some ⟨w2.heap.size+1,0,none⟩) 1 1] 30 (0,0)) from setRow_heap _ _ _ _ _ _ (uh Bxx3)))
 clear Qx3 Rx3
 have FE:=hide (fun w' h h2=>uh FA (w2.heap.size+1) w' h h2)
 clear FA
 go_wp2_with (first|((with_reducible show wpList _ _ _ (⟨_,.store _ _ _,_,_,_,_⟩::_) _ _);refine wpList_store_cell rfl 24 _ _ rfl gx 16 (.slice (some ⟨w2.heap.size+1,0,none⟩) 1 1) rfl rfl 30 #[.int .i64 3,.string ⟨#[]⟩,.int .i64 op,.int .i64 0,.int .i64 0,.int .i64 0,.int .i64 0,.string ⟨#[]⟩,.slice none 0 0,.int .i64 0,.int .i64 0,.int .i64 0,.int .i64 0,.string ⟨#[]⟩,.slice none 0 0,.int .i64 0,.slice none 0 0] #[.int .i64 3,.string ⟨#[]⟩,.int .i64 op,.int .i64 0,.int .i64 0,.int .i64 0,.int .i64 0,.string ⟨#[]⟩,.slice none 0 0,.int .i64 0,.int .i64 0,.int .i64 0,.int .i64 0,.string ⟨#[]⟩,.slice none 0 0,.int .i64 0,.slice (some ⟨w2.heap.size+1,0,none⟩) 1 1] (uh Bxx3) (by kernel_rfl) (by simp) rfl rfl rfl ?_)|((with_reducible show wpList _ _ _ (⟨_,.load _ _,_,_,_,_⟩::_) _ _);refine wpList_load_row rfl 30 _ rfl gx rfl 30 #[.int .i64 3,.string ⟨#[]⟩,.int .i64 op,.int .i64 0,.int .i64 0,.int .i64 0,.int .i64 0,.string ⟨#[]⟩,.slice none 0 0,.int .i64 0,.int .i64 0,.int .i64 0,.int .i64 0,.string ⟨#[]⟩,.slice none 0 0,.int .i64 0,.slice (some ⟨w2.heap.size+1,0,none⟩) 1 1] (0,0) _ (uh Bxx4) Tryz.underlying30 rfl (by kernel_rfl) ?_)|((with_reducible show wpList _ _ _ (⟨_,.store _ _ _,_,_,_,_⟩::_) _ _);refine wpList_store_row rfl 30 _ _ rfl w.heap.size #[.int .i64 3,.string ⟨#[]⟩,.int .i64 op,.int .i64 0,.int .i64 0,.int .i64 0,.int .i64 0,.string ⟨#[]⟩,.slice none 0 0,.int .i64 0,.int .i64 0,.int .i64 0,.int .i64 0,.string ⟨#[]⟩,.slice none 0 0,.int .i64 0,.slice (some ⟨w2.heap.size+1,0,none⟩) 1 1] rfl rfl 30 _ (uh Rx4) szLn rfl (by simp [Value.oneCell']) ?_))
 refine bodyPost_ret (results_cell_row (P:=Tryz.prog) rfl _ _ w.heap.size 30 #[.int .i64 3,.string ⟨#[]⟩,.int .i64 op,.int .i64 0,.int .i64 0,.int .i64 0,.int .i64 0,.string ⟨#[]⟩,.slice none 0 0,.int .i64 0,.int .i64 0,.int .i64 0,.int .i64 0,.string ⟨#[]⟩,.slice none 0 0,.int .i64 0,.slice (some ⟨w2.heap.size+1,0,none⟩) 1 1] (0,0) _ rfl (setRow_heap _ _ _ _ _ _ (uh Rx4)) Tryz.underlying30 rfl szLn) rfl ?_
 exact uh FE _ ((uh Qx4).rowG (Nat.le_refl _) _) ((((uh N4).row _ (uh PBX)).row _ (uh PMX)).lower (Nat.le_of_lt (uh PMX)))
theorem ins13S (op:Int) (rb:Nat) (la:Option Addr) (cap:Nat) (ts:List Tk) (k:Nat) (bad:Bool) (w:World) (hl:ts.length≤1048576) (h:Rz w rb la cap ts k bad):Calls Tryz.prog 175 #[.pointer (some ⟨rb,0,none⟩),.int .i64 op] w (LnR (pIns op (ts.drop k)) rb la cap ts bad w):=by
 by_cases h6:op≤6
 · exact ins_two op h6 rb la cap ts k bad w hl h
 by_cases h14:op≤14
 · exact ins_one op h6 h14 rb la cap ts k bad w hl h
 by_cases h15:op=15
 · subst h15;exact ins_jsr rb la cap ts k bad w hl h
 by_cases h16:op=16
 · subst h16;exact ins_rts rb la cap ts k bad w hl h
 by_cases h22:op=22
 · subst h22;exact ins_halt rb la cap ts k bad w hl h
 · exact ins_term op (by omega) h22 rb la cap ts k bad w hl h
theorem eqL {s:ByteArray} {W:ByteArray} {l:List UInt8} (hl:W.toList=l):(s.toList == l)=eqS s W:=by rw [←hl];rfl
theorem tl_4:(⟨#[46,119,111,114,100]⟩:ByteArray).toList = [46,119,111,114,100]:=by rw [ByteArray.toList_eq]
theorem tl_5:(⟨#[46,98,108,107,119]⟩:ByteArray).toList = [46,98,108,107,119]:=by rw [ByteArray.toList_eq]
theorem tl_7:(⟨#[46,103,108,111,98,108]⟩:ByteArray).toList = [46,103,108,111,98,108]:=by rw [ByteArray.toList_eq]
theorem tl_8:(⟨#[46,101,110,100]⟩:ByteArray).toList = [46,101,110,100]:=by rw [ByteArray.toList_eq]
theorem tl_6:(⟨#[46,115,101,99,116]⟩:ByteArray).toList = [46,115,101,99,116]:=by rw [ByteArray.toList_eq]
theorem sect_yes {ts:List Tk} {k1 k2:Nat} {b1 b2:Bool} {x:ByteArray} (hs:seeB ts k1 b1 (mkS 44)=true) (h:OutG (pMs sOver (ts.drop (k1+1))) ts b1 () k2 b2):OutG (if seeM (ts.drop k1) 44=true then bnd (pMs sOver (ts.drop k1).tail) fun _ q=>some ((⟨6,x,0,a0,a0,1,[]⟩:Ln),q) else some (⟨6,x,0,a0,a0,0,[]⟩,ts.drop k1)) ts b1 ⟨6,x,0,a0,a0,1,[]⟩ k2 b2:=by
 obtain ⟨rfl,_,_⟩:=seeB_bad hs
 rw [see_M] at hs
 rw [if_pos hs,List.tail_drop]
 exact h.bind (OutG.ret _ _ _)
theorem sect_no {ts:List Tk} {k1:Nat} {b1:Bool} {x:ByteArray} (hs:seeB ts k1 b1 (mkS 44)=false):OutG (if seeM (ts.drop k1) 44=true then bnd (pMs sOver (ts.drop k1).tail) fun _ q=>some ((⟨6,x,0,a0,a0,1,[]⟩:Ln),q) else some (⟨6,x,0,a0,a0,0,[]⟩,ts.drop k1)) ts b1 ⟨6,x,0,a0,a0,0,[]⟩ k1 b1:=by
 cases b1 with
 | true => exact OutG.fail _ _ _ (fun h => absurd h (by decide))
 | false =>
  rw [see_M] at hs
  rw [if_neg (by rw [hs];decide)]
  exact OutG.ret _ _ _
theorem dot_4 (s:ByteArray)  (h4:eqS s ⟨#[46,119,111,114,100]⟩=true) (rb:Nat) (la:Option Addr) (cap:Nat) (ts:List Tk) (k:Nat) (bad:Bool) (w:World) (hl:ts.length≤1048576) (h:Rz w rb la cap ts k bad):Calls Tryz.prog 176 #[.pointer (some ⟨rb,0,none⟩),.string s] w (LnR (pDot s (ts.drop k)) rb la cap ts bad w):=by
 have d4:(s.toList == [46,119,111,114,100])=true:=(eqL tl_4).trans h4
 have PE:=hide (show pDot s (ts.drop k)=bnd (pLs (ts.drop k)) fun l q=>some (⟨4,⟨#[]⟩,0,a0,a0,0,l⟩,q) from by unfold pDot;rw [if_pos h4,pTms_eq])
 clear h4
 have FY:=hide (fun (x:Ln) (p:La) k' bad' w' (hn:NwL w' w.heap.size x p) (h:Rq w w' rb la cap ts k' bad') (ho:OutG (pDot s (ts.drop k)) ts bad x k' bad')=>(show LnR (pDot s (ts.drop k)) rb la cap ts bad w (.returned (.agg (x.cs p))) w' from ⟨x,p,k',bad',rfl,hn,h.rz,h.gr,ho⟩))
 generalize LnR (pDot s (ts.drop k)) rb la cap ts bad w=R at *
 have hb0:=below_new w (.cells #[.int .i64 0,.string ⟨#[]⟩,.int .i64 0,.int .i64 0,.int .i64 0,.int .i64 0,.int .i64 0,.string ⟨#[]⟩,.slice none 0 0,.int .i64 0,.int .i64 0,.int .i64 0,.int .i64 0,.string ⟨#[]⟩,.slice none 0 0,.int .i64 0,.slice none 0 0] 30)
 have hg0:(w.alloc (.cells #[.int .i64 0,.string ⟨#[]⟩,.int .i64 0,.int .i64 0,.int .i64 0,.int .i64 0,.int .i64 0,.string ⟨#[]⟩,.slice none 0 0,.int .i64 0,.int .i64 0,.int .i64 0,.int .i64 0,.string ⟨#[]⟩,.slice none 0 0,.int .i64 0,.slice none 0 0] 30)).heap[w.heap.size]?=some (.cells #[.int .i64 0,.string ⟨#[]⟩,.int .i64 0,.int .i64 0,.int .i64 0,.int .i64 0,.int .i64 0,.string ⟨#[]⟩,.slice none 0 0,.int .i64 0,.int .i64 0,.int .i64 0,.int .i64 0,.string ⟨#[]⟩,.slice none 0 0,.int .i64 0,.slice none 0 0] 30 (0,0)):=Array.getElem?_push_size
 have hs0:w.heap.size<(w.alloc (.cells #[.int .i64 0,.string ⟨#[]⟩,.int .i64 0,.int .i64 0,.int .i64 0,.int .i64 0,.int .i64 0,.string ⟨#[]⟩,.slice none 0 0,.int .i64 0,.int .i64 0,.int .i64 0,.int .i64 0,.string ⟨#[]⟩,.slice none 0 0,.int .i64 0,.slice none 0 0] 30)).heap.size:=by simp
 obtain ⟨w0,hw0⟩:∃ w0,w.alloc (.cells #[.int .i64 0,.string ⟨#[]⟩,.int .i64 0,.int .i64 0,.int .i64 0,.int .i64 0,.int .i64 0,.string ⟨#[]⟩,.slice none 0 0,.int .i64 0,.int .i64 0,.int .i64 0,.int .i64 0,.string ⟨#[]⟩,.slice none 0 0,.int .i64 0,.slice none 0 0] 30)=w0:=⟨_,rfl⟩
 rw [hw0] at hb0 hg0 hs0
 have Q0:=hide (h.start.later hb0)
 have R0:=hide hg0
 have S0:=hide hs0
 clear h hb0 hg0 hs0
 go_enter Tryz.func176,Tryz.ntmps176
 have X:=hide (lst13S rb la cap ts k bad w0 hl (uh Q0).rz)
 unfold LsR at X
 go_wp2_with fail
 refine (uh X).mono ?_
 rintro r w1 ⟨l3,c3,c3p,k1,b1,rfl,hn,hr,hg,ho⟩
 have PM1:=hide (uh S0)
 have Rx1:=hide ((uh Q0).blk hg (uh R0) (Nat.le_refl _))
 have Qg1:=hide ((uh Q0).next hr hg)
 clear hg hr X R0 S0 Q0
 have OO1:=hide ho
 have Nt31:=hide (hn).half
 clear hn ho
 have FA:=hide (fun w' h (h2:NewX w' w.heap.size ⟨0,0,E0,l3⟩ c3)=>(show R (.returned (.agg #[.int .i64 4,.string ⟨#[]⟩,.int .i64 0,.int .i64 0,.int .i64 0,.int .i64 0,.int .i64 0,.string ⟨#[]⟩,.slice none 0 0,.int .i64 0,.int .i64 0,.int .i64 0,.int .i64 0,.string ⟨#[]⟩,.slice none 0 0,.int .i64 0,.slice c3 l3.length c3p])) w' from uh FY ⟨4,⟨#[]⟩,0,a0,a0,0,l3⟩ ⟨none,0,none,0,c3,c3p⟩ k1 b1 w' ⟨NewX.nil _ _ _ _ _ _,NewX.nil _ _ _ _ _ _,h2⟩ h (by rw [uh PE];exact (uh OO1).bind (OutG.ret _ _ _))))
 clear FY PE
 have FE:=hide (fun w' h=>uh FA w' h)
 clear FA
 generalize l3.length=ll at FE ⊢
 go_wp2_with (first|((with_reducible show wpList _ _ _ (⟨_,.store _ _ _,_,_,_,_⟩::_) _ _);refine wpList_store_row rfl 30 _ _ rfl w.heap.size #[.int .i64 4,.string ⟨#[]⟩,.int .i64 0,.int .i64 0,.int .i64 0,.int .i64 0,.int .i64 0,.string ⟨#[]⟩,.slice none 0 0,.int .i64 0,.int .i64 0,.int .i64 0,.int .i64 0,.string ⟨#[]⟩,.slice none 0 0,.int .i64 0,.slice c3 ll c3p] rfl rfl 30 _ (uh Rx1) szLn rfl (by simp [Value.oneCell']) ?_))
 refine bodyPost_ret (results_cell_row (P:=Tryz.prog) rfl _ _ w.heap.size 30 #[.int .i64 4,.string ⟨#[]⟩,.int .i64 0,.int .i64 0,.int .i64 0,.int .i64 0,.int .i64 0,.string ⟨#[]⟩,.slice none 0 0,.int .i64 0,.int .i64 0,.int .i64 0,.int .i64 0,.string ⟨#[]⟩,.slice none 0 0,.int .i64 0,.slice c3 ll c3p] (0,0) _ rfl (setRow_heap _ _ _ _ _ _ (uh Rx1)) Tryz.underlying30 rfl szLn) rfl ?_
 exact uh FE _ ((uh Qg1).rowG (Nat.le_refl _) _) (((uh Nt31).drawn (grownBy_row _) (uh PM1)).new.lower (Nat.le_of_lt (uh PM1)))
theorem dot_8 (s:ByteArray)  (h4:eqS s ⟨#[46,119,111,114,100]⟩=false) (h5:eqS s ⟨#[46,98,108,107,119]⟩=false) (h7:eqS s ⟨#[46,103,108,111,98,108]⟩=false) (h8:eqS s ⟨#[46,101,110,100]⟩=true) (rb:Nat) (la:Option Addr) (cap:Nat) (ts:List Tk) (k:Nat) (bad:Bool) (w:World) (hl:ts.length≤1048576) (h:Rz w rb la cap ts k bad):Calls Tryz.prog 176 #[.pointer (some ⟨rb,0,none⟩),.string s] w (LnR (pDot s (ts.drop k)) rb la cap ts bad w):=by
 have d4:(s.toList == [46,119,111,114,100])=false:=(eqL tl_4).trans h4
 have d5:(s.toList == [46,98,108,107,119])=false:=(eqL tl_5).trans h5
 have d7:(s.toList == [46,103,108,111,98,108])=false:=(eqL tl_7).trans h7
 have d8:(s.toList == [46,101,110,100])=true:=(eqL tl_8).trans h8
 have PE:=hide (show pDot s (ts.drop k)=some (⟨8,⟨#[]⟩,0,a0,a0,0,[]⟩,ts.drop k) from by unfold pDot;rw [if_neg (by rw [h4];decide),if_neg (by rw [h5];decide),if_neg (by rw [h7];decide),if_pos h8])
 clear h4 h5 h7 h8
 have FY:=hide (fun (x:Ln) (p:La) k' bad' w' (hn:NwL w' w.heap.size x p) (h:Rq w w' rb la cap ts k' bad') (ho:OutG (pDot s (ts.drop k)) ts bad x k' bad')=>(show LnR (pDot s (ts.drop k)) rb la cap ts bad w (.returned (.agg (x.cs p))) w' from ⟨x,p,k',bad',rfl,hn,h.rz,h.gr,ho⟩))
 generalize LnR (pDot s (ts.drop k)) rb la cap ts bad w=R at *
 have hb0:=below_new w (.cells #[.int .i64 0,.string ⟨#[]⟩,.int .i64 0,.int .i64 0,.int .i64 0,.int .i64 0,.int .i64 0,.string ⟨#[]⟩,.slice none 0 0,.int .i64 0,.int .i64 0,.int .i64 0,.int .i64 0,.string ⟨#[]⟩,.slice none 0 0,.int .i64 0,.slice none 0 0] 30)
 have hg0:(w.alloc (.cells #[.int .i64 0,.string ⟨#[]⟩,.int .i64 0,.int .i64 0,.int .i64 0,.int .i64 0,.int .i64 0,.string ⟨#[]⟩,.slice none 0 0,.int .i64 0,.int .i64 0,.int .i64 0,.int .i64 0,.string ⟨#[]⟩,.slice none 0 0,.int .i64 0,.slice none 0 0] 30)).heap[w.heap.size]?=some (.cells #[.int .i64 0,.string ⟨#[]⟩,.int .i64 0,.int .i64 0,.int .i64 0,.int .i64 0,.int .i64 0,.string ⟨#[]⟩,.slice none 0 0,.int .i64 0,.int .i64 0,.int .i64 0,.int .i64 0,.string ⟨#[]⟩,.slice none 0 0,.int .i64 0,.slice none 0 0] 30 (0,0)):=Array.getElem?_push_size
 have hs0:w.heap.size<(w.alloc (.cells #[.int .i64 0,.string ⟨#[]⟩,.int .i64 0,.int .i64 0,.int .i64 0,.int .i64 0,.int .i64 0,.string ⟨#[]⟩,.slice none 0 0,.int .i64 0,.int .i64 0,.int .i64 0,.int .i64 0,.string ⟨#[]⟩,.slice none 0 0,.int .i64 0,.slice none 0 0] 30)).heap.size:=by simp
 obtain ⟨w0,hw0⟩:∃ w0,w.alloc (.cells #[.int .i64 0,.string ⟨#[]⟩,.int .i64 0,.int .i64 0,.int .i64 0,.int .i64 0,.int .i64 0,.string ⟨#[]⟩,.slice none 0 0,.int .i64 0,.int .i64 0,.int .i64 0,.int .i64 0,.string ⟨#[]⟩,.slice none 0 0,.int .i64 0,.slice none 0 0] 30)=w0:=⟨_,rfl⟩
 rw [hw0] at hb0 hg0 hs0
 have Q0:=hide (h.start.later hb0)
 have R0:=hide hg0
 clear h hb0 hg0 hs0
 go_enter Tryz.func176,Tryz.ntmps176
 have FE:=hide (fun w' h=>(show R (.returned (.agg #[.int .i64 8,.string ⟨#[]⟩,.int .i64 0,.int .i64 0,.int .i64 0,.int .i64 0,.int .i64 0,.string ⟨#[]⟩,.slice none 0 0,.int .i64 0,.int .i64 0,.int .i64 0,.int .i64 0,.string ⟨#[]⟩,.slice none 0 0,.int .i64 0,.slice none 0 0])) w' from uh FY ⟨8,⟨#[]⟩,0,a0,a0,0,[]⟩ ⟨none,0,none,0,none,0⟩ k bad w' (NwL.nil _ _ _ _ _ _ _) h (by rw [uh PE];exact OutG.ret _ _ _)))
 clear FY PE
 go_wp2_with (first|((with_reducible show wpList _ _ _ (⟨_,.store _ _ _,_,_,_,_⟩::_) _ _);refine wpList_store_row rfl 30 _ _ rfl w.heap.size #[.int .i64 8,.string ⟨#[]⟩,.int .i64 0,.int .i64 0,.int .i64 0,.int .i64 0,.int .i64 0,.string ⟨#[]⟩,.slice none 0 0,.int .i64 0,.int .i64 0,.int .i64 0,.int .i64 0,.string ⟨#[]⟩,.slice none 0 0,.int .i64 0,.slice none 0 0] rfl rfl 30 _ (uh R0) szLn rfl (by simp [Value.oneCell']) ?_))
 refine bodyPost_ret (results_cell_row (P:=Tryz.prog) rfl _ _ w.heap.size 30 #[.int .i64 8,.string ⟨#[]⟩,.int .i64 0,.int .i64 0,.int .i64 0,.int .i64 0,.int .i64 0,.string ⟨#[]⟩,.slice none 0 0,.int .i64 0,.int .i64 0,.int .i64 0,.int .i64 0,.string ⟨#[]⟩,.slice none 0 0,.int .i64 0,.slice none 0 0] (0,0) _ rfl (setRow_heap _ _ _ _ _ _ (uh R0)) Tryz.underlying30 rfl szLn) rfl ?_
 exact uh FE _ ((uh Q0).rowG (Nat.le_refl _) _)
theorem dot_5 (s:ByteArray)  (h4:eqS s ⟨#[46,119,111,114,100]⟩=false) (h5:eqS s ⟨#[46,98,108,107,119]⟩=true) (rb:Nat) (la:Option Addr) (cap:Nat) (ts:List Tk) (k:Nat) (bad:Bool) (w:World) (hl:ts.length≤1048576) (h:Rz w rb la cap ts k bad):Calls Tryz.prog 176 #[.pointer (some ⟨rb,0,none⟩),.string s] w (LnR (pDot s (ts.drop k)) rb la cap ts bad w):=by
 have d4:(s.toList == [46,119,111,114,100])=false:=(eqL tl_4).trans h4
 have d5:(s.toList == [46,98,108,107,119])=true:=(eqL tl_5).trans h5
 have PE:=hide (show pDot s (ts.drop k)=bnd (pLs (ts.drop k)) fun l q=>some (⟨5,⟨#[]⟩,0,a0,a0,0,l⟩,q) from by unfold pDot;rw [if_neg (by rw [h4];decide),if_pos h5,pTms_eq])
 clear h4 h5
 have FY:=hide (fun (x:Ln) (p:La) k' bad' w' (hn:NwL w' w.heap.size x p) (h:Rq w w' rb la cap ts k' bad') (ho:OutG (pDot s (ts.drop k)) ts bad x k' bad')=>(show LnR (pDot s (ts.drop k)) rb la cap ts bad w (.returned (.agg (x.cs p))) w' from ⟨x,p,k',bad',rfl,hn,h.rz,h.gr,ho⟩))
 generalize LnR (pDot s (ts.drop k)) rb la cap ts bad w=R at *
 have hb0:=below_new w (.cells #[.int .i64 0,.string ⟨#[]⟩,.int .i64 0,.int .i64 0,.int .i64 0,.int .i64 0,.int .i64 0,.string ⟨#[]⟩,.slice none 0 0,.int .i64 0,.int .i64 0,.int .i64 0,.int .i64 0,.string ⟨#[]⟩,.slice none 0 0,.int .i64 0,.slice none 0 0] 30)
 have hg0:(w.alloc (.cells #[.int .i64 0,.string ⟨#[]⟩,.int .i64 0,.int .i64 0,.int .i64 0,.int .i64 0,.int .i64 0,.string ⟨#[]⟩,.slice none 0 0,.int .i64 0,.int .i64 0,.int .i64 0,.int .i64 0,.string ⟨#[]⟩,.slice none 0 0,.int .i64 0,.slice none 0 0] 30)).heap[w.heap.size]?=some (.cells #[.int .i64 0,.string ⟨#[]⟩,.int .i64 0,.int .i64 0,.int .i64 0,.int .i64 0,.int .i64 0,.string ⟨#[]⟩,.slice none 0 0,.int .i64 0,.int .i64 0,.int .i64 0,.int .i64 0,.string ⟨#[]⟩,.slice none 0 0,.int .i64 0,.slice none 0 0] 30 (0,0)):=Array.getElem?_push_size
 have hs0:w.heap.size<(w.alloc (.cells #[.int .i64 0,.string ⟨#[]⟩,.int .i64 0,.int .i64 0,.int .i64 0,.int .i64 0,.int .i64 0,.string ⟨#[]⟩,.slice none 0 0,.int .i64 0,.int .i64 0,.int .i64 0,.int .i64 0,.string ⟨#[]⟩,.slice none 0 0,.int .i64 0,.slice none 0 0] 30)).heap.size:=by simp
 obtain ⟨w0,hw0⟩:∃ w0,w.alloc (.cells #[.int .i64 0,.string ⟨#[]⟩,.int .i64 0,.int .i64 0,.int .i64 0,.int .i64 0,.int .i64 0,.string ⟨#[]⟩,.slice none 0 0,.int .i64 0,.int .i64 0,.int .i64 0,.int .i64 0,.string ⟨#[]⟩,.slice none 0 0,.int .i64 0,.slice none 0 0] 30)=w0:=⟨_,rfl⟩
 rw [hw0] at hb0 hg0 hs0
 have Q0:=hide (h.start.later hb0)
 have R0:=hide hg0
 have S0:=hide hs0
 clear h hb0 hg0 hs0
 go_enter Tryz.func176,Tryz.ntmps176
 have X:=hide (lst13S rb la cap ts k bad w0 hl (uh Q0).rz)
 unfold LsR at X
 go_wp2_with fail
 refine (uh X).mono ?_
 rintro r w1 ⟨l3,c3,c3p,k1,b1,rfl,hn,hr,hg,ho⟩
 have PM1:=hide (uh S0)
 have Rx1:=hide ((uh Q0).blk hg (uh R0) (Nat.le_refl _))
 have Qg1:=hide ((uh Q0).next hr hg)
 clear hg hr X R0 S0 Q0
 have OO1:=hide ho
 have Nt31:=hide (hn).half
 clear hn ho
 have FA:=hide (fun w' h (h2:NewX w' w.heap.size ⟨0,0,E0,l3⟩ c3)=>(show R (.returned (.agg #[.int .i64 5,.string ⟨#[]⟩,.int .i64 0,.int .i64 0,.int .i64 0,.int .i64 0,.int .i64 0,.string ⟨#[]⟩,.slice none 0 0,.int .i64 0,.int .i64 0,.int .i64 0,.int .i64 0,.string ⟨#[]⟩,.slice none 0 0,.int .i64 0,.slice c3 l3.length c3p])) w' from uh FY ⟨5,⟨#[]⟩,0,a0,a0,0,l3⟩ ⟨none,0,none,0,c3,c3p⟩ k1 b1 w' ⟨NewX.nil _ _ _ _ _ _,NewX.nil _ _ _ _ _ _,h2⟩ h (by rw [uh PE];exact (uh OO1).bind (OutG.ret _ _ _))))
 clear FY PE
 have FE:=hide (fun w' h=>uh FA w' h)
 clear FA
 generalize l3.length=ll at FE ⊢
 go_wp2_with (first|((with_reducible show wpList _ _ _ (⟨_,.store _ _ _,_,_,_,_⟩::_) _ _);refine wpList_store_row rfl 30 _ _ rfl w.heap.size #[.int .i64 5,.string ⟨#[]⟩,.int .i64 0,.int .i64 0,.int .i64 0,.int .i64 0,.int .i64 0,.string ⟨#[]⟩,.slice none 0 0,.int .i64 0,.int .i64 0,.int .i64 0,.int .i64 0,.string ⟨#[]⟩,.slice none 0 0,.int .i64 0,.slice c3 ll c3p] rfl rfl 30 _ (uh Rx1) szLn rfl (by simp [Value.oneCell']) ?_))
 refine bodyPost_ret (results_cell_row (P:=Tryz.prog) rfl _ _ w.heap.size 30 #[.int .i64 5,.string ⟨#[]⟩,.int .i64 0,.int .i64 0,.int .i64 0,.int .i64 0,.int .i64 0,.string ⟨#[]⟩,.slice none 0 0,.int .i64 0,.int .i64 0,.int .i64 0,.int .i64 0,.string ⟨#[]⟩,.slice none 0 0,.int .i64 0,.slice c3 ll c3p] (0,0) _ rfl (setRow_heap _ _ _ _ _ _ (uh Rx1)) Tryz.underlying30 rfl szLn) rfl ?_
 exact uh FE _ ((uh Qg1).rowG (Nat.le_refl _) _) (((uh Nt31).drawn (grownBy_row _) (uh PM1)).new.lower (Nat.le_of_lt (uh PM1)))
theorem dot_0 (s:ByteArray)  (h4:eqS s ⟨#[46,119,111,114,100]⟩=false) (h5:eqS s ⟨#[46,98,108,107,119]⟩=false) (h7:eqS s ⟨#[46,103,108,111,98,108]⟩=false) (h8:eqS s ⟨#[46,101,110,100]⟩=false) (h6:eqS s ⟨#[46,115,101,99,116]⟩=false) (rb:Nat) (la:Option Addr) (cap:Nat) (ts:List Tk) (k:Nat) (bad:Bool) (w:World) (hl:ts.length≤1048576) (h:Rz w rb la cap ts k bad):Calls Tryz.prog 176 #[.pointer (some ⟨rb,0,none⟩),.string s] w (LnR (pDot s (ts.drop k)) rb la cap ts bad w):=by
 have d4:(s.toList == [46,119,111,114,100])=false:=(eqL tl_4).trans h4
 have d5:(s.toList == [46,98,108,107,119])=false:=(eqL tl_5).trans h5
 have d7:(s.toList == [46,103,108,111,98,108])=false:=(eqL tl_7).trans h7
 have d8:(s.toList == [46,101,110,100])=false:=(eqL tl_8).trans h8
 have d6:(s.toList == [46,115,101,99,116])=false:=(eqL tl_6).trans h6
 have PE:=hide (show pDot s (ts.drop k)=none from by unfold pDot;rw [if_neg (by rw [h4];decide),if_neg (by rw [h5];decide),if_neg (by rw [h7];decide),if_neg (by rw [h8];decide),if_neg (by rw [h6];decide)])
 clear h4 h5 h7 h8 h6
 have FY:=hide (fun (x:Ln) (p:La) k' bad' w' (hn:NwL w' w.heap.size x p) (h:Rq w w' rb la cap ts k' bad') (ho:OutG (pDot s (ts.drop k)) ts bad x k' bad')=>(show LnR (pDot s (ts.drop k)) rb la cap ts bad w (.returned (.agg (x.cs p))) w' from ⟨x,p,k',bad',rfl,hn,h.rz,h.gr,ho⟩))
 generalize LnR (pDot s (ts.drop k)) rb la cap ts bad w=R at *
 have hb0:=below_new w (.cells #[.int .i64 0,.string ⟨#[]⟩,.int .i64 0,.int .i64 0,.int .i64 0,.int .i64 0,.int .i64 0,.string ⟨#[]⟩,.slice none 0 0,.int .i64 0,.int .i64 0,.int .i64 0,.int .i64 0,.string ⟨#[]⟩,.slice none 0 0,.int .i64 0,.slice none 0 0] 30)
 have hg0:(w.alloc (.cells #[.int .i64 0,.string ⟨#[]⟩,.int .i64 0,.int .i64 0,.int .i64 0,.int .i64 0,.int .i64 0,.string ⟨#[]⟩,.slice none 0 0,.int .i64 0,.int .i64 0,.int .i64 0,.int .i64 0,.string ⟨#[]⟩,.slice none 0 0,.int .i64 0,.slice none 0 0] 30)).heap[w.heap.size]?=some (.cells #[.int .i64 0,.string ⟨#[]⟩,.int .i64 0,.int .i64 0,.int .i64 0,.int .i64 0,.int .i64 0,.string ⟨#[]⟩,.slice none 0 0,.int .i64 0,.int .i64 0,.int .i64 0,.int .i64 0,.string ⟨#[]⟩,.slice none 0 0,.int .i64 0,.slice none 0 0] 30 (0,0)):=Array.getElem?_push_size
 have hs0:w.heap.size<(w.alloc (.cells #[.int .i64 0,.string ⟨#[]⟩,.int .i64 0,.int .i64 0,.int .i64 0,.int .i64 0,.int .i64 0,.string ⟨#[]⟩,.slice none 0 0,.int .i64 0,.int .i64 0,.int .i64 0,.int .i64 0,.string ⟨#[]⟩,.slice none 0 0,.int .i64 0,.slice none 0 0] 30)).heap.size:=by simp
 obtain ⟨w0,hw0⟩:∃ w0,w.alloc (.cells #[.int .i64 0,.string ⟨#[]⟩,.int .i64 0,.int .i64 0,.int .i64 0,.int .i64 0,.int .i64 0,.string ⟨#[]⟩,.slice none 0 0,.int .i64 0,.int .i64 0,.int .i64 0,.int .i64 0,.string ⟨#[]⟩,.slice none 0 0,.int .i64 0,.slice none 0 0] 30)=w0:=⟨_,rfl⟩
 rw [hw0] at hb0 hg0 hs0
 have Q0:=hide (h.start.later hb0)
 have R0:=hide hg0
 clear h hb0 hg0 hs0
 go_enter Tryz.func176,Tryz.ntmps176
 have FE:=hide (fun w' h=>(show R (.returned (.agg #[.int .i64 0,.string ⟨#[]⟩,.int .i64 0,.int .i64 0,.int .i64 0,.int .i64 0,.int .i64 0,.string ⟨#[]⟩,.slice none 0 0,.int .i64 0,.int .i64 0,.int .i64 0,.int .i64 0,.string ⟨#[]⟩,.slice none 0 0,.int .i64 0,.slice none 0 0])) w' from uh FY ⟨0,⟨#[]⟩,0,a0,a0,0,[]⟩ ⟨none,0,none,0,none,0⟩ k true w' (NwL.nil _ _ _ _ _ _ _) h (OutG.fail _ _ _ (fun _=>uh PE))))
 clear FY PE
 have c2:=(uh Q0).rz.cells.2.2
 have f2:=(uh Q0).rz.frz 2
 have QB:=hide ((uh Q0).next ((uh Q0).rz.setB true) (grownBy_set _))
 have RB:=hide ((heap_setCell_other w0 ⟨rb,2,none⟩ w.heap.size (.bool true) (by have:=(uh Q0).lt;simp;omega)).trans (uh R0))
 clear Q0 R0
 go_wp2_with (first|((with_reducible show wpList _ _ _ (⟨_,.store _ _ _,_,_,_,_⟩::_) _ _);refine wpList_store_row rfl 30 _ _ rfl w.heap.size #[.int .i64 0,.string ⟨#[]⟩,.int .i64 0,.int .i64 0,.int .i64 0,.int .i64 0,.int .i64 0,.string ⟨#[]⟩,.slice none 0 0,.int .i64 0,.int .i64 0,.int .i64 0,.int .i64 0,.string ⟨#[]⟩,.slice none 0 0,.int .i64 0,.slice none 0 0] rfl rfl 30 _ (uh RB) szLn rfl (by simp [Value.oneCell']) ?_))
 refine bodyPost_ret (results_cell_row (P:=Tryz.prog) rfl _ _ w.heap.size 30 #[.int .i64 0,.string ⟨#[]⟩,.int .i64 0,.int .i64 0,.int .i64 0,.int .i64 0,.int .i64 0,.string ⟨#[]⟩,.slice none 0 0,.int .i64 0,.int .i64 0,.int .i64 0,.int .i64 0,.string ⟨#[]⟩,.slice none 0 0,.int .i64 0,.slice none 0 0] (0,0) _ rfl (setRow_heap _ _ _ _ _ _ (uh RB)) Tryz.underlying30 rfl szLn) rfl ?_
 exact uh FE _ ((uh QB).rowG (Nat.le_refl _) _)
theorem dot_7 (s:ByteArray)  (h4:eqS s ⟨#[46,119,111,114,100]⟩=false) (h5:eqS s ⟨#[46,98,108,107,119]⟩=false) (h7:eqS s ⟨#[46,103,108,111,98,108]⟩=true) (rb:Nat) (la:Option Addr) (cap:Nat) (ts:List Tk) (k:Nat) (bad:Bool) (w:World) (hl:ts.length≤1048576) (h:Rz w rb la cap ts k bad):Calls Tryz.prog 176 #[.pointer (some ⟨rb,0,none⟩),.string s] w (LnR (pDot s (ts.drop k)) rb la cap ts bad w):=by
 have d4:(s.toList == [46,119,111,114,100])=false:=(eqL tl_4).trans h4
 have d5:(s.toList == [46,98,108,107,119])=false:=(eqL tl_5).trans h5
 have d7:(s.toList == [46,103,108,111,98,108])=true:=(eqL tl_7).trans h7
 have PE:=hide (show pDot s (ts.drop k)=bnd (pLs (ts.drop k)) fun l q=>some (⟨7,⟨#[]⟩,0,a0,a0,0,l⟩,q) from by unfold pDot;rw [if_neg (by rw [h4];decide),if_neg (by rw [h5];decide),if_pos h7,pTms_eq])
 clear h4 h5 h7
 have FY:=hide (fun (x:Ln) (p:La) k' bad' w' (hn:NwL w' w.heap.size x p) (h:Rq w w' rb la cap ts k' bad') (ho:OutG (pDot s (ts.drop k)) ts bad x k' bad')=>(show LnR (pDot s (ts.drop k)) rb la cap ts bad w (.returned (.agg (x.cs p))) w' from ⟨x,p,k',bad',rfl,hn,h.rz,h.gr,ho⟩))
 generalize LnR (pDot s (ts.drop k)) rb la cap ts bad w=R at *
 have hb0:=below_new w (.cells #[.int .i64 0,.string ⟨#[]⟩,.int .i64 0,.int .i64 0,.int .i64 0,.int .i64 0,.int .i64 0,.string ⟨#[]⟩,.slice none 0 0,.int .i64 0,.int .i64 0,.int .i64 0,.int .i64 0,.string ⟨#[]⟩,.slice none 0 0,.int .i64 0,.slice none 0 0] 30)
 have hg0:(w.alloc (.cells #[.int .i64 0,.string ⟨#[]⟩,.int .i64 0,.int .i64 0,.int .i64 0,.int .i64 0,.int .i64 0,.string ⟨#[]⟩,.slice none 0 0,.int .i64 0,.int .i64 0,.int .i64 0,.int .i64 0,.string ⟨#[]⟩,.slice none 0 0,.int .i64 0,.slice none 0 0] 30)).heap[w.heap.size]?=some (.cells #[.int .i64 0,.string ⟨#[]⟩,.int .i64 0,.int .i64 0,.int .i64 0,.int .i64 0,.int .i64 0,.string ⟨#[]⟩,.slice none 0 0,.int .i64 0,.int .i64 0,.int .i64 0,.int .i64 0,.string ⟨#[]⟩,.slice none 0 0,.int .i64 0,.slice none 0 0] 30 (0,0)):=Array.getElem?_push_size
 have hs0:w.heap.size<(w.alloc (.cells #[.int .i64 0,.string ⟨#[]⟩,.int .i64 0,.int .i64 0,.int .i64 0,.int .i64 0,.int .i64 0,.string ⟨#[]⟩,.slice none 0 0,.int .i64 0,.int .i64 0,.int .i64 0,.int .i64 0,.string ⟨#[]⟩,.slice none 0 0,.int .i64 0,.slice none 0 0] 30)).heap.size:=by simp
 obtain ⟨w0,hw0⟩:∃ w0,w.alloc (.cells #[.int .i64 0,.string ⟨#[]⟩,.int .i64 0,.int .i64 0,.int .i64 0,.int .i64 0,.int .i64 0,.string ⟨#[]⟩,.slice none 0 0,.int .i64 0,.int .i64 0,.int .i64 0,.int .i64 0,.string ⟨#[]⟩,.slice none 0 0,.int .i64 0,.slice none 0 0] 30)=w0:=⟨_,rfl⟩
 rw [hw0] at hb0 hg0 hs0
 have Q0:=hide (h.start.later hb0)
 have R0:=hide hg0
 have S0:=hide hs0
 clear h hb0 hg0 hs0
 go_enter Tryz.func176,Tryz.ntmps176
 have X:=hide (lst13S rb la cap ts k bad w0 hl (uh Q0).rz)
 unfold LsR at X
 go_wp2_with fail
 refine (uh X).mono ?_
 rintro r w1 ⟨l3,c3,c3p,k1,b1,rfl,hn,hr,hg,ho⟩
 have PM1:=hide (uh S0)
 have Rx1:=hide ((uh Q0).blk hg (uh R0) (Nat.le_refl _))
 have Qg1:=hide ((uh Q0).next hr hg)
 clear hg hr X R0 S0 Q0
 have OO1:=hide ho
 have Nt31:=hide (hn).half
 clear hn ho
 have FA:=hide (fun w' h (h2:NewX w' w.heap.size ⟨0,0,E0,l3⟩ c3)=>(show R (.returned (.agg #[.int .i64 7,.string ⟨#[]⟩,.int .i64 0,.int .i64 0,.int .i64 0,.int .i64 0,.int .i64 0,.string ⟨#[]⟩,.slice none 0 0,.int .i64 0,.int .i64 0,.int .i64 0,.int .i64 0,.string ⟨#[]⟩,.slice none 0 0,.int .i64 0,.slice c3 l3.length c3p])) w' from uh FY ⟨7,⟨#[]⟩,0,a0,a0,0,l3⟩ ⟨none,0,none,0,c3,c3p⟩ k1 b1 w' ⟨NewX.nil _ _ _ _ _ _,NewX.nil _ _ _ _ _ _,h2⟩ h (by rw [uh PE];exact (uh OO1).bind (OutG.ret _ _ _))))
 clear FY PE
 have FE:=hide (fun w' h=>uh FA w' h)
 clear FA
 generalize l3.length=ll at FE ⊢
 go_wp2_with (first|((with_reducible show wpList _ _ _ (⟨_,.store _ _ _,_,_,_,_⟩::_) _ _);refine wpList_store_row rfl 30 _ _ rfl w.heap.size #[.int .i64 7,.string ⟨#[]⟩,.int .i64 0,.int .i64 0,.int .i64 0,.int .i64 0,.int .i64 0,.string ⟨#[]⟩,.slice none 0 0,.int .i64 0,.int .i64 0,.int .i64 0,.int .i64 0,.string ⟨#[]⟩,.slice none 0 0,.int .i64 0,.slice c3 ll c3p] rfl rfl 30 _ (uh Rx1) szLn rfl (by simp [Value.oneCell']) ?_))
 refine bodyPost_ret (results_cell_row (P:=Tryz.prog) rfl _ _ w.heap.size 30 #[.int .i64 7,.string ⟨#[]⟩,.int .i64 0,.int .i64 0,.int .i64 0,.int .i64 0,.int .i64 0,.string ⟨#[]⟩,.slice none 0 0,.int .i64 0,.int .i64 0,.int .i64 0,.int .i64 0,.string ⟨#[]⟩,.slice none 0 0,.int .i64 0,.slice c3 ll c3p] (0,0) _ rfl (setRow_heap _ _ _ _ _ _ (uh Rx1)) Tryz.underlying30 rfl szLn) rfl ?_
 exact uh FE _ ((uh Qg1).rowG (Nat.le_refl _) _) (((uh Nt31).drawn (grownBy_row _) (uh PM1)).new.lower (Nat.le_of_lt (uh PM1)))
theorem dot_6 (s:ByteArray)  (h4:eqS s ⟨#[46,119,111,114,100]⟩=false) (h5:eqS s ⟨#[46,98,108,107,119]⟩=false) (h7:eqS s ⟨#[46,103,108,111,98,108]⟩=false) (h8:eqS s ⟨#[46,101,110,100]⟩=false) (h6:eqS s ⟨#[46,115,101,99,116]⟩=true) (rb:Nat) (la:Option Addr) (cap:Nat) (ts:List Tk) (k:Nat) (bad:Bool) (w:World) (hl:ts.length≤1048576) (h:Rz w rb la cap ts k bad):Calls Tryz.prog 176 #[.pointer (some ⟨rb,0,none⟩),.string s] w (LnR (pDot s (ts.drop k)) rb la cap ts bad w):=by
 have d4:(s.toList == [46,119,111,114,100])=false:=(eqL tl_4).trans h4
 have d5:(s.toList == [46,98,108,107,119])=false:=(eqL tl_5).trans h5
 have d7:(s.toList == [46,103,108,111,98,108])=false:=(eqL tl_7).trans h7
 have d8:(s.toList == [46,101,110,100])=false:=(eqL tl_8).trans h8
 have d6:(s.toList == [46,115,101,99,116])=true:=(eqL tl_6).trans h6
 have PE:=hide (pDot_sect (s:=s) (ts.drop k) h4 h5 h7 h8 h6)
 clear h4 h5 h7 h8 h6
 have FY:=hide (fun (x:Ln) (p:La) k' bad' w' (hn:NwL w' w.heap.size x p) (h:Rq w w' rb la cap ts k' bad') (ho:OutG (pDot s (ts.drop k)) ts bad x k' bad')=>(show LnR (pDot s (ts.drop k)) rb la cap ts bad w (.returned (.agg (x.cs p))) w' from ⟨x,p,k',bad',rfl,hn,h.rz,h.gr,ho⟩))
 generalize LnR (pDot s (ts.drop k)) rb la cap ts bad w=R at *
 have hb0:=below_new w (.cells #[.int .i64 0,.string ⟨#[]⟩,.int .i64 0,.int .i64 0,.int .i64 0,.int .i64 0,.int .i64 0,.string ⟨#[]⟩,.slice none 0 0,.int .i64 0,.int .i64 0,.int .i64 0,.int .i64 0,.string ⟨#[]⟩,.slice none 0 0,.int .i64 0,.slice none 0 0] 30)
 have hg0:(w.alloc (.cells #[.int .i64 0,.string ⟨#[]⟩,.int .i64 0,.int .i64 0,.int .i64 0,.int .i64 0,.int .i64 0,.string ⟨#[]⟩,.slice none 0 0,.int .i64 0,.int .i64 0,.int .i64 0,.int .i64 0,.string ⟨#[]⟩,.slice none 0 0,.int .i64 0,.slice none 0 0] 30)).heap[w.heap.size]?=some (.cells #[.int .i64 0,.string ⟨#[]⟩,.int .i64 0,.int .i64 0,.int .i64 0,.int .i64 0,.int .i64 0,.string ⟨#[]⟩,.slice none 0 0,.int .i64 0,.int .i64 0,.int .i64 0,.int .i64 0,.string ⟨#[]⟩,.slice none 0 0,.int .i64 0,.slice none 0 0] 30 (0,0)):=Array.getElem?_push_size
 have hs0:w.heap.size<(w.alloc (.cells #[.int .i64 0,.string ⟨#[]⟩,.int .i64 0,.int .i64 0,.int .i64 0,.int .i64 0,.int .i64 0,.string ⟨#[]⟩,.slice none 0 0,.int .i64 0,.int .i64 0,.int .i64 0,.int .i64 0,.string ⟨#[]⟩,.slice none 0 0,.int .i64 0,.slice none 0 0] 30)).heap.size:=by simp
 obtain ⟨w0,hw0⟩:∃ w0,w.alloc (.cells #[.int .i64 0,.string ⟨#[]⟩,.int .i64 0,.int .i64 0,.int .i64 0,.int .i64 0,.int .i64 0,.string ⟨#[]⟩,.slice none 0 0,.int .i64 0,.int .i64 0,.int .i64 0,.int .i64 0,.string ⟨#[]⟩,.slice none 0 0,.int .i64 0,.slice none 0 0] 30)=w0:=⟨_,rfl⟩
 rw [hw0] at hb0 hg0 hs0
 have Q0:=hide (h.start.later hb0)
 have R0:=hide hg0
 have S0:=hide hs0
 clear h hb0 hg0 hs0
 go_enter Tryz.func176,Tryz.ntmps176
 have OO1:=hide (next_out ts k bad)
 have X:=hide (nextS_any rb la cap ts k bad w0 hl (uh Q0).rz)
 generalize nextT ts k bad=t1 at OO1 X
 generalize nextK ts k bad=k1 at OO1 X
 generalize (!nextB ts k bad)=b1 at OO1 X
 unfold Tk.v Tk.cs at X
 go_wp2_with fail
 refine (uh X).mono ?_
 rintro r w1 ⟨rfl,hr,hg⟩
 have Rx1:=hide ((uh Q0).blk hg (uh R0) (Nat.le_refl _))
 have Sx1:=hide (Nat.lt_of_lt_of_le (uh S0) (hg).size)
 have Qg1:=hide ((uh Q0).next hr hg)
 clear hg hr X R0 S0 Q0
 have FA:=hide (fun n k' bad' w' h ho=>(show R (.returned (.agg #[.int .i64 6,.string t1.s,.int .i64 0,.int .i64 0,.int .i64 0,.int .i64 0,.int .i64 0,.string ⟨#[]⟩,.slice none 0 0,.int .i64 0,.int .i64 0,.int .i64 0,.int .i64 0,.string ⟨#[]⟩,.slice none 0 0,.int .i64 n,.slice none 0 0])) w' from uh FY ⟨6,t1.s,0,a0,a0,n,[]⟩ ⟨none,0,none,0,none,0⟩ k' bad' w' (NwL.nil _ _ _ _ _ _ _) h (by rw [uh PE];exact (uh OO1).bind ho)))
 have FB:=hide (fun n k' bad' w' h ho=>uh FA n k' bad' w' h ho)
 clear FY PE FA OO1
 have SY:=hide (fun k2 b2 hs h=>sect_yes (ts:=ts) (k1:=k1) (k2:=k2) (b1:=b1) (b2:=b2) (x:=t1.s) hs h)
 have SN:=hide (fun hs=>sect_no (ts:=ts) (k1:=k1) (b1:=b1) (x:=t1.s) hs)
 generalize t1.k=tk at *
 generalize t1.n=tn at *
 generalize t1.s=tx at *
 have FD:∀ w,(Instr.field 71 (.agg #[.int .i64 tk,.int .i64 tn,.string tx]) 2).run Tryz.prog w = .ok (.string tx) w:=fun w=>by kernel_rfl
 have BGx:=hide (show w.heap.size≤w1.heap.size from Nat.le_of_lt (uh Sx1))
 have BLx:=hide (uh Sx1)
 have Qx2:=hide ((uh Qg1).later (below_new w1 (.cells #[.int .i64 6,.string tx,.int .i64 0,.int .i64 0,.int .i64 0,.int .i64 0,.int .i64 0,.string ⟨#[]⟩,.slice none 0 0,.int .i64 0,.int .i64 0,.int .i64 0,.int .i64 0,.string ⟨#[]⟩,.slice none 0 0,.int .i64 0,.slice none 0 0] 30)))
 have Rx2:=hide (row_keep (uh Rx1) (below_new w1 (.cells #[.int .i64 6,.string tx,.int .i64 0,.int .i64 0,.int .i64 0,.int .i64 0,.int .i64 0,.string ⟨#[]⟩,.slice none 0 0,.int .i64 0,.int .i64 0,.int .i64 0,.int .i64 0,.string ⟨#[]⟩,.slice none 0 0,.int .i64 0,.slice none 0 0] 30)))
 have Bx0:=hide (show (w1.alloc (.cells #[.int .i64 6,.string tx,.int .i64 0,.int .i64 0,.int .i64 0,.int .i64 0,.int .i64 0,.string ⟨#[]⟩,.slice none 0 0,.int .i64 0,.int .i64 0,.int .i64 0,.int .i64 0,.string ⟨#[]⟩,.slice none 0 0,.int .i64 0,.slice none 0 0] 30)).heap[w1.heap.size]?=some (.cells #[.int .i64 6,.string tx,.int .i64 0,.int .i64 0,.int .i64 0,.int .i64 0,.int .i64 0,.string ⟨#[]⟩,.slice none 0 0,.int .i64 0,.int .i64 0,.int .i64 0,.int .i64 0,.string ⟨#[]⟩,.slice none 0 0,.int .i64 0,.slice none 0 0] 30 (0,0)) from Array.getElem?_push_size)
 clear Qg1 Rx1 Sx1
 cases hs:seeB ts k1 b1 (mkS 44) with
 | false =>
  have HS:=hide hs
  have X:=hide (isS_any rb la cap ts k1 b1 (mkS 44) (w1.alloc (.cells #[.int .i64 6,.string tx,.int .i64 0,.int .i64 0,.int .i64 0,.int .i64 0,.int .i64 0,.string ⟨#[]⟩,.slice none 0 0,.int .i64 0,.int .i64 0,.int .i64 0,.int .i64 0,.string ⟨#[]⟩,.slice none 0 0,.int .i64 0,.slice none 0 0] 30)) hl (uh Qx2).rz)
  rw [hs] at X
  unfold mkS at X
  clear hs
  go_wp2_with fail
  generalize (w1.alloc (.cells #[.int .i64 6,.string tx,.int .i64 0,.int .i64 0,.int .i64 0,.int .i64 0,.int .i64 0,.string ⟨#[]⟩,.slice none 0 0,.int .i64 0,.int .i64 0,.int .i64 0,.int .i64 0,.string ⟨#[]⟩,.slice none 0 0,.int .i64 0,.slice none 0 0] 30))=w2 at *
  generalize w1.heap.size=gx at *
  refine (uh X).mono ?_
  rintro r w3 ⟨rfl,hr,hg⟩
  (try rw [if_neg (by decide)] at hr)
  have Rx3:=hide ((uh Qx2).blk hg (uh Rx2) (Nat.le_refl _))
  have Bxx3:=hide ((uh Qx2).blk hg (uh Bx0) (uh BGx))
  have Qg3:=hide ((uh Qx2).next hr hg)
  clear hg hr X Rx2 Bx0 Qx2
  have FE:=hide (fun w' h=>uh FB 0 k1 b1 w' h (uh SN (uh HS)))
  clear FB SY SN HS
  go_wp2_with (first|((with_reducible show wpList _ _ _ (⟨_,.load _ _,_,_,_,_⟩::_) _ _);refine wpList_load_row rfl 30 _ rfl gx rfl 30 #[.int .i64 6,.string tx,.int .i64 0,.int .i64 0,.int .i64 0,.int .i64 0,.int .i64 0,.string ⟨#[]⟩,.slice none 0 0,.int .i64 0,.int .i64 0,.int .i64 0,.int .i64 0,.string ⟨#[]⟩,.slice none 0 0,.int .i64 0,.slice none 0 0] (0,0) _ (uh Bxx3) Tryz.underlying30 rfl (by kernel_rfl) ?_)|((with_reducible show wpList _ _ _ (⟨_,.store _ _ _,_,_,_,_⟩::_) _ _);refine wpList_store_row rfl 30 _ _ rfl w.heap.size #[.int .i64 6,.string tx,.int .i64 0,.int .i64 0,.int .i64 0,.int .i64 0,.int .i64 0,.string ⟨#[]⟩,.slice none 0 0,.int .i64 0,.int .i64 0,.int .i64 0,.int .i64 0,.string ⟨#[]⟩,.slice none 0 0,.int .i64 0,.slice none 0 0] rfl rfl 30 _ (uh Rx3) szLn rfl (by simp [Value.oneCell']) ?_))
  refine bodyPost_ret (results_cell_row (P:=Tryz.prog) rfl _ _ w.heap.size 30 #[.int .i64 6,.string tx,.int .i64 0,.int .i64 0,.int .i64 0,.int .i64 0,.int .i64 0,.string ⟨#[]⟩,.slice none 0 0,.int .i64 0,.int .i64 0,.int .i64 0,.int .i64 0,.string ⟨#[]⟩,.slice none 0 0,.int .i64 0,.slice none 0 0] (0,0) _ rfl (setRow_heap _ _ _ _ _ _ (uh Rx3)) Tryz.underlying30 rfl szLn) rfl ?_
  exact uh FE _ ((uh Qg3).rowG (Nat.le_refl _) _)
 | true =>
  have HS:=hide hs
  have X:=hide (isS_any rb la cap ts k1 b1 (mkS 44) (w1.alloc (.cells #[.int .i64 6,.string tx,.int .i64 0,.int .i64 0,.int .i64 0,.int .i64 0,.int .i64 0,.string ⟨#[]⟩,.slice none 0 0,.int .i64 0,.int .i64 0,.int .i64 0,.int .i64 0,.string ⟨#[]⟩,.slice none 0 0,.int .i64 0,.slice none 0 0] 30)) hl (uh Qx2).rz)
  rw [hs] at X
  unfold mkS at X
  clear hs
  go_wp2_with fail
  generalize (w1.alloc (.cells #[.int .i64 6,.string tx,.int .i64 0,.int .i64 0,.int .i64 0,.int .i64 0,.int .i64 0,.string ⟨#[]⟩,.slice none 0 0,.int .i64 0,.int .i64 0,.int .i64 0,.int .i64 0,.string ⟨#[]⟩,.slice none 0 0,.int .i64 0,.slice none 0 0] 30))=w2 at *
  generalize w1.heap.size=gx at *
  refine (uh X).mono ?_
  rintro r w3 ⟨rfl,hr,hg⟩
  (try rw [if_pos rfl] at hr)
  have Rx3:=hide ((uh Qx2).blk hg (uh Rx2) (Nat.le_refl _))
  have Bxx3:=hide ((uh Qx2).blk hg (uh Bx0) (uh BGx))
  have Qg3:=hide ((uh Qx2).next hr hg)
  clear hg hr X Rx2 Bx0 Qx2
  have SZ:=hide (fun k2 b2 h=>uh SY k2 b2 (uh HS) h)
  clear SY SN HS
  unfold sOver at SZ
  have OO4:=hide (must_out ts (k1+1) b1 ⟨#[111,118,101,114]⟩)
  have X:=hide (mustS_any rb la cap ts (k1+1) b1 ⟨#[111,118,101,114]⟩ w3 hl (uh Qg3).rz)
  generalize (if seeB ts (k1+1) b1 ⟨#[111,118,101,114]⟩=true then (k1+1)+1 else (k1+1))=k4 at OO4 X
  generalize (!seeB ts (k1+1) b1 ⟨#[111,118,101,114]⟩)=b4 at OO4 X
  go_wp2_with fail
  refine (uh X).mono ?_
  rintro r w4 ⟨rfl,hr,hg⟩
  have Rx4:=hide ((uh Qg3).blk hg (uh Rx3) (Nat.le_refl _))
  have Bxx4:=hide ((uh Qg3).blk hg (uh Bxx3) (uh BGx))
  have Qg4:=hide ((uh Qg3).next hr hg)
  clear hg hr X Rx3 Bxx3 Qg3
  have FE:=hide (fun w' h=>uh FB 1 k4 b4 w' h (uh SZ _ _ (uh OO4)))
  clear FB SZ
  have Qx5:=hide ((uh Qg4).rowG (uh BGx) #[.int .i64 6,.string tx,.int .i64 0,.int .i64 0,.int .i64 0,.int .i64 0,.int .i64 0,.string ⟨#[]⟩,.slice none 0 0,.int .i64 0,.int .i64 0,.int .i64 0,.int .i64 0,.string ⟨#[]⟩,.slice none 0 0,.int .i64 1,.slice none 0 0])
  have Rx5:=hide ((setRow_other w4 gx w.heap.size #[.int .i64 6,.string tx,.int .i64 0,.int .i64 0,.int .i64 0,.int .i64 0,.int .i64 0,.string ⟨#[]⟩,.slice none 0 0,.int .i64 0,.int .i64 0,.int .i64 0,.int .i64 0,.string ⟨#[]⟩,.slice none 0 0,.int .i64 1,.slice none 0 0] (Nat.ne_of_lt (uh BLx))).trans (uh Rx4))
  have Bxx5:=hide ((show ((w4.setRow gx #[.int .i64 6,.string tx,.int .i64 0,.int .i64 0,.int .i64 0,.int .i64 0,.int .i64 0,.string ⟨#[]⟩,.slice none 0 0,.int .i64 0,.int .i64 0,.int .i64 0,.int .i64 0,.string ⟨#[]⟩,.slice none 0 0,.int .i64 1,.slice none 0 0])).heap[gx]?=some (.cells #[.int .i64 6,.string tx,.int .i64 0,.int .i64 0,.int .i64 0,.int .i64 0,.int .i64 0,.string ⟨#[]⟩,.slice none 0 0,.int .i64 0,.int .i64 0,.int .i64 0,.int .i64 0,.string ⟨#[]⟩,.slice none 0 0,.int .i64 1,.slice none 0 0] 30 (0,0)) from setRow_heap _ _ _ _ _ _ (uh Bxx4)))
  clear Qg4 Rx4
  go_wp2_with (first|((with_reducible show wpList _ _ _ (⟨_,.store _ _ _,_,_,_,_⟩::_) _ _);refine wpList_store_cell rfl 3 _ _ rfl gx 15 (.int .i64 1) rfl rfl 30 #[.int .i64 6,.string tx,.int .i64 0,.int .i64 0,.int .i64 0,.int .i64 0,.int .i64 0,.string ⟨#[]⟩,.slice none 0 0,.int .i64 0,.int .i64 0,.int .i64 0,.int .i64 0,.string ⟨#[]⟩,.slice none 0 0,.int .i64 0,.slice none 0 0] #[.int .i64 6,.string tx,.int .i64 0,.int .i64 0,.int .i64 0,.int .i64 0,.int .i64 0,.string ⟨#[]⟩,.slice none 0 0,.int .i64 0,.int .i64 0,.int .i64 0,.int .i64 0,.string ⟨#[]⟩,.slice none 0 0,.int .i64 1,.slice none 0 0] (uh Bxx4) (by kernel_rfl) (by simp) rfl rfl rfl ?_)|((with_reducible show wpList _ _ _ (⟨_,.load _ _,_,_,_,_⟩::_) _ _);refine wpList_load_row rfl 30 _ rfl gx rfl 30 #[.int .i64 6,.string tx,.int .i64 0,.int .i64 0,.int .i64 0,.int .i64 0,.int .i64 0,.string ⟨#[]⟩,.slice none 0 0,.int .i64 0,.int .i64 0,.int .i64 0,.int .i64 0,.string ⟨#[]⟩,.slice none 0 0,.int .i64 1,.slice none 0 0] (0,0) _ (uh Bxx5) Tryz.underlying30 rfl (by kernel_rfl) ?_)|((with_reducible show wpList _ _ _ (⟨_,.store _ _ _,_,_,_,_⟩::_) _ _);refine wpList_store_row rfl 30 _ _ rfl w.heap.size #[.int .i64 6,.string tx,.int .i64 0,.int .i64 0,.int .i64 0,.int .i64 0,.int .i64 0,.string ⟨#[]⟩,.slice none 0 0,.int .i64 0,.int .i64 0,.int .i64 0,.int .i64 0,.string ⟨#[]⟩,.slice none 0 0,.int .i64 1,.slice none 0 0] rfl rfl 30 _ (uh Rx5) szLn rfl (by simp [Value.oneCell']) ?_))
  refine bodyPost_ret (results_cell_row (P:=Tryz.prog) rfl _ _ w.heap.size 30 #[.int .i64 6,.string tx,.int .i64 0,.int .i64 0,.int .i64 0,.int .i64 0,.int .i64 0,.string ⟨#[]⟩,.slice none 0 0,.int .i64 0,.int .i64 0,.int .i64 0,.int .i64 0,.string ⟨#[]⟩,.slice none 0 0,.int .i64 1,.slice none 0 0] (0,0) _ rfl (setRow_heap _ _ _ _ _ _ (uh Rx5)) Tryz.underlying30 rfl szLn) rfl ?_
  exact uh FE _ ((uh Qx5).rowG (Nat.le_refl _) _)
theorem dot13S (s:ByteArray) (rb:Nat) (la:Option Addr) (cap:Nat) (ts:List Tk) (k:Nat) (bad:Bool) (w:World) (hl:ts.length≤1048576) (h:Rz w rb la cap ts k bad):Calls Tryz.prog 176 #[.pointer (some ⟨rb,0,none⟩),.string s] w (LnR (pDot s (ts.drop k)) rb la cap ts bad w):=by
 cases h4:eqS s ⟨#[46,119,111,114,100]⟩ with
 | true => exact dot_4 s h4 rb la cap ts k bad w hl h
 | false =>
  cases h5:eqS s ⟨#[46,98,108,107,119]⟩ with
  | true => exact dot_5 s h4 h5 rb la cap ts k bad w hl h
  | false =>
   cases h7:eqS s ⟨#[46,103,108,111,98,108]⟩ with
   | true => exact dot_7 s h4 h5 h7 rb la cap ts k bad w hl h
   | false =>
    cases h8:eqS s ⟨#[46,101,110,100]⟩ with
    | true => exact dot_8 s h4 h5 h7 h8 rb la cap ts k bad w hl h
    | false =>
     cases h6:eqS s ⟨#[46,115,101,99,116]⟩ with
     | true => exact dot_6 s h4 h5 h7 h8 h6 rb la cap ts k bad w hl h
     | false =>
      exact dot_0 s h4 h5 h7 h8 h6 rb la cap ts k bad w hl h
theorem wRg_at:∀ n:Fin 8,atV keptL (wRg.getD n.val E0)=23+(n.val:Int):=by decide +kernel
theorem wOp_at:∀ n:Fin 23,atV keptL (opL.getD (n.val+1) E0)=(n.val:Int):=by decide +kernel
theorem regN_at {t:Tk} {k:Nat} (hk:k<8) (h5:t.k=5) (h:eqS (wRg.getD k E0) t.s=true):regN t=(k:Int):=by
 have e:=(eqS_iff _ _).1 h
 have h2:=wRg_at ⟨k,hk⟩
 simp only at h2
 rw [e] at h2
 rw [regN_if,if_pos ⟨h5,by omega⟩]
 omega
theorem rg_mem:∀ j:Fin 31,23≤j.val→∃ i:Fin 8,wRg.getD i.val E0=keptL.getD j.val E0:=by decide +kernel
theorem at_getD0 {L:List ByteArray} {s:ByteArray} (h:0≤atV L s):(atV L s).toNat<L.length∧L.getD (atV L s).toNat E0=s:=by
 unfold atV at h ⊢
 split at h
 ·
  rename_i hs
  rw [if_pos hs]
  have hx:L.findIdx (fun t=>eqS t s)<L.length:=List.findIdx_lt_length_of_exists (by
   obtain ⟨x,hx,he⟩:=List.any_eq_true.1 hs
   exact ⟨x,hx,he⟩)
  refine ⟨by simpa using hx,?_⟩
  have:=List.findIdx_getElem (w:=hx)
  have e:=(eqS_iff _ _).1 this
  simp only [Int.toNat_natCast]
  rw [List.getD_eq_getElem?_getD,List.getElem?_eq_getElem hx]
  exact e
 · omega
theorem regN_no {t:Tk} (h:∀ j,j<8→eqS (wRg.getD j E0) t.s=false):regN t = -1:=by
 rw [regN_if]
 split
 ·
  rename_i hc
  exfalso
  obtain ⟨h1,h2⟩:=at_getD0 (L:=keptL) (s:=t.s) (by omega)
  have h1:(atV keptL t.s).toNat<31:=h1
  obtain ⟨i,hi⟩:=rg_mem ⟨_,h1⟩ (by simp only;omega)
  have:=h i.val i.isLt
  rw [hi] at this
  simp only at this
  rw [h2,(eqS_iff _ _).2 rfl] at this
  cases this
 · rfl
theorem regN_k {t:Tk} (h:t.k≠5):regN t = -1:=by rw [regN_if,if_neg (fun q=>h q.1)]
theorem rgI (t:Tk) (w:World) (ht:TabK w):Calls Tryz.prog 201 #[.agg #[.int .i64 t.k,.int .i64 t.n,.string t.s]] w fun r w'=>r = .returned (.int .i64 (regN t))∧Below w.heap.size w w':=by
 have hbW:=below_new w (.cells #[.int .i64 t.k,.int .i64 t.n,.string t.s] 71)
 have rT:(w.alloc (.cells #[.int .i64 t.k,.int .i64 t.n,.string t.s] 71)).heap[w.heap.size]?=some (.cells #[.int .i64 t.k,.int .i64 t.n,.string t.s] 71 (0,0)):=Array.getElem?_push_size
 have htW:=ht.next hbW
 obtain ⟨W,hW⟩:∃ W,w.alloc (.cells #[.int .i64 t.k,.int .i64 t.n,.string t.s] 71)=W:=⟨_,rfl⟩
 rw [hW] at hbW rT htW
 have e0:=Lib.cell_of_heap rT 0
 have e2:=Lib.cell_of_heap rT 2
 obtain ⟨_,⟨t1,f1,R1⟩⟩:=htW
 have R1':=hide R1
 have BW:=hide hbW
 obtain ⟨q,hq⟩:∃ q,regN t=q:=⟨_,rfl⟩
 have HR:=hide (fun k hk h5 he=>(regN_at (t:=t) (k:=k) hk h5 he).symm.trans hq)
 have HN:=hide (fun h=>(regN_no (t:=t) h).symm.trans hq)
 have HK:=hide (fun h=>(regN_k (t:=t) h).symm.trans hq)
 rw [hq]
 clear hq R1 ht hbW rT
 generalize t.k=tk at *
 generalize t.n=tn at *
 generalize t.s=ts at *
 by_cases h5:tk=5
 ·
  subst h5
  clear HK
  go_enter Tryz.func201,Tryz.ntmps201
  go_wp2_with (refine wpList_load_row rfl 178 _ rfl 3 rfl t1 rgC f1 _ (uh R1') Tryz.underlying178 rfl szR ?_)
  go_loop [6] (fun i=>∃ k:Nat,i = .int .i64 k∧k≤8∧Hid (∀ j,j<k→eqS (wRg.getD j E0) ts=false)) (fun i=>8-(intOf i).toNat)
  case atStart=>exact ⟨0,rfl,by omega,fun j hj=>by omega⟩
  case round =>
   obtain ⟨k,rfl,hk,hd⟩:=hrel
   by_cases hlt:k<8
   ·
    have IX:=hide (ixR k hlt)
    have H1:=hide (uh HR k hlt (by trivial))
    have H2:=hide (show eqS (wRg.getD k E0) ts=false→∀ j,j<k+1→eqS (wRg.getD j E0) ts=false from fun h j hj=>by
     by_cases e:j=k
     · subst e;exact h
     · exact hd.out j (by omega))
    generalize wRg.getD k E0=T at IX H1 H2
    clear hd HR HN
    cases hq:(T.toList == ts.toList)
    ·
     have E:=hide (uh H2 hq)
     have hq2:(ts.toList == T.toList)=false:=by rw [Bool.beq_comm];exact hq
     clear H1 H2
     go_wp2_with (refine wpList_index_at rfl 178 _ _ rfl _ _ _ rfl rfl (uh IX) ?_)
     go_round
     case rel=>exact ⟨k+1,by go_num,by omega,uh E⟩
     case measure=>simp [intOf];omega
    ·
     have E:=hide (uh H1 hq)
     have hq2:(ts.toList == T.toList)=true:=by rw [Bool.beq_comm];exact hq
     clear H1 H2
     go_wp2_with (refine wpList_index_at rfl 178 _ _ rfl _ _ _ rfl rfl (uh IX) ?_)
     go_ret
     exact ⟨by rw [←uh E];rfl,uh BW⟩
   ·
    have E:=hide (uh HN (fun j hj=>hd.out j (by omega)))
    clear hd HR HN
    go_wp2
    go_ret
    exact ⟨by rw [←uh E];rfl,uh BW⟩
 ·
  have E:=hide (uh HK h5)
  have g5:(tk == 5)=false:=beq_eq_false_iff_ne.2 h5
  clear HK HR HN
  go_enter Tryz.func201,Tryz.ntmps201
  go_wp2_with (refine wpList_load_row rfl 178 _ rfl 3 rfl t1 rgC f1 _ (uh R1') Tryz.underlying178 rfl szR ?_)
  go_loop [6] (fun i=>∃ k:Nat,i = .int .i64 k∧k≤8) (fun i=>8-(intOf i).toNat)
  case atStart=>exact ⟨0,rfl,by omega⟩
  case round =>
   obtain ⟨k,rfl,hk⟩:=hrel
   by_cases hlt:k<8
   ·
    have IX:=hide (ixR k hlt)
    generalize wRg.getD k E0=T at IX
    go_wp2_with (refine wpList_index_at rfl 178 _ _ rfl _ _ _ rfl rfl (uh IX) ?_)
    go_round
    case rel=>exact ⟨k+1,by go_num,by omega⟩
    case measure=>simp [intOf];omega
   ·
    go_wp2
    go_ret
    exact ⟨by rw [←uh E];rfl,uh BW⟩
def opN (s:ByteArray):Int:=if 0≤atV keptL s∧atV keptL s<23 then atV keptL s+1 else 0
theorem opN_at {s:ByteArray} {k:Nat} (hk:k<24) (h0:s≠E0) (h:eqS (opL.getD k E0) s=true):opN s=(k:Int):=by
 have e:=(eqS_iff _ _).1 h
 cases k with
 | zero => exact absurd e.symm h0
 | succ k =>
  have h2:=wOp_at ⟨k,by omega⟩
  simp only at h2
  rw [e] at h2
  unfold opN
  rw [h2,if_pos (by omega)]
  omega
theorem op_mem:∀ j:Fin 23,opL.getD (j.val+1) E0=keptL.getD j.val E0:=by decide +kernel
theorem opN_no {s:ByteArray} (h:∀ j,j<24→eqS (opL.getD j E0) s=false):opN s=0:=by
 unfold opN
 split
 ·
  rename_i hc
  exfalso
  obtain ⟨h1,h2⟩:=at_getD0 (L:=keptL) (s:=s) hc.1
  have h3:=op_mem ⟨(atV keptL s).toNat,by omega⟩
  simp only at h3
  have:=h ((atV keptL s).toNat+1) (by omega)
  rw [h3,h2,(eqS_iff _ _).2 rfl] at this
  cases this
 · rfl
theorem opI (s:ByteArray) (w:World) (h0:s≠E0) (ht:TabK w):Calls Tryz.prog 162 #[.string s] w fun r w'=>r = .returned (.int .i64 (opN s))∧w'=w:=by
 obtain ⟨⟨t1,f1,R1⟩,_⟩:=ht
 have R1':=hide R1
 obtain ⟨q,hq⟩:∃ q,opN s=q:=⟨_,rfl⟩
 have HR:=hide (fun k hk he=>(opN_at (s:=s) (k:=k) hk h0 he).symm.trans hq)
 have HN:=hide (fun h=>(opN_no (s:=s) h).symm.trans hq)
 rw [hq]
 clear hq R1 h0
 go_enter Tryz.func162,Tryz.ntmps162
 go_wp2_with (refine wpList_load_row rfl 137 _ rfl 0 rfl t1 opC f1 _ (uh R1') Tryz.underlying137 rfl szO ?_)
 go_loop [6] (fun i=>∃ k:Nat,i = .int .i64 k∧k≤24∧Hid (∀ j,j<k→eqS (opL.getD j E0) s=false)) (fun i=>24-(intOf i).toNat)
 case atStart=>exact ⟨0,rfl,by omega,fun j hj=>by omega⟩
 case round =>
  obtain ⟨k,rfl,hk,hd⟩:=hrel
  by_cases hlt:k<24
  ·
   have IX:=hide (ixO k hlt)
   have H1:=hide (uh HR k hlt)
   have H2:=hide (show eqS (opL.getD k E0) s=false→∀ j,j<k+1→eqS (opL.getD j E0) s=false from fun h j hj=>by
    by_cases e:j=k
    · subst e;exact h
    · exact hd.out j (by omega))
   generalize opL.getD k E0=T at IX H1 H2
   clear hd HR HN
   cases hq:(T.toList == s.toList)
   ·
    have E:=hide (uh H2 hq)
    clear H1 H2
    go_wp2_with (refine wpList_index_at rfl 137 _ _ rfl _ _ _ rfl rfl (uh IX) ?_)
    go_round
    case rel=>exact ⟨k+1,by go_num,by omega,uh E⟩
    case measure=>simp [intOf];omega
   ·
    have E:=hide (uh H1 hq)
    clear H1 H2
    go_wp2_with (refine wpList_index_at rfl 137 _ _ rfl _ _ _ rfl rfl (uh IX) ?_)
    go_ret
    exact ⟨by rw [←uh E];rfl,rfl⟩
  ·
   have E:=hide (uh HN (fun j hj=>hd.out j (by omega)))
   clear hd HR HN
   go_wp2
   go_ret
   exact ⟨by rw [←uh E];rfl,rfl⟩
def TwP (d:Nat):Prop:=∀ (a:Option Addr) (n cap:Nat) (ts:List Tk) (w:World),Sl w a n cap ts→TabG w→Calls Tryz.prog 222 #[.slice a n cap,.int .i64 d] w (TrR (twoF d ts) w)
theorem readI_one (d:Nat) (hd:d≤5) (ih:TrP d) (it:TwP d) (b off n cap:Nat) (t:Tk) (q:List Tk) (w:World) (h:Sl w (some ⟨b,off,none⟩) n cap (t::q)) (hc:cap=1) (ht:TabG w):Calls Tryz.prog 199 #[.slice (some ⟨b,off,none⟩) n cap,.int .i64 (d+1:Nat)] w (TrR (readF (d+1) (t::q)) w):=by
 obtain ⟨b',off',hbo,hbl,t0,t1,t2⟩:=h.head
 cases hbo
 have hn:0<n:=by have:=h.ln;simp at this;omega
 have hcap:=h.cp
 have hmax:=h.mx
 have hsm:=h.sm
 subst hc
 obtain rfl:n=1:=by omega
 have hq:q = []:=by have:=h.ln;simpa using this
 have SL:=hide (show Sl w (some ⟨b,off,none⟩) 0 0 q from by rw [hq];exact ⟨rfl,Nat.le_refl _,by unfold maxLen;omega,.inl rfl,allOk_nil,by omega,.inl rfl⟩)
 clear hq
 have hd0:((d:Int)+1 == 0)=false:=by rw [beq_eq_false_iff_ne];omega
 have RE:=hide (readF_cons d t q)
 rw [eq46,eq45,eq60] at RE
 have M1:=hide (mark_same h.ok.head.1 (c:=46) (by decide))
 have M2:=hide (mark_same h.ok.head.1 (c:=45) (by decide))
 have M3:=hide (mark_same h.ok.head.1 (c:=60) (by decide))
 rw [eq46] at M1
 rw [eq45] at M2
 rw [eq60] at M3
 have hB:=below_new w (.cells #[.int .i64 t.k,.int .i64 t.n,.string t.s] 71)
 have BD:=hide (hB.trans ((below_drew (w:=w.alloc (.cells #[.int .i64 t.k,.int .i64 t.n,.string t.s] 71))).mono hB.size))
 have TG:=hide (ht.later (uh BD) ht.lt)
 have SD:=hide ((uh SL).later (uh BD))
 clear hB h ht
 obtain ⟨tk,tn,tx⟩:=t
 simp only at *
 generalize readF (d+1) (⟨tk,tn,tx⟩::q)=RO at *
 by_cases h2:tk=2
 ·
  subst h2
  have O:=hide (show RO=some (⟨1,tn,E0,[]⟩,q) from uh RE)
  clear M1 M2 M3 RE ih it
  go_enter Tryz.func199,Tryz.ntmps199
  go_wp2
  go_region
  go_wp2
  refine bodyPost_ret (results_tmp3 rfl _ _ _) rfl ?_
  exact ⟨uh BD,by rw [uh O];exact ⟨_,_,_,by rw [tv_num];rfl,uh SD⟩⟩
 by_cases h1:tk=1
 ·
  subst h1
  have O:=hide (show RO=some (⟨2,0,tx,[]⟩,q) from uh RE)
  clear M1 M2 M3 RE ih it h2
  go_enter Tryz.func199,Tryz.ntmps199
  go_wp2
  go_region
  go_wp2
  refine bodyPost_ret (results_tmp3 rfl _ _ _) rfl ?_
  exact ⟨uh BD,by rw [uh O];exact ⟨_,_,_,by rw [tv_sym];rfl,uh SD⟩⟩
 by_cases h46:(tx.toList == [46])=true
 ·
  obtain ⟨rfl,rfl⟩:tk=4∧tn=0:=by have:=uh M1;rw [h46] at this;simp only [Bool.and_eq_true,beq_iff_eq] at this;exact ⟨this.1,this.2.1⟩
  have O:=hide (show RO=some (⟨3,0,E0,[]⟩,q) by rw [uh RE,if_neg h2,if_neg h1,if_pos h46])
  have e46:tx.toList = [46]:=by simpa using h46
  clear M1 M2 M3 RE ih it
  go_enter Tryz.func199,Tryz.ntmps199
  go_wp2
  go_region
  go_wp2_with fail
  generalize (w.alloc (Obj.cells #[.int .i64 4,.int .i64 0,.string tx] 71)).drew=W at *
  have BD0:=hide (uh BD)
  have TG0:=hide (uh TG)
  have SD0:=hide (uh SD)
  clear BD TG SD
  refine (markI_any ⟨#[46]⟩ W).mono ?_
  rintro r w3 ⟨rfl,hb⟩
  unfold Tk.v Tk.cs
  have BD1:=hide ((uh BD0).trans (hb.mono (uh BD0).size))
  have TG1:=hide ((uh TG0).later hb (uh TG0).lt)
  have SD1:=hide ((uh SD0).later hb)
  clear hb BD0 TG0 SD0
  go_wp2
  refine bodyPost_ret (results_tmp3 rfl _ _ _) rfl ?_
  exact ⟨uh BD1,by rw [uh O];exact ⟨_,_,_,by rw [tv_here];rfl,uh SD1⟩⟩
 have n46:¬ tx.toList = [46]:=by simpa using h46
 by_cases h45:(tx.toList == [45])=true
 ·
  obtain ⟨rfl,rfl⟩:tk=4∧tn=0:=by have:=uh M2;rw [h45] at this;simp only [Bool.and_eq_true,beq_iff_eq] at this;exact ⟨this.1,this.2.1⟩
  have O:=hide (show RO=(match readF d q with|none=>none|some (a,q)=>some (⟨4,0,E0,[a]⟩,q)) by have e:=uh RE;rw [if_neg h2,if_neg h1,if_neg h46,if_pos h45] at e;exact e)
  have e45:tx.toList = [45]:=by simpa using h45
  have IH:=hide (fun wr (h1:Sl wr (some ⟨b,off,none⟩) 0 0 q) h2=>ih _ _ _ q wr h1 h2)
  clear M1 M2 M3 RE ih it h46 h45 n46
  go_enter Tryz.func199,Tryz.ntmps199
  go_wp2
  go_region
  go_wp2_with fail
  generalize (w.alloc (Obj.cells #[.int .i64 4,.int .i64 0,.string tx] 71)).drew=W at *
  have BD0:=hide (uh BD)
  have TG0:=hide (uh TG)
  have SD0:=hide (uh SD)
  clear BD TG SD
  refine (markI_any ⟨#[46]⟩ W).mono ?_
  rintro r w3 ⟨rfl,hb⟩
  unfold Tk.v Tk.cs
  have BD1:=hide ((uh BD0).trans (hb.mono (uh BD0).size))
  have TG1:=hide ((uh TG0).later hb (uh TG0).lt)
  have SD1:=hide ((uh SD0).later hb)
  clear hb BD0 TG0 SD0
  go_wp2_with fail
  refine (markI_any ⟨#[45]⟩ w3).mono ?_
  rintro r w4 ⟨rfl,hb⟩
  unfold Tk.v Tk.cs
  have BD2:=hide ((uh BD1).trans (hb.mono (uh BD1).size))
  have TG2:=hide ((uh TG1).later hb (uh TG1).lt)
  have SD2:=hide ((uh SD1).later hb)
  clear hb BD1 TG1 SD1
  have IH2:=hide (uh IH w4 (uh SD2) (uh TG2))
  clear IH
  unfold TrR at IH2
  cases hr:readF d q with
  | none =>
   rw [hr] at IH2 O
   go_wp2_with fail
   refine (uh IH2).mono ?_
   rintro r w5 ⟨hb5,v,xx,hv,rfl⟩
   have B5:=hide ((uh BD2).trans (hb5.mono (uh BD2).size))
   clear hb5
   rcases hv with rfl|⟨ty,vv,rfl⟩
   ·
    go_wp2
    refine bodyPost_ret (results_tmp3 rfl _ _ _) rfl ?_
    exact ⟨uh B5,by rw [uh O];exact ⟨_,_,.inr ⟨_,_,rfl⟩,rfl⟩⟩
   ·
    go_wp2
    refine bodyPost_ret (results_tmp3 rfl _ _ _) rfl ?_
    exact ⟨uh B5,by rw [uh O];exact ⟨_,_,.inr ⟨_,_,rfl⟩,rfl⟩⟩
  | some p =>
   obtain ⟨e,q2⟩:=p
   rw [hr] at IH2 O
   go_wp2_with fail
   refine (uh IH2).mono ?_
   rintro r w5 ⟨hb5,a5,n5,c5,rfl,hs5⟩
   have B5:=hide ((uh BD2).trans (hb5.mono (uh BD2).size))
   have S5:=hide hs5
   have TN:=hide (tv_neg 0 E0 e)
   obtain ⟨ty,vv,hty⟩:=tv_if e
   rw [hty] at TN ⊢
   clear hb5 hs5 hty
   go_wp2
   refine bodyPost_ret (results_tmp3 rfl _ _ _) rfl ?_
   exact ⟨uh B5,by rw [uh O];exact ⟨_,_,_,by rw [uh TN];rfl,uh S5⟩⟩
 have n45:¬ tx.toList = [45]:=by simpa using h45
 by_cases h60:(tx.toList == [60])=true
 ·
  obtain ⟨rfl,rfl⟩:tk=4∧tn=0:=by have:=uh M3;rw [h60] at this;simp only [Bool.and_eq_true,beq_iff_eq] at this;exact ⟨this.1,this.2.1⟩
  have O:=hide (show RO=twoF d q by have e:=uh RE;rw [if_neg h2,if_neg h1,if_neg h46,if_neg h45,if_pos h60] at e;exact e)
  have e60:tx.toList = [60]:=by simpa using h60
  have IH:=hide (fun wr (h1:Sl wr (some ⟨b,off,none⟩) 0 0 q) h2=>it _ _ _ q wr h1 h2)
  clear M1 M2 M3 RE ih it h46 h45 h60 n46 n45
  go_enter Tryz.func199,Tryz.ntmps199
  go_wp2
  go_region
  go_wp2_with fail
  generalize (w.alloc (Obj.cells #[.int .i64 4,.int .i64 0,.string tx] 71)).drew=W at *
  have BD0:=hide (uh BD)
  have TG0:=hide (uh TG)
  have SD0:=hide (uh SD)
  clear BD TG SD
  refine (markI_any ⟨#[46]⟩ W).mono ?_
  rintro r w3 ⟨rfl,hb⟩
  unfold Tk.v Tk.cs
  have BD1:=hide ((uh BD0).trans (hb.mono (uh BD0).size))
  have TG1:=hide ((uh TG0).later hb (uh TG0).lt)
  have SD1:=hide ((uh SD0).later hb)
  clear hb BD0 TG0 SD0
  go_wp2_with fail
  refine (markI_any ⟨#[45]⟩ w3).mono ?_
  rintro r w4 ⟨rfl,hb⟩
  unfold Tk.v Tk.cs
  have BD2:=hide ((uh BD1).trans (hb.mono (uh BD1).size))
  have TG2:=hide ((uh TG1).later hb (uh TG1).lt)
  have SD2:=hide ((uh SD1).later hb)
  clear hb BD1 TG1 SD1
  go_wp2_with fail
  refine (markI_any ⟨#[60]⟩ w4).mono ?_
  rintro r w5 ⟨rfl,hb⟩
  unfold Tk.v Tk.cs
  have BD3:=hide ((uh BD2).trans (hb.mono (uh BD2).size))
  have TG3:=hide ((uh TG2).later hb (uh TG2).lt)
  have SD3:=hide ((uh SD2).later hb)
  clear hb BD2 TG2 SD2
  have IH2:=hide (uh IH w5 (uh SD3) (uh TG3))
  clear IH
  rw [←uh O] at IH2
  unfold TrR at IH2
  clear O
  cases RO with
  | none =>
   go_wp2_with fail
   refine (uh IH2).mono ?_
   rintro r w6 ⟨hb6,v,xx,hv,rfl⟩
   have B6:=hide ((uh BD3).trans (hb6.mono (uh BD3).size))
   have HV:=hide hv
   clear hb6 hv
   go_wp2
   refine bodyPost_ret (results_tmp3 rfl _ _ _) rfl ?_
   exact ⟨uh B6,_,_,uh HV,rfl⟩
  | some p =>
   obtain ⟨e,q2⟩:=p
   go_wp2_with fail
   refine (uh IH2).mono ?_
   rintro r w6 ⟨hb6,a6,n6,c6,rfl,hs6⟩
   have B6:=hide ((uh BD3).trans (hb6.mono (uh BD3).size))
   have S6:=hide hs6
   clear hb6 hs6
   go_wp2
   refine bodyPost_ret (results_tmp3 rfl _ _ _) rfl ?_
   exact ⟨uh B6,_,_,_,rfl,uh S6⟩
 have n60:¬ tx.toList = [60]:=by simpa using h60
 have O:=hide (show RO=none by have e:=uh RE;rw [if_neg h2,if_neg h1,if_neg h46,if_neg h45,if_neg h60] at e;exact e)
 clear M1 M2 M3 RE ih it h46 h45 h60
 go_enter Tryz.func199,Tryz.ntmps199
 go_wp2
 go_region
 go_wp2_with fail
 generalize (w.alloc (Obj.cells #[.int .i64 tk,.int .i64 tn,.string tx] 71)).drew=W at *
 have BD0:=hide (uh BD)
 have TG0:=hide (uh TG)
 have SD0:=hide (uh SD)
 clear BD TG SD
 refine (markI_any ⟨#[46]⟩ W).mono ?_
 rintro r w3 ⟨rfl,hb⟩
 unfold Tk.v Tk.cs
 have BD1:=hide ((uh BD0).trans (hb.mono (uh BD0).size))
 have TG1:=hide ((uh TG0).later hb (uh TG0).lt)
 have SD1:=hide ((uh SD0).later hb)
 clear hb BD0 TG0 SD0
 go_wp2_with fail
 refine (markI_any ⟨#[45]⟩ w3).mono ?_
 rintro r w4 ⟨rfl,hb⟩
 unfold Tk.v Tk.cs
 have BD2:=hide ((uh BD1).trans (hb.mono (uh BD1).size))
 have TG2:=hide ((uh TG1).later hb (uh TG1).lt)
 have SD2:=hide ((uh SD1).later hb)
 clear hb BD1 TG1 SD1
 go_wp2_with fail
 refine (markI_any ⟨#[60]⟩ w4).mono ?_
 rintro r w5 ⟨rfl,hb⟩
 unfold Tk.v Tk.cs
 have BD3:=hide ((uh BD2).trans (hb.mono (uh BD2).size))
 have TG3:=hide ((uh TG2).later hb (uh TG2).lt)
 have SD3:=hide ((uh SD2).later hb)
 clear hb BD2 TG2 SD2
 go_wp2
 refine bodyPost_ret (results_tmp3 rfl _ _ _) rfl ?_
 exact ⟨uh BD3,by rw [uh O];exact ⟨_,_,.inl rfl,rfl⟩⟩
theorem readI_more (d:Nat) (hd:d≤5) (ih:TrP d) (it:TwP d) (b off n cap:Nat) (t:Tk) (q:List Tk) (w:World) (h:Sl w (some ⟨b,off,none⟩) n cap (t::q)) (hc:¬ cap=1) (ht:TabG w):Calls Tryz.prog 199 #[.slice (some ⟨b,off,none⟩) n cap,.int .i64 (d+1:Nat)] w (TrR (readF (d+1) (t::q)) w):=by
 obtain ⟨b',off',hbo,hbl,t0,t1,t2⟩:=h.head
 cases hbo
 have hn:0<n:=by have:=h.ln;simp at this;omega
 have hcap:=h.cp
 have hmax:=h.mx
 have hsm:=h.sm
 have hc2:¬ cap≤1:=by omega
 have SL:=hide h.tail
 have hd0:((d:Int)+1 == 0)=false:=by rw [beq_eq_false_iff_ne];omega
 have RE:=hide (readF_cons d t q)
 rw [eq46,eq45,eq60] at RE
 have M1:=hide (mark_same h.ok.head.1 (c:=46) (by decide))
 have M2:=hide (mark_same h.ok.head.1 (c:=45) (by decide))
 have M3:=hide (mark_same h.ok.head.1 (c:=60) (by decide))
 rw [eq46] at M1
 rw [eq45] at M2
 rw [eq60] at M3
 have hB:=below_new w (.cells #[.int .i64 t.k,.int .i64 t.n,.string t.s] 71)
 have BD:=hide (hB.trans ((below_drew (w:=w.alloc (.cells #[.int .i64 t.k,.int .i64 t.n,.string t.s] 71))).mono hB.size))
 have TG:=hide (ht.later (uh BD) ht.lt)
 have SD:=hide ((uh SL).later (uh BD))
 clear hB h ht
 obtain ⟨tk,tn,tx⟩:=t
 simp only at *
 generalize readF (d+1) (⟨tk,tn,tx⟩::q)=RO at *
 by_cases h2:tk=2
 ·
  subst h2
  have O:=hide (show RO=some (⟨1,tn,E0,[]⟩,q) from uh RE)
  clear M1 M2 M3 RE ih it
  go_enter Tryz.func199,Tryz.ntmps199
  go_wp2
  go_region
  go_wp2
  refine bodyPost_ret (results_tmp3 rfl _ _ _) rfl ?_
  exact ⟨uh BD,by rw [uh O];exact ⟨_,_,_,by rw [tv_num];rfl,uh SD⟩⟩
 by_cases h1:tk=1
 ·
  subst h1
  have O:=hide (show RO=some (⟨2,0,tx,[]⟩,q) from uh RE)
  clear M1 M2 M3 RE ih it h2
  go_enter Tryz.func199,Tryz.ntmps199
  go_wp2
  go_region
  go_wp2
  refine bodyPost_ret (results_tmp3 rfl _ _ _) rfl ?_
  exact ⟨uh BD,by rw [uh O];exact ⟨_,_,_,by rw [tv_sym];rfl,uh SD⟩⟩
 by_cases h46:(tx.toList == [46])=true
 ·
  obtain ⟨rfl,rfl⟩:tk=4∧tn=0:=by have:=uh M1;rw [h46] at this;simp only [Bool.and_eq_true,beq_iff_eq] at this;exact ⟨this.1,this.2.1⟩
  have O:=hide (show RO=some (⟨3,0,E0,[]⟩,q) by rw [uh RE,if_neg h2,if_neg h1,if_pos h46])
  have e46:tx.toList = [46]:=by simpa using h46
  clear M1 M2 M3 RE ih it
  go_enter Tryz.func199,Tryz.ntmps199
  go_wp2
  go_region
  go_wp2_with fail
  generalize (w.alloc (Obj.cells #[.int .i64 4,.int .i64 0,.string tx] 71)).drew=W at *
  have BD0:=hide (uh BD)
  have TG0:=hide (uh TG)
  have SD0:=hide (uh SD)
  clear BD TG SD
  refine (markI_any ⟨#[46]⟩ W).mono ?_
  rintro r w3 ⟨rfl,hb⟩
  unfold Tk.v Tk.cs
  have BD1:=hide ((uh BD0).trans (hb.mono (uh BD0).size))
  have TG1:=hide ((uh TG0).later hb (uh TG0).lt)
  have SD1:=hide ((uh SD0).later hb)
  clear hb BD0 TG0 SD0
  go_wp2
  refine bodyPost_ret (results_tmp3 rfl _ _ _) rfl ?_
  exact ⟨uh BD1,by rw [uh O];exact ⟨_,_,_,by rw [tv_here];rfl,uh SD1⟩⟩
 have n46:¬ tx.toList = [46]:=by simpa using h46
 by_cases h45:(tx.toList == [45])=true
 ·
  obtain ⟨rfl,rfl⟩:tk=4∧tn=0:=by have:=uh M2;rw [h45] at this;simp only [Bool.and_eq_true,beq_iff_eq] at this;exact ⟨this.1,this.2.1⟩
  have O:=hide (show RO=(match readF d q with|none=>none|some (a,q)=>some (⟨4,0,E0,[a]⟩,q)) by have e:=uh RE;rw [if_neg h2,if_neg h1,if_neg h46,if_pos h45] at e;exact e)
  have e45:tx.toList = [45]:=by simpa using h45
  have IH:=hide (fun wr (h1:Sl wr (some ⟨b,off+3,none⟩) (n-1) (cap-1) q) h2=>ih _ _ _ q wr h1 h2)
  clear M1 M2 M3 RE ih it h46 h45 n46
  go_enter Tryz.func199,Tryz.ntmps199
  go_wp2
  go_region
  go_wp2_with fail
  generalize (w.alloc (Obj.cells #[.int .i64 4,.int .i64 0,.string tx] 71)).drew=W at *
  have BD0:=hide (uh BD)
  have TG0:=hide (uh TG)
  have SD0:=hide (uh SD)
  clear BD TG SD
  refine (markI_any ⟨#[46]⟩ W).mono ?_
  rintro r w3 ⟨rfl,hb⟩
  unfold Tk.v Tk.cs
  have BD1:=hide ((uh BD0).trans (hb.mono (uh BD0).size))
  have TG1:=hide ((uh TG0).later hb (uh TG0).lt)
  have SD1:=hide ((uh SD0).later hb)
  clear hb BD0 TG0 SD0
  go_wp2_with fail
  refine (markI_any ⟨#[45]⟩ w3).mono ?_
  rintro r w4 ⟨rfl,hb⟩
  unfold Tk.v Tk.cs
  have BD2:=hide ((uh BD1).trans (hb.mono (uh BD1).size))
  have TG2:=hide ((uh TG1).later hb (uh TG1).lt)
  have SD2:=hide ((uh SD1).later hb)
  clear hb BD1 TG1 SD1
  have IH2:=hide (uh IH w4 (uh SD2) (uh TG2))
  clear IH
  unfold TrR at IH2
  cases hr:readF d q with
  | none =>
   rw [hr] at IH2 O
   go_wp2_with fail
   refine (uh IH2).mono ?_
   rintro r w5 ⟨hb5,v,xx,hv,rfl⟩
   have B5:=hide ((uh BD2).trans (hb5.mono (uh BD2).size))
   clear hb5
   rcases hv with rfl|⟨ty,vv,rfl⟩
   ·
    go_wp2
    refine bodyPost_ret (results_tmp3 rfl _ _ _) rfl ?_
    exact ⟨uh B5,by rw [uh O];exact ⟨_,_,.inr ⟨_,_,rfl⟩,rfl⟩⟩
   ·
    go_wp2
    refine bodyPost_ret (results_tmp3 rfl _ _ _) rfl ?_
    exact ⟨uh B5,by rw [uh O];exact ⟨_,_,.inr ⟨_,_,rfl⟩,rfl⟩⟩
  | some p =>
   obtain ⟨e,q2⟩:=p
   rw [hr] at IH2 O
   go_wp2_with fail
   refine (uh IH2).mono ?_
   rintro r w5 ⟨hb5,a5,n5,c5,rfl,hs5⟩
   have B5:=hide ((uh BD2).trans (hb5.mono (uh BD2).size))
   have S5:=hide hs5
   have TN:=hide (tv_neg 0 E0 e)
   obtain ⟨ty,vv,hty⟩:=tv_if e
   rw [hty] at TN ⊢
   clear hb5 hs5 hty
   go_wp2
   refine bodyPost_ret (results_tmp3 rfl _ _ _) rfl ?_
   exact ⟨uh B5,by rw [uh O];exact ⟨_,_,_,by rw [uh TN];rfl,uh S5⟩⟩
 have n45:¬ tx.toList = [45]:=by simpa using h45
 by_cases h60:(tx.toList == [60])=true
 ·
  obtain ⟨rfl,rfl⟩:tk=4∧tn=0:=by have:=uh M3;rw [h60] at this;simp only [Bool.and_eq_true,beq_iff_eq] at this;exact ⟨this.1,this.2.1⟩
  have O:=hide (show RO=twoF d q by have e:=uh RE;rw [if_neg h2,if_neg h1,if_neg h46,if_neg h45,if_pos h60] at e;exact e)
  have e60:tx.toList = [60]:=by simpa using h60
  have IH:=hide (fun wr (h1:Sl wr (some ⟨b,off+3,none⟩) (n-1) (cap-1) q) h2=>it _ _ _ q wr h1 h2)
  clear M1 M2 M3 RE ih it h46 h45 h60 n46 n45
  go_enter Tryz.func199,Tryz.ntmps199
  go_wp2
  go_region
  go_wp2_with fail
  generalize (w.alloc (Obj.cells #[.int .i64 4,.int .i64 0,.string tx] 71)).drew=W at *
  have BD0:=hide (uh BD)
  have TG0:=hide (uh TG)
  have SD0:=hide (uh SD)
  clear BD TG SD
  refine (markI_any ⟨#[46]⟩ W).mono ?_
  rintro r w3 ⟨rfl,hb⟩
  unfold Tk.v Tk.cs
  have BD1:=hide ((uh BD0).trans (hb.mono (uh BD0).size))
  have TG1:=hide ((uh TG0).later hb (uh TG0).lt)
  have SD1:=hide ((uh SD0).later hb)
  clear hb BD0 TG0 SD0
  go_wp2_with fail
  refine (markI_any ⟨#[45]⟩ w3).mono ?_
  rintro r w4 ⟨rfl,hb⟩
  unfold Tk.v Tk.cs
  have BD2:=hide ((uh BD1).trans (hb.mono (uh BD1).size))
  have TG2:=hide ((uh TG1).later hb (uh TG1).lt)
  have SD2:=hide ((uh SD1).later hb)
  clear hb BD1 TG1 SD1
  go_wp2_with fail
  refine (markI_any ⟨#[60]⟩ w4).mono ?_
  rintro r w5 ⟨rfl,hb⟩
  unfold Tk.v Tk.cs
  have BD3:=hide ((uh BD2).trans (hb.mono (uh BD2).size))
  have TG3:=hide ((uh TG2).later hb (uh TG2).lt)
  have SD3:=hide ((uh SD2).later hb)
  clear hb BD2 TG2 SD2
  have IH2:=hide (uh IH w5 (uh SD3) (uh TG3))
  clear IH
  rw [←uh O] at IH2
  unfold TrR at IH2
  clear O
  cases RO with
  | none =>
   go_wp2_with fail
   refine (uh IH2).mono ?_
   rintro r w6 ⟨hb6,v,xx,hv,rfl⟩
   have B6:=hide ((uh BD3).trans (hb6.mono (uh BD3).size))
   have HV:=hide hv
   clear hb6 hv
   go_wp2
   refine bodyPost_ret (results_tmp3 rfl _ _ _) rfl ?_
   exact ⟨uh B6,_,_,uh HV,rfl⟩
  | some p =>
   obtain ⟨e,q2⟩:=p
   go_wp2_with fail
   refine (uh IH2).mono ?_
   rintro r w6 ⟨hb6,a6,n6,c6,rfl,hs6⟩
   have B6:=hide ((uh BD3).trans (hb6.mono (uh BD3).size))
   have S6:=hide hs6
   clear hb6 hs6
   go_wp2
   refine bodyPost_ret (results_tmp3 rfl _ _ _) rfl ?_
   exact ⟨uh B6,_,_,_,rfl,uh S6⟩
 have n60:¬ tx.toList = [60]:=by simpa using h60
 have O:=hide (show RO=none by have e:=uh RE;rw [if_neg h2,if_neg h1,if_neg h46,if_neg h45,if_neg h60] at e;exact e)
 clear M1 M2 M3 RE ih it h46 h45 h60
 go_enter Tryz.func199,Tryz.ntmps199
 go_wp2
 go_region
 go_wp2_with fail
 generalize (w.alloc (Obj.cells #[.int .i64 tk,.int .i64 tn,.string tx] 71)).drew=W at *
 have BD0:=hide (uh BD)
 have TG0:=hide (uh TG)
 have SD0:=hide (uh SD)
 clear BD TG SD
 refine (markI_any ⟨#[46]⟩ W).mono ?_
 rintro r w3 ⟨rfl,hb⟩
 unfold Tk.v Tk.cs
 have BD1:=hide ((uh BD0).trans (hb.mono (uh BD0).size))
 have TG1:=hide ((uh TG0).later hb (uh TG0).lt)
 have SD1:=hide ((uh SD0).later hb)
 clear hb BD0 TG0 SD0
 go_wp2_with fail
 refine (markI_any ⟨#[45]⟩ w3).mono ?_
 rintro r w4 ⟨rfl,hb⟩
 unfold Tk.v Tk.cs
 have BD2:=hide ((uh BD1).trans (hb.mono (uh BD1).size))
 have TG2:=hide ((uh TG1).later hb (uh TG1).lt)
 have SD2:=hide ((uh SD1).later hb)
 clear hb BD1 TG1 SD1
 go_wp2_with fail
 refine (markI_any ⟨#[60]⟩ w4).mono ?_
 rintro r w5 ⟨rfl,hb⟩
 unfold Tk.v Tk.cs
 have BD3:=hide ((uh BD2).trans (hb.mono (uh BD2).size))
 have TG3:=hide ((uh TG2).later hb (uh TG2).lt)
 have SD3:=hide ((uh SD2).later hb)
 clear hb BD2 TG2 SD2
 go_wp2
 refine bodyPost_ret (results_tmp3 rfl _ _ _) rfl ?_
 exact ⟨uh BD3,by rw [uh O];exact ⟨_,_,.inl rfl,rfl⟩⟩
theorem readI_s (d:Nat) (hd:d≤5) (ih:TrP d) (it:TwP d):TrP (d+1):=by
 intro a n cap ts w h ht
 cases ts with
 | nil => exact readI_nil d hd a n cap w h
 | cons t q =>
  obtain ⟨b,off,rfl,_⟩:=h.head
  by_cases hc:cap=1
  · exact readI_one d hd ih it b off n cap t q w h hc ht
  · exact readI_more d hd ih it b off n cap t q w h hc ht
theorem pair_0 (u v:Value) (w:World):Calls Tryz.prog 210 #[.int .i64 0,.agg #[u,v]] w fun r w'=>r = .returned (.tuple #[.nilIface,.bool false])∧Below w.heap.size w w':=by
 have B0:=hide (below_new w (.cells #[u,v] 226))
 go_enter Tryz.func210,Tryz.ntmps210
 go_wp2
 go_ret2
 exact ⟨rfl,uh B0⟩
theorem sgnK_in {s:ByteArray} {k:Int} (h:sgnK s=some k):5≤k∧k≤10:=by
 unfold sgnK at h
 repeat' (split at h)
 all_goals first|(cases h;omega)|cases h
theorem neTok (k n j m:Int) (s r:ByteArray) (w:World):(binOp .neq 71 (.agg #[.int .i64 k,.int .i64 n,.string s]) (.agg #[.int .i64 j,.int .i64 m,.string r])).run Tryz.prog w = .ok (.bool (!(k == j&&(n == m&&s.toList == r.toList)))) w:=by
 go_simp
 by_cases h1:k=j <;> by_cases h2:n=m <;> by_cases h3:s.toList=r.toList <;> simp [h1,h2,h3]
def NoR (w:World) (r:Ending) (w':World):Prop:=Below w.heap.size w w'∧∃ v x,Ifv v∧r = .returned (.tuple #[v,x,.bool false])
def YeR (e:Ex) (q:List Tk) (w:World) (r:Ending) (w':World):Prop:=Below w.heap.size w w'∧∃ a n cap,r = .returned (.tuple #[tv e,.slice a n cap,.bool true])∧Sl w' a n cap q
theorem trR_none {o:Option (Ex × List Tk)} {w:World} (h:o=none):TrR o w=NoR w:=by subst h;rfl
theorem trR_some {o:Option (Ex × List Tk)} {w:World} {e:Ex} {q:List Tk} (h:o=some (e,q)):TrR o w=YeR e q w:=by subst h;rfl
theorem noR_nil {w w':World} {x:Value} (h:Below w.heap.size w w'):NoR w (.returned (.tuple #[.nilIface,x,.bool false])) w':=⟨h,_,_,.inl rfl,rfl⟩
theorem pairI_no (d:Nat) (ih:TrP d) (a:Option Addr) (n cap:Nat) (ts:List Tk) (w:World) (h:Sl w a n cap ts) (ht:TabG w) (hr:readF d ts=none):Calls Tryz.prog 222 #[.slice a n cap,.int .i64 d] w (TrR (twoF d ts) w):=by
 have I1:=hide (ih a n cap ts w h ht)
 rw [trR_none hr] at I1
 unfold NoR at I1
 rw [trR_none (show twoF d ts=none by unfold twoF;rw [hr])]
 have FN:=hide (fun w' x=>@noR_nil w w' x)
 generalize NoR w=NR at *
 clear ih h ht hr
 go_enter Tryz.func222,Tryz.ntmps222
 go_wp2_with fail
 refine (uh I1).mono ?_
 rintro r w1 ⟨hb1,v,xx,hv,rfl⟩
 have B1:=hide hb1
 clear hb1 hv I1
 go_wp2
 refine bodyPost_ret (results_tmp3 rfl _ _ _) rfl ?_
 exact uh FN _ _ (uh B1)
theorem pairI_end (d:Nat) (ih:TrP d) (a:Option Addr) (n cap:Nat) (ts:List Tk) (w:World) (h:Sl w a n cap ts) (ht:TabG w) (e:Ex) (hr:readF d ts=some (e,[])):Calls Tryz.prog 222 #[.slice a n cap,.int .i64 d] w (TrR (twoF d ts) w):=by
 have I1:=hide (ih a n cap ts w h ht)
 rw [trR_some hr] at I1
 unfold YeR at I1
 rw [trR_none (show twoF d ts=none by unfold twoF;rw [hr])]
 have FN:=hide (fun w' x=>@noR_nil w w' x)
 generalize NoR w=NR at *
 clear ih h ht hr
 go_enter Tryz.func222,Tryz.ntmps222
 go_wp2_with fail
 refine (uh I1).mono ?_
 rintro r w1 ⟨hb1,a1,n1,c1,rfl,hs1⟩
 have B1:=hide hb1
 obtain rfl:n1=0:=by have:=hs1.ln;simpa using this.symm
 clear hb1 hs1 I1
 go_wp2
 refine bodyPost_ret (results_tmp3 rfl _ _ _) rfl ?_
 exact uh FN _ _ (uh B1)
theorem pairI_main (d:Nat) (hd:d≤5) (ih:TrP d) (a:Option Addr) (n cap:Nat) (ts:List Tk) (w:World) (h:Sl w a n cap ts) (ht:TabG w) (e:Ex) (t1:Tk) (q1:List Tk) (hr:readF d ts=some (e,t1::q1)):Calls Tryz.prog 222 #[.slice a n cap,.int .i64 d] w (TrR (twoF d ts) w):=by
 have I1:=hide (ih a n cap ts w h ht)
 rw [trR_some hr] at I1
 unfold YeR at I1
 have O:=hide (show twoF d ts=_ by unfold twoF;rw [hr])
 generalize twoF d ts=RO at *
 generalize hTR:TrR RO w=TR at *
 have HT:=hide hTR
 have TG:=hide ht
 have IH:=hide ih
 clear ih h ht hr hTR
 obtain ⟨ty1,v1,hv1⟩:=tv_if e
 rw [hv1] at I1
 go_enter Tryz.func222,Tryz.ntmps222
 go_wp2_with fail
 refine (uh I1).mono ?_
 rintro r w1 ⟨hb1,a1,n1,c1,rfl,hs1⟩
 have B1:=hide hb1
 have TG1:=hide ((uh TG).later hb1 (uh TG).lt)
 have S1:=hide hs1
 obtain ⟨b1,o1,rfl,hbl1,x0,x1,x2⟩:=hs1.head
 have hn1:0<n1:=by have:=hs1.ln;simp at this;omega
 have hz1:((n1:Int) == 0)=false:=by rw [beq_eq_false_iff_ne];omega
 have hok1:=hide hs1.ok.head.1
 have hcp1:=hs1.cp
 have hmx1:=hs1.mx
 have hsm1:=hs1.sm
 have hV:=hide hv1
 clear hb1 hs1 I1 TG hv1
 go_wp2_with fail
 have KP:=hide (kindP_any t1 (uh hok1) w1 (uh TG1))
 unfold Tk.v Tk.cs at KP
 refine (uh KP).mono ?_
 rintro r w2 ⟨rfl,hb2⟩
 have B2:=hide ((uh B1).trans (hb2.mono (uh B1).size))
 have TG2:=hide ((uh TG1).later hb2 (uh TG1).lt)
 have S2:=hide ((uh S1).later hb2)
 generalize hkk:(sgnK t1.s).getD 0=kk at *
 have HK:=hide hkk
 clear hb2 B1 TG1 S1 KP x0 x1 x2 hkk hok1 hbl1
 by_cases hc1:c1=1
 ·
  subst hc1
  obtain rfl:n1=1:=by omega
  obtain rfl:q1 = []:=by have:=(uh S2).ln;simpa using this
  have SL:=hide (show Sl w2 (some ⟨b1,o1,none⟩) 0 0 ([]:List Tk) from ⟨rfl,Nat.le_refl _,by unfold maxLen;omega,.inl rfl,allOk_nil,by omega,.inl rfl⟩)
  have IH2:=hide (uh IH _ _ _ _ w2 (uh SL) (uh TG2))
  clear IH S2 SL TG2
  cases hr2:readF d [] with
  | none =>
   have O2:=hide (show RO=none by rw [uh O,hr2])
   rw [trR_none hr2] at IH2
   unfold NoR at IH2
   go_wp2_with fail
   refine (uh IH2).mono ?_
   rintro r w3 ⟨hb3,v,xx,hv,rfl⟩
   have B3:=hide ((uh B2).trans (hb3.mono (uh B2).size))
   clear hb3 hv IH2 B2 O hr2
   go_wp2
   go_region
   go_wp2
   refine bodyPost_ret (results_tmp3 rfl _ _ _) rfl ?_
   rw [←uh HT,trR_none (uh O2)]
   exact noR_nil ((uh B3).trans ((below_drew (w:=w3)).mono (uh B3).size))
  | some p =>
   obtain ⟨b,q3⟩:=p
   rw [trR_some hr2] at IH2
   unfold YeR at IH2
   obtain ⟨ty3,v3,hv3⟩:=tv_if b
   rw [hv3] at IH2
   have hV3:=hide hv3
   clear hv3
   cases q3 with
   | nil =>
    have O2:=hide (show RO=none by rw [uh O,hr2])
    go_wp2_with fail
    refine (uh IH2).mono ?_
    rintro r w3 ⟨hb3,a3,n3,c3,rfl,hs3⟩
    have B3:=hide ((uh B2).trans (hb3.mono (uh B2).size))
    obtain rfl:n3=0:=by have:=hs3.ln;simpa using this.symm
    clear hb3 hs3 IH2 B2 O hr2
    go_wp2
    go_region
    go_wp2
    refine bodyPost_ret (results_tmp3 rfl _ _ _) rfl ?_
    rw [←uh HT,trR_none (uh O2)]
    exact noR_nil ((uh B3).trans ((below_drew (w:=w3)).mono (uh B3).size))
   | cons t2 q2 =>
    have O2:=hide (show RO=if eqS t2.s (mkS 62)=true then (match sgnK t1.s with|none=>none|some k=>some (⟨k,0,E0,[e,b]⟩,q2)) else none by rw [uh O,hr2];rfl)
    go_wp2_with fail
    refine (uh IH2).mono ?_
    rintro r w3 ⟨hb3,a3,n3,c3,rfl,hs3⟩
    have B3:=hide ((uh B2).trans (hb3.mono (uh B2).size))
    have S3:=hide hs3
    obtain ⟨b3,o3,rfl,hbl3,x0,x1,x2⟩:=hs3.head
    have hn3:0<n3:=by have:=hs3.ln;simp at this;omega
    have hz3:((n3:Int) == 0)=false:=by rw [beq_eq_false_iff_ne];omega
    have hcp3:=hs3.cp
    have hmx3:=hs3.mx
    have hsm3:=hs3.sm
    have M:=hide (mark_same hs3.ok.head.1 (c:=62) (by decide))
    clear hb3 hs3 IH2 B2 O hr2
    go_wp2
    have D3:=hide (show (fun v=>v.cell? ⟨b3,o3,none⟩=some (.int .i64 t2.k)∧v.cell? ⟨b3,o3+1,none⟩=some (.int .i64 t2.n)∧v.cell? ⟨b3,o3+2,none⟩=some (.string t2.s)) w3.drew from ⟨x0,x1,x2⟩)
    refine wp_region_held_drew (S:=fun v=>v.cell? ⟨b3,o3,none⟩=some (.int .i64 t2.k)∧v.cell? ⟨b3,o3+1,none⟩=some (.int .i64 t2.n)∧v.cell? ⟨b3,o3+2,none⟩=some (.string t2.s)) (by kernel_rfl) (uh D3) (fun hS=>?_)
    have HS:=hide hS
    clear hS x0 x1 x2
    refine tkB 0 (.bool true) rfl (uh HS) ?_
    go_simp
    refine tkB 1 (.bool false) rfl (uh HS) ?_
    go_simp
    refine tkB 2 (.bool false) rfl (uh HS) ?_
    go_simp
    refine tkB 3 (.slice (some ⟨b3,o3,none⟩) n3 c3) rfl (uh HS) ?_
    go_simp
    refine tkB 4 (.int .i64 n3) rfl (uh HS) ?_
    go_simp
    refine tkB 5 (.bool false) rfl (uh HS) ?_
    go_simp
    refine tkB 6 (.bool false) rfl (uh HS) ?_
    go_simp
    refine tkB 7 (.bool false) rfl (uh HS) ?_
    go_simp
    refine tkB 8 (.slice (some ⟨b3,o3,none⟩) n3 c3) rfl (uh HS) ?_
    go_simp
    refine tkB 9 (.pointer (some ⟨b3,o3,none⟩)) rfl (uh HS) ?_
    go_simp
    refine tkA 10 (.agg #[.int .i64 t2.k,.int .i64 t2.n,.string t2.s]) rfl (.inl ⟨by rfl,fun w hc=>?_⟩) (uh HS) ?_
    · obtain ⟨h0,h1,h2⟩:=hc;go_simp
    go_simp
    refine wpAnyH_ready (rs:=[11]) (by kernel_rfl) (by simp) ?_
    refine AllReadyH.cons rfl (fun K2 hK=>?_) AllReadyH.nil
    go_simp
    refine (markI_any ⟨#[62]⟩ _).mono ?_
    rintro r w4 ⟨rfl,hb4⟩
    unfold Tk.v Tk.cs
    refine hK.out _ _ (⟨(hb4.cell (p:=⟨b3,o3,none⟩) hbl3).trans (uh D3).1,(hb4.cell (p:=⟨b3,o3+1,none⟩) hbl3).trans (uh D3).2.1,(hb4.cell (p:=⟨b3,o3+2,none⟩) hbl3).trans (uh D3).2.2⟩) (fun hS=>?_)
    clear HS
    have HS:=hide hS
    clear hS hK K2
    have B4:=hide ((uh B3).trans (((below_drew (w:=w3)).trans (hb4.mono (Nat.le_refl _))).mono (uh B3).size))
    have S4:=hide ((uh S3).later ((below_drew (w:=w3)).trans (hb4.mono (Nat.le_refl _))))
    clear hb4 B3 S3 D3
    have n62:eqS t2.s (mkS 62)=false→¬ t2.s.toList = [62]:=fun h e=>by rw [(show eqS t2.s (mkS 62)=true from beq_iff_eq.2 (e.trans (show [62]=(mkS 62).toList by kernel_rfl)))] at h;cases h
    have NT:=neTok t2.k t2.n 4 0 t2.s ⟨#[62]⟩
    rw [show (t2.k == 4&&(t2.n == 0&&t2.s.toList == (⟨#[62]⟩:ByteArray).toList))=eqS t2.s (mkS 62) from uh M] at NT
    cases hq:eqS t2.s (mkS 62) with
    | false =>
     rw [hq] at NT
     have m62:=n62 hq
     have O3:=hide (show RO=none by rw [uh O2,hq];rfl)
     refine tkA 12 (.bool true) rfl (.inl ⟨by rfl,fun w hc=>?_⟩) (uh HS) ?_
     · clear hc;first|(have h:=NT w;simp only [Bool.not_false,Bool.not_true] at h;simp only [execOp];exact h)|(unfold execOp;exact NT w)|(go_simp;done)
     go_simp
     refine tkB 13 (.bool true) rfl (uh HS) ?_
     go_simp
     refine wpAnyH_done (by kernel_rfl) ?_ _
     clear HS NT M O2 hV3 S4
     go_wp2
     refine bodyPost_ret (results_tmp3 rfl _ _ _) rfl ?_
     rw [←uh HT,trR_none (uh O3)]
     exact noR_nil (uh B4)
    | true =>
     rw [hq] at NT
     refine tkA 12 (.bool false) rfl (.inl ⟨by rfl,fun w hc=>?_⟩) (uh HS) ?_
     · clear hc;first|(have h:=NT w;simp only [Bool.not_false,Bool.not_true] at h;simp only [execOp];exact h)|(unfold execOp;exact NT w)|(go_simp;done)
     go_simp
     refine tkB 13 (.bool false) rfl (uh HS) ?_
     go_simp
     refine wpAnyH_done (by kernel_rfl) ?_ _
     clear HS NT M
     cases hs:sgnK t1.s with
     | none =>
      have O3:=hide (show RO=none by rw [uh O2,hq,hs];rfl)
      obtain rfl:kk=0:=by have:=uh HK;rw [hs] at this;exact this.symm
      clear O2 HK hs hV3 hV hq
      go_wp2_with fail
      refine (pair_0 _ _ _).mono ?_
      rintro r w5 ⟨rfl,hb5⟩
      have B5:=hide ((uh B4).trans (((hb5.trans ((below_drew (w:=w5)).mono hb5.size))).mono (uh B4).size))
      clear hb5 B4 S4
      by_cases hc3:c3=1
      ·
       subst hc3
       obtain rfl:n3=1:=by omega
       go_wp2
       go_region
       go_wp2
       refine bodyPost_ret (results_tmp3 rfl _ _ _) rfl ?_
       rw [←uh HT,trR_none (uh O3)]
       exact noR_nil (uh B5)
      ·
       have hc4:¬ c3≤1:=by omega
       go_wp2
       go_region
       go_wp2
       refine bodyPost_ret (results_tmp3 rfl _ _ _) rfl ?_
       rw [←uh HT,trR_none (uh O3)]
       exact noR_nil (uh B5)
     | some k =>
      have O3:=hide (show RO=some (⟨k,0,E0,[e,b]⟩,q2) by rw [uh O2,hq,hs];rfl)
      obtain rfl:k=kk:=by have:=uh HK;rw [hs] at this;exact this
      have hkb:=sgnK_in hs
      have TV:=hide (tv_two hkb 0 E0 e b)
      rw [uh hV,uh hV3] at TV
      have PA:=hide (pair_any k (.iface ty1 v1) (.iface ty3 v3) w4)
      rw [show inB k 5 10=true from inB_t _ _ _ hkb.1 hkb.2] at PA
      clear O2 HK hs hV3 hV hq hkb
      go_wp2_with fail
      refine (uh PA).mono ?_
      rintro r w5 ⟨x,rfl,hx,hb5⟩
      obtain rfl:=hx.2 (by simp)
      have hb6:=hb5.trans ((below_drew (w:=w5)).mono hb5.size)
      have B5:=hide ((uh B4).trans (hb6.mono (uh B4).size))
      have S5:=hide ((uh S4).later hb6)
      clear hx hb5 hb6 B4 S4 PA
      by_cases hc3:c3=1
      ·
       subst hc3
       obtain rfl:n3=1:=by omega
       have hq2:q2 = []:=by have:=(uh S5).ln;simpa using this
       go_wp2
       go_region
       go_wp2
       refine bodyPost_ret (results_tmp3 rfl _ _ _) rfl ?_
       rw [←uh HT,trR_some (uh O3)]
       exact ⟨uh B5,(some ⟨b3,o3,none⟩),0,0,by rw [uh TV];rfl,by rw [hq2];exact ⟨rfl,Nat.le_refl _,by unfold maxLen;omega,.inl rfl,allOk_nil,by omega,.inl rfl⟩⟩
      ·
       have hc4:¬ c3≤1:=by omega
       have S6:=hide (uh S5).tail
       go_wp2
       go_region
       go_wp2
       refine bodyPost_ret (results_tmp3 rfl _ _ _) rfl ?_
       rw [←uh HT,trR_some (uh O3)]
       exact ⟨uh B5,_,_,_,by rw [uh TV];rfl,uh S6⟩
 ·
  have hc2:¬ c1≤1:=by omega
  have SL:=hide (uh S2).tail
  have IH2:=hide (uh IH _ _ _ _ w2 (uh SL) (uh TG2))
  clear IH S2 SL TG2
  cases hr2:readF d q1 with
  | none =>
   have O2:=hide (show RO=none by rw [uh O,hr2])
   rw [trR_none hr2] at IH2
   unfold NoR at IH2
   go_wp2_with fail
   refine (uh IH2).mono ?_
   rintro r w3 ⟨hb3,v,xx,hv,rfl⟩
   have B3:=hide ((uh B2).trans (hb3.mono (uh B2).size))
   clear hb3 hv IH2 B2 O hr2
   go_wp2
   go_region
   go_wp2
   refine bodyPost_ret (results_tmp3 rfl _ _ _) rfl ?_
   rw [←uh HT,trR_none (uh O2)]
   exact noR_nil ((uh B3).trans ((below_drew (w:=w3)).mono (uh B3).size))
  | some p =>
   obtain ⟨b,q3⟩:=p
   rw [trR_some hr2] at IH2
   unfold YeR at IH2
   obtain ⟨ty3,v3,hv3⟩:=tv_if b
   rw [hv3] at IH2
   have hV3:=hide hv3
   clear hv3
   cases q3 with
   | nil =>
    have O2:=hide (show RO=none by rw [uh O,hr2])
    go_wp2_with fail
    refine (uh IH2).mono ?_
    rintro r w3 ⟨hb3,a3,n3,c3,rfl,hs3⟩
    have B3:=hide ((uh B2).trans (hb3.mono (uh B2).size))
    obtain rfl:n3=0:=by have:=hs3.ln;simpa using this.symm
    clear hb3 hs3 IH2 B2 O hr2
    go_wp2
    go_region
    go_wp2
    refine bodyPost_ret (results_tmp3 rfl _ _ _) rfl ?_
    rw [←uh HT,trR_none (uh O2)]
    exact noR_nil ((uh B3).trans ((below_drew (w:=w3)).mono (uh B3).size))
   | cons t2 q2 =>
    have O2:=hide (show RO=if eqS t2.s (mkS 62)=true then (match sgnK t1.s with|none=>none|some k=>some (⟨k,0,E0,[e,b]⟩,q2)) else none by rw [uh O,hr2];rfl)
    go_wp2_with fail
    refine (uh IH2).mono ?_
    rintro r w3 ⟨hb3,a3,n3,c3,rfl,hs3⟩
    have B3:=hide ((uh B2).trans (hb3.mono (uh B2).size))
    have S3:=hide hs3
    obtain ⟨b3,o3,rfl,hbl3,x0,x1,x2⟩:=hs3.head
    have hn3:0<n3:=by have:=hs3.ln;simp at this;omega
    have hz3:((n3:Int) == 0)=false:=by rw [beq_eq_false_iff_ne];omega
    have hcp3:=hs3.cp
    have hmx3:=hs3.mx
    have hsm3:=hs3.sm
    have M:=hide (mark_same hs3.ok.head.1 (c:=62) (by decide))
    clear hb3 hs3 IH2 B2 O hr2
    go_wp2
    have D3:=hide (show (fun v=>v.cell? ⟨b3,o3,none⟩=some (.int .i64 t2.k)∧v.cell? ⟨b3,o3+1,none⟩=some (.int .i64 t2.n)∧v.cell? ⟨b3,o3+2,none⟩=some (.string t2.s)) w3.drew from ⟨x0,x1,x2⟩)
    refine wp_region_held_drew (S:=fun v=>v.cell? ⟨b3,o3,none⟩=some (.int .i64 t2.k)∧v.cell? ⟨b3,o3+1,none⟩=some (.int .i64 t2.n)∧v.cell? ⟨b3,o3+2,none⟩=some (.string t2.s)) (by kernel_rfl) (uh D3) (fun hS=>?_)
    have HS:=hide hS
    clear hS x0 x1 x2
    refine tkB 0 (.bool true) rfl (uh HS) ?_
    go_simp
    refine tkB 1 (.bool false) rfl (uh HS) ?_
    go_simp
    refine tkB 2 (.bool false) rfl (uh HS) ?_
    go_simp
    refine tkB 3 (.slice (some ⟨b3,o3,none⟩) n3 c3) rfl (uh HS) ?_
    go_simp
    refine tkB 4 (.int .i64 n3) rfl (uh HS) ?_
    go_simp
    refine tkB 5 (.bool false) rfl (uh HS) ?_
    go_simp
    refine tkB 6 (.bool false) rfl (uh HS) ?_
    go_simp
    refine tkB 7 (.bool false) rfl (uh HS) ?_
    go_simp
    refine tkB 8 (.slice (some ⟨b3,o3,none⟩) n3 c3) rfl (uh HS) ?_
    go_simp
    refine tkB 9 (.pointer (some ⟨b3,o3,none⟩)) rfl (uh HS) ?_
    go_simp
    refine tkA 10 (.agg #[.int .i64 t2.k,.int .i64 t2.n,.string t2.s]) rfl (.inl ⟨by rfl,fun w hc=>?_⟩) (uh HS) ?_
    · obtain ⟨h0,h1,h2⟩:=hc;go_simp
    go_simp
    refine wpAnyH_ready (rs:=[11]) (by kernel_rfl) (by simp) ?_
    refine AllReadyH.cons rfl (fun K2 hK=>?_) AllReadyH.nil
    go_simp
    refine (markI_any ⟨#[62]⟩ _).mono ?_
    rintro r w4 ⟨rfl,hb4⟩
    unfold Tk.v Tk.cs
    refine hK.out _ _ (⟨(hb4.cell (p:=⟨b3,o3,none⟩) hbl3).trans (uh D3).1,(hb4.cell (p:=⟨b3,o3+1,none⟩) hbl3).trans (uh D3).2.1,(hb4.cell (p:=⟨b3,o3+2,none⟩) hbl3).trans (uh D3).2.2⟩) (fun hS=>?_)
    clear HS
    have HS:=hide hS
    clear hS hK K2
    have B4:=hide ((uh B3).trans (((below_drew (w:=w3)).trans (hb4.mono (Nat.le_refl _))).mono (uh B3).size))
    have S4:=hide ((uh S3).later ((below_drew (w:=w3)).trans (hb4.mono (Nat.le_refl _))))
    clear hb4 B3 S3 D3
    have n62:eqS t2.s (mkS 62)=false→¬ t2.s.toList = [62]:=fun h e=>by rw [(show eqS t2.s (mkS 62)=true from beq_iff_eq.2 (e.trans (show [62]=(mkS 62).toList by kernel_rfl)))] at h;cases h
    have NT:=neTok t2.k t2.n 4 0 t2.s ⟨#[62]⟩
    rw [show (t2.k == 4&&(t2.n == 0&&t2.s.toList == (⟨#[62]⟩:ByteArray).toList))=eqS t2.s (mkS 62) from uh M] at NT
    cases hq:eqS t2.s (mkS 62) with
    | false =>
     rw [hq] at NT
     have m62:=n62 hq
     have O3:=hide (show RO=none by rw [uh O2,hq];rfl)
     refine tkA 12 (.bool true) rfl (.inl ⟨by rfl,fun w hc=>?_⟩) (uh HS) ?_
     · clear hc;first|(have h:=NT w;simp only [Bool.not_false,Bool.not_true] at h;simp only [execOp];exact h)|(unfold execOp;exact NT w)|(go_simp;done)
     go_simp
     refine tkB 13 (.bool true) rfl (uh HS) ?_
     go_simp
     refine wpAnyH_done (by kernel_rfl) ?_ _
     clear HS NT M O2 hV3 S4
     go_wp2
     refine bodyPost_ret (results_tmp3 rfl _ _ _) rfl ?_
     rw [←uh HT,trR_none (uh O3)]
     exact noR_nil (uh B4)
    | true =>
     rw [hq] at NT
     refine tkA 12 (.bool false) rfl (.inl ⟨by rfl,fun w hc=>?_⟩) (uh HS) ?_
     · clear hc;first|(have h:=NT w;simp only [Bool.not_false,Bool.not_true] at h;simp only [execOp];exact h)|(unfold execOp;exact NT w)|(go_simp;done)
     go_simp
     refine tkB 13 (.bool false) rfl (uh HS) ?_
     go_simp
     refine wpAnyH_done (by kernel_rfl) ?_ _
     clear HS NT M
     cases hs:sgnK t1.s with
     | none =>
      have O3:=hide (show RO=none by rw [uh O2,hq,hs];rfl)
      obtain rfl:kk=0:=by have:=uh HK;rw [hs] at this;exact this.symm
      clear O2 HK hs hV3 hV hq
      go_wp2_with fail
      refine (pair_0 _ _ _).mono ?_
      rintro r w5 ⟨rfl,hb5⟩
      have B5:=hide ((uh B4).trans (((hb5.trans ((below_drew (w:=w5)).mono hb5.size))).mono (uh B4).size))
      clear hb5 B4 S4
      by_cases hc3:c3=1
      ·
       subst hc3
       obtain rfl:n3=1:=by omega
       go_wp2
       go_region
       go_wp2
       refine bodyPost_ret (results_tmp3 rfl _ _ _) rfl ?_
       rw [←uh HT,trR_none (uh O3)]
       exact noR_nil (uh B5)
      ·
       have hc4:¬ c3≤1:=by omega
       go_wp2
       go_region
       go_wp2
       refine bodyPost_ret (results_tmp3 rfl _ _ _) rfl ?_
       rw [←uh HT,trR_none (uh O3)]
       exact noR_nil (uh B5)
     | some k =>
      have O3:=hide (show RO=some (⟨k,0,E0,[e,b]⟩,q2) by rw [uh O2,hq,hs];rfl)
      obtain rfl:k=kk:=by have:=uh HK;rw [hs] at this;exact this
      have hkb:=sgnK_in hs
      have TV:=hide (tv_two hkb 0 E0 e b)
      rw [uh hV,uh hV3] at TV
      have PA:=hide (pair_any k (.iface ty1 v1) (.iface ty3 v3) w4)
      rw [show inB k 5 10=true from inB_t _ _ _ hkb.1 hkb.2] at PA
      clear O2 HK hs hV3 hV hq hkb
      go_wp2_with fail
      refine (uh PA).mono ?_
      rintro r w5 ⟨x,rfl,hx,hb5⟩
      obtain rfl:=hx.2 (by simp)
      have hb6:=hb5.trans ((below_drew (w:=w5)).mono hb5.size)
      have B5:=hide ((uh B4).trans (hb6.mono (uh B4).size))
      have S5:=hide ((uh S4).later hb6)
      clear hx hb5 hb6 B4 S4 PA
      by_cases hc3:c3=1
      ·
       subst hc3
       obtain rfl:n3=1:=by omega
       have hq2:q2 = []:=by have:=(uh S5).ln;simpa using this
       go_wp2
       go_region
       go_wp2
       refine bodyPost_ret (results_tmp3 rfl _ _ _) rfl ?_
       rw [←uh HT,trR_some (uh O3)]
       exact ⟨uh B5,(some ⟨b3,o3,none⟩),0,0,by rw [uh TV];rfl,by rw [hq2];exact ⟨rfl,Nat.le_refl _,by unfold maxLen;omega,.inl rfl,allOk_nil,by omega,.inl rfl⟩⟩
      ·
       have hc4:¬ c3≤1:=by omega
       have S6:=hide (uh S5).tail
       go_wp2
       go_region
       go_wp2
       refine bodyPost_ret (results_tmp3 rfl _ _ _) rfl ?_
       rw [←uh HT,trR_some (uh O3)]
       exact ⟨uh B5,_,_,_,by rw [uh TV];rfl,uh S6⟩
theorem pairI_of (d:Nat) (hd:d≤5) (ih:TrP d):TwP d:=by
 intro a n cap ts w h ht
 cases hr:readF d ts with
 | none => exact pairI_no d ih a n cap ts w h ht hr
 | some p =>
  obtain ⟨e,q⟩:=p
  cases q with
  | nil => exact pairI_end d ih a n cap ts w h ht e hr
  | cons t1 q1 => exact pairI_main d hd ih a n cap ts w h ht e t1 q1 hr
theorem readI_all:∀ d:Nat,d≤6→TrP d:=by
 intro d
 induction d with
 | zero => intro _; exact readI_0
 | succ d ih => intro hd; exact readI_s d (by omega) (ih (by omega)) (pairI_of d (by omega) (ih (by omega)))
theorem Sl.at {w:World} {a:Option Addr} {n cap:Nat} {ts:List Tk} (h:Sl w a n cap ts) {j:Nat} (hj:j<n):∃ b off,a=some ⟨b,off,none⟩∧b<w.heap.size∧w.cell? ⟨b,off+j*3,none⟩=some (.int .i64 (tAt ts j).k)∧w.cell? ⟨b,off+j*3+1,none⟩=some (.int .i64 (tAt ts j).n)∧w.cell? ⟨b,off+j*3+2,none⟩=some (.string (tAt ts j).s):=by
 have hl:=h.ln
 rcases h.rd with h0|⟨b,off,ha,hlt,hc⟩
 · rw [h0] at hl;simp at hl;omega
 · exact ⟨b,off,ha,hlt,hc j (by omega)⟩
theorem seeM_at {ts:List Tk} {j:Nat} (h:AllOk ts) (hj:j<ts.length) {c:UInt8} (hc:smB (c.toNat:Int)=false):seeM (ts.drop j) c=((tAt ts j).k == 4&&((tAt ts j).n == 0&&(tAt ts j).s.toList == (mkS c).toList)):=by
 rw [drop_at hj]
 show isM (tAt ts j) c=_
 rw [mark_same (h _ (by unfold tAt;rw [List.getD_eq_getElem?_getD,List.getElem?_eq_getElem hj];exact List.getElem_mem hj)) hc]
 rfl
theorem smI (j:Nat) (c:UInt8) (hc:smB (c.toNat:Int)=false) (rb:Nat) (ts:List Tk) (w:World) (hj:j≤1) (h:Pr w rb ts):Calls Tryz.prog 198 #[.pointer (some ⟨rb,0,none⟩),.int .i64 j,.string (mkS c)] w fun r w'=>r = .returned (.bool (seeM (ts.drop j) c))∧Below w.heap.size w w':=by
 obtain ⟨a,n,cap,h⟩:=h
 have hl:=h.sl.ln
 have hsm:=h.sl.sm
 have MK:=hide (fun y:Sub w.heap.size w=>markI_any (mkS c) y.w)
 have C0:∀ y:Sub w.heap.size w,y.w.cell? ⟨rb,0,none⟩=some (.slice a n cap):=fun y=>(h.later y.h).cell
 have ne:=Sub.ne w.heap.size w
 have HZ:=hide (Nat.le_refl w.heap.size)
 have HB:=hide (fun y:Sub w.heap.size w=>y.h)
 unfold Tk.v Tk.cs at MK
 simp only at MK
 by_cases hjn:j<n
 ·
  have SE:=hide (seeM_at h.sl.ok (hl▸hjn) hc)
  obtain ⟨b,off,rfl,hbl,t0,t1,t2⟩:=h.sl.at hjn
  have T0:∀ y:Sub w.heap.size w,y.w.cell? ⟨b,off+j*3,none⟩=some (.int .i64 (tAt ts j).k):=fun y=>(y.h.cell (p:=⟨b,off+j*3,none⟩) hbl).trans t0
  have T1:∀ y:Sub w.heap.size w,y.w.cell? ⟨b,off+j*3+1,none⟩=some (.int .i64 (tAt ts j).n):=fun y=>(y.h.cell (p:=⟨b,off+j*3+1,none⟩) hbl).trans t1
  have T2:∀ y:Sub w.heap.size w,y.w.cell? ⟨b,off+j*3+2,none⟩=some (.string (tAt ts j).s):=fun y=>(y.h.cell (p:=⟨b,off+j*3+2,none⟩) hbl).trans t2
  generalize (tAt ts j).k=tk at *
  generalize (tAt ts j).n=tn at *
  generalize (tAt ts j).s=tx at *
  generalize seeM (ts.drop j) c=Q at *
  clear h t0 t1 t2 hl
  generalize mkS c=ms at *
  have EQ:=fun w=>eqTok tk tn 4 0 tx ms w
  have E:=(uh SE).symm
  clear SE
  generalize (tk == 4&&(tn == 0&&tx.toList == ms.toList))=Q2 at *
  subst E
  have hi1:(j:Int)<(n:Int):=by omega
  have hi2:¬ (n:Int)≤(j:Int):=by omega
  go_enter Tryz.func198,Tryz.ntmps198
  go_wp2_with fail
  refine wp_region_sub (⟨w,Below.refl _ _⟩:Sub w.heap.size w) (by kernel_rfl) (by kernel_rfl) ?_
  repeat (go_big_quiet_step (first|(go_at_call 44;exact Sub.call (uh HZ) (uh MK _))))
  refine wpQuiet_nil ?_
  intro y
  go_wp2
  go_ret
  exact ⟨rfl,uh HB y⟩
 ·
  have E:seeM (ts.drop j) c=false:=by rw [List.drop_eq_nil_of_le (by omega)];rfl
  rw [E]
  clear h E hl
  have hi1:¬ (j:Int)<(n:Int):=by omega
  have hi2:(n:Int)≤(j:Int):=by omega
  have hi3:decide ((j:Int)<(n:Int))=false:=decide_eq_false hi1
  generalize mkS c=ms at *
  go_enter Tryz.func198,Tryz.ntmps198
  go_wp2_with fail
  refine wp_region_sub (⟨w,Below.refl _ _⟩:Sub w.heap.size w) (by kernel_rfl) (by kernel_rfl) ?_
  repeat (go_big_quiet_step (first|(go_at_call 44;exact Sub.call (uh HZ) (uh MK _))))
  refine wpQuiet_nil ?_
  intro y
  go_wp2
  go_ret
  exact ⟨rfl,uh HB y⟩
def PsR (c:UInt8) (rb:Nat) (ts:List Tk) (w:World) (r:Ending) (w':World):Prop:=r = .returned (.bool (seeM ts c))∧Pr w' rb (if seeM ts c=true then ts.tail else ts)∧w.grownBy w' (some rb)
theorem psI (c:UInt8) (hc:smB (c.toNat:Int)=false) (rb:Nat) (ts:List Tk) (w:World) (h:Pr w rb ts):Calls Tryz.prog 158 #[.pointer (some ⟨rb,0,none⟩),.string (mkS c)] w (PsR c rb ts w):=by
 have S:=hide (smI 0 c hc rb ts w (by omega) h)
 rw [List.drop_zero] at S
 have H:=hide h
 clear h
 cases hs:seeM ts c with
 | false =>
  rw [hs] at S
  have F:=hide (fun r w' (hr:r = .returned (.bool false)) (hb:Below w.heap.size w w')=>(show PsR c rb ts w r w' from ⟨by rw [hs];exact hr,by rw [hs];exact (uh H).later hb,grownBy_below hb⟩))
  generalize PsR c rb ts w=R at *
  generalize mkS c=ms at *
  go_enter Tryz.func158,Tryz.ntmps158
  go_wp2_with fail
  refine (uh S).mono ?_
  rintro r w1 ⟨rfl,hb⟩
  have F1:=hide (uh F _ _ rfl hb)
  clear hb F S
  go_wp2
  (try go_ret)
  exact uh F1
 | true =>
  rw [hs] at S
  obtain ⟨t,q,rfl⟩:∃ t q,ts=t::q:=by
   cases ts with
   | nil => cases hs
   | cons t q => exact ⟨t, q, rfl⟩
  have F:=hide (fun r w' (hr:r = .returned (.bool true)) (hz:Pr w' rb q) (hg:w.grownBy w' (some rb))=>(show PsR c rb (t::q) w r w' from ⟨by rw [hs];exact hr,by rw [hs];exact hz,hg⟩))
  generalize PsR c rb (t::q) w=R at *
  generalize mkS c=ms at *
  go_enter Tryz.func158,Tryz.ntmps158
  go_wp2_with fail
  refine (uh S).mono ?_
  rintro r w1 ⟨rfl,hb⟩
  have X:=hide (nxtI rb (t::q) w1 ((uh H).later hb))
  have G:=hide (grownBy_below (r:=some rb) hb)
  clear hb S H
  go_wp2_with fail
  refine (uh X).mono ?_
  rintro r w2 ⟨hg,v,rfl,hv,hz⟩
  have F1:=hide (fun r hr=>uh F r w2 hr hz (grownBy_trans (uh G) hg))
  clear hg hv hz F G X
  go_wp2
  (try go_ret)
  exact uh F1 _ rfl
def pWn (u:Tk):List Tk→Option (Unit × List Tk)
 | [] => none
 | t :: r => if (t.k == u.k && (t.n == u.n && t.s.toList == u.s.toList)) = true then some ((), r) else none
theorem pWn_mark {ts:List Tk} (h:AllOk ts) {c:UInt8} (hc:smB (c.toNat:Int)=false):pWn (mkT c) ts=pMs (mkS c) ts:=by
 cases ts with
 | nil => rfl
 | cons t r =>
  show (if (t.k == 4&&(t.n == 0&&t.s.toList == (mkS c).toList))=true then some ((),r) else none)=if eqS t.s (mkS c)=true then some ((),r) else none
  rw [mark_same h.head.1 hc]
theorem wnI (u:Tk) (rb:Nat) (ts:List Tk) (w:World) (h:Pr w rb ts):Calls Tryz.prog 159 #[.pointer (some ⟨rb,0,none⟩),.agg #[.int .i64 u.k,.int .i64 u.n,.string u.s]] w (PnR (pWn u ts) VUn rb w):=by
 have FN:=hide (fun r w' (ho:pWn u ts=none) (hr:r = .panicked pn) (hg:w.grownBy w' (some rb))=>(show PnR (pWn u ts) VUn rb w r w' from pnR_none ho hr hg))
 have FY:=hide (fun r w' q (ho:pWn u ts=some ((),q)) (hr:r = .returned (.tuple #[])) (hz:Pr w' rb q) (hg:w.grownBy w' (some rb))=>(show PnR (pWn u ts) VUn rb w r w' from pnR_some (x:=()) ho hr hg rfl hz))
 have PW:=hide (show ∀ t q,ts=t::q→pWn u ts=if (t.k == u.k&&(t.n == u.n&&t.s.toList == u.s.toList))=true then some ((),q) else none from fun t q e=>by subst e;rfl)
 have P0:=hide (show ts = []→pWn u ts=none from fun e=>by subst e;rfl)
 generalize PnR (pWn u ts) VUn rb w=R at *
 generalize pWn u ts=PO at *
 have hb0:=below_new w (.cells #[.int .i64 u.k,.int .i64 u.n,.string u.s] 71)
 have rT:(w.alloc (.cells #[.int .i64 u.k,.int .i64 u.n,.string u.s] 71)).heap[w.heap.size]?=some (.cells #[.int .i64 u.k,.int .i64 u.n,.string u.s] 71 (0,0)):=Array.getElem?_push_size
 obtain ⟨W,hW⟩:∃ W,w.alloc (.cells #[.int .i64 u.k,.int .i64 u.n,.string u.s] 71)=W:=⟨_,rfl⟩
 rw [hW] at hb0 rT
 generalize u.k=uk at *
 generalize u.n=un at *
 generalize u.s=us at *
 have hrl:=h.lt
 have X:=hide (nxtI rb ts W.drew ((h.later hb0).later below_drew))
 have G:=hide (grownBy_trans (grownBy_below (r:=some rb) hb0) (grownBy_below (r:=some rb) (below_drew (w:=W))))
 have D0:=hide (show (fun w'=>w'.heap[w.heap.size]?=some (.cells #[.int .i64 uk,.int .i64 un,.string us] 71 (0,0))) W.drew from row_keep rT below_drew)
 clear hb0 h rT
 go_enter Tryz.func159,Tryz.ntmps159
 go_wp2_with fail
 refine wp_region_held_drew (S:=fun w'=>w'.heap[w.heap.size]?=some (.cells #[.int .i64 uk,.int .i64 un,.string us] 71 (0,0))) (by kernel_rfl) (uh D0) (fun hS=>?_)
 have HS:=hide hS
 clear hS
 generalize W.drew=Y at *
 refine tkB 0 (.pointer (some ⟨rb,0,none⟩)) rfl (uh HS) ?_
 go_simp
 refine tkA 2 (.agg #[.int .i64 uk,.int .i64 un,.string us]) rfl (yields_loadG (by rfl) 71 _ rfl w.heap.size rfl 71 #[.int .i64 uk,.int .i64 un,.string us] _ (fun w h=>h) Tryz.underlying71 rfl (by kernel_rfl)) (uh HS) ?_
 go_simp
 refine wpAnyH_ready (rs:=[1]) (by kernel_rfl) (by simp) ?_
 refine AllReadyH.cons rfl (fun K2 hK=>?_) AllReadyH.nil
 go_simp
 refine (uh X).mono ?_
 rintro r w1 ⟨hg,hm⟩
 have G1:=hide (grownBy_trans (uh G) hg)
 have D1:=hide ((hg.block _ (Array.getElem?_eq_some_iff.1 (uh D0)).1 (fun e=>by simp at e;omega)).trans (uh D0))
 clear hg G X
 cases ts with
 | nil =>
  have hr:r = .panicked pn:=hm
  subst hr
  exact ⟨rfl,uh FN _ _ (uh P0 rfl) rfl (uh G1)⟩
 | cons t q =>
  obtain ⟨v,rfl,hv,hz⟩:=hm
  unfold VTk at hv
  subst hv
  have ZZ:=hide hz
  have PE:=hide (uh PW t q rfl)
  clear hz PW P0
  generalize t.k=tk at *
  generalize t.n=tn at *
  generalize t.s=tx at *
  refine hK.out _ _ (uh D1) (fun hS=>?_)
  clear HS
  have HS:=hide hS
  clear hS hK K2
  cases hq:(tk == uk&&(tn == un&&tx.toList == us.toList)) with
  | false =>
   have EQ:=fun w=>(neTok tk tn uk un tx us w).trans (by rw [hq])
   have F3:=hide (uh FN _ w1 ((uh PE).trans (if_neg (by rw [hq];decide))) rfl (uh G1))
   clear FN FY PE hq
   refine tkB 3 (.bool true) rfl (uh HS) ?_
   go_simp
   refine wpAnyH_done (by kernel_rfl) ?_ _
   clear HS
   go_wp2
   exact ⟨rfl,uh F3⟩
  | true =>
   have EQ:=fun w=>(neTok tk tn uk un tx us w).trans (by rw [hq])
   have F3:=hide (uh FY _ w1 q ((uh PE).trans (if_pos hq)) rfl (uh ZZ) (uh G1))
   clear FN FY PE hq
   refine tkB 3 (.bool false) rfl (uh HS) ?_
   go_simp
   refine wpAnyH_done (by kernel_rfl) ?_ _
   clear HS
   go_wp2
   go_end0
   exact uh F3
def qNm:List Tk→Option (ByteArray × List Tk)
 | [] => none
 | t :: r => if t.k = 1 then some (t.s, r) else none
def qRg:List Tk→Option (Int × List Tk)
 | [] => none
 | t :: r => if regN t < 0 then none else some (regN t, r)
def qSy (ts:List Tk):Option (Ex × List Tk):=bnd (qNm ts) fun s q=>some (⟨2,0,s,[]⟩,q)
def qTs (rd:List Tk→Option (Ex × List Tk)):Nat→List Tk→Option (List Ex × List Tk)
 | 0, _ => none
 | m + 1, ts => bnd (rd ts) fun e q => if 0 < m ∧ seeM q 44 = true then bnd (qTs rd m q.tail) fun l q => some (e :: l, q) else some ([e], q)
theorem bnd_no {α β:Type} {o:Option (α × List Tk)} (h:o=none) (f:α→List Tk→Option (β × List Tk)):bnd o f=none:=by rw [h];rfl
theorem bnd_at {α β:Type} {o:Option (α × List Tk)} {x:α} {q:List Tk} (h:o=some (x,q)) (f:α→List Tk→Option (β × List Tk)):bnd o f=f x q:=by rw [h];rfl
theorem qNm_bnd (ts:List Tk):qNm ts=bnd (pNx ts) fun t q=>if t.k=1 then some (t.s,q) else none:=by cases ts <;> rfl
theorem qRg_bnd (ts:List Tk):qRg ts=bnd (pNx ts) fun t q=>if regN t<0 then none else some (regN t,q):=by cases ts <;> rfl
theorem pRnd_prog (ts:List Tk):pRndI ts=bnd (pMs (mkS 40) ts) fun _ q=>bnd (qRg q) fun n q=>bnd (pMs (mkS 41) q) fun _ q=>some (n,q):=by
 rw [pRnd_bind]
 congr 1
 funext u q
 rw [qRg_bnd]
 cases q with
 | nil => rfl
 | cons t q =>
  show bnd (pMs (mkS 41) q) (fun _ q=>if regN t<0 then none else some (regN t,q))=bnd (if regN t<0 then none else some (regN t,q)) fun n q=>bnd (pMs (mkS 41) q) fun _ q=>some (n,q)
  by_cases h:regN t<0
  ·
   rw [if_pos h]
   cases pMs (mkS 41) q with
   | none => rfl
   | some p => show (if regN t < 0 then none else some (regN t, p.2)) = none; rw [if_pos h]
  ·
   rw [if_neg h]
   show _=bnd (pMs (mkS 41) q) fun _ q=>some (regN t,q)
   cases pMs (mkS 41) q with
   | none => rfl
   | some p => show (if regN t < 0 then none else some (regN t, p.2)) = some (regN t, p.2); rw [if_neg h]
set_option maxRecDepth 100000 in
theorem ixbI (s:ByteArray) (c:Int) (w:World):Calls Tryz.prog 214 #[.string s,.int .u8 c] w fun e w'=>e = .returned (.int .i64 (Lib.indexByte s.data.toList c.toNat.toUInt8))∧w'=w:=by
 have RN:∀ w:World,(Extern.BytealgIndexByte.indexByte #[.string s,.int .u8 c]).run Tryz.prog w = .ok (.int .i64 (Lib.indexByte s.data.toList c.toNat.toUInt8)) w:=fun w=>Lib.run_indexByteString s c w
 generalize Lib.indexByte s.data.toList c.toNat.toUInt8=z at *
 go_enter Tryz.func214,Tryz.ntmps214
 go_wp2
 rw [run_callFunc_extern Tryz.func232 (by kernel_rfl) (by kernel_rfl) (by kernel_rfl) (e:=Extern.BytealgIndexByte.indexByte) (by kernel_rfl),RN]
 simp only [Result.andThen]
 rw [Oper.upon_value]
 go_wp2
 go_ret
 exact ⟨rfl,rfl⟩
theorem ixsI (s:ByteArray) (c:UInt8) (w:World):Calls Tryz.prog 188 #[.string s,.string ⟨#[c]⟩] w fun e w'=>e = .returned (.int .i64 (Lib.indexByte s.data.toList c))∧w'=w:=by
 have IX:=hide (fun w=>ixbI s c.toNat w)
 have hc:((c.toNat:Int)).toNat.toUInt8=c:=by simp
 rw [hc] at IX
 have Z:=hide (show ([c] == s.toList)=true→Lib.indexByte s.data.toList c=0 from fun h=>by
  have e:s.data.toList = [c]:=by rw [←Lib.toList_data];exact (beq_iff_eq.1 h).symm
  rw [e]
  simp [Lib.indexByte])
 clear hc
 generalize Lib.indexByte s.data.toList c=z at *
 cases hq:([c] == s.toList) with
 | true =>
  have Z0:=uh Z hq
  subst Z0
  clear Z
  go_enter Tryz.func188,Tryz.ntmps188
  go_wp2
  go_ret
  exact ⟨rfl,rfl⟩
 | false =>
  clear Z
  go_enter Tryz.func188,Tryz.ntmps188
  go_wp2_with (go_at_call 214;refine (uh IX _).mono ?_;rintro e w' ⟨rfl,hw'⟩;rw [hw'];clear hw' w')
  go_ret
  exact ⟨rfl,rfl⟩
structure Sh where
 nm:Bool
 src:Bool
 dst:Bool
 gn:Int
 fw:Int
 mo:Int
 na:Bool
def Sh.cs (s:Sh):Array Value:=#[.bool s.nm,.bool s.src,.bool s.dst,.int .i64 s.gn,.int .i64 s.fw,.int .i64 s.mo,.bool s.na]
theorem storeN {P:Program} {ops:Array Oper} {rest:List Oper} {o:Oper} {a:Act} {w:World} {Q:Exit→Act→World→Prop} (hgd:o.guard=none) (ty:TypeId) (x y:Operand) (ho:o.op = .store ty x y)
  (cells:Array Value) (hx:a.eval x = .pointer (some ⟨w.heap.size,0,none⟩)) (hy:a.eval y = .agg cells) (old:Array Value) (hi:(P.info? ty).map (·.size)=some cells.size)
  (hold:old.size=cells.size) (h1:cells.all (·.oneCell')=true) (h:wpList P ops Q rest (a.put o.dst undef) (w.alloc (.cells cells ty))):wpList P ops Q (o::rest) a (w.alloc (.cells old ty)) :=
 wpList_store_row hgd ty x y ho w.heap.size cells hx hy ty old (show (w.alloc (.cells old ty)).heap[w.heap.size]?=some (.cells old ty (0,0)) from Array.getElem?_push_size) hi hold h1 (by rw [World.setRow_alloc_new];exact h)
theorem szSh:(Tryz.prog.info? 129).map (·.size)=some 7:=by kernel_rfl
theorem sh_one (a b c d:Bool) (e f g:Int):(#[.bool a,.bool b,.bool c,.int .i64 e,.int .i64 f,.int .i64 g,.bool d]:Array Value).all (·.oneCell')=true:=by simp [Value.oneCell']
theorem srcB_any (op:Int) (w:World):Calls Tryz.prog 191 #[.int .i64 op] w fun e w'=>e = .returned (.bool (inB op 1 6))∧w'=w:=by
 go_enter Tryz.func191,Tryz.ntmps191
 go_wp2
 all_goals go_ret
 all_goals (refine ⟨ret_bool ?_,rfl⟩;unfold inB;simp_all <;> omega)
theorem dstB_any (op:Int) (w:World):Calls Tryz.prog 192 #[.int .i64 op] w fun e w'=>e = .returned (.bool (inB op 1 15))∧w'=w:=by
 go_enter Tryz.func192,Tryz.ntmps192
 go_wp2
 all_goals go_ret
 all_goals (refine ⟨ret_bool ?_,rfl⟩;unfold inB;simp_all <;> omega)
theorem braB_any (op:Int) (w:World):Calls Tryz.prog 193 #[.int .i64 op] w fun e w'=>e = .returned (.bool (inB op 17 21))∧w'=w:=by
 go_enter Tryz.func193,Tryz.ntmps193
 go_wp2
 all_goals go_ret
 all_goals (refine ⟨ret_bool ?_,rfl⟩;unfold inB;simp_all <;> omega)
theorem isoB_any (op:Int) (w:World):Calls Tryz.prog 194 #[.int .i64 op] w fun e w'=>e = .returned (.bool (inB op 1 23))∧w'=w:=by
 go_enter Tryz.func194,Tryz.ntmps194
 go_wp2
 all_goals go_ret
 all_goals (refine ⟨ret_bool ?_,rfl⟩;unfold inB;simp_all <;> omega)
def regB (op:Int):Bool:=op == 15 || op == 16
theorem regB_any (op:Int) (w:World):Calls Tryz.prog 102 #[.int .i64 op] w fun e w'=>e = .returned (.bool (regB op))∧w'=w:=by
 go_enter Tryz.func102,Tryz.ntmps102
 go_wp2
 all_goals go_ret
 all_goals (refine ⟨ret_bool ?_,rfl⟩;unfold regB;simp_all)
def shP (q1 q2 q3 q4:Bool):Sh:=⟨false,q1,q2,if q3=true then 7 else 0,if q3=true then 0 else if q4=true then 1 else 0,if q3=true then 0 else if q4=true then 1 else 0,false⟩
theorem shiI_any (op:Int) (w:World):Calls Tryz.prog 149 #[.int .i64 op] w fun r w'=>r = .returned (.tuple #[.agg (shP (inB op 1 6) (inB op 1 15) (regB op) (inB op 17 21 || op == 23)).cs,.bool (inB op 1 23)])∧Below w.heap.size w w':=by
 have C1:=hide (fun w=>srcB_any op w)
 have C2:=hide (fun w=>dstB_any op w)
 have C3:=hide (fun w=>regB_any op w)
 have C4:=hide (fun w=>braB_any op w)
 have C5:=hide (fun w=>isoB_any op w)
 generalize inB op 1 6=q1 at *
 generalize inB op 1 15=q2 at *
 generalize regB op=q3 at *
 generalize inB op 17 21=q4 at *
 generalize inB op 1 23=q6 at *
 obtain ⟨V,hV⟩:∃ V,w.alloc (.cells #[.bool false,.bool false,.bool false,.int .i64 0,.int .i64 0,.int .i64 0,.bool false] 129)=V:=⟨_,rfl⟩
 have bV:Below w.heap.size w V:=by rw [←hV];exact below_new _ _
 have rV:V.heap[w.heap.size]?=some (.cells #[.bool false,.bool false,.bool false,.int .i64 0,.int .i64 0,.int .i64 0,.bool false] 129 (0,0)):=by rw [←hV];exact Array.getElem?_push_size
 have lV:w.heap.size<V.heap.size:=(Array.getElem?_eq_some_iff.1 rV).1
 obtain ⟨U,hU⟩:∃ U,V.alloc (.cells #[.bool false,.bool q1,.bool q2,.int .i64 0,.int .i64 0,.int .i64 0,.bool false] 129)=U:=⟨_,rfl⟩
 have bU:Below V.heap.size V U:=by rw [←hU];exact below_new _ _
 have rU:U.heap[V.heap.size]?=some (.cells #[.bool false,.bool q1,.bool q2,.int .i64 0,.int .i64 0,.int .i64 0,.bool false] 129 (0,0)):=by rw [←hU];exact Array.getElem?_push_size
 have NE:=hide (show V.heap.size≠w.heap.size by omega)
 cases q3 with
 | true =>
  obtain ⟨X0,hX0⟩:∃ X,U.setCell ⟨V.heap.size,3,none⟩ (.int .i64 7)=X:=⟨_,rfl⟩
  have fX0:U.frozen? ⟨V.heap.size,3,none⟩=false:=by simp [World.frozen?,rU]
  have cX0:=Lib.cell_of_heap rU 3
  have bX0:Below V.heap.size V X0:=by rw [←hX0];exact bU.setCell (p:=⟨V.heap.size,3,none⟩) (Nat.le_refl _) _
  have rX0:X0.heap[V.heap.size]?=some (.cells #[.bool false,.bool q1,.bool q2,.int .i64 7,.int .i64 0,.int .i64 0,.bool false] 129 (0,0)):=by rw [←hX0];exact heap_setCell_same _ _ _ _ _ _ rU
  have RZ:=hide ((bX0.block _ lV).trans rV)
  have RS:=hide rX0
  have BB:=hide (bV.trans (bX0.mono bV.size))
  have VV:(shP q1 q2 true (q4 || op == 23)).cs=#[.bool false,.bool q1,.bool q2,.int .i64 7,.int .i64 0,.int .i64 0,.bool false]:=rfl
  rw [VV]
  clear VV rV lV bV rU bU rX0 bX0
  go_enter Tryz.func149,Tryz.ntmps149
  go_wp2_with (first|(refine storeN rfl 129 _ _ rfl #[.bool false,.bool q1,.bool q2,.int .i64 0,.int .i64 0,.int .i64 0,.bool false] rfl rfl _ szSh rfl (sh_one _ _ _ _ _ _ _) ?_;rw [hU])|(go_at_call 191;refine (uh C1 _).mono ?_;rintro e w' ⟨rfl,hw'⟩;rw [hw'];clear hw' w')|(go_at_call 192;refine (uh C2 _).mono ?_;rintro e w' ⟨rfl,hw'⟩;rw [hw'];clear hw' w')|(go_at_call 102;refine (uh C3 _).mono ?_;rintro e w' ⟨rfl,hw'⟩;rw [hw'];clear hw' w')|(go_at_call 193;refine (uh C4 _).mono ?_;rintro e w' ⟨rfl,hw'⟩;rw [hw'];clear hw' w'))
  have D0:=hide (show X0.drew.heap[V.heap.size]?=some (.cells #[.bool false,.bool q1,.bool q2,.int .i64 7,.int .i64 0,.int .i64 0,.bool false] 129 (0,0)) from row_keep (uh RS) below_drew)
  have RD:=hide (row_keep (uh RZ) (below_drew (w:=X0)))
  have BD:=hide ((uh BB).trans ((below_drew (w:=X0)).mono (uh BB).size))
  refine wp_region_held_drew (S:=fun w'=>w'.heap[V.heap.size]?=some (.cells #[.bool false,.bool q1,.bool q2,.int .i64 7,.int .i64 0,.int .i64 0,.bool false] 129 (0,0))) (by kernel_rfl) (uh D0) (fun hS=>?_)
  have HS:=hide hS
  clear hS RS RZ BB
  generalize X0.drew=Y at *
  refine tkA 0 (.agg #[.bool false,.bool q1,.bool q2,.int .i64 7,.int .i64 0,.int .i64 0,.bool false]) rfl (yields_loadG (by rfl) 129 _ rfl V.heap.size rfl 129 #[.bool false,.bool q1,.bool q2,.int .i64 7,.int .i64 0,.int .i64 0,.bool false] _ (fun w h=>h) Tryz.underlying129 rfl (by kernel_rfl)) (uh HS) ?_
  go_simp
  refine tkB 1 (.int .i64 op) rfl (uh HS) ?_
  go_simp
  refine wpAnyH_ready (rs:=[2]) (by kernel_rfl) (by simp) ?_
  refine AllReadyH.cons rfl (fun K2 hK=>?_) AllReadyH.nil
  go_simp
  refine (uh C5 _).mono ?_
  rintro e w' ⟨rfl,hw'⟩
  rw [hw']
  clear hw' w'
  refine hK.out _ _ (uh D0) (fun hS=>?_)
  clear HS
  have HS:=hide hS
  clear hS hK K2
  refine wpAnyH_ready (rs:=[3]) (by kernel_rfl) (by simp) ?_
  refine AllReadyH.cons rfl (fun K2 hK=>?_) AllReadyH.nil
  rw [if_pos (by rfl)]
  refine wp_store_row 129 _ _ rfl w.heap.size #[.bool false,.bool q1,.bool q2,.int .i64 7,.int .i64 0,.int .i64 0,.bool false] rfl rfl 129 _ (uh RD) szSh rfl (sh_one _ _ _ _ _ _ _) ?_
  refine hK.out _ _ ((setRow_other _ _ _ _ (uh NE)).trans (uh D0)) (fun hS=>?_)
  clear HS
  have HS:=hide hS
  clear hS hK K2
  refine tkB 4 (.bool q6) rfl (uh HS) ?_
  go_simp
  refine wpAnyH_done (by kernel_rfl) ?_ _
  clear HS
  go_wp2
  refine bodyPost_ret (results_row2 (P:=Tryz.prog) rfl _ _ w.heap.size 129 #[.bool false,.bool q1,.bool q2,.int .i64 7,.int .i64 0,.int .i64 0,.bool false] (0,0) _ rfl (setRow_heap _ _ _ _ _ _ (uh RD)) Tryz.underlying129 rfl szSh) rfl ?_
  exact ⟨rfl,below_row (uh BD)⟩
 | false =>
  cases q4 with
  | true =>
   obtain ⟨X0,hX0⟩:∃ X,U.setCell ⟨V.heap.size,4,none⟩ (.int .i64 1)=X:=⟨_,rfl⟩
   have fX0:U.frozen? ⟨V.heap.size,4,none⟩=false:=by simp [World.frozen?,rU]
   have cX0:=Lib.cell_of_heap rU 4
   have bX0:Below V.heap.size V X0:=by rw [←hX0];exact bU.setCell (p:=⟨V.heap.size,4,none⟩) (Nat.le_refl _) _
   have rX0:X0.heap[V.heap.size]?=some (.cells #[.bool false,.bool q1,.bool q2,.int .i64 0,.int .i64 1,.int .i64 0,.bool false] 129 (0,0)):=by rw [←hX0];exact heap_setCell_same _ _ _ _ _ _ rU
   obtain ⟨X1,hX1⟩:∃ X,X0.setCell ⟨V.heap.size,5,none⟩ (.int .i64 1)=X:=⟨_,rfl⟩
   have fX1:X0.frozen? ⟨V.heap.size,5,none⟩=false:=by simp [World.frozen?,rX0]
   have cX1:=Lib.cell_of_heap rX0 5
   have bX1:Below V.heap.size V X1:=by rw [←hX1];exact bX0.setCell (p:=⟨V.heap.size,5,none⟩) (Nat.le_refl _) _
   have rX1:X1.heap[V.heap.size]?=some (.cells #[.bool false,.bool q1,.bool q2,.int .i64 0,.int .i64 1,.int .i64 1,.bool false] 129 (0,0)):=by rw [←hX1];exact heap_setCell_same _ _ _ _ _ _ rX0
   have RZ:=hide ((bX1.block _ lV).trans rV)
   have RS:=hide rX1
   have BB:=hide (bV.trans (bX1.mono bV.size))
   have VV:(shP q1 q2 false (true || op == 23)).cs=#[.bool false,.bool q1,.bool q2,.int .i64 0,.int .i64 1,.int .i64 1,.bool false]:=rfl
   rw [VV]
   clear VV rV lV bV rU bU rX0 bX0 rX1 bX1
   go_enter Tryz.func149,Tryz.ntmps149
   go_wp2_with (first|(refine storeN rfl 129 _ _ rfl #[.bool false,.bool q1,.bool q2,.int .i64 0,.int .i64 0,.int .i64 0,.bool false] rfl rfl _ szSh rfl (sh_one _ _ _ _ _ _ _) ?_;rw [hU])|(go_at_call 191;refine (uh C1 _).mono ?_;rintro e w' ⟨rfl,hw'⟩;rw [hw'];clear hw' w')|(go_at_call 192;refine (uh C2 _).mono ?_;rintro e w' ⟨rfl,hw'⟩;rw [hw'];clear hw' w')|(go_at_call 102;refine (uh C3 _).mono ?_;rintro e w' ⟨rfl,hw'⟩;rw [hw'];clear hw' w')|(go_at_call 193;refine (uh C4 _).mono ?_;rintro e w' ⟨rfl,hw'⟩;rw [hw'];clear hw' w'))
   have D0:=hide (show X1.drew.heap[V.heap.size]?=some (.cells #[.bool false,.bool q1,.bool q2,.int .i64 0,.int .i64 1,.int .i64 1,.bool false] 129 (0,0)) from row_keep (uh RS) below_drew)
   have RD:=hide (row_keep (uh RZ) (below_drew (w:=X1)))
   have BD:=hide ((uh BB).trans ((below_drew (w:=X1)).mono (uh BB).size))
   refine wp_region_held_drew (S:=fun w'=>w'.heap[V.heap.size]?=some (.cells #[.bool false,.bool q1,.bool q2,.int .i64 0,.int .i64 1,.int .i64 1,.bool false] 129 (0,0))) (by kernel_rfl) (uh D0) (fun hS=>?_)
   have HS:=hide hS
   clear hS RS RZ BB
   generalize X1.drew=Y at *
   refine tkA 0 (.agg #[.bool false,.bool q1,.bool q2,.int .i64 0,.int .i64 1,.int .i64 1,.bool false]) rfl (yields_loadG (by rfl) 129 _ rfl V.heap.size rfl 129 #[.bool false,.bool q1,.bool q2,.int .i64 0,.int .i64 1,.int .i64 1,.bool false] _ (fun w h=>h) Tryz.underlying129 rfl (by kernel_rfl)) (uh HS) ?_
   go_simp
   refine tkB 1 (.int .i64 op) rfl (uh HS) ?_
   go_simp
   refine wpAnyH_ready (rs:=[2]) (by kernel_rfl) (by simp) ?_
   refine AllReadyH.cons rfl (fun K2 hK=>?_) AllReadyH.nil
   go_simp
   refine (uh C5 _).mono ?_
   rintro e w' ⟨rfl,hw'⟩
   rw [hw']
   clear hw' w'
   refine hK.out _ _ (uh D0) (fun hS=>?_)
   clear HS
   have HS:=hide hS
   clear hS hK K2
   refine wpAnyH_ready (rs:=[3]) (by kernel_rfl) (by simp) ?_
   refine AllReadyH.cons rfl (fun K2 hK=>?_) AllReadyH.nil
   rw [if_pos (by rfl)]
   refine wp_store_row 129 _ _ rfl w.heap.size #[.bool false,.bool q1,.bool q2,.int .i64 0,.int .i64 1,.int .i64 1,.bool false] rfl rfl 129 _ (uh RD) szSh rfl (sh_one _ _ _ _ _ _ _) ?_
   refine hK.out _ _ ((setRow_other _ _ _ _ (uh NE)).trans (uh D0)) (fun hS=>?_)
   clear HS
   have HS:=hide hS
   clear hS hK K2
   refine tkB 4 (.bool q6) rfl (uh HS) ?_
   go_simp
   refine wpAnyH_done (by kernel_rfl) ?_ _
   clear HS
   go_wp2
   refine bodyPost_ret (results_row2 (P:=Tryz.prog) rfl _ _ w.heap.size 129 #[.bool false,.bool q1,.bool q2,.int .i64 0,.int .i64 1,.int .i64 1,.bool false] (0,0) _ rfl (setRow_heap _ _ _ _ _ _ (uh RD)) Tryz.underlying129 rfl szSh) rfl ?_
   exact ⟨rfl,below_row (uh BD)⟩
  | false =>
   by_cases h23:op=23
   ·
    subst h23
    obtain ⟨X0,hX0⟩:∃ X,U.setCell ⟨V.heap.size,4,none⟩ (.int .i64 1)=X:=⟨_,rfl⟩
    have fX0:U.frozen? ⟨V.heap.size,4,none⟩=false:=by simp [World.frozen?,rU]
    have cX0:=Lib.cell_of_heap rU 4
    have bX0:Below V.heap.size V X0:=by rw [←hX0];exact bU.setCell (p:=⟨V.heap.size,4,none⟩) (Nat.le_refl _) _
    have rX0:X0.heap[V.heap.size]?=some (.cells #[.bool false,.bool q1,.bool q2,.int .i64 0,.int .i64 1,.int .i64 0,.bool false] 129 (0,0)):=by rw [←hX0];exact heap_setCell_same _ _ _ _ _ _ rU
    obtain ⟨X1,hX1⟩:∃ X,X0.setCell ⟨V.heap.size,5,none⟩ (.int .i64 1)=X:=⟨_,rfl⟩
    have fX1:X0.frozen? ⟨V.heap.size,5,none⟩=false:=by simp [World.frozen?,rX0]
    have cX1:=Lib.cell_of_heap rX0 5
    have bX1:Below V.heap.size V X1:=by rw [←hX1];exact bX0.setCell (p:=⟨V.heap.size,5,none⟩) (Nat.le_refl _) _
    have rX1:X1.heap[V.heap.size]?=some (.cells #[.bool false,.bool q1,.bool q2,.int .i64 0,.int .i64 1,.int .i64 1,.bool false] 129 (0,0)):=by rw [←hX1];exact heap_setCell_same _ _ _ _ _ _ rX0
    have RZ:=hide ((bX1.block _ lV).trans rV)
    have RS:=hide rX1
    have BB:=hide (bV.trans (bX1.mono bV.size))
    have VV:(shP q1 q2 false (false || (23:Int) == 23)).cs=#[.bool false,.bool q1,.bool q2,.int .i64 0,.int .i64 1,.int .i64 1,.bool false]:=rfl
    rw [VV]
    clear VV rV lV bV rU bU rX0 bX0 rX1 bX1
    go_enter Tryz.func149,Tryz.ntmps149
    go_wp2_with (first|(refine storeN rfl 129 _ _ rfl #[.bool false,.bool q1,.bool q2,.int .i64 0,.int .i64 0,.int .i64 0,.bool false] rfl rfl _ szSh rfl (sh_one _ _ _ _ _ _ _) ?_;rw [hU])|(go_at_call 191;refine (uh C1 _).mono ?_;rintro e w' ⟨rfl,hw'⟩;rw [hw'];clear hw' w')|(go_at_call 192;refine (uh C2 _).mono ?_;rintro e w' ⟨rfl,hw'⟩;rw [hw'];clear hw' w')|(go_at_call 102;refine (uh C3 _).mono ?_;rintro e w' ⟨rfl,hw'⟩;rw [hw'];clear hw' w')|(go_at_call 193;refine (uh C4 _).mono ?_;rintro e w' ⟨rfl,hw'⟩;rw [hw'];clear hw' w'))
    have D0:=hide (show X1.drew.heap[V.heap.size]?=some (.cells #[.bool false,.bool q1,.bool q2,.int .i64 0,.int .i64 1,.int .i64 1,.bool false] 129 (0,0)) from row_keep (uh RS) below_drew)
    have RD:=hide (row_keep (uh RZ) (below_drew (w:=X1)))
    have BD:=hide ((uh BB).trans ((below_drew (w:=X1)).mono (uh BB).size))
    refine wp_region_held_drew (S:=fun w'=>w'.heap[V.heap.size]?=some (.cells #[.bool false,.bool q1,.bool q2,.int .i64 0,.int .i64 1,.int .i64 1,.bool false] 129 (0,0))) (by kernel_rfl) (uh D0) (fun hS=>?_)
    have HS:=hide hS
    clear hS RS RZ BB
    generalize X1.drew=Y at *
    refine tkA 0 (.agg #[.bool false,.bool q1,.bool q2,.int .i64 0,.int .i64 1,.int .i64 1,.bool false]) rfl (yields_loadG (by rfl) 129 _ rfl V.heap.size rfl 129 #[.bool false,.bool q1,.bool q2,.int .i64 0,.int .i64 1,.int .i64 1,.bool false] _ (fun w h=>h) Tryz.underlying129 rfl (by kernel_rfl)) (uh HS) ?_
    go_simp
    refine tkB 1 (.int .i64 23) rfl (uh HS) ?_
    go_simp
    refine wpAnyH_ready (rs:=[2]) (by kernel_rfl) (by simp) ?_
    refine AllReadyH.cons rfl (fun K2 hK=>?_) AllReadyH.nil
    go_simp
    refine (uh C5 _).mono ?_
    rintro e w' ⟨rfl,hw'⟩
    rw [hw']
    clear hw' w'
    refine hK.out _ _ (uh D0) (fun hS=>?_)
    clear HS
    have HS:=hide hS
    clear hS hK K2
    refine wpAnyH_ready (rs:=[3]) (by kernel_rfl) (by simp) ?_
    refine AllReadyH.cons rfl (fun K2 hK=>?_) AllReadyH.nil
    rw [if_pos (by rfl)]
    refine wp_store_row 129 _ _ rfl w.heap.size #[.bool false,.bool q1,.bool q2,.int .i64 0,.int .i64 1,.int .i64 1,.bool false] rfl rfl 129 _ (uh RD) szSh rfl (sh_one _ _ _ _ _ _ _) ?_
    refine hK.out _ _ ((setRow_other _ _ _ _ (uh NE)).trans (uh D0)) (fun hS=>?_)
    clear HS
    have HS:=hide hS
    clear hS hK K2
    refine tkB 4 (.bool q6) rfl (uh HS) ?_
    go_simp
    refine wpAnyH_done (by kernel_rfl) ?_ _
    clear HS
    go_wp2
    refine bodyPost_ret (results_row2 (P:=Tryz.prog) rfl _ _ w.heap.size 129 #[.bool false,.bool q1,.bool q2,.int .i64 0,.int .i64 1,.int .i64 1,.bool false] (0,0) _ rfl (setRow_heap _ _ _ _ _ _ (uh RD)) Tryz.underlying129 rfl szSh) rfl ?_
    exact ⟨rfl,below_row (uh BD)⟩
   ·
    have g23:(op == 23)=false:=beq_eq_false_iff_ne.2 h23
    rw [g23]
    have RZ:=hide ((bU.block _ lV).trans rV)
    have RS:=hide rU
    have BB:=hide (bV.trans (bU.mono bV.size))
    have VV:(shP q1 q2 false (false || false)).cs=#[.bool false,.bool q1,.bool q2,.int .i64 0,.int .i64 0,.int .i64 0,.bool false]:=rfl
    rw [VV]
    clear VV rV lV bV rU bU
    go_enter Tryz.func149,Tryz.ntmps149
    go_wp2_with (first|(refine storeN rfl 129 _ _ rfl #[.bool false,.bool q1,.bool q2,.int .i64 0,.int .i64 0,.int .i64 0,.bool false] rfl rfl _ szSh rfl (sh_one _ _ _ _ _ _ _) ?_;rw [hU])|(go_at_call 191;refine (uh C1 _).mono ?_;rintro e w' ⟨rfl,hw'⟩;rw [hw'];clear hw' w')|(go_at_call 192;refine (uh C2 _).mono ?_;rintro e w' ⟨rfl,hw'⟩;rw [hw'];clear hw' w')|(go_at_call 102;refine (uh C3 _).mono ?_;rintro e w' ⟨rfl,hw'⟩;rw [hw'];clear hw' w')|(go_at_call 193;refine (uh C4 _).mono ?_;rintro e w' ⟨rfl,hw'⟩;rw [hw'];clear hw' w'))
    have D0:=hide (show U.drew.heap[V.heap.size]?=some (.cells #[.bool false,.bool q1,.bool q2,.int .i64 0,.int .i64 0,.int .i64 0,.bool false] 129 (0,0)) from row_keep (uh RS) below_drew)
    have RD:=hide (row_keep (uh RZ) (below_drew (w:=U)))
    have BD:=hide ((uh BB).trans ((below_drew (w:=U)).mono (uh BB).size))
    refine wp_region_held_drew (S:=fun w'=>w'.heap[V.heap.size]?=some (.cells #[.bool false,.bool q1,.bool q2,.int .i64 0,.int .i64 0,.int .i64 0,.bool false] 129 (0,0))) (by kernel_rfl) (uh D0) (fun hS=>?_)
    have HS:=hide hS
    clear hS RS RZ BB
    generalize U.drew=Y at *
    refine tkA 0 (.agg #[.bool false,.bool q1,.bool q2,.int .i64 0,.int .i64 0,.int .i64 0,.bool false]) rfl (yields_loadG (by rfl) 129 _ rfl V.heap.size rfl 129 #[.bool false,.bool q1,.bool q2,.int .i64 0,.int .i64 0,.int .i64 0,.bool false] _ (fun w h=>h) Tryz.underlying129 rfl (by kernel_rfl)) (uh HS) ?_
    go_simp
    refine tkB 1 (.int .i64 op) rfl (uh HS) ?_
    go_simp
    refine wpAnyH_ready (rs:=[2]) (by kernel_rfl) (by simp) ?_
    refine AllReadyH.cons rfl (fun K2 hK=>?_) AllReadyH.nil
    go_simp
    refine (uh C5 _).mono ?_
    rintro e w' ⟨rfl,hw'⟩
    rw [hw']
    clear hw' w'
    refine hK.out _ _ (uh D0) (fun hS=>?_)
    clear HS
    have HS:=hide hS
    clear hS hK K2
    refine wpAnyH_ready (rs:=[3]) (by kernel_rfl) (by simp) ?_
    refine AllReadyH.cons rfl (fun K2 hK=>?_) AllReadyH.nil
    rw [if_pos (by rfl)]
    refine wp_store_row 129 _ _ rfl w.heap.size #[.bool false,.bool q1,.bool q2,.int .i64 0,.int .i64 0,.int .i64 0,.bool false] rfl rfl 129 _ (uh RD) szSh rfl (sh_one _ _ _ _ _ _ _) ?_
    refine hK.out _ _ ((setRow_other _ _ _ _ (uh NE)).trans (uh D0)) (fun hS=>?_)
    clear HS
    have HS:=hide hS
    clear hS hK K2
    refine tkB 4 (.bool q6) rfl (uh HS) ?_
    go_simp
    refine wpAnyH_done (by kernel_rfl) ?_ _
    clear HS
    go_wp2
    refine bodyPost_ret (results_row2 (P:=Tryz.prog) rfl _ _ w.heap.size 129 #[.bool false,.bool q1,.bool q2,.int .i64 0,.int .i64 0,.int .i64 0,.bool false] (0,0) _ rfl (setRow_heap _ _ _ _ _ _ (uh RD)) Tryz.underlying129 rfl szSh) rfl ?_
    exact ⟨rfl,below_row (uh BD)⟩
def dotL:List ByteArray:=[E0,E0,E0,E0,⟨#[46,119,111,114,100]⟩,⟨#[46,98,108,107,119]⟩,⟨#[46,115,101,99,116]⟩,⟨#[46,103,108,111,98,108]⟩,⟨#[46,101,110,100]⟩]
def dotC:Array Value:=(dotL.map Value.string).toArray
def TabD (w:World):Prop:=∃ t fr,w.heap[1]?=some (.cells dotC t fr)
theorem TabD.lt {w:World} (h:TabD w):1<w.heap.size:=by obtain ⟨t,fr,h⟩:=h;exact (Array.getElem?_eq_some_iff.1 h).1
theorem TabD.later {w w':World} {B:Nat} (h:TabD w) (hb:Below B w w') (hB:1<B):TabD w':=by
 obtain ⟨t,fr,h⟩:=h
 exact ⟨t,fr,(hb.block _ hB).trans h⟩
theorem TabD.next {w w':World} (h:TabD w) (hb:Below w.heap.size w w'):TabD w':=h.later hb h.lt
def upC:Array Value:=#[.int .i64 0,.int .i64 0,.int .i64 3,.int .i64 0,.int .i64 5,.int .i64 0,.int .i64 7,.int .i64 0,.int .i64 9,.int .i64 0,.int .i64 11]
def TabU (w:World):Prop:=∃ t fr,w.heap[5]?=some (.cells upC t fr)
structure TabP (w:World) (rb:Nat):Prop where
 k:TabK w
 g:TabG w
 d:TabD w
 u:TabU w
 n0:0≠rb
 n1:3≠rb
 n2:4≠rb
 n3:1≠rb
 n4:5≠rb
theorem TabP.grown {w w':World} {rb:Nat} (h:TabP w rb) (hg:w.grownBy w' (some rb)):TabP w' rb:=by
 obtain ⟨⟨⟨t0,f0,e0⟩,⟨t1,f1,e1⟩⟩,⟨t2,f2,e2⟩,⟨t3,f3,e3⟩,⟨t4,f4,e4⟩,n0,n1,n2,n3,n4⟩:=h
 have k:∀ {g:Nat} {o:Obj},w.heap[g]?=some o→g≠rb→w'.heap[g]?=some o:=fun e n=>(hg.block _ (Array.getElem?_eq_some_iff.1 e).1 (fun q=>n (by simpa using q))).trans e
 exact ⟨⟨⟨t0,f0,k e0 n0⟩,⟨t1,f1,k e1 n1⟩⟩,⟨t2,f2,k e2 n2⟩,⟨t3,f3,k e3 n3⟩,⟨t4,f4,k e4 n4⟩,n0,n1,n2,n3,n4⟩
theorem endI (rb:Nat) (ts:List Tk) (w:World) (h:Pr w rb ts):Calls Tryz.prog 54 #[.pointer (some ⟨rb,0,none⟩)] w fun r w'=>(r=if ts = [] then .returned (.tuple #[]) else .panicked pn)∧w'=w:=by
 obtain ⟨a,n,cap,h⟩:=h
 have c0:=h.cell
 have hl:=h.sl.ln
 clear h
 by_cases hn:n=0
 ·
  subst hn
  rw [if_pos (List.eq_nil_of_length_eq_zero hl)]
  clear hl
  go_enter Tryz.func54,Tryz.ntmps54
  go_wp2
  go_end0
  exact ⟨rfl,rfl⟩
 ·
  rw [if_neg (fun e=>by rw [e] at hl;exact hn hl.symm)]
  clear hl
  have hn1:0<n:=by omega
  have hn2:(0:Int)<(n:Int):=by omega
  go_enter Tryz.func54,Tryz.ntmps54
  go_wp2
  exact ⟨rfl,rfl,rfl⟩
theorem nmI (rb:Nat) (ts:List Tk) (w:World) (h:Pr w rb ts) (ht:TabP w rb):Calls Tryz.prog 166 #[.pointer (some ⟨rb,0,none⟩)] w (PnR (qNm ts) VSt rb w):=by
 have OE:=hide (qNm_bnd ts)
 have FN:=hide (fun w' (ho:qNm ts=none) (hg:w.grownBy w' (some rb))=>(show PnR (qNm ts) VSt rb w (.panicked pn) w' from pnR_none ho rfl hg))
 have FY:=hide (fun x q v w' (ho:qNm ts=some (x,q)) (hg:w.grownBy w' (some rb)) (hv:VSt x w' v) (hz:Pr w' rb q)=>(show PnR (qNm ts) VSt rb w (.returned v) w' from pnR_some ho rfl hg hv hz))
 generalize PnR (qNm ts) VSt rb w=R at *
 generalize qNm ts=O at *
 have G0:=hide (grownBy_below (r:=some rb) (Below.refl w.heap.size w))
 have Z0:=hide h
 have T0:=hide ht
 have hrl:=h.lt
 have X:=hide (nxtI rb ts w h)
 clear h ht
 go_enter Tryz.func166,Tryz.ntmps166
 go_wp2_with fail
 refine (uh X).mono ?_
 rintro r w1 ⟨hg,hm⟩
 have G1:=hide (grownBy_trans (uh G0) hg)
 have T1:=hide ((uh T0).grown hg)
 clear hg G0 T0 X Z0
 cases ho:pNx ts with
 | none =>
  rw [ho] at hm
  have hr:r = .panicked pn:=hm
  subst hr
  exact ⟨rfl,uh FN _ ((uh OE).trans (bnd_no ho _)) (uh G1)⟩
 | some p =>
  obtain ⟨x1,q1⟩:=p
  rw [ho] at hm
  obtain ⟨v,rfl,hv,hz⟩:=hm
  have OE1:=hide ((uh OE).trans (bnd_at ho _))
  have Z1:=hide hz
  clear hz ho OE
  unfold VTk at hv
  subst hv
  generalize x1.k=tk at *
  generalize x1.n=tn at *
  generalize x1.s=tx at *
  by_cases h1:tk=1
  ·
   have F:=hide (fun w' hg hz=>uh FY tx q1 (.string tx) w' ((uh OE1).trans (if_pos h1)) hg rfl hz)
   clear FN FY OE1 T1
   subst h1
   go_wp2
   (try go_ret)
   exact uh F _ (grownBy_trans (uh G1) (grownBy_below (below_new _ _))) ((uh Z1).later (below_new _ _))
  ·
   have F:=hide (fun w' hg=>uh FN w' ((uh OE1).trans (if_neg h1)) hg)
   clear FY OE1 T1
   go_wp2
   exact ⟨rfl,uh F _ (grownBy_trans (uh G1) (grownBy_below (below_new _ _)))⟩
theorem rgRI (rb:Nat) (ts:List Tk) (w:World) (h:Pr w rb ts) (ht:TabP w rb):Calls Tryz.prog 163 #[.pointer (some ⟨rb,0,none⟩)] w (PnR (qRg ts) VIn rb w):=by
 have OE:=hide (qRg_bnd ts)
 have FN:=hide (fun w' (ho:qRg ts=none) (hg:w.grownBy w' (some rb))=>(show PnR (qRg ts) VIn rb w (.panicked pn) w' from pnR_none ho rfl hg))
 have FY:=hide (fun x q v w' (ho:qRg ts=some (x,q)) (hg:w.grownBy w' (some rb)) (hv:VIn x w' v) (hz:Pr w' rb q)=>(show PnR (qRg ts) VIn rb w (.returned v) w' from pnR_some ho rfl hg hv hz))
 generalize PnR (qRg ts) VIn rb w=R at *
 generalize qRg ts=O at *
 have G0:=hide (grownBy_below (r:=some rb) (Below.refl w.heap.size w))
 have Z0:=hide h
 have T0:=hide ht
 have hrl:=h.lt
 have X:=hide (nxtI rb ts w h)
 clear h ht
 go_enter Tryz.func163,Tryz.ntmps163
 go_wp2_with fail
 refine (uh X).mono ?_
 rintro r w1 ⟨hg,hm⟩
 have G1:=hide (grownBy_trans (uh G0) hg)
 have T1:=hide ((uh T0).grown hg)
 clear hg G0 T0 X Z0
 cases ho:pNx ts with
 | none =>
  rw [ho] at hm
  have hr:r = .panicked pn:=hm
  subst hr
  exact ⟨rfl,uh FN _ ((uh OE).trans (bnd_no ho _)) (uh G1)⟩
 | some p =>
  obtain ⟨x1,q1⟩:=p
  rw [ho] at hm
  obtain ⟨v,rfl,hv,hz⟩:=hm
  have OE1:=hide ((uh OE).trans (bnd_at ho _))
  have Z1:=hide hz
  clear hz ho OE
  unfold VTk at hv
  subst hv
  have RG:=hide (rgI x1 w1 (uh T1).k)
  generalize regN x1=rn at *
  generalize x1.k=tk at *
  generalize x1.n=tn at *
  generalize x1.s=tx at *
  go_wp2_with fail
  refine (uh RG).mono ?_
  rintro r w2 ⟨rfl,hb⟩
  have G2:=hide (grownBy_trans (uh G1) (grownBy_below (r:=some rb) hb))
  have T2:=hide ((uh T1).grown (grownBy_below (r:=some rb) hb))
  have Z2:=hide ((uh Z1).later hb)
  clear G1 T1 Z1
  clear hb RG
  by_cases hn:rn<0
  ·
   have F:=hide (uh FN w2 ((uh OE1).trans (if_pos hn)) (uh G2))
   clear FY FN OE1 T2
   go_wp2
   exact ⟨rfl,uh F⟩
  ·
   have F:=hide (uh FY rn q1 (.int .i64 rn) w2 ((uh OE1).trans (if_neg hn)) (uh G2) rfl (uh Z2))
   have hn2:decide (rn<0)=false:=decide_eq_false hn
   clear FN FY OE1 T2
   go_wp2
   (try go_ret)
   exact uh F
def seeR:List Tk→Bool
 | [] => false
 | t :: _ => !decide (regN t < 0)
theorem srI (rb:Nat) (ts:List Tk) (w:World) (h:Pr w rb ts) (ht:TabP w rb):Calls Tryz.prog 223 #[.pointer (some ⟨rb,0,none⟩)] w fun r w'=>r = .returned (.bool (seeR ts))∧Below w.heap.size w w':=by
 obtain ⟨a,n,cap,h⟩:=h
 have hl:=h.sl.ln
 have hsm:=h.sl.sm
 have hrl:=h.lt
 have C0:∀ y:Sub w.heap.size w,y.w.cell? ⟨rb,0,none⟩=some (.slice a n cap):=fun y=>(h.later y.h).cell
 have ne:=Sub.ne w.heap.size w
 have HZ:=hide (Nat.le_refl w.heap.size)
 have HB:=hide (fun y:Sub w.heap.size w=>y.h)
 cases ts with
 | nil =>
  obtain rfl:n=0:=by simpa using hl.symm
  show Calls _ _ _ _ fun r w'=>r = .returned (.bool false)∧Below w.heap.size w w'
  have c0:=h.cell
  clear h hl C0 ht
  go_enter Tryz.func223,Tryz.ntmps223
  go_wp2
  go_ret
  exact ⟨rfl,Below.refl _ _⟩
 | cons t q =>
  obtain ⟨b,off,rfl,hbl,t0,t1,t2⟩:=h.sl.head
  have c0:=h.cell
  have RG:=hide (rgI t w ht.k)
  obtain ⟨Q,hQ⟩:∃ Q,seeR (t::q)=Q:=⟨_,rfl⟩
  have HQ:=hide (show (!decide (regN t<0))=Q from hQ)
  rw [hQ]
  have hn:0<n:=by simp at hl;omega
  clear h hl ht hQ
  generalize regN t=rn at *
  generalize t.k=tk at *
  generalize t.n=tn at *
  generalize t.s=tx at *
  have hn2:(0:Int)<(n:Int):=by omega
  go_enter Tryz.func223,Tryz.ntmps223
  go_wp2_with fail
  refine (uh RG).mono ?_
  rintro r w2 ⟨rfl,hb⟩
  by_cases hm:rn<0
  ·
   obtain rfl:Q=false:=(uh HQ).symm.trans (by rw [decide_eq_true hm];rfl)
   have B:=hide hb
   have hm2:¬ (0:Int)≤rn:=by omega
   have hm3:decide ((0:Int)≤rn)=false:=decide_eq_false hm2
   clear HQ hb hm hm2 ne C0 hn hsm RG HB HZ hbl hrl t0 t1 t2 c0
   go_wp2
   go_ret
   exact ⟨rfl,uh B⟩
  ·
   obtain rfl:Q=true:=(uh HQ).symm.trans (by rw [decide_eq_false hm];rfl)
   have B:=hide hb
   have hm2:(0:Int)≤rn:=by omega
   clear HQ hb hm ne C0 hn hsm RG HB HZ hbl hrl t0 t1 t2 c0
   go_wp2
   go_ret
   exact ⟨rfl,uh B⟩
section
def XoR (e:Ex) (w:World) (r:Ending) (w':World):Prop:=∃ (c:Option Addr) (cp:Nat),r = .returned (.agg (e.cs c cp))∧NewX w' w.heap.size e c∧Below w.heap.size w w'
structure Xb (w wr:World) (k n:Int) (s:ByteArray) (v:Value):Prop where
 bel:Below w.heap.size w wr
 lt:w.heap.size+2≤wr.heap.size
 res:wr.heap[w.heap.size]?=some (.cells #[.int .i64 0,.int .i64 0,.string ⟨#[]⟩,.slice none 0 0] 26 (0,0))
 box:wr.heap[w.heap.size+1]?=some (.cells #[.int .i64 k,.int .i64 n,.string s,v] 26 (0,0))
section
variable {w wr w':World} {k n:Int} {s:ByteArray} {v:Value}
theorem Xb.later (h:Xb w wr k n s v) (hb:Below wr.heap.size wr w'):Xb w w' k n s v :=
 ⟨h.bel.trans (hb.mono h.bel.size),Nat.le_trans h.lt hb.size,row_keep h.res hb,row_keep h.box hb⟩
theorem Xb.grown {g:Nat} (h:Xb w wr k n s v) (hg:wr.grownBy w' (some g)) (hl:w.heap.size+2≤g):Xb w w' k n s v :=
 ⟨h.bel.grown hg h.bel.size (fun q e=>by cases e;omega),Nat.le_trans h.lt hg.size,(hg.block _ (Array.getElem?_eq_some_iff.1 h.res).1 (fun e=>by simp at e;omega)).trans h.res,(hg.block _ (Array.getElem?_eq_some_iff.1 h.box).1 (fun e=>by simp at e;omega)).trans h.box⟩
theorem Xb.set2 (h:Xb w wr k n s v) (x:ByteArray):Xb w (wr.setCell ⟨w.heap.size+1,2,none⟩ (.string x)) k n x v:=by
 refine ⟨h.bel.setCell (p:=⟨w.heap.size+1,2,none⟩) (Nat.le_succ _) _,by simp;exact h.lt,(heap_setCell_other wr ⟨w.heap.size+1,2,none⟩ w.heap.size _ (fun e=>by have e':w.heap.size=w.heap.size+1:=e;omega)).trans h.res,?_⟩
 rw [heap_setCell_same wr (w.heap.size+1) 2 _ 26 (.string x) h.box]
 rfl
theorem Xb.set3 (h:Xb w wr k n s v) (x:Value):Xb w (wr.setCell ⟨w.heap.size+1,3,none⟩ x) k n s x:=by
 refine ⟨h.bel.setCell (p:=⟨w.heap.size+1,3,none⟩) (Nat.le_succ _) _,by simp;exact h.lt,(heap_setCell_other wr ⟨w.heap.size+1,3,none⟩ w.heap.size _ (fun e=>by have e':w.heap.size=w.heap.size+1:=e;omega)).trans h.res,?_⟩
 rw [heap_setCell_same wr (w.heap.size+1) 3 _ 26 x h.box]
 rfl
theorem Xb.new2 (w:World) (k:Int):Xb w ((w.alloc (.cells #[.int .i64 0,.int .i64 0,.string ⟨#[]⟩,.slice none 0 0] 26)).alloc (.cells #[.int .i64 k,.int .i64 n,.string s,v] 26)) k n s v:=by
 have h1:=two_new w (.cells #[.int .i64 0,.int .i64 0,.string ⟨#[]⟩,.slice none 0 0] 26) (.cells #[.int .i64 k,.int .i64 n,.string s,v] 26)
 refine ⟨h1.2,by simp,?_,h1.1⟩
 exact row_keep (heap_alloc_new w _) (below_new _ _)
theorem Xb.new3 (w:World) (k:Int) (o:Obj):Xb w (((w.alloc (.cells #[.int .i64 0,.int .i64 0,.string ⟨#[]⟩,.slice none 0 0] 26)).alloc (.cells #[.int .i64 k,.int .i64 n,.string s,v] 26)).alloc o) k n s v:=(Xb.new2 w k).later (below_new _ o)
theorem Xb.end {l:List Ex} {c:Option Addr} {cp:Nat} (h:Xb w wr k n s (.slice c l.length cp)) (hn:NewX wr (w.heap.size+1) ⟨k,n,s,l⟩ c) (row:Array Value):XoR ⟨k,n,s,l⟩ w (.returned (.agg #[.int .i64 k,.int .i64 n,.string s,.slice c l.length cp])) (wr.setRow w.heap.size row) :=
 ⟨c,cp,rfl,(hn.row _ (Nat.lt_succ_self _)).lower (Nat.le_succ _),h.bel.grown (grownBy_row _) h.bel.size (fun k e=>by cases e;exact Nat.le_refl _)⟩
end
theorem xo_num (n:Int) (w:World):Calls Tryz.prog 200 #[.iface 182 (.agg #[.int .i64 n])] w (XoR ⟨1,n,E0,[]⟩ w):=by
 have KD:=hide (fun w=>kind_num n E0 0 0 .nilIface .nilIface w)
 have tt:=taY_num (.agg #[.int .i64 n])
 have m:=me_num (.int .i64 n)
 have X0:=hide (Xb.new3 (n:=n) (s:=⟨#[]⟩) (v:=.slice none 0 0) w 1 (.cells #[.int .i64 n] 182))
 generalize hX:XoR ⟨1,n,E0,[]⟩ w=X
 have HX:=hide hX
 clear hX
 go_enter Tryz.func200,Tryz.ntmps200
 go_wp2_with (first|(go_at_call 151;refine (uh KD _).mono ?_;rintro r w' ⟨rfl,hw'⟩;rw [hw'];clear hw' w'))
 generalize ((w.alloc (.cells #[.int .i64 0,.int .i64 0,.string ⟨#[]⟩,.slice none 0 0] 26)).alloc (.cells #[.int .i64 1,.int .i64 n,.string ⟨#[]⟩,.slice none 0 0] 26)).alloc (.cells #[.int .i64 n] 182)=W at *
 refine (parts0 W).mono ?_
 rintro r w1 ⟨rfl,hb1⟩
 have X1:=hide ((uh X0).later hb1)
 clear hb1 X0
 go_wp2
 refine wp_loop_rounds 1 ?_
 rw [rounds_succ]
 go_wp2_with (first|(refine wpList_load_row rfl 26 _ rfl (w.heap.size+1) rfl 26 #[.int .i64 1,.int .i64 n,.string ⟨#[]⟩,.slice none 0 0] (0,0) _ (uh X1).box Tryz.underlying26 rfl (by kernel_rfl) ?_)|(refine wpList_store_row rfl 26 _ _ rfl w.heap.size #[.int .i64 1,.int .i64 n,.string ⟨#[]⟩,.slice none 0 0] rfl rfl 26 _ (uh X1).res szE rfl (ex_one _ _ _ _ _ _) ?_))
 refine bodyPost_ret (results_cell_row (P:=Tryz.prog) rfl _ _ w.heap.size 26 #[.int .i64 1,.int .i64 n,.string ⟨#[]⟩,.slice none 0 0] (0,0) _ rfl (setRow_heap _ _ _ _ _ _ (uh X1).res) Tryz.underlying26 rfl szE) rfl ?_
 rw [←uh HX]
 exact Xb.end (l:=[]) (uh X1) (NewX.nil _ _ _ _ _ _) _
theorem xo_here (w:World):Calls Tryz.prog 200 #[.iface 186 (.agg #[])] w (XoR ⟨3,0,E0,[]⟩ w):=by
 have KD:=hide (fun w=>kind_here 0 E0 0 0 .nilIface .nilIface w)
 have t0:=taN_num 186 (.agg #[]) (by decide)
 have t1:=taN_sect 186 (.agg #[]) (by decide)
 have t2:=taN_sym 186 (.agg #[]) (by decide)
 have t3:=taN_glob 186 (.agg #[]) (by decide)
 have m:=me_here
 have X0:=hide (Xb.new2 (n:=0) (s:=⟨#[]⟩) (v:=.slice none 0 0) w 3)
 generalize hX:XoR ⟨3,0,E0,[]⟩ w=X
 have HX:=hide hX
 clear hX
 go_enter Tryz.func200,Tryz.ntmps200
 go_wp2_with (first|(go_at_call 151;refine (uh KD _).mono ?_;rintro r w' ⟨rfl,hw'⟩;rw [hw'];clear hw' w'))
 generalize (w.alloc (.cells #[.int .i64 0,.int .i64 0,.string ⟨#[]⟩,.slice none 0 0] 26)).alloc (.cells #[.int .i64 3,.int .i64 0,.string ⟨#[]⟩,.slice none 0 0] 26)=W at *
 refine (parts0 W).mono ?_
 rintro r w1 ⟨rfl,hb1⟩
 have X1:=hide ((uh X0).later hb1)
 clear hb1 X0
 go_wp2
 refine wp_loop_rounds 1 ?_
 rw [rounds_succ]
 go_wp2_with (first|(refine wpList_load_row rfl 26 _ rfl (w.heap.size+1) rfl 26 #[.int .i64 3,.int .i64 0,.string ⟨#[]⟩,.slice none 0 0] (0,0) _ (uh X1).box Tryz.underlying26 rfl (by kernel_rfl) ?_)|(refine wpList_store_row rfl 26 _ _ rfl w.heap.size #[.int .i64 3,.int .i64 0,.string ⟨#[]⟩,.slice none 0 0] rfl rfl 26 _ (uh X1).res szE rfl (ex_one _ _ _ _ _ _) ?_))
 refine bodyPost_ret (results_cell_row (P:=Tryz.prog) rfl _ _ w.heap.size 26 #[.int .i64 3,.int .i64 0,.string ⟨#[]⟩,.slice none 0 0] (0,0) _ rfl (setRow_heap _ _ _ _ _ _ (uh X1).res) Tryz.underlying26 rfl szE) rfl ?_
 rw [←uh HX]
 exact Xb.end (l:=[]) (uh X1) (NewX.nil _ _ _ _ _ _) _
theorem xo_sym (s:ByteArray) (hs:s.size≤1048576) (w:World):Calls Tryz.prog 200 #[.iface 184 (.agg #[.string s])] w (XoR ⟨2,0,s,[]⟩ w):=by
 have KD:=hide (fun w=>kind_sym 0 s 0 0 .nilIface .nilIface w)
 have t0:=taN_num 184 (.agg #[.string s]) (by decide)
 have t1:=taN_sect 184 (.agg #[.string s]) (by decide)
 have tt:=taY_sym (.agg #[.string s])
 have m:=me_sym (.string s)
 have X0:=hide (Xb.new3 (n:=0) (s:=⟨#[]⟩) (v:=.slice none 0 0) w 2 (.cells #[.string s] 184))
 generalize hX:XoR ⟨2,0,s,[]⟩ w=X
 have HX:=hide hX
 clear hX
 go_enter Tryz.func200,Tryz.ntmps200
 go_wp2_with (first|(go_at_call 151;refine (uh KD _).mono ?_;rintro r w' ⟨rfl,hw'⟩;rw [hw'];clear hw' w'))
 generalize ((w.alloc (.cells #[.int .i64 0,.int .i64 0,.string ⟨#[]⟩,.slice none 0 0] 26)).alloc (.cells #[.int .i64 2,.int .i64 0,.string ⟨#[]⟩,.slice none 0 0] 26)).alloc (.cells #[.string s] 184)=W at *
 refine (cloneI_any s W (by omega)).mono ?_
 rintro r w1 ⟨rfl,hb1⟩
 have X1:=(uh X0).later hb1
 have f2:w1.frozen? ⟨w.heap.size+1,2,none⟩=false:=by simp [World.frozen?,X1.box]
 have c2:=Lib.cell_of_heap X1.box 2
 have X2:=hide (X1.set2 s)
 clear hb1 X0 X1
 go_wp2_with fail
 generalize w1.setCell ⟨w.heap.size+1,2,none⟩ (.string s)=w2 at *
 clear f2 c2
 refine (parts0 w2).mono ?_
 rintro r w3 ⟨rfl,hb3⟩
 have X3:=hide ((uh X2).later hb3)
 clear hb3 X2
 go_wp2
 refine wp_loop_rounds 1 ?_
 rw [rounds_succ]
 go_wp2_with (first|(refine wpList_load_row rfl 26 _ rfl (w.heap.size+1) rfl 26 #[.int .i64 2,.int .i64 0,.string s,.slice none 0 0] (0,0) _ (uh X3).box Tryz.underlying26 rfl (by kernel_rfl) ?_)|(refine wpList_store_row rfl 26 _ _ rfl w.heap.size #[.int .i64 2,.int .i64 0,.string s,.slice none 0 0] rfl rfl 26 _ (uh X3).res szE rfl (ex_one _ _ _ _ _ _) ?_))
 refine bodyPost_ret (results_cell_row (P:=Tryz.prog) rfl _ _ w.heap.size 26 #[.int .i64 2,.int .i64 0,.string s,.slice none 0 0] (0,0) _ rfl (setRow_heap _ _ _ _ _ _ (uh X3).res) Tryz.underlying26 rfl szE) rfl ?_
 rw [←uh HX]
 exact Xb.end (l:=[]) (uh X3) (NewX.nil _ _ _ _ _ _) _
theorem xo_sect (n:Int) (w:World):Calls Tryz.prog 200 #[.iface 234 (.agg #[.int .i64 n])] w (XoR ⟨11,n,E0,[]⟩ w):=by
 have KD:=hide (fun w=>kind_sect n E0 0 0 .nilIface .nilIface w)
 have t0:=taN_num 234 (.agg #[.int .i64 n]) (by decide)
 have tt:=taY_sect (.agg #[.int .i64 n])
 have m:=me_sect (.int .i64 n)
 have X0:=hide (Xb.new3 (n:=n) (s:=⟨#[]⟩) (v:=.slice none 0 0) w 11 (.cells #[.int .i64 n] 234))
 generalize hX:XoR ⟨11,n,E0,[]⟩ w=X
 have HX:=hide hX
 clear hX
 go_enter Tryz.func200,Tryz.ntmps200
 go_wp2_with (first|(go_at_call 151;refine (uh KD _).mono ?_;rintro r w' ⟨rfl,hw'⟩;rw [hw'];clear hw' w'))
 generalize ((w.alloc (.cells #[.int .i64 0,.int .i64 0,.string ⟨#[]⟩,.slice none 0 0] 26)).alloc (.cells #[.int .i64 11,.int .i64 n,.string ⟨#[]⟩,.slice none 0 0] 26)).alloc (.cells #[.int .i64 n] 234)=W at *
 refine (parts0 W).mono ?_
 rintro r w1 ⟨rfl,hb1⟩
 have X1:=hide ((uh X0).later hb1)
 clear hb1 X0
 go_wp2
 refine wp_loop_rounds 1 ?_
 rw [rounds_succ]
 go_wp2_with (first|(refine wpList_load_row rfl 26 _ rfl (w.heap.size+1) rfl 26 #[.int .i64 11,.int .i64 n,.string ⟨#[]⟩,.slice none 0 0] (0,0) _ (uh X1).box Tryz.underlying26 rfl (by kernel_rfl) ?_)|(refine wpList_store_row rfl 26 _ _ rfl w.heap.size #[.int .i64 11,.int .i64 n,.string ⟨#[]⟩,.slice none 0 0] rfl rfl 26 _ (uh X1).res szE rfl (ex_one _ _ _ _ _ _) ?_))
 refine bodyPost_ret (results_cell_row (P:=Tryz.prog) rfl _ _ w.heap.size 26 #[.int .i64 11,.int .i64 n,.string ⟨#[]⟩,.slice none 0 0] (0,0) _ rfl (setRow_heap _ _ _ _ _ _ (uh X1).res) Tryz.underlying26 rfl szE) rfl ?_
 rw [←uh HX]
 exact Xb.end (l:=[]) (uh X1) (NewX.nil _ _ _ _ _ _) _
theorem xo_glob (s:ByteArray) (hs:s.size≤1048576) (w:World):Calls Tryz.prog 200 #[.iface 235 (.agg #[.string s])] w (XoR ⟨12,0,s,[]⟩ w):=by
 have KD:=hide (fun w=>kind_glob 0 s 0 0 .nilIface .nilIface w)
 have t0:=taN_num 235 (.agg #[.string s]) (by decide)
 have t1:=taN_sect 235 (.agg #[.string s]) (by decide)
 have t2:=taN_sym 235 (.agg #[.string s]) (by decide)
 have tt:=taY_glob (.agg #[.string s])
 have m:=me_glob (.string s)
 have X0:=hide (Xb.new3 (n:=0) (s:=⟨#[]⟩) (v:=.slice none 0 0) w 12 (.cells #[.string s] 235))
 generalize hX:XoR ⟨12,0,s,[]⟩ w=X
 have HX:=hide hX
 clear hX
 go_enter Tryz.func200,Tryz.ntmps200
 go_wp2_with (first|(go_at_call 151;refine (uh KD _).mono ?_;rintro r w' ⟨rfl,hw'⟩;rw [hw'];clear hw' w'))
 generalize ((w.alloc (.cells #[.int .i64 0,.int .i64 0,.string ⟨#[]⟩,.slice none 0 0] 26)).alloc (.cells #[.int .i64 12,.int .i64 0,.string ⟨#[]⟩,.slice none 0 0] 26)).alloc (.cells #[.string s] 235)=W at *
 refine (cloneI_any s W (by omega)).mono ?_
 rintro r w1 ⟨rfl,hb1⟩
 have X1:=(uh X0).later hb1
 have f2:w1.frozen? ⟨w.heap.size+1,2,none⟩=false:=by simp [World.frozen?,X1.box]
 have c2:=Lib.cell_of_heap X1.box 2
 have X2:=hide (X1.set2 s)
 clear hb1 X0 X1
 go_wp2_with fail
 generalize w1.setCell ⟨w.heap.size+1,2,none⟩ (.string s)=w2 at *
 clear f2 c2
 refine (parts0 w2).mono ?_
 rintro r w3 ⟨rfl,hb3⟩
 have X3:=hide ((uh X2).later hb3)
 clear hb3 X2
 go_wp2
 refine wp_loop_rounds 1 ?_
 rw [rounds_succ]
 go_wp2_with (first|(refine wpList_load_row rfl 26 _ rfl (w.heap.size+1) rfl 26 #[.int .i64 12,.int .i64 0,.string s,.slice none 0 0] (0,0) _ (uh X3).box Tryz.underlying26 rfl (by kernel_rfl) ?_)|(refine wpList_store_row rfl 26 _ _ rfl w.heap.size #[.int .i64 12,.int .i64 0,.string s,.slice none 0 0] rfl rfl 26 _ (uh X3).res szE rfl (ex_one _ _ _ _ _ _) ?_))
 refine bodyPost_ret (results_cell_row (P:=Tryz.prog) rfl _ _ w.heap.size 26 #[.int .i64 12,.int .i64 0,.string s,.slice none 0 0] (0,0) _ rfl (setRow_heap _ _ _ _ _ _ (uh X3).res) Tryz.underlying26 rfl szE) rfl ?_
 rw [←uh HX]
 exact Xb.end (l:=[]) (uh X3) (NewX.nil _ _ _ _ _ _) _
end
def wr (n:Int):Int:=n%65536
structure By (w wr:World) (pa pb:Array Value):Prop where
 bel:Below w.heap.size w wr
 lt:w.heap.size+3≤wr.heap.size
 boxa:wr.heap[w.heap.size]?=some (.cells pa 26 (0,0))
 boxb:wr.heap[w.heap.size+1]?=some (.cells pb 26 (0,0))
 res:wr.heap[w.heap.size+2]?=some (.cells #[.int .i64 0,.int .i64 0,.string ⟨#[]⟩,.slice none 0 0] 26 (0,0))
section
theorem cell_newF (W:World) (cs:Array Value) (t:TypeId):∀ j u,cs.toList[j]?=some u→(W.alloc (.cells cs t)).cell? ((⟨W.heap.size,0,none⟩:Addr).add j)=some u:=by
 intro j u hu
 have h:(W.alloc (.cells cs t)).cell? ⟨W.heap.size,j,none⟩=some u:=by rw [World.cell?_alloc_at _ _ _ _ rfl];simpa using hu
 unfold Addr.add
 by_cases h0:j=0
 · subst h0;simpa using h
 · simpa [h0] using h
section
variable {w wr w':World} {pr:Array Value} {k n:Int} {s:ByteArray} {v:Value}
end
end
section
section
variable {P:Program} {ops:Array Oper} {Q:Exit→Act→World→Prop} {md:Region.Mode} {S:World→Prop} {last:Nat}
def wpAnyL (P:Program) (md:Region.Mode) (ops:Array Oper) (Q:Exit→Act→World→Prop) (S:World→Prop) (last:Nat):Nat→Array Bool→Act→World→Prop
 | 0, listed, a, w => Region.ready md ops listed = [] ∧ Q .normal a w
 | fuel + 1, listed, a, w =>
  (Region.ready md ops listed = []→Q .normal a w) ∧
  ∀ i∈Region.ready md ops listed,wpOp P ops Q i (fun a' w'=>((listed.setIfInBounds i true).getD last true=false→S w')∧wpAnyL P md ops Q S last fuel (listed.setIfInBounds i true) a' w') a w
theorem wpAny_of_last:∀ (fuel:Nat) (listed:Array Bool) (a:Act) (w:World),wpAnyL P md ops Q S last fuel listed a w→wpAny P md ops Q fuel listed a w
 | 0, _, _, _, h => h
 | fuel + 1, _, _, _, h => ⟨h.1, fun i hi => wpOp_mono (fun a' w' h' => wpAny_of_last fuel _ a' w' h'.2) (h.2 i hi)⟩
def lastB (md:Region.Mode) (ops:Array Oper) (last i:Nat):Bool:=((ops[last]?).map fun o=>o.after.any fun e=>Region.binds md e&&e.on == i).getD false
theorem lastB_spec {i:Nat} (h:lastB md ops last i=true):∀ ol,ops[last]?=some ol→∃ e∈ol.after,Region.binds md e=true∧e.on=i:=by
 intro ol ho
 unfold lastB at h
 rw [ho] at h
 simp only [Option.map_some,Option.getD_some] at h
 obtain ⟨e,he,hb⟩:=Array.any_eq_true'.1 h
 simp only [Bool.and_eq_true,beq_iff_eq] at hb
 exact ⟨e,he,hb.1,hb.2⟩
theorem wpAnyL_firstS {i:Nat} {oi:Oper} {v:Value} (hi:ops[i]?=some oi) (hsel:∀ (j:Nat) (o:Oper) cs b,ops[j]?=some o→o.op≠.select cs b)
  (hQ:∀ c a w,Q (.panic c) (a.put oi.dst v) w→Q (.panic c) a w) (hil:i≠last) (hl:∀ ol,ops[last]?=some ol→∃ e∈ol.after,Region.binds md e=true∧e.on=i) :
  ∀ (fuel:Nat) (listed:Array Bool) (a:Act) (w:World),
   (∀ j oj,ops[j]?=some oj→j≠i→listed.getD j true=false→(∀ e∈oj.after,Region.binds md e=true→e.on≠i)→oi.apart ops oj=true) →
   i∈Region.ready md ops listed→YieldsIf P ops S oi v a→S w→listed.getD last true=false →
   wpAnyL P md ops Q S last fuel (listed.setIfInBounds i true) (a.put oi.dst v) w→wpAnyL P md ops Q S last (fuel+1) listed a w:=by
 intro fuel
 induction fuel with
 | zero =>
  intro listed a w _ hr hy hS hp H
  refine ⟨fun h=>(by rw [h] at hr;cases hr),fun j hj=>?_⟩
  by_cases hji:j=i
  · subst hji;exact hy.wpOp hi hS ⟨fun _=>hS,H⟩
  ·
   have:=ready_mono hj hji
   rw [H.1] at this
   cases this
 | succ fuel ih =>
  intro listed a w hfree hr hy hS hp H
  refine ⟨fun h=>(by rw [h] at hr;cases hr),fun j hj=>?_⟩
  by_cases hji:j=i
  · subst hji;exact hy.wpOp hi hS ⟨fun _=>hS,H⟩
  ·
   have h1:=H.2 j (ready_mono hj hji)
   obtain ⟨hjun,oj,hoj,hall⟩:=mem_ready.1 hj
   have hnot:∀ e∈oj.after,Region.binds md e=true→e.on≠i:=fun e he hb heq=>by
    have h1:=hall e he hb
    have h0:=(mem_ready.1 hr).1
    rw [heq] at h1
    rcases Nat.lt_or_ge i listed.size with h'|h'
    · simp [h'] at h0 h1;rw [h0] at h1;cases h1
    · simp [Array.getElem?_eq_none h'] at h1
   have hjl:j≠last:=fun e=>by
    subst e
    obtain ⟨e,he,hb,ho⟩:=hl oj hoj
    exact hnot e he hb ho
   have h2:=wpOp_putIf hoj (hfree j oj hoj hji hjun hnot) (fun cs b=>hsel i oi cs b hi) (fun cs b=>hsel j oj cs b hoj) hQ hy h1
   have hfree':∀ k ok,ops[k]?=some ok→k≠i→(listed.setIfInBounds j true).getD k true=false →
     (∀ e∈ok.after,Region.binds md e=true→e.on≠i)→oi.apart ops ok=true:=fun k ok hk hki hun hno=>by
    refine hfree k ok hk hki ?_ hno
    by_cases hjk:j=k
    · subst hjk;exact hjun
    · rw [getD_set_ne true hjk] at hun;exact hun
   have hp':(listed.setIfInBounds j true).getD last true=false:=by rw [getD_set_ne true hjl];exact hp
   have hp2:((listed.setIfInBounds i true).setIfInBounds j true).getD last true=false:=by rw [getD_set_ne true hjl,getD_set_ne true hil];exact hp
   refine wpOp_mono (fun a' w' h3=>⟨fun _=>h3.2.1 hp2,ih (listed.setIfInBounds j true) a' w' hfree' (ready_mono hr (Ne.symm hji)) h3.1 (h3.2.1 hp2) hp' ?_⟩) h2
   rw [Array.setIfInBounds_comm _ _ hji]
   exact h3.2.2
theorem wpAnyL_firstW {i:Nat} {oi:Oper} {v:Value} (hi:ops[i]?=some oi) (hsel:∀ (j:Nat) (o:Oper) cs b,ops[j]?=some o→o.op≠.select cs b)
  (hQ:∀ c a w,Q (.panic c) (a.put oi.dst v) w→Q (.panic c) a w) (hil:i≠last) :
  ∀ (fuel:Nat) (listed:Array Bool) (a:Act) (w:World),
   (∀ j oj,ops[j]?=some oj→j≠i→listed.getD j true=false→(∀ e∈oj.after,Region.binds md e=true→e.on≠i)→oi.apart ops oj=true) →
   i∈Region.ready md ops listed→YieldsIf P ops (fun _=>True) oi v a→(listed.getD last true=false→S w) →
   wpAnyL P md ops Q S last fuel (listed.setIfInBounds i true) (a.put oi.dst v) w→wpAnyL P md ops Q S last (fuel+1) listed a w:=by
 intro fuel
 induction fuel with
 | zero =>
  intro listed a w _ hr hy hS H
  refine ⟨fun h=>(by rw [h] at hr;cases hr),fun j hj=>?_⟩
  by_cases hji:j=i
  · subst hji;exact hy.wpOp hi trivial ⟨fun h=>hS (by rw [getD_set_ne true hil] at h;exact h),H⟩
  ·
   have:=ready_mono hj hji
   rw [H.1] at this
   cases this
 | succ fuel ih =>
  intro listed a w hfree hr hy hS H
  refine ⟨fun h=>(by rw [h] at hr;cases hr),fun j hj=>?_⟩
  by_cases hji:j=i
  · subst hji;exact hy.wpOp hi trivial ⟨fun h=>hS (by rw [getD_set_ne true hil] at h;exact h),H⟩
  ·
   have h1:=H.2 j (ready_mono hj hji)
   obtain ⟨hjun,oj,hoj,hall⟩:=mem_ready.1 hj
   have hnot:∀ e∈oj.after,Region.binds md e=true→e.on≠i:=fun e he hb heq=>by
    have h1:=hall e he hb
    have h0:=(mem_ready.1 hr).1
    rw [heq] at h1
    rcases Nat.lt_or_ge i listed.size with h'|h'
    · simp [h'] at h0 h1;rw [h0] at h1;cases h1
    · simp [Array.getElem?_eq_none h'] at h1
   have h2:=wpOp_putIf hoj (hfree j oj hoj hji hjun hnot) (fun cs b=>hsel i oi cs b hi) (fun cs b=>hsel j oj cs b hoj) hQ hy h1
   have hfree':∀ k ok,ops[k]?=some ok→k≠i→(listed.setIfInBounds j true).getD k true=false →
     (∀ e∈ok.after,Region.binds md e=true→e.on≠i)→oi.apart ops ok=true:=fun k ok hk hki hun hno=>by
    refine hfree k ok hk hki ?_ hno
    by_cases hjk:j=k
    · subst hjk;exact hjun
    · rw [getD_set_ne true hjk] at hun;exact hun
   have hs2:∀ w',((((listed.setIfInBounds i true).setIfInBounds j true).getD last true=false)→S w')→((listed.setIfInBounds j true).getD last true=false→S w'):=fun w' h hp=>h (by
    rw [Array.setIfInBounds_comm _ _ (Ne.symm hji),getD_set_ne true hil];exact hp)
   refine wpOp_mono (fun a' w' h3=>⟨hs2 w' h3.2.1,ih (listed.setIfInBounds j true) a' w' hfree' (ready_mono hr (Ne.symm hji)) h3.1 (hs2 w' h3.2.1) ?_⟩) h2
   rw [Array.setIfInBounds_comm _ _ hji]
   exact h3.2.2
theorem wpAnyL_takeS {i:Nat} {oi:Oper} {v:Value} {fuel:Nat} {listed:Array Bool} {a:Act} {w:World} (hi:ops[i]?=some oi)
  (hs:Region.noSelect ops=true) (hf:Region.free md ops listed i=true) (hr:(Region.ready md ops listed).contains i=true) (hb:lastB md ops last i=true) (hl:(decide (i≠last)&&!listed.getD last true)=true)
  (hQ:∀ c a w,Q (.panic c) (a.put oi.dst v) w→Q (.panic c) a w) (hy:YieldsIf P ops S oi v a) (hS:S w)
  (h:wpAnyL P md ops Q S last fuel (listed.setIfInBounds i true) (a.put oi.dst v) w):wpAnyL P md ops Q S last (fuel+1) listed a w:=by
 simp only [Bool.and_eq_true,decide_eq_true_eq,Bool.not_eq_true'] at hl
 exact wpAnyL_firstS hi (Region.noSelect_spec hs) hQ hl.1 (lastB_spec hb) fuel listed a w (Region.free_spec hi hf) (by simpa using hr) hy hS hl.2 h
theorem wpAnyL_takeW {i:Nat} {oi:Oper} {v:Value} {fuel:Nat} {listed:Array Bool} {a:Act} {w:World} (hi:ops[i]?=some oi)
  (hs:Region.noSelect ops=true) (hf:Region.free md ops listed i=true) (hr:(Region.ready md ops listed).contains i=true) (hl:decide (i≠last)=true)
  (hQ:∀ c a w,Q (.panic c) (a.put oi.dst v) w→Q (.panic c) a w) (hy:YieldsIf P ops (fun _=>True) oi v a) (hS:S w∨listed.getD last true=true)
  (h:wpAnyL P md ops Q S last fuel (listed.setIfInBounds i true) (a.put oi.dst v) w):wpAnyL P md ops Q S last (fuel+1) listed a w :=
 wpAnyL_firstW hi (Region.noSelect_spec hs) hQ (by simpa using hl) fuel listed a w (Region.free_spec hi hf) (by simpa using hr) hy (fun hp=>hS.elim id (fun e=>by rw [e] at hp;cases hp)) h
theorem wpAnyL_one {i:Nat} {o:Oper} {fuel:Nat} {listed:Array Bool} {a:Act} {w:World} (hr:Region.ready md ops listed = [i]) (ho:ops[i]?=some o)
  (h:∀ K':Act→World→Prop,Shut (∀ a w,((listed.setIfInBounds i true).getD last true=false→S w)→wpAnyL P md ops Q S last fuel (listed.setIfInBounds i true) a w→K' a w)→if Region.wanted o (yielded ops a.tmps)=true then Oper.wp P o a w K' Q else K' (a.put o.dst undef) w) :
  wpAnyL P md ops Q S last (fuel+1) listed a w:=by
 refine ⟨fun h0=>(by rw [hr] at h0;cases h0),fun j hj=>?_⟩
 rw [hr] at hj
 obtain rfl:j=i:=by simpa using hj
 exact wpOp_step ho (fun K' hK=>h K' (fun a w hS hW=>hK a w ⟨hS,hW⟩))
theorem wpAnyL_done {listed:Array Bool} {a:Act} {w:World} (hr:Region.ready md ops listed = []) (h:Q .normal a w):∀ fuel,wpAnyL P md ops Q S last fuel listed a w
 | 0 => ⟨hr, h⟩
 | _ + 1 => ⟨fun _ => h, by rw [hr]; simp⟩
theorem wp_region_last {id:Nat} {a:Act} {w:World} (S:World→Prop) (last:Nat) (hm:P.follows .mixedOrders=true) (h:wpAnyL P .any ops Q S last ops.size (Array.replicate ops.size false) a w.drew):(Code.region id ops true).wp P Q a w :=
 wp_region_any hm (wpAny_of_last _ _ _ _ h)
end
section
variable {P:Program} {ops:Array Oper} {Q:Exit→Act→World→Prop} {md:Region.Mode} {S:World→Prop} {last:Nat} {oi:Oper} {fuel:Nat} {listed:Array Bool} {a:Act} {w:World}
theorem twA (i:Nat) (v:Value) (hi:ops[i]?=some oi) (hy:YieldsIf P ops (fun _=>True) oi v a) (hS:S w∨listed.getD last true=true) (h:wpAnyL P md ops Q S last fuel (listed.setIfInBounds i true) (a.put oi.dst v) w) (hs:Region.noSelect ops=true:=by kernel_rfl) (hf:Region.free md ops listed i=true:=by kernel_rfl) (hr:(Region.ready md ops listed).contains i=true:=by kernel_rfl) (hl:decide (i≠last)=true:=by kernel_rfl) (hQ:∀ c a w,Q (.panic c) (a.put oi.dst v) w→Q (.panic c) a w:=by exact fun _ _ _ h=>h):wpAnyL P md ops Q S last (fuel+1) listed a w:=wpAnyL_takeW hi hs hf hr hl hQ hy hS h
theorem twB (i:Nat) (v:Value) (hi:ops[i]?=some oi) (hS:S w∨listed.getD last true=true) (h:wpAnyL P md ops Q S last fuel (listed.setIfInBounds i true) (a.put oi.dst v) w) (hs:Region.noSelect ops=true:=by kernel_rfl) (hf:Region.free md ops listed i=true:=by kernel_rfl) (hr:(Region.ready md ops listed).contains i=true:=by kernel_rfl) (hl:decide (i≠last)=true:=by kernel_rfl) (hQ:∀ c a w,Q (.panic c) (a.put oi.dst v) w→Q (.panic c) a w:=by exact fun _ _ _ h=>h) (hy:YieldsIf P ops (fun _=>True) oi v a:=by exact .inl ⟨by rfl,fun w hc=>by clear hc;go_simp⟩):wpAnyL P md ops Q S last (fuel+1) listed a w:=wpAnyL_takeW hi hs hf hr hl hQ hy hS h
theorem tsA (i:Nat) (v:Value) (hi:ops[i]?=some oi) (hy:YieldsIf P ops S oi v a) (hS:S w) (h:wpAnyL P md ops Q S last fuel (listed.setIfInBounds i true) (a.put oi.dst v) w) (hs:Region.noSelect ops=true:=by kernel_rfl) (hf:Region.free md ops listed i=true:=by kernel_rfl) (hr:(Region.ready md ops listed).contains i=true:=by kernel_rfl) (hb:lastB md ops last i=true:=by kernel_rfl) (hl:(decide (i≠last)&&!listed.getD last true)=true:=by kernel_rfl) (hQ:∀ c a w,Q (.panic c) (a.put oi.dst v) w→Q (.panic c) a w:=by exact fun _ _ _ h=>h):wpAnyL P md ops Q S last (fuel+1) listed a w:=wpAnyL_takeS hi hs hf hr hb hl hQ hy hS h
theorem tsB (i:Nat) (v:Value) (hi:ops[i]?=some oi) (hS:S w) (h:wpAnyL P md ops Q S last fuel (listed.setIfInBounds i true) (a.put oi.dst v) w) (hs:Region.noSelect ops=true:=by kernel_rfl) (hf:Region.free md ops listed i=true:=by kernel_rfl) (hr:(Region.ready md ops listed).contains i=true:=by kernel_rfl) (hb:lastB md ops last i=true:=by kernel_rfl) (hl:(decide (i≠last)&&!listed.getD last true)=true:=by kernel_rfl) (hQ:∀ c a w,Q (.panic c) (a.put oi.dst v) w→Q (.panic c) a w:=by exact fun _ _ _ h=>h) (hy:YieldsIf P ops S oi v a:=by exact .inl ⟨by rfl,fun w hc=>by clear hc;go_simp⟩):wpAnyL P md ops Q S last (fuel+1) listed a w:=wpAnyL_takeS hi hs hf hr hb hl hQ hy hS h
end
end
theorem grownBy_cell {W:World} {g i:Nat} (v:Value):W.grownBy (W.setCell ⟨g,i,none⟩ v) (some g):=⟨rfl,rfl,rfl,by simp [World.setCell],fun k _ hk=>heap_setCell_other W ⟨g,i,none⟩ k v (fun e=>hk (by rw [show k=g from e]))⟩
theorem below_none {w w':World} (h:w.grownBy w' none):Below w.heap.size w w':=(Below.refl _ _).grown h (Nat.le_refl _) (fun k e=>by cases e)
theorem exL_one (x:Ex) (c:Option Addr) (cp:Nat):∀ u∈exL x c cp,u.oneCell'=true:=by
 intro u hu
 simp only [exL,List.mem_cons,List.not_mem_nil,or_false] at hu
 rcases hu with rfl|rfl|rfl|rfl <;> rfl
theorem xo_neg (t:TypeId) (x:Value) (e:Ex) (h1:∀ w,Calls Tryz.prog 200 #[.iface t x] w (XoR e w)) (w:World):Calls Tryz.prog 200 #[.iface 188 (.agg #[.iface t x])] w (XoR ⟨4,0,E0,[e]⟩ w):=by
 obtain ⟨i0,hi,hz0,hz1,hz2⟩:=info_parts infoX
 have KD:=hide (fun w=>kind_neg 0 E0 t 0 x .nilIface w)
 have t0:=taN_num 188 (.agg #[.iface t x]) (by decide)
 have t1:=taN_sect 188 (.agg #[.iface t x]) (by decide)
 have t2:=taN_sym 188 (.agg #[.iface t x]) (by decide)
 have t3:=taN_glob 188 (.agg #[.iface t x]) (by decide)
 have m:=me_neg (.iface t x)
 have X0:=hide (Xb.new2 (n:=0) (s:=⟨#[]⟩) (v:=.slice none 0 0) w 4)
 have H1:=hide h1
 unfold XoR at H1
 generalize hX:XoR ⟨4,0,E0,[e]⟩ w=X
 have HX:=hide hX
 clear hX h1
 go_enter Tryz.func200,Tryz.ntmps200
 go_wp2_with (first|(go_at_call 151;refine (uh KD _).mono ?_;rintro r w' ⟨rfl,hw'⟩;rw [hw'];clear hw' w'))
 generalize (w.alloc (.cells #[.int .i64 0,.int .i64 0,.string ⟨#[]⟩,.slice none 0 0] 26)).alloc (.cells #[.int .i64 4,.int .i64 0,.string ⟨#[]⟩,.slice none 0 0] 26)=W at *
 refine (parts1 t x W).mono ?_
 rintro r w1 ⟨gp,rfl,hgp,hb1⟩
 have X1:=hide ((uh X0).later hb1)
 have G1:=hide hgp
 have c0:=Lib.cell_of_heap hgp 0
 clear hb1 X0 hgp t0 t1 t2 t3 m KD
 go_wp2
 refine wp_loop_rounds 2 ?_
 rw [rounds_succ]
 go_wp2_with fail
 clear c0
 have XD0:=hide ((uh X1).later (below_drew (w:=w1)))
 have GD0:=hide (row_keep (uh G1) (below_drew (w:=w1)))
 have SD0:w1.drew.cell? ⟨w.heap.size+1,3,none⟩=some (.slice none 0 0):=Lib.cell_of_heap (uh XD0).box 3
 have HSD0:=hide SD0
 clear X1 G1 SD0
 refine wp_region_last (fun v=>v.cell? ⟨w.heap.size+1,3,none⟩=some (.slice none 0 0)) 7 (by kernel_rfl) ?_
 generalize w1.drew=v0 at *
 refine twB 0 (.pointer (some ⟨w.heap.size+1,3,none⟩)) rfl (.inl (uh HSD0)) ?_
 go_simp
 refine tsA 1 (.slice none 0 0) rfl (.inl ⟨by rfl,fun w hc=>?_⟩) (uh HSD0) ?_
 · go_simp
 go_simp
 refine twB 2 (.iface t x) rfl (.inl (uh HSD0)) ?_
 go_simp
 refine wpAnyL_one (i:=3) (by kernel_rfl) rfl (fun K2 hK=>?_)
 go_simp
 refine (uh H1 v0).mono ?_
 rintro r wa0 ⟨c0,cp0,rfl,hn0,hb0⟩
 unfold Ex.cs
 have XA0:=hide ((uh XD0).later hb0)
 have GA0:=hide (row_keep (uh GD0) hb0)
 have NA0:=hide hn0.half
 have hl0:=(uh XD0).lt
 have hs0:=hb0.size
 have SA0:=hide (show wa0.cell? ⟨w.heap.size+1,3,none⟩=some (.slice none 0 0) from Lib.cell_of_heap (uh XA0).box 3)
 refine hK.out _ _ (fun _=>uh SA0) ?_
 clear hK K2
 clear hn0 hb0 XD0 GD0 HSD0
 refine wpAnyL_one (i:=4) (by kernel_rfl) rfl (fun K2 hK=>?_)
 go_simp
 have hb0:=below_new wa0 (.cells #[.int .i64 e.k,.int .i64 e.n,.string e.s,.slice c0 e.l.length cp0] 26)
 have XB0:=hide ((uh XA0).later hb0)
 have GB0:=hide (row_keep (uh GA0) hb0)
 have NB0:=hide ((uh NA0).later hb0)
 have CN0:=hide (cell_newF wa0 #[.int .i64 e.k,.int .i64 e.n,.string e.s,.slice c0 e.l.length cp0] 26)
 have SB0:=hide (show (wa0.alloc (.cells #[.int .i64 e.k,.int .i64 e.n,.string e.s,.slice c0 e.l.length cp0] 26)).cell? ⟨w.heap.size+1,3,none⟩=some (.slice none 0 0) from Lib.cell_of_heap (uh XB0).box 3)
 have hz0:(wa0.alloc (.cells #[.int .i64 e.k,.int .i64 e.n,.string e.s,.slice c0 e.l.length cp0] 26)).heap.size=wa0.heap.size+1:=by simp
 have HZ0:=hide hz0
 refine hK.out _ _ (fun _=>uh SB0) ?_
 clear hK K2
 clear hb0 hz0 XA0 GA0 NA0 SA0
 generalize hM0:wa0.heap.size=M0 at *
 have HM0:=hide hM0
 clear hM0
 generalize wa0.alloc (.cells #[.int .i64 e.k,.int .i64 e.n,.string e.s,.slice c0 e.l.length cp0] 26)=wb0 at *
 refine wpAnyL_one (i:=5) (by kernel_rfl) rfl (fun K2 hK=>?_)
 rw [if_pos (by rfl)]
 refine wp_append_to (.tmp 48) (.tmp 51) 24 rfl M0 26 i0 (.agg #[.int .i64 0,.int .i64 0,.string ⟨#[]⟩,.slice none 0 0]) 4 56 Tryz.underlying24 hi hz0 hz1 hz2 rfl (by decide) (.slice none 0 0) 0 ([]) rfl (World.ownsRow_nil _ _ _ _) ⟨M0,0,none⟩ 1 1 (exL e c0 cp0) rfl rfl (uh CN0) (exL_one _ _ _) (by unfold maxLen;omega) (by omega) (by have:=uh HZ0;omega) (by omega) ?_
 intro g0 cap0 wc0 hown0 hgrow0 hwh0
 have hbc:=below_none hgrow0
 have XC:=hide ((uh XB0).later hbc)
 have NC:=hide ((uh NB0).later hbc)
 have OC:=hide (show wc0.ownsRow M0 26 4 (.slice (some ⟨g0,0,none⟩) 1 cap0) 1 (exL e c0 cp0) from hown0)
 have hgM:M0≤g0:=(World.ownsRow.lt hown0 g0 rfl).1
 have SC:=hide (show wc0.cell? ⟨w.heap.size+1,3,none⟩=some (.slice none 0 0) from Lib.cell_of_heap (uh XC).box 3)
 have fz:wc0.frozen? ⟨w.heap.size+1,3,none⟩=false:=by simp [World.frozen?,(uh XC).box]
 have c3:=Lib.cell_of_heap (uh XC).box 3
 refine hK.out _ _ (fun _=>uh SC) ?_
 clear hK K2
 clear hbc hown0 hgrow0 hwh0 XB0 GB0 NB0 SB0 CN0
 refine twB 6 (.pointer (some ⟨w.heap.size+1,3,none⟩)) rfl (.inl (uh SC)) ?_
 go_simp
 refine wpAnyL_one (i:=7) (by kernel_rfl) rfl (fun K2 hK=>?_)
 go_simp
 refine hK.out _ _ (fun h=>absurd h (by decide)) ?_
 clear hK K2
 refine wpAnyL_done (by kernel_rfl) ?_ _
 have XE:=hide ((uh XC).set3 (.slice (some ⟨g0,0,none⟩) 1 cap0))
 have hgc:=grownBy_cell (W:=wc0) (g:=w.heap.size+1) (i:=3) (.slice (some ⟨g0,0,none⟩) 1 cap0)
 have NE:=(uh NC).drawn hgc (by omega)
 have OE:=World.ownsRow.kept (uh OC) hgc (.inr (by simp [Value.ownBlock];omega))
 have NW:=hide ((NE.row1 OE hs0 4 0 E0).lower (show w.heap.size+1≤v0.heap.size by omega))
 clear hgc NE OE XC NC OC SC fz c3 HZ0 HM0
 generalize wc0.setCell ⟨w.heap.size+1,3,none⟩ (.slice (some ⟨g0,0,none⟩) 1 cap0)=we0 at *
 go_wp2
 rw [rounds_succ]
 go_wp2_with (first|(refine wpList_load_row rfl 26 _ rfl (w.heap.size+1) rfl 26 #[.int .i64 4,.int .i64 0,.string ⟨#[]⟩,.slice (some ⟨g0,0,none⟩) 1 cap0] (0,0) _ (uh XE).box Tryz.underlying26 rfl (by kernel_rfl) ?_)|(refine wpList_store_row rfl 26 _ _ rfl w.heap.size #[.int .i64 4,.int .i64 0,.string ⟨#[]⟩,.slice (some ⟨g0,0,none⟩) 1 cap0] rfl rfl 26 _ (uh XE).res szE rfl (ex_one _ _ _ _ _ _) ?_))
 refine bodyPost_ret (results_cell_row (P:=Tryz.prog) rfl _ _ w.heap.size 26 #[.int .i64 4,.int .i64 0,.string ⟨#[]⟩,.slice (some ⟨g0,0,none⟩) 1 cap0] (0,0) _ rfl (setRow_heap _ _ _ _ _ _ (uh XE).res) Tryz.underlying26 rfl szE) rfl ?_
 rw [←uh HX]
 exact Xb.end (l:=[e]) (uh XE) (uh NW) _
theorem xo_two (T : TypeId) (k : Int) (t u : TypeId) (x y : Value) (e f : Ex) (n0 : T ≠ 182) (n1 : T ≠ 234) (n2 : T ≠ 184) (n3 : T ≠ 235) (m : ∀ w, (method 389 T (.agg #[.iface t x, .iface u y]) "loop.example/g00329/impl.parts").run Tryz.prog w = .ok (265, .agg #[.iface t x, .iface u y]) w) (kd : ∀ w, Calls Tryz.prog 151 #[.iface T (.agg #[.iface t x, .iface u y])] w fun r w' => r = .returned (.int .i64 k) ∧ w' = w) (h1 : ∀ w, Calls Tryz.prog 200 #[.iface t x] w (XoR e w)) (h2 : ∀ w, Calls Tryz.prog 200 #[.iface u y] w (XoR f w)) (w : World) : Calls Tryz.prog 200 #[.iface T (.agg #[.iface t x, .iface u y])] w (XoR ⟨k, 0, E0, [e, f]⟩ w) := by
 obtain ⟨i0,hi,hz0,hz1,hz2⟩:=info_parts infoX
 have KD:=hide kd
 have t0:=taN_num T (.agg #[.iface t x,.iface u y]) n0
 have t1:=taN_sect T (.agg #[.iface t x,.iface u y]) n1
 have t2:=taN_sym T (.agg #[.iface t x,.iface u y]) n2
 have t3:=taN_glob T (.agg #[.iface t x,.iface u y]) n3
 have X0:=hide (Xb.new2 (n:=0) (s:=⟨#[]⟩) (v:=.slice none 0 0) w k)
 have H1:=hide h1
 have H2:=hide h2
 unfold XoR at H1 H2
 generalize hX:XoR ⟨k,0,E0,[e,f]⟩ w=X
 have HX:=hide hX
 clear hX h1 h2 kd n0 n1 n2 n3
 go_enter Tryz.func200,Tryz.ntmps200
 go_wp2_with (first|(go_at_call 151;refine (uh KD _).mono ?_;rintro r w' ⟨rfl,hw'⟩;rw [hw'];clear hw' w'))
 generalize (w.alloc (.cells #[.int .i64 0,.int .i64 0,.string ⟨#[]⟩,.slice none 0 0] 26)).alloc (.cells #[.int .i64 k,.int .i64 0,.string ⟨#[]⟩,.slice none 0 0] 26)=W at *
 refine (parts2 t u x y W).mono ?_
 rintro r w1 ⟨gp,rfl,hgp,hb1⟩
 have X1:=hide ((uh X0).later hb1)
 have G1:=hide hgp
 have c0:=Lib.cell_of_heap hgp 0
 have hgn:gp≠w.heap.size+1:=fun e=>by have h:=(uh X1).box;rw [←e,hgp] at h;cases h
 clear hb1 X0 hgp t0 t1 t2 t3 m KD
 go_wp2
 refine wp_loop_rounds 3 ?_
 rw [rounds_succ]
 go_wp2_with fail
 clear c0
 have XD0:=hide ((uh X1).later (below_drew (w:=w1)))
 have GD0:=hide (row_keep (uh G1) (below_drew (w:=w1)))
 have SD0:w1.drew.cell? ⟨w.heap.size+1,3,none⟩=some (.slice none 0 0):=Lib.cell_of_heap (uh XD0).box 3
 have HSD0:=hide SD0
 clear X1 G1 SD0
 refine wp_region_last (fun v=>v.cell? ⟨w.heap.size+1,3,none⟩=some (.slice none 0 0)) 7 (by kernel_rfl) ?_
 generalize w1.drew=v0 at *
 refine twB 0 (.pointer (some ⟨w.heap.size+1,3,none⟩)) rfl (.inl (uh HSD0)) ?_
 go_simp
 refine tsA 1 (.slice none 0 0) rfl (.inl ⟨by rfl,fun w hc=>?_⟩) (uh HSD0) ?_
 · go_simp
 go_simp
 refine twB 2 (.iface t x) rfl (.inl (uh HSD0)) ?_
 go_simp
 refine wpAnyL_one (i:=3) (by kernel_rfl) rfl (fun K2 hK=>?_)
 go_simp
 refine (uh H1 v0).mono ?_
 rintro r wa0 ⟨c0,cp0,rfl,hn0,hb0⟩
 unfold Ex.cs
 have XA0:=hide ((uh XD0).later hb0)
 have GA0:=hide (row_keep (uh GD0) hb0)
 have NA0:=hide hn0.half
 have hl0:=(uh XD0).lt
 have hs0:=hb0.size
 have SA0:=hide (show wa0.cell? ⟨w.heap.size+1,3,none⟩=some (.slice none 0 0) from Lib.cell_of_heap (uh XA0).box 3)
 refine hK.out _ _ (fun _=>uh SA0) ?_
 clear hK K2
 clear hn0 hb0 XD0 GD0 HSD0
 refine wpAnyL_one (i:=4) (by kernel_rfl) rfl (fun K2 hK=>?_)
 go_simp
 have hb0:=below_new wa0 (.cells #[.int .i64 e.k,.int .i64 e.n,.string e.s,.slice c0 e.l.length cp0] 26)
 have XB0:=hide ((uh XA0).later hb0)
 have GB0:=hide (row_keep (uh GA0) hb0)
 have NB0:=hide ((uh NA0).later hb0)
 have CN0:=hide (cell_newF wa0 #[.int .i64 e.k,.int .i64 e.n,.string e.s,.slice c0 e.l.length cp0] 26)
 have SB0:=hide (show (wa0.alloc (.cells #[.int .i64 e.k,.int .i64 e.n,.string e.s,.slice c0 e.l.length cp0] 26)).cell? ⟨w.heap.size+1,3,none⟩=some (.slice none 0 0) from Lib.cell_of_heap (uh XB0).box 3)
 have hz0:(wa0.alloc (.cells #[.int .i64 e.k,.int .i64 e.n,.string e.s,.slice c0 e.l.length cp0] 26)).heap.size=wa0.heap.size+1:=by simp
 have HZ0:=hide hz0
 refine hK.out _ _ (fun _=>uh SB0) ?_
 clear hK K2
 clear hb0 hz0 XA0 GA0 NA0 SA0
 generalize hM0:wa0.heap.size=M0 at *
 have HM0:=hide hM0
 clear hM0
 generalize wa0.alloc (.cells #[.int .i64 e.k,.int .i64 e.n,.string e.s,.slice c0 e.l.length cp0] 26)=wb0 at *
 refine wpAnyL_one (i:=5) (by kernel_rfl) rfl (fun K2 hK=>?_)
 rw [if_pos (by rfl)]
 refine wp_append_to (.tmp 48) (.tmp 51) 24 rfl M0 26 i0 (.agg #[.int .i64 0,.int .i64 0,.string ⟨#[]⟩,.slice none 0 0]) 4 56 Tryz.underlying24 hi hz0 hz1 hz2 rfl (by decide) (.slice none 0 0) 0 ([]) rfl (World.ownsRow_nil _ _ _ _) ⟨M0,0,none⟩ 1 1 (exL e c0 cp0) rfl rfl (uh CN0) (exL_one _ _ _) (by unfold maxLen;omega) (by omega) (by have:=uh HZ0;omega) (by omega) ?_
 intro g0 cap0 wc0 hown0 hgrow0 hwh0
 have hbc:=below_none hgrow0
 have XC:=hide ((uh XB0).later hbc)
 have GC:=hide (row_keep (uh GB0) hbc)
 have NC:=hide ((uh NB0).later hbc)
 have OC:=hide (show wc0.ownsRow M0 26 4 (.slice (some ⟨g0,0,none⟩) 1 cap0) 1 (exL e c0 cp0) from hown0)
 have hgM:M0≤g0:=(World.ownsRow.lt hown0 g0 rfl).1
 have hgL:g0<wc0.heap.size:=(World.ownsRow.lt hown0 g0 rfl).2
 have SC:=hide (show wc0.cell? ⟨w.heap.size+1,3,none⟩=some (.slice none 0 0) from Lib.cell_of_heap (uh XC).box 3)
 have fz:wc0.frozen? ⟨w.heap.size+1,3,none⟩=false:=by simp [World.frozen?,(uh XC).box]
 have c3:=Lib.cell_of_heap (uh XC).box 3
 refine hK.out _ _ (fun _=>uh SC) ?_
 clear hK K2
 clear hbc hown0 hgrow0 hwh0 XB0 GB0 NB0 SB0 CN0
 refine twB 6 (.pointer (some ⟨w.heap.size+1,3,none⟩)) rfl (.inl (uh SC)) ?_
 go_simp
 refine wpAnyL_one (i:=7) (by kernel_rfl) rfl (fun K2 hK=>?_)
 go_simp
 refine hK.out _ _ (fun h=>absurd h (by decide)) ?_
 clear hK K2
 refine wpAnyL_done (by kernel_rfl) ?_ _
 have XE:=hide ((uh XC).set3 (.slice (some ⟨g0,0,none⟩) 1 cap0))
 have hgc:=grownBy_cell (W:=wc0) (g:=w.heap.size+1) (i:=3) (.slice (some ⟨g0,0,none⟩) 1 cap0)
 have RN0:=hide ((uh NC).drawn hgc (by omega))
 have RO0:=hide (World.ownsRow.kept (uh OC) hgc (.inr (by simp [Value.ownBlock];omega)))
 have GE:=hide ((hgc.block _ (Array.getElem?_eq_some_iff.1 (uh GC)).1 (fun e=>by simp at e;omega)).trans (uh GC))
 have hgE:g0<(wc0.setCell ⟨w.heap.size+1,3,none⟩ (.slice (some ⟨g0,0,none⟩) 1 cap0)).heap.size:=Nat.lt_of_lt_of_le hgL hgc.size
 have c1:=Lib.cell_of_heap (uh GE) 1
 clear hgc XC NC OC GC SC fz c3 HZ0 HM0 hgL
 generalize wc0.setCell ⟨w.heap.size+1,3,none⟩ (.slice (some ⟨g0,0,none⟩) 1 cap0)=we0 at *
 go_wp2
 rw [rounds_succ]
 go_wp2_with fail
 clear c1
 have hgD:g0<we0.drew.heap.size:=hgE
 have XD1:=hide ((uh XE).later (below_drew (w:=we0)))
 have GD1:=hide (row_keep (uh GE) (below_drew (w:=we0)))
 have RND:=hide ((uh RN0).later (below_drew (w:=we0)))
 have ROD:=hide (ownsRow_later (uh RO0) (below_drew (w:=we0)))
 have SD1:we0.drew.cell? ⟨w.heap.size+1,3,none⟩=some (.slice (some ⟨g0,0,none⟩) 1 cap0):=Lib.cell_of_heap (uh XD1).box 3
 have HSD1:=hide SD1
 clear XE GE SD1
 refine wp_region_last (fun v=>v.cell? ⟨w.heap.size+1,3,none⟩=some (.slice (some ⟨g0,0,none⟩) 1 cap0)) 7 (by kernel_rfl) ?_
 generalize we0.drew=v1 at *
 refine twB 0 (.pointer (some ⟨w.heap.size+1,3,none⟩)) rfl (.inl (uh HSD1)) ?_
 go_simp
 refine tsA 1 (.slice (some ⟨g0,0,none⟩) 1 cap0) rfl (.inl ⟨by rfl,fun w hc=>?_⟩) (uh HSD1) ?_
 · go_simp
 go_simp
 refine twB 2 (.iface u y) rfl (.inl (uh HSD1)) ?_
 go_simp
 refine wpAnyL_one (i:=3) (by kernel_rfl) rfl (fun K2 hK=>?_)
 go_simp
 refine (uh H2 v1).mono ?_
 rintro r wa1 ⟨c1,cp1,rfl,hn1,hb1⟩
 unfold Ex.cs
 have XA1:=hide ((uh XD1).later hb1)
 have GA1:=hide (row_keep (uh GD1) hb1)
 have RNA:=hide ((uh RND).later (hb1))
 have ROA:=hide (ownsRow_later (uh ROD) (hb1))
 have NA1:=hide hn1.half
 have hl1:=(uh XD1).lt
 have hs1:=hb1.size
 have SA1:=hide (show wa1.cell? ⟨w.heap.size+1,3,none⟩=some (.slice (some ⟨g0,0,none⟩) 1 cap0) from Lib.cell_of_heap (uh XA1).box 3)
 refine hK.out _ _ (fun _=>uh SA1) ?_
 clear hK K2
 clear hn1 hb1 XD1 GD1 HSD1
 refine wpAnyL_one (i:=4) (by kernel_rfl) rfl (fun K2 hK=>?_)
 go_simp
 have hb1:=below_new wa1 (.cells #[.int .i64 f.k,.int .i64 f.n,.string f.s,.slice c1 f.l.length cp1] 26)
 have XB1:=hide ((uh XA1).later hb1)
 have GB1:=hide (row_keep (uh GA1) hb1)
 have RNB:=hide ((uh RNA).later (hb1))
 have ROB:=hide (ownsRow_later (uh ROA) (hb1))
 have NB1:=hide ((uh NA1).later hb1)
 have CN1:=hide (cell_newF wa1 #[.int .i64 f.k,.int .i64 f.n,.string f.s,.slice c1 f.l.length cp1] 26)
 have SB1:=hide (show (wa1.alloc (.cells #[.int .i64 f.k,.int .i64 f.n,.string f.s,.slice c1 f.l.length cp1] 26)).cell? ⟨w.heap.size+1,3,none⟩=some (.slice (some ⟨g0,0,none⟩) 1 cap0) from Lib.cell_of_heap (uh XB1).box 3)
 have hz1:(wa1.alloc (.cells #[.int .i64 f.k,.int .i64 f.n,.string f.s,.slice c1 f.l.length cp1] 26)).heap.size=wa1.heap.size+1:=by simp
 have HZ1:=hide hz1
 refine hK.out _ _ (fun _=>uh SB1) ?_
 clear hK K2
 clear hb1 hz1 XA1 GA1 NA1 SA1
 generalize hM1:wa1.heap.size=M1 at *
 have HM1:=hide hM1
 clear hM1
 generalize wa1.alloc (.cells #[.int .i64 f.k,.int .i64 f.n,.string f.s,.slice c1 f.l.length cp1] 26)=wb1 at *
 refine wpAnyL_one (i:=5) (by kernel_rfl) rfl (fun K2 hK=>?_)
 rw [if_pos (by rfl)]
 refine wp_append_to (.tmp 48) (.tmp 51) 24 rfl M0 26 i0 (.agg #[.int .i64 0,.int .i64 0,.string ⟨#[]⟩,.slice none 0 0]) 4 56 Tryz.underlying24 hi hz0 hz1 hz2 rfl (by decide) (.slice (some ⟨g0,0,none⟩) 1 cap0) 1 (exL e c0 cp0) rfl (uh ROB) ⟨M1,0,none⟩ 1 1 (exL f c1 cp1) rfl rfl (uh CN1) (exL_one _ _ _) (by unfold maxLen;omega) (by omega) (by have:=uh HZ1;omega) (by omega) ?_
 intro g1 cap1 wc1 hown1 hgrow1 hwh1
 have hgr:wb1.grownBy wc1 (some g0):=hgrow1
 have XC:=hide ((uh XB1).grown hgr (by omega))
 have NC:=hide ((uh NB1).drawn hgr hgD)
 have RC:=hide ((uh RNB).beyond hgr hgM)
 have OC:=hide (show wc1.ownsRow M0 26 4 (.slice (some ⟨g1,0,none⟩) 2 cap1) 2 (exL e c0 cp0++exL f c1 cp1) from hown1)
 have hgw:g1<v1.heap.size∨M1≤g1:=by
  rcases hwh1 with h|h
  ·
   left
   have:g0=g1:=by simpa [Value.ownBlock] using h
   omega
  ·
   right
   have:=uh HZ1
   omega
 have hgN:M0≤g1:=(World.ownsRow.lt hown1 g1 rfl).1
 have SC:=hide (show wc1.cell? ⟨w.heap.size+1,3,none⟩=some (.slice (some ⟨g0,0,none⟩) 1 cap0) from Lib.cell_of_heap (uh XC).box 3)
 have fz:wc1.frozen? ⟨w.heap.size+1,3,none⟩=false:=by simp [World.frozen?,(uh XC).box]
 have c3:=Lib.cell_of_heap (uh XC).box 3
 refine hK.out _ _ (fun _=>uh SC) ?_
 clear hK K2
 clear hgr hown1 hgrow1 hwh1 XB1 GB1 NB1 SB1 CN1 RNB ROB RNA ROA RND ROD RN0 RO0
 refine twB 6 (.pointer (some ⟨w.heap.size+1,3,none⟩)) rfl (.inl (uh SC)) ?_
 go_simp
 refine wpAnyL_one (i:=7) (by kernel_rfl) rfl (fun K2 hK=>?_)
 go_simp
 refine hK.out _ _ (fun h=>absurd h (by decide)) ?_
 clear hK K2
 refine wpAnyL_done (by kernel_rfl) ?_ _
 have XE:=hide ((uh XC).set3 (.slice (some ⟨g1,0,none⟩) 2 cap1))
 have hgc:=grownBy_cell (W:=wc1) (g:=w.heap.size+1) (i:=3) (.slice (some ⟨g1,0,none⟩) 2 cap1)
 have NE:=(uh NC).drawn hgc (by omega)
 have RE:=(uh RC).drawn hgc (by omega)
 have OE:=World.ownsRow.kept (uh OC) hgc (.inr (by simp [Value.ownBlock];omega))
 have NW:=hide ((RE.row2 NE OE hs0 (by omega) hgw k 0 E0).lower (show w.heap.size+1≤v0.heap.size by omega))
 clear hgc NE RE OE XC NC RC OC SC fz c3 HZ1 HM1
 generalize wc1.setCell ⟨w.heap.size+1,3,none⟩ (.slice (some ⟨g1,0,none⟩) 2 cap1)=we1 at *
 go_wp2
 rw [rounds_succ]
 go_wp2_with (first|(refine wpList_load_row rfl 26 _ rfl (w.heap.size+1) rfl 26 #[.int .i64 k,.int .i64 0,.string ⟨#[]⟩,.slice (some ⟨g1,0,none⟩) 2 cap1] (0,0) _ (uh XE).box Tryz.underlying26 rfl (by kernel_rfl) ?_)|(refine wpList_store_row rfl 26 _ _ rfl w.heap.size #[.int .i64 k,.int .i64 0,.string ⟨#[]⟩,.slice (some ⟨g1,0,none⟩) 2 cap1] rfl rfl 26 _ (uh XE).res szE rfl (ex_one _ _ _ _ _ _) ?_))
 refine bodyPost_ret (results_cell_row (P:=Tryz.prog) rfl _ _ w.heap.size 26 #[.int .i64 k,.int .i64 0,.string ⟨#[]⟩,.slice (some ⟨g1,0,none⟩) 2 cap1] (0,0) _ rfl (setRow_heap _ _ _ _ _ _ (uh XE).res) Tryz.underlying26 rfl szE) rfl ?_
 rw [←uh HX]
 exact Xb.end (l:=[e,f]) (uh XE) (uh NW) _
theorem name_szG {s:ByteArray} (h:nameB s=true):s.size≤6:=by
 unfold nameB at h
 rw [Bool.and_eq_true] at h
 obtain ⟨c,r,_,_,_,hl⟩:=form_open h.1
 rw [←size_len]
 exact hl
def XoP (d:Nat):Prop:=∀ (e:Ex) (w:World),okF d false e=true→Calls Tryz.prog 200 #[tv e] w (XoR e w)
theorem xo_all:∀ d:Nat,XoP d:=by
 intro d
 induction d with
 | zero => intro e w h; cases h
 | succ d ihd =>
  intro e w h
  rcases ok_cases h with ⟨n,hn,rfl⟩|⟨s,hs,rfl⟩|rfl|⟨a,ha,rfl⟩|⟨k,a,b,hk,ha,hb,rfl⟩|⟨n,hn,rfl⟩|⟨s,hs,rfl⟩
  · rw [tv_num];exact xo_num n w
  ·
   rw [tv_sym]
   refine xo_sym s ?_ w
   have:=name_szG hs
   omega
  · rw [tv_here];exact xo_here w
  ·
   obtain ⟨t,x,e1⟩:=tv_if a
   have h1:=fun w=>ihd a w ha
   rw [e1] at h1
   rw [tv_neg,e1]
   exact xo_neg t x a h1 w
  ·
   obtain ⟨t,x,e1⟩:=tv_if a
   obtain ⟨u,y,e2⟩:=tv_if b
   have h1:=fun w=>ihd a w ha
   have h2:=fun w=>ihd b w hb
   rw [e1] at h1
   rw [e2] at h2
   rw [tv_two hk,e1,e2]
   have:k=5∨k=6∨k=7∨k=8∨k=9∨k=10:=by omega
   rcases this with rfl|rfl|rfl|rfl|rfl|rfl
   · exact xo_two 228 5 t u x y a b (by decide) (by decide) (by decide) (by decide) (me_add (.iface t x) (.iface u y)) (fun w=>kind_add 0 E0 t u x y w) h1 h2 w
   · exact xo_two 229 6 t u x y a b (by decide) (by decide) (by decide) (by decide) (me_sub (.iface t x) (.iface u y)) (fun w=>kind_sub 0 E0 t u x y w) h1 h2 w
   · exact xo_two 230 7 t u x y a b (by decide) (by decide) (by decide) (by decide) (me_mul (.iface t x) (.iface u y)) (fun w=>kind_mul 0 E0 t u x y w) h1 h2 w
   · exact xo_two 231 8 t u x y a b (by decide) (by decide) (by decide) (by decide) (me_div (.iface t x) (.iface u y)) (fun w=>kind_div 0 E0 t u x y w) h1 h2 w
   · exact xo_two 232 9 t u x y a b (by decide) (by decide) (by decide) (by decide) (me_and (.iface t x) (.iface u y)) (fun w=>kind_and 0 E0 t u x y w) h1 h2 w
   · exact xo_two 233 10 t u x y a b (by decide) (by decide) (by decide) (by decide) (me_or (.iface t x) (.iface u y)) (fun w=>kind_or 0 E0 t u x y w) h1 h2 w
  · rw [tv_sect];exact xo_sect n w
  ·
   rw [tv_glob]
   refine xo_glob s ?_ w
   have:=name_szG hs
   omega
theorem grown_set {w:World} {g i:Nat} (v:Value):w.grownBy (w.setCell ⟨g,i,none⟩ v) (some g):=grownBy_set v
theorem pWn_mk {w:World} {rb:Nat} {ts:List Tk} (h:Pr w rb ts) {c:UInt8} (hc:smB (c.toNat:Int)=false):pWn (mkT c) ts=pMs (mkS c) ts:=pWn_mark h.ok hc
theorem wmI (c:UInt8) (hc:smB (c.toNat:Int)=false) (rb:Nat) (ts:List Tk) (w:World) (h:Pr w rb ts):Calls Tryz.prog 159 #[.pointer (some ⟨rb,0,none⟩),.agg #[.int .i64 4,.int .i64 0,.string (mkS c)]] w (PnR (pMs (mkS c) ts) VUn rb w):=by
 have:=wnI (mkT c) rb ts w h
 rw [pWn_mk h hc] at this
 exact this
theorem rbI (rb:Nat) (ts:List Tk) (w:World) (h:Pr w rb ts) (ht:TabP w rb):Calls Tryz.prog 224 #[.pointer (some ⟨rb,0,none⟩)] w (PnR (pRndI ts) VIn rb w):=by
 have OE:=hide (pRnd_prog ts)
 have FN:=hide (fun w' (ho:pRndI ts=none) (hg:w.grownBy w' (some rb))=>(show PnR (pRndI ts) VIn rb w (.panicked pn) w' from pnR_none ho rfl hg))
 have FY:=hide (fun x q v w' (ho:pRndI ts=some (x,q)) (hg:w.grownBy w' (some rb)) (hv:VIn x w' v) (hz:Pr w' rb q)=>(show PnR (pRndI ts) VIn rb w (.returned v) w' from pnR_some ho rfl hg hv hz))
 generalize PnR (pRndI ts) VIn rb w=R at *
 generalize pRndI ts=O at *
 have G0:=hide (grownBy_below (r:=some rb) (Below.refl w.heap.size w))
 have Z0:=hide h
 have T0:=hide ht
 have hrl:=h.lt
 have MK:=hide (fun w=>markI_any (mkS 40) w)
 have MK2:=hide (fun w=>markI_any (mkS 41) w)
 unfold Tk.v Tk.cs at MK MK2
 simp only at MK MK2
 have WN:=hide (fun ts w (h:Pr w rb ts)=>wmI 40 (by decide) rb ts w h)
 have WN2:=hide (fun ts w (h:Pr w rb ts)=>wmI 41 (by decide) rb ts w h)
 unfold mkS at MK MK2 WN WN2 OE
 clear h ht
 go_enter Tryz.func224,Tryz.ntmps224
 go_wp2_with fail
 refine (uh MK w).mono ?_
 rintro r w1 ⟨rfl,hb⟩
 have G1:=hide (grownBy_trans (uh G0) (grownBy_below (r:=some rb) hb))
 have T1:=hide ((uh T0).grown (grownBy_below (r:=some rb) hb))
 have Z1:=hide ((uh Z0).later hb)
 have X:=hide (uh WN ts w1 (uh Z1))
 clear G0 T0
 clear hb MK WN Z0
 go_wp2_with fail
 refine (uh X).mono ?_
 rintro r w2 ⟨hg,hm⟩
 have G2:=hide (grownBy_trans (uh G1) hg)
 have T2:=hide ((uh T1).grown hg)
 clear hg G1 T1 X
 cases ho:pMs ⟨#[40]⟩ ts with
 | none =>
  rw [ho] at hm
  have hr:r = .panicked pn:=hm
  subst hr
  exact ⟨rfl,uh FN _ ((uh OE).trans (bnd_no ho _)) (uh G2)⟩
 | some p =>
  obtain ⟨x2,q2⟩:=p
  rw [ho] at hm
  obtain ⟨v,rfl,hv,hz⟩:=hm
  have OE2:=hide ((uh OE).trans (bnd_at ho _))
  have Z2:=hide hz
  clear hz ho OE Z1
  unfold VUn at hv
  subst hv
  have X:=hide (rgRI rb q2 w2 (uh Z2) (uh T2))
  go_wp2_with fail
  refine (uh X).mono ?_
  rintro r w3 ⟨hg,hm⟩
  have G3:=hide (grownBy_trans (uh G2) hg)
  have T3:=hide ((uh T2).grown hg)
  clear hg G2 T2 X
  cases ho:qRg q2 with
  | none =>
   rw [ho] at hm
   have hr:r = .panicked pn:=hm
   subst hr
   exact ⟨rfl,uh FN _ ((uh OE2).trans (bnd_no ho _)) (uh G3)⟩
  | some p =>
   obtain ⟨x3,q3⟩:=p
   rw [ho] at hm
   obtain ⟨v,rfl,hv,hz⟩:=hm
   have OE3:=hide ((uh OE2).trans (bnd_at ho _))
   have Z3:=hide hz
   clear hz ho OE2 Z2
   unfold VIn at hv
   subst hv
   go_wp2_with fail
   refine (uh MK2 w3).mono ?_
   rintro r w4 ⟨rfl,hb⟩
   have G4:=hide (grownBy_trans (uh G3) (grownBy_below (r:=some rb) hb))
   have T4:=hide ((uh T3).grown (grownBy_below (r:=some rb) hb))
   have Z4:=hide ((uh Z3).later hb)
   have X:=hide (uh WN2 q3 w4 (uh Z4))
   clear G3 T3 Z3
   clear hb MK2 WN2
   go_wp2_with fail
   refine (uh X).mono ?_
   rintro r w5 ⟨hg,hm⟩
   have G5:=hide (grownBy_trans (uh G4) hg)
   have T5:=hide ((uh T4).grown hg)
   clear hg G4 T4 X
   cases ho:pMs ⟨#[41]⟩ q3 with
   | none =>
    rw [ho] at hm
    have hr:r = .panicked pn:=hm
    subst hr
    exact ⟨rfl,uh FN _ ((uh OE3).trans (bnd_no ho _)) (uh G5)⟩
   | some p =>
    obtain ⟨x5,q5⟩:=p
    rw [ho] at hm
    obtain ⟨v,rfl,hv,hz⟩:=hm
    have OE5:=hide ((uh OE3).trans (bnd_at ho _))
    have Z5:=hide hz
    clear hz ho OE3 Z4
    unfold VUn at hv
    subst hv
    have F:=hide (uh FY x3 q5 (.int .i64 x3) w5 (uh OE5) (uh G5) rfl (uh Z5))
    clear FN FY OE5 T5
    go_wp2
    (try go_ret)
    exact uh F
def VEx (B:Nat) (e:Ex) (w':World) (v:Value):Prop:=∃ c cp,v = .agg #[.int .i64 e.k,.int .i64 e.n,.string e.s,.slice c e.l.length cp]∧NewX w' B e c∧okF 6 true e=true
theorem exI (rb:Nat) (ts:List Tk) (w:World) (h:Pr w rb ts) (ht:TabP w rb):Calls Tryz.prog 161 #[.pointer (some ⟨rb,0,none⟩)] w (PnR (readF 6 ts) (VEx w.heap.size) rb w):=by
 obtain ⟨a,n,cap,h⟩:=h
 have OT:=hide (show ∀ e q,readF 6 ts=some (e,q)→okF 6 true e=true from fun e q hr=>(toks_read 6 ts e q h.sl.ok hr).1)
 have FN:=hide (fun w' (ho:readF 6 ts=none) (hg:w.grownBy w' (some rb))=>(show PnR (readF 6 ts) (VEx w.heap.size) rb w (.panicked pn) w' from pnR_none ho rfl hg))
 have FY:=hide (fun x q v w' (ho:readF 6 ts=some (x,q)) (hg:w.grownBy w' (some rb)) (hv:VEx w.heap.size x w' v) (hz:Pr w' rb q)=>(show PnR (readF 6 ts) (VEx w.heap.size) rb w (.returned v) w' from pnR_some ho rfl hg hv hz))
 generalize PnR (readF 6 ts) (VEx w.heap.size) rb w=R at *
 have E0c:Array Value:=#[]
 have hb0:=below_new w (.cells #[.int .i64 0,.int .i64 0,.string ⟨#[]⟩,.slice none 0 0] 26)
 have hg0:(w.alloc (.cells #[.int .i64 0,.int .i64 0,.string ⟨#[]⟩,.slice none 0 0] 26)).heap[w.heap.size]?=some (.cells #[.int .i64 0,.int .i64 0,.string ⟨#[]⟩,.slice none 0 0] 26 (0,0)):=Array.getElem?_push_size
 have hs0:(w.alloc (.cells #[.int .i64 0,.int .i64 0,.string ⟨#[]⟩,.slice none 0 0] 26)).heap.size=w.heap.size+1:=by simp
 obtain ⟨W,hW⟩:∃ W,w.alloc (.cells #[.int .i64 0,.int .i64 0,.string ⟨#[]⟩,.slice none 0 0] 26)=W:=⟨_,rfl⟩
 rw [hW] at hb0 hg0 hs0
 have hz:=h.later hb0
 have hrl:=h.lt
 have c0:=hz.cell
 have X:=hide (readI_all 6 (by omega) a n cap ts W hz.sl (ht.grown (grownBy_below hb0)).g)
 have ZW:=hide hz
 have GW:=hide (grownBy_below (r:=some rb) hb0)
 have RW:=hide hg0
 have SW:=hide hs0
 clear h ht hz hb0 hg0 hs0 E0c
 unfold TrR at X
 generalize readF 6 ts=O at *
 go_enter Tryz.func161,Tryz.ntmps161
 go_wp2_with fail
 refine (uh X).mono ?_
 rintro r w1 ⟨hb,hm⟩
 have G1:=hide (grownBy_trans (uh GW) (grownBy_below (r:=some rb) hb))
 have R1:=hide (row_keep (uh RW) hb)
 have Z1:=hide ((uh ZW).later hb)
 have hs1:=hb.size
 clear hb X
 cases O with
 | none =>
  obtain ⟨v,x,hv,rfl⟩:=hm
  have F:=hide (uh FN w1 rfl (uh G1))
  clear FN FY OT
  go_wp2
  exact ⟨rfl,uh F⟩
 | some p =>
  obtain ⟨e,q⟩:=p
  obtain ⟨a1,n1,cap1,rfl,hsl⟩:=hm
  have ok:=uh OT e q rfl
  have f1:=(uh Z1).frz
  have c1:=(uh Z1).cell
  have Z2:=hide ((uh Z1).set hsl (hsl.farR (uh Z1).row))
  have G2:=hide (grownBy_trans (uh G1) (grown_set (g:=rb) (i:=0) (.slice a1 n1 cap1)))
  have R2:=hide ((heap_setCell_other w1 ⟨rb,0,none⟩ w.heap.size (.slice a1 n1 cap1) (by simp;omega)).trans (uh R1))
  have XO:=hide (xo_all 6 e (w1.setCell ⟨rb,0,none⟩ (.slice a1 n1 cap1)) (plain_ok 6 e ok))
  have S2:=hide (show w.heap.size+1≤(w1.setCell ⟨rb,0,none⟩ (.slice a1 n1 cap1)).heap.size by simp;have:=uh SW;omega)
  have F:=hide (fun v w' hg hv hz=>uh FY e q v w' rfl hg hv hz)
  have OK:=hide ok
  unfold XoR Ex.cs at XO
  clear FN FY OT Z1 G1 R1 hsl ok ZW GW RW
  generalize tv e=te at *
  go_wp2_with fail
  refine (uh XO).mono ?_
  rintro r w2 ⟨c,cp,rfl,hn,hb⟩
  have G3:=hide (grownBy_trans (uh G2) (grownBy_below (r:=some rb) hb))
  have R3:=hide (row_keep (uh R2) hb)
  have Z3:=hide ((uh Z2).later hb)
  have N3:=hide (hn.lower (uh S2))
  clear hb hn XO G2 R2 Z2 f1 c1 c0
  have OK2:=hide (fun w' (hn:NewX w' w.heap.size e c)=>(show VEx w.heap.size e w' (.agg #[.int .i64 e.k,.int .i64 e.n,.string e.s,.slice c e.l.length cp]) from ⟨c,cp,rfl,hn,uh OK⟩))
  have F2:=hide (fun w' hg hn hz=>uh F _ w' hg (uh OK2 w' hn) hz)
  clear OK2 OK F
  generalize e.k=ek at *
  generalize e.n=en at *
  generalize e.s=es at *
  generalize e.l.length=el at *
  go_wp2_with (refine wpList_store_row rfl 26 _ _ rfl w.heap.size #[.int .i64 ek,.int .i64 en,.string es,.slice c el cp] rfl rfl 26 _ (uh R3) szE rfl (ex_one _ _ _ _ _ _) ?_)
  refine bodyPost_ret (results_cell_row (P:=Tryz.prog) rfl _ _ w.heap.size 26 #[.int .i64 ek,.int .i64 en,.string es,.slice c el cp] (0,0) _ rfl (setRow_heap _ _ _ _ _ _ (uh R3)) Tryz.underlying26 rfl szE) rfl ?_
  exact uh F2 _ (grownBy_own (uh G3) (grownBy_row _) (fun g e=>by cases e;exact Nat.le_refl _)) (((uh N3).row _ (Nat.lt_succ_self _)).lower (Nat.le_succ _)) ((uh Z3).pr.row (uh R3) (by decide) (by decide) _)
theorem pLn_eq (t:Tk) (r:List Tk):pLn (t::r)=if t.k=5 then (if atV keptL t.s<23 then pIns (atV keptL t.s+1) r else none)
  else if t.k=3 then pDot t.s r
  else if t.k=1 then (if seeM r 58=true then some (⟨1,t.s,0,a0,a0,0,[]⟩,r.tail) else if seeM r 61=true then (match readF 6 r.tail with|none=>none|some (e,q)=>some (⟨2,t.s,0,a0,a0,0,[e]⟩,q)) else none)
  else none:=rfl
theorem kp_of {t:Tk} (h:t.ok=true) (h5:t.k=5):0≤atV keptL t.s∧t=kpT (atV keptL t.s).toNat∧(atV keptL t.s).toNat<31:=by
 obtain ⟨k,m,s⟩:=t
 simp only at h5 ⊢
 subst h5
 unfold Tk.ok at h
 simp only at h
 split at h
 · rename_i q;exact absurd q (by decide)
 split at h
 · cases h
 rename_i hn
 have hn:m=0:=by simpa using hn
 subst hn
 split at h
 · rename_i q;exact absurd q (by decide)
 split at h
 · rename_i q;exact absurd q (by decide)
 split at h
 · rename_i q;exact absurd q (by decide)
 split at h
 ·
  have h0:=atV_yes (L:=keptL) (s:=s) h
  obtain ⟨h1,h2⟩:=at_getD h0
  rw [keptL_len] at h1
  refine ⟨h0,?_,h1⟩
  unfold kpT
  rw [h2]
 · cases h
theorem a0_non:nonX a0=true:=by decide +kernel
theorem name_tok {t:Tk} (h:t.ok=true) (hn:nameB t.s=true):t=⟨1,0,t.s⟩:=by
 obtain ⟨k,m,s⟩:=t
 simp only at hn ⊢
 obtain ⟨f1,f2⟩:=Bool.and_eq_true_iff.1 (show (formB s.data.toList&&!keptB s)=true from hn)
 obtain ⟨c,q,e,c1,_,_⟩:=form_open f1
 have h0:=h
 unfold Tk.ok at h
 simp only at h
 split at h
 ·
  have:=(Bool.and_eq_true_iff.1 h).2
  have h2:s.size=0:=by simpa using this
  have h3:s.data.toList.length=0:=h2
  rw [e] at h3
  cases h3
 split at h
 · cases h
 rename_i hm
 have hm:m=0:=by simpa using hm
 subst hm
 split at h
 ·
  rename_i h1
  have h1:k=1:=by simpa using h1
  rw [h1]
 split at h
 ·
  rw [e] at h
  unfold dotB at h
  split at h
  ·
   rename_i e4
   injection e4 with e5 _
   subst e5
   exact absurd c1 (by decide)
  · cases h
 split at h
 ·
  rw [e] at h
  cases q with
  | nil =>
   have hc:mkL.contains c=true:=h
   have:∀ c∈mkL,smB (c.toNat:Int)=false:=by decide
   rw [this c (by simpa using hc)] at c1
   cases c1
  | cons a b => cases h
 split at h
 ·
  rw [h] at f2
  cases f2
 · cases h
theorem over_tok {t:Tk} (h:t.ok=true) (hn:eqS t.s ⟨#[111,118,101,114]⟩=true):t=⟨1,0,⟨#[111,118,101,114]⟩⟩:=by
 have e:=(eqS_iff _ _).1 hn
 have:=name_tok h (by rw [e];kernel_rfl)
 rw [this,e]
end Go.Proofs.YtjnblcgekpgkoaaGreatDoor
