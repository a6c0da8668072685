/- Contracts over this seat's translation, laid together; conditions stand as hypotheses of each. -/
import Derived.Test.YtjnblcgekpgkoaaGreatDoorTrB
import Derived.ScopeJumps
import Derived.Laws.CopyRow
import Derived.Laws.AppendOwn
import Derived.Deep.WholeRow
namespace Go.Proofs.YtjnblcgekpgkoaaGreatDoor
open Go.ChangeShapes Go.WideShapes Go.ChangeAt Go.RowKit
set_option maxHeartbeats 16000000
set_option linter.unusedVariables false
set_option maxRecDepth 8000
set_option linter.unusedSimpArgs false
theorem NewX.grown {w w':World} {B rb:Nat} {e:Ex} {a:Option Addr} (h:NewX w B e a) (hg:w.grownBy w' (some rb)) (hrb:rb<B):NewX w' B e a:=by
 obtain ⟨F,h1,h2,h3⟩:=h
 exact ⟨F,OwX.keep e a F (fun b hF=>hg.block b (OwX.lt e a F h1 b hF) (fun e=>by have:=h3 b hF;simp at e;omega)) h1,h2,h3⟩
theorem OutO.g {o:Option (Ex × List Tk)} {ts:List Tk} {bad:Bool} {e:Ex} {k':Nat} {bad':Bool} (h:OutO o ts bad e k' bad'):OutG o ts bad e k' bad':=by
 refine ⟨h.1,fun hb=>?_⟩
 have h2:=h.2 hb
 match o,h2 with
 | none, h2 => exact h2
 | some (x, q), h2 => exact h2
theorem pRndI_eq {ts:List Tk} {β:Type} (f:Nat→List Tk→Option (β × List Tk)) (g:Int→List Tk→Option (β × List Tk)) (h:∀ n q,f n q=g (n:Int) q):(match pRnd ts with|none=>none|some (n,q)=>f n q)=bnd (pRndI ts) g:=by
 unfold pRndI bnd
 cases pRnd ts with
 | none => rfl
 | some p => exact h p.1 p.2
theorem ms_of {t:Tk} {r:List Tk} {c:UInt8} (h:isM t c=true) {β:Type} (f:Unit→List Tk→Option (β × List Tk)):bnd (pMs (mkS c) (t::r)) f=f () r:=by
 unfold isM at h
 simp [pMs,bnd,h]
theorem pPln_p1 {t:Tk} {r:List Tk} (h:¬ regN t<0):pPln (t::r)=bnd (pNx (t::r)) fun t q=>some (⟨0,regN t,X0⟩,q):=by
 rw [pPln_reg (regN_pos h)]
 simp only [bnd,pNx,Option.some.injEq,Prod.mk.injEq,and_true,Ag.mk.injEq,true_and]
 omega
theorem pPln_p2 {t:Tk} {r:List Tk} (h:regN t<0) (hd:isM t 45=true∧seeM r 40=true):pPln (t::r)=bnd (pMs (mkS 45) (t::r)) fun _ q=>bnd (pRndI q) fun n q=>some (⟨4,n,X0⟩,q):=by
 rw [pPln_no (regN_neg h),if_pos hd,ms_of hd.1]
 exact pRndI_eq _ _ (fun _ _=>rfl)
theorem pPln_p3 {t:Tk} {r:List Tk} (h:regN t<0) (hd:¬ (isM t 45=true∧seeM r 40=true)) (h4:isM t 40=true):pPln (t::r)=bnd (pRndI (t::r)) fun n q=>if seeM q 43=true then some (⟨2,n,X0⟩,q.tail) else some (⟨1,n,X0⟩,q):=by
 rw [pPln_no (regN_neg h),if_neg hd,if_pos h4]
 exact pRndI_eq _ _ (fun _ _=>rfl)
theorem pPln_p4 {t:Tk} {r:List Tk} (h:regN t<0) (hd:¬ (isM t 45=true∧seeM r 40=true)) (h4:isM t 40=false) (h3:isM t 35=true):pPln (t::r)=bnd (pMs (mkS 35) (t::r)) fun _ q=>bnd (readF 6 q) fun e q=>some (⟨8,0,e⟩,q):=by
 rw [pPln_no (regN_neg h),if_neg hd,if_neg (by rw [h4];decide),if_pos h3,ms_of h3]
 unfold bnd
 cases readF 6 r <;> rfl
def p5F (e:Ex) (q:List Tk):Option (Ag × List Tk):=if seeM q 40=true then bnd (pRndI q) fun n q=>some (⟨6,n,e⟩,q) else some (⟨10,0,e⟩,q)
theorem pPln_p5 {t:Tk} {r:List Tk} (h:regN t<0) (hd:¬ (isM t 45=true∧seeM r 40=true)) (h4:isM t 40=false) (h3:isM t 35=false):pPln (t::r)=bnd (readF 6 (t::r)) p5F:=by
 rw [pPln_no (regN_neg h),if_neg hd,if_neg (by rw [h4];decide),if_neg (by rw [h3];decide)]
 unfold bnd p5F
 cases readF 6 (t::r) with
 | none => rfl
 | some p =>
  simp only
  split
  · exact pRndI_eq _ _ (fun _ _=>rfl)
  · rfl
theorem pPln_p0:pPln []=bnd (readF 6 []) p5F:=rfl
theorem down_M {ts:List Tk} {k:Nat} (hk:k<ts.length):downB ts k false=true↔(isM (tAt ts k) 45=true∧seeM (ts.drop (k+1)) 40=true):=by
 unfold downB
 rw [see_in _ hk,Bool.and_eq_true,←see_M,Bool.and_eq_true]
 unfold seeB
 by_cases h1:k+1<ts.length
 · simp [h1,isM]
 · simp [h1]
theorem szAg:(Tryz.prog.info? 28).map (·.size)=some 6:=by kernel_rfl
theorem ag_one (f r k n:Int) (s:ByteArray) (a:Option Addr) (i c:Nat):(#[.int .i64 f,.int .i64 r,.int .i64 k,.int .i64 n,.string s,.slice a i c]:Array Value).all (·.oneCell')=true:=by simp [Value.oneCell']
def PlR (o:Option (Ag × List Tk)) (rb:Nat) (la:Option Addr) (cap:Nat) (ts:List Tk) (bad:Bool) (w:World) (r:Ending) (w':World):Prop :=
 ∃ (a:Ag) (c:Option Addr) (cp k':Nat) (bad':Bool),r = .returned (.agg (a.cs c cp))∧NewX w' w.heap.size a.e c∧Rz w' rb la cap ts k' bad'∧w.grownBy w' (some rb)∧OutG o ts bad a k' bad'
theorem p5_yes {ts:List Tk} {e:Ex} {k5 k8:Nat} {b5 b8:Bool} {n:Int} (hq:seeB ts k5 b5 (mkS 40)=true) (h:OutG (pRndI (ts.drop k5)) ts b5 n k8 b8):OutG (p5F e (ts.drop k5)) ts b5 (⟨6,n,e⟩:Ag) k8 b8:=by
 obtain ⟨rfl,_⟩:=seeB_bad hq
 unfold p5F
 rw [see_M] at hq
 rw [if_pos hq]
 exact h.bind (OutG.ret _ _ _)
theorem p5_no {ts:List Tk} {e:Ex} {k5:Nat} {b5:Bool} (hq:seeB ts k5 b5 (mkS 40)=false):OutG (p5F e (ts.drop k5)) ts b5 (⟨10,0,e⟩:Ag) k5 b5:=by
 refine ⟨fun h=>h,fun h=>?_⟩
 subst h
 rw [see_M] at hq
 unfold p5F
 rw [if_neg (by rw [hq];decide)]
 exact ⟨rfl,rfl,rfl⟩
theorem pln_bad (rb:Nat) (la:Option Addr) (cap:Nat) (ts:List Tk) (k:Nat) (bad:Bool) (w:World) (hl:ts.length≤1048576) (h:Rz w rb la cap ts k bad) (hbad:bad=true):Calls Tryz.prog 225 #[.pointer (some ⟨rb,0,none⟩)] w (PlR (pPln (ts.drop k)) rb la cap ts bad w):=by
 have hd:downB ts k bad=false:=by rw [hbad];rfl
 have hs:seeB ts k bad (mkS 40)=false:=by rw [hbad];rfl
 have hi:seeB ts k bad (mkS 35)=false:=by rw [hbad];rfl
 have P5:=hide (show bad=false→bnd (readF 6 (ts.drop k)) p5F=pPln (ts.drop k) from fun h=>by rw [hbad] at h;cases h)
 have FN:=hide (fun r w' a c cp k' bad' (h1:r = .returned (.agg (a.cs c cp))) (h2:NewX w' w.heap.size a.e c) (h3:Rz w' rb la cap ts k' bad') (h4:w.grownBy w' (some rb)) (h5:OutG (pPln (ts.drop k)) ts bad a k' bad')=>(show PlR (pPln (ts.drop k)) rb la cap ts bad w r w' from ⟨a,c,cp,k',bad',h1,h2,h3,h4,h5⟩))
 have hbW:=below_new w (.cells #[.int .i64 0,.int .i64 0,.int .i64 0,.int .i64 0,.string ⟨#[]⟩,.slice none 0 0] 28)
 have R0':(w.alloc (.cells #[.int .i64 0,.int .i64 0,.int .i64 0,.int .i64 0,.string ⟨#[]⟩,.slice none 0 0] 28)).heap[w.heap.size]?=some (.cells #[.int .i64 0,.int .i64 0,.int .i64 0,.int .i64 0,.string ⟨#[]⟩,.slice none 0 0] 28 (0,0)):=Array.getElem?_push_size
 obtain ⟨W,hW⟩:∃ W,w.alloc (.cells #[.int .i64 0,.int .i64 0,.int .i64 0,.int .i64 0,.string ⟨#[]⟩,.slice none 0 0] 28)=W:=⟨_,rfl⟩
 rw [hW] at hbW R0'
 have H0:=hide (h.start.later hbW)
 have R0:=hide R0'
 have ne:=Sub.ne W.heap.size W
 have HZ:=hide (Nat.le_refl W.heap.size)
 have C2:∀ y:Sub W.heap.size W,y.w.cell? ⟨rb,2,none⟩=some (.bool true):=fun y=>hbad▸((uh H0).rz.later y.h).cells.2.2
 generalize PlR (pPln (ts.drop k)) rb la cap ts bad w=R at *
 clear h hbW R0'
 go_enter Tryz.func225,Tryz.ntmps225
 go_wp2_with fail
 refine wp_region_sub (⟨W,Below.refl _ _⟩:Sub W.heap.size W) (by kernel_rfl) (by kernel_rfl) ?_
 repeat (go_big_quiet_step (first|fail))
 refine wpQuiet_nil ?_
 intro y
 have H1:=hide ((uh H0).later y.h)
 have R1:=hide (row_keep (uh R0) y.h)
 clear H0 R0
 have x11:=dwn13S rb la cap ts k bad y.w hl (uh H1).rz
 rw [hd] at x11
 have X11:=hide x11
 clear x11
 go_wp2_with fail
 refine (uh X11).mono ?_
 rintro r w11 ⟨rfl,hb⟩
 have H11:=hide ((uh H1).later hb)
 have R11:=hide (row_keep (uh R1) hb)
 clear hb X11 H1 R1
 have x12:=seeS_any rb la cap ts k bad (mkS 40) w11 hl (uh H11).rz
 rw [hs] at x12
 have X12:=hide x12
 clear x12
 go_wp2_with fail
 refine (uh X12).mono ?_
 rintro r w12 ⟨rfl,hb⟩
 have H12:=hide ((uh H11).later hb)
 have R12:=hide (row_keep (uh R11) hb)
 clear hb X12 H11 R11
 have x13:=isS_any rb la cap ts k bad (mkS 35) w12 hl (uh H12).rz
 rw [hi] at x13
 have X13:=hide x13
 clear x13
 go_wp2_with fail
 refine (uh X13).mono ?_
 rintro r w13 ⟨rfl,hr,hg⟩
 simp only [Bool.false_eq_true,if_false] at hr
 have H13:=hide ((uh H12).next hr hg)
 have R13:=hide ((uh H12).blk hg (uh R12) (Nat.le_refl _))
 clear hr hg X13 H12 R12
 have x14:=readS_6 1 rfl rb la cap ts k bad w13 hl (uh H13).rz
 have X14:=hide x14
 clear x14
 go_wp2_with fail
 refine (uh X14).mono ?_
 rintro r w14 ⟨e,c,cp,k5,b5,rfl,hx,hr,hg,ho⟩
 have OO:=hide (show OutG (readF 6 (ts.drop k)) ts bad e k5 b5 from ho.g)
 have N0:=hide (hx.lower (show w.heap.size+1≤w13.heap.size from (Array.getElem?_eq_some_iff.1 (uh R13)).1))
 clear ho hx
 have H14:=hide ((uh H13).next hr hg)
 have R14:=hide ((uh H13).blk hg (uh R13) (Nat.le_refl _))
 clear hr hg X14 H13 R13
 unfold Ex.cs
 have OY:=hide (fun k8 b8 n (hq:seeB ts k5 b5 (mkS 40)=true) (h:OutG (pRndI (ts.drop k5)) ts b5 n k8 b8)=>(show OutG (pPln (ts.drop k)) ts bad (⟨6,n,e⟩:Ag) k8 b8 from ((uh OO).bind (p5_yes hq h)).of_eq (uh P5)))
 have ON:=hide (fun (hq:seeB ts k5 b5 (mkS 40)=false)=>(show OutG (pPln (ts.drop k)) ts bad (⟨10,0,e⟩:Ag) k5 b5 from ((uh OO).bind (p5_no hq)).of_eq (uh P5)))
 have FY:=hide (fun w' n k8 b8 (hq:seeB ts k5 b5 (mkS 40)=true) (h:OutG (pRndI (ts.drop k5)) ts b5 n k8 b8) (hn:NewX w' w.heap.size e c) hz hg=>uh FN (.returned (.agg ((Ag.mk 6 n e).cs c cp))) w' ⟨6,n,e⟩ c cp k8 b8 rfl hn hz hg (uh OY k8 b8 n hq h))
 have FZ:=hide (fun w' (hq:seeB ts k5 b5 (mkS 40)=false) (hn:NewX w' w.heap.size e c) hz hg=>uh FN (.returned (.agg ((Ag.mk 10 0 e).cs c cp))) w' ⟨10,0,e⟩ c cp k5 b5 rfl hn hz hg (uh ON hq))
 unfold Ag.cs at FY FZ
 simp only at FY FZ
 clear OY ON OO FN P5
 generalize e.k=ek at *
 generalize e.n=en at *
 generalize e.s=es at *
 generalize e.l.length=el at *
 have hb:=below_new w14 (.cells #[.int .i64 ek,.int .i64 en,.string es,.slice c el cp] 26)
 obtain ⟨w15,hw15⟩:∃ z,w14.alloc (.cells #[.int .i64 ek,.int .i64 en,.string es,.slice c el cp] 26)=z:=⟨_,rfl⟩
 rw [hw15] at hb
 have HG:=hide (show w.heap.size≤w14.heap.size from Nat.le_of_lt (Array.getElem?_eq_some_iff.1 (uh R14)).1)
 have NR:=hide (show w.heap.size≠w14.heap.size from Nat.ne_of_lt (Array.getElem?_eq_some_iff.1 (uh R14)).1)
 have H15:=hide ((uh H14).later hb)
 have R15:=hide (row_keep (uh R14) hb)
 have N15:=hide ((uh N0).later hb)
 clear N0
 have G15:=hide (show w15.heap[w14.heap.size]?=some (.cells #[.int .i64 ek,.int .i64 en,.string es,.slice c el cp] 26 (0,0)) by rw [←hw15];exact Array.getElem?_push_size)
 clear hb H14 R14
 cases hq:seeB ts k5 b5 (mkS 40) with
 | true =>
  have x16:=seeS_any rb la cap ts k5 b5 (mkS 40) w15 hl (uh H15).rz
  rw [hq] at x16
  have X16:=hide x16
  clear x16
  go_wp2_with fail
  refine (uh X16).mono ?_
  rintro r w16 ⟨rfl,hb⟩
  have H16:=hide ((uh H15).later hb)
  have R16:=hide (row_keep (uh R15) hb)
  have N16:=hide ((uh N15).later hb)
  have G16:=hide (row_keep (uh G15) hb)
  clear N15 G15
  clear hb X16 H15 R15
  go_wp2_with fail
  have hb:=below_drew (w:=w16)
  have H17:=hide ((uh H16).later hb)
  have R17:=hide (row_keep (uh R16) hb)
  have N17:=hide ((uh N16).later hb)
  have G17:=hide (row_keep (uh G16) hb)
  clear N16 G16
  clear hb H16 R16
  refine wp_region_held_drew (S:=fun w'=>w'.heap[w14.heap.size]?=some (.cells #[.int .i64 ek,.int .i64 en,.string es,.slice c el cp] 26 (0,0))) (by kernel_rfl) (uh G17) (fun hS=>?_)
  have HS:=hide hS
  clear hS
  generalize w16.drew=w17 at *
  refine tkB 0 (.pointer (some ⟨rb,0,none⟩)) rfl (uh HS) ?_
  go_simp
  refine tkA 2 (.agg #[.int .i64 ek,.int .i64 en,.string es,.slice c el cp]) rfl (yields_loadG (by rfl) 26 _ rfl (w14.heap.size) rfl 26 #[.int .i64 ek,.int .i64 en,.string es,.slice c el cp] _ (fun w h=>h) Tryz.underlying26 rfl (by kernel_rfl)) (uh HS) ?_
  go_simp
  refine wpAnyH_ready (rs:=[1]) (by kernel_rfl) (by simp) ?_
  refine AllReadyH.cons rfl (fun K2 hK=>?_) AllReadyH.nil
  have x18:=rnd13S rb la cap ts k5 b5 w17 hl (uh H17).rz
  have X18:=hide x18
  clear x18
  go_simp
  refine (uh X18).mono ?_
  rintro r w18 ⟨n,k8,b8,rfl,hr,hg,ho⟩
  have OR:=hide ho
  clear ho
  have H18:=hide ((uh H17).next hr hg)
  have R18:=hide ((uh H17).blk hg (uh R17) (Nat.le_refl _))
  have N18:=hide ((uh N17).grown hg (Nat.lt_succ_of_lt (uh H17).lt))
  have G18:=hide ((uh H17).blk hg (uh G17) (uh HG))
  clear N17 G17
  clear hr hg X18 H17 R17
  refine hK.out _ _ (uh G18) (fun hS=>?_)
  clear HS
  have HS:=hide hS
  clear hS hK K2
  refine tkB 3 (.agg #[.int .i64 6,.int .i64 n,.int .i64 ek,.int .i64 en,.string es,.slice c el cp]) rfl (uh HS) ?_
  go_simp
  refine wpAnyH_ready (rs:=[4]) (by kernel_rfl) (by simp) ?_
  refine AllReadyH.cons rfl (fun K2 hK=>?_) AllReadyH.nil
  rw [if_pos (by rfl)]
  refine wp_store_row 28 _ _ rfl w.heap.size #[.int .i64 6,.int .i64 n,.int .i64 ek,.int .i64 en,.string es,.slice c el cp] rfl rfl 28 _ (uh R18) szAg rfl (ag_one _ _ _ _ _ _ _ _) ?_
  refine hK.out _ _ ((setRow_other _ _ _ _ (uh NR).symm).trans (uh G18)) (fun hS=>?_)
  clear HS
  have HS:=hide hS
  clear hS hK K2
  refine wpAnyH_done (by kernel_rfl) ?_ _
  clear HS
  go_wp2
  refine bodyPost_ret (results_cell_row (P:=Tryz.prog) rfl _ _ w.heap.size 28 #[.int .i64 6,.int .i64 n,.int .i64 ek,.int .i64 en,.string es,.slice c el cp] (0,0) _ rfl (setRow_heap _ _ _ _ _ _ (uh R18)) Tryz.underlying28 rfl szAg) rfl ?_
  exact uh FY _ n k8 b8 hq (uh OR) (((uh N18).row _ (Nat.lt_succ_self _)).lower (Nat.le_succ _)) ((uh H18).row _).rz ((uh H18).row _).gr
 | false =>
  have x16:=seeS_any rb la cap ts k5 b5 (mkS 40) w15 hl (uh H15).rz
  rw [hq] at x16
  have X16:=hide x16
  clear x16
  go_wp2_with fail
  refine (uh X16).mono ?_
  rintro r w16 ⟨rfl,hb⟩
  have H16:=hide ((uh H15).later hb)
  have R16:=hide (row_keep (uh R15) hb)
  have N16:=hide ((uh N15).later hb)
  have G16:=hide (row_keep (uh G15) hb)
  clear N15 G15
  clear hb X16 H15 R15
  go_wp2_with (first|(refine wpList_load_row rfl 26 _ rfl (w14.heap.size) rfl 26 #[.int .i64 ek,.int .i64 en,.string es,.slice c el cp] (0,0) _ (uh G16) Tryz.underlying26 rfl (by kernel_rfl) ?_)|(refine wpList_store_row rfl 28 _ _ rfl w.heap.size #[.int .i64 10,.int .i64 0,.int .i64 ek,.int .i64 en,.string es,.slice c el cp] rfl rfl 28 _ (uh R16) szAg rfl (ag_one _ _ _ _ _ _ _ _) ?_))
  refine bodyPost_ret (results_cell_row (P:=Tryz.prog) rfl _ _ w.heap.size 28 #[.int .i64 10,.int .i64 0,.int .i64 ek,.int .i64 en,.string es,.slice c el cp] (0,0) _ rfl (setRow_heap _ _ _ _ _ _ (uh R16)) Tryz.underlying28 rfl szAg) rfl ?_
  exact uh FZ _ hq (((uh N16).row _ (Nat.lt_succ_self _)).lower (Nat.le_succ _)) ((uh H16).row _).rz ((uh H16).row _).gr
theorem pln_end (rb:Nat) (la:Option Addr) (cap:Nat) (ts:List Tk) (k:Nat) (bad:Bool) (w:World) (hl:ts.length≤1048576) (h:Rz w rb la cap ts k bad) (hbad:bad=false) (hk:ts.length≤k):Calls Tryz.prog 225 #[.pointer (some ⟨rb,0,none⟩)] w (PlR (pPln (ts.drop k)) rb la cap ts bad w):=by
 have hd:downB ts k bad=false:=by unfold downB;rw [see_end bad _ hk];rfl
 have hs:seeB ts k bad (mkS 40)=false:=see_end bad _ hk
 have hi:seeB ts k bad (mkS 35)=false:=see_end bad _ hk
 have P5:=hide (show bad=false→bnd (readF 6 (ts.drop k)) p5F=pPln (ts.drop k) from fun _=>by rw [List.drop_eq_nil_of_le hk];rfl)
 have hkl:=h.le
 have FN:=hide (fun r w' a c cp k' bad' (h1:r = .returned (.agg (a.cs c cp))) (h2:NewX w' w.heap.size a.e c) (h3:Rz w' rb la cap ts k' bad') (h4:w.grownBy w' (some rb)) (h5:OutG (pPln (ts.drop k)) ts bad a k' bad')=>(show PlR (pPln (ts.drop k)) rb la cap ts bad w r w' from ⟨a,c,cp,k',bad',h1,h2,h3,h4,h5⟩))
 have hbW:=below_new w (.cells #[.int .i64 0,.int .i64 0,.int .i64 0,.int .i64 0,.string ⟨#[]⟩,.slice none 0 0] 28)
 have R0':(w.alloc (.cells #[.int .i64 0,.int .i64 0,.int .i64 0,.int .i64 0,.string ⟨#[]⟩,.slice none 0 0] 28)).heap[w.heap.size]?=some (.cells #[.int .i64 0,.int .i64 0,.int .i64 0,.int .i64 0,.string ⟨#[]⟩,.slice none 0 0] 28 (0,0)):=Array.getElem?_push_size
 obtain ⟨W,hW⟩:∃ W,w.alloc (.cells #[.int .i64 0,.int .i64 0,.int .i64 0,.int .i64 0,.string ⟨#[]⟩,.slice none 0 0] 28)=W:=⟨_,rfl⟩
 rw [hW] at hbW R0'
 have H0:=hide (h.start.later hbW)
 have R0:=hide R0'
 have ne:=Sub.ne W.heap.size W
 have HZ:=hide (Nat.le_refl W.heap.size)
 have C2:∀ y:Sub W.heap.size W,y.w.cell? ⟨rb,2,none⟩=some (.bool false):=fun y=>hbad▸((uh H0).rz.later y.h).cells.2.2
 have C1:∀ y:Sub W.heap.size W,y.w.cell? ⟨rb,1,none⟩=some (.int .i64 k):=fun y=>((uh H0).rz.later y.h).cells.2.1
 have C0:∀ y:Sub W.heap.size W,y.w.cell? ⟨rb,0,none⟩=some (.slice la ts.length cap):=fun y=>((uh H0).rz.later y.h).cells.1
 have hkk:¬ ((k:Int)<(ts.length:Int)):=by omega
 have hkd:decide ((k:Int)<(ts.length:Int))=false:=decide_eq_false hkk
 have hkn:¬ (k<ts.length):=by omega
 have hkm:decide (k<ts.length)=false:=decide_eq_false hkn
 generalize PlR (pPln (ts.drop k)) rb la cap ts bad w=R at *
 clear h hbW R0'
 go_enter Tryz.func225,Tryz.ntmps225
 go_wp2_with fail
 refine wp_region_sub (⟨W,Below.refl _ _⟩:Sub W.heap.size W) (by kernel_rfl) (by kernel_rfl) ?_
 repeat (go_big_quiet_step (first|fail))
 refine wpQuiet_nil ?_
 intro y
 have H1:=hide ((uh H0).later y.h)
 have R1:=hide (row_keep (uh R0) y.h)
 clear H0 R0
 have x11:=dwn13S rb la cap ts k bad y.w hl (uh H1).rz
 rw [hd] at x11
 have X11:=hide x11
 clear x11
 go_wp2_with fail
 refine (uh X11).mono ?_
 rintro r w11 ⟨rfl,hb⟩
 have H11:=hide ((uh H1).later hb)
 have R11:=hide (row_keep (uh R1) hb)
 clear hb X11 H1 R1
 have x12:=seeS_any rb la cap ts k bad (mkS 40) w11 hl (uh H11).rz
 rw [hs] at x12
 have X12:=hide x12
 clear x12
 go_wp2_with fail
 refine (uh X12).mono ?_
 rintro r w12 ⟨rfl,hb⟩
 have H12:=hide ((uh H11).later hb)
 have R12:=hide (row_keep (uh R11) hb)
 clear hb X12 H11 R11
 have x13:=isS_any rb la cap ts k bad (mkS 35) w12 hl (uh H12).rz
 rw [hi] at x13
 have X13:=hide x13
 clear x13
 go_wp2_with fail
 refine (uh X13).mono ?_
 rintro r w13 ⟨rfl,hr,hg⟩
 simp only [Bool.false_eq_true,if_false] at hr
 have H13:=hide ((uh H12).next hr hg)
 have R13:=hide ((uh H12).blk hg (uh R12) (Nat.le_refl _))
 clear hr hg X13 H12 R12
 have x14:=readS_6 1 rfl rb la cap ts k bad w13 hl (uh H13).rz
 have X14:=hide x14
 clear x14
 go_wp2_with fail
 refine (uh X14).mono ?_
 rintro r w14 ⟨e,c,cp,k5,b5,rfl,hx,hr,hg,ho⟩
 have OO:=hide (show OutG (readF 6 (ts.drop k)) ts bad e k5 b5 from ho.g)
 have N0:=hide (hx.lower (show w.heap.size+1≤w13.heap.size from (Array.getElem?_eq_some_iff.1 (uh R13)).1))
 clear ho hx
 have H14:=hide ((uh H13).next hr hg)
 have R14:=hide ((uh H13).blk hg (uh R13) (Nat.le_refl _))
 clear hr hg X14 H13 R13
 unfold Ex.cs
 have OY:=hide (fun k8 b8 n (hq:seeB ts k5 b5 (mkS 40)=true) (h:OutG (pRndI (ts.drop k5)) ts b5 n k8 b8)=>(show OutG (pPln (ts.drop k)) ts bad (⟨6,n,e⟩:Ag) k8 b8 from ((uh OO).bind (p5_yes hq h)).of_eq (uh P5)))
 have ON:=hide (fun (hq:seeB ts k5 b5 (mkS 40)=false)=>(show OutG (pPln (ts.drop k)) ts bad (⟨10,0,e⟩:Ag) k5 b5 from ((uh OO).bind (p5_no hq)).of_eq (uh P5)))
 have FY:=hide (fun w' n k8 b8 (hq:seeB ts k5 b5 (mkS 40)=true) (h:OutG (pRndI (ts.drop k5)) ts b5 n k8 b8) (hn:NewX w' w.heap.size e c) hz hg=>uh FN (.returned (.agg ((Ag.mk 6 n e).cs c cp))) w' ⟨6,n,e⟩ c cp k8 b8 rfl hn hz hg (uh OY k8 b8 n hq h))
 have FZ:=hide (fun w' (hq:seeB ts k5 b5 (mkS 40)=false) (hn:NewX w' w.heap.size e c) hz hg=>uh FN (.returned (.agg ((Ag.mk 10 0 e).cs c cp))) w' ⟨10,0,e⟩ c cp k5 b5 rfl hn hz hg (uh ON hq))
 unfold Ag.cs at FY FZ
 simp only at FY FZ
 clear OY ON OO FN P5
 generalize e.k=ek at *
 generalize e.n=en at *
 generalize e.s=es at *
 generalize e.l.length=el at *
 have hb:=below_new w14 (.cells #[.int .i64 ek,.int .i64 en,.string es,.slice c el cp] 26)
 obtain ⟨w15,hw15⟩:∃ z,w14.alloc (.cells #[.int .i64 ek,.int .i64 en,.string es,.slice c el cp] 26)=z:=⟨_,rfl⟩
 rw [hw15] at hb
 have HG:=hide (show w.heap.size≤w14.heap.size from Nat.le_of_lt (Array.getElem?_eq_some_iff.1 (uh R14)).1)
 have NR:=hide (show w.heap.size≠w14.heap.size from Nat.ne_of_lt (Array.getElem?_eq_some_iff.1 (uh R14)).1)
 have H15:=hide ((uh H14).later hb)
 have R15:=hide (row_keep (uh R14) hb)
 have N15:=hide ((uh N0).later hb)
 clear N0
 have G15:=hide (show w15.heap[w14.heap.size]?=some (.cells #[.int .i64 ek,.int .i64 en,.string es,.slice c el cp] 26 (0,0)) by rw [←hw15];exact Array.getElem?_push_size)
 clear hb H14 R14
 cases hq:seeB ts k5 b5 (mkS 40) with
 | true =>
  have x16:=seeS_any rb la cap ts k5 b5 (mkS 40) w15 hl (uh H15).rz
  rw [hq] at x16
  have X16:=hide x16
  clear x16
  go_wp2_with fail
  refine (uh X16).mono ?_
  rintro r w16 ⟨rfl,hb⟩
  have H16:=hide ((uh H15).later hb)
  have R16:=hide (row_keep (uh R15) hb)
  have N16:=hide ((uh N15).later hb)
  have G16:=hide (row_keep (uh G15) hb)
  clear N15 G15
  clear hb X16 H15 R15
  go_wp2_with fail
  have hb:=below_drew (w:=w16)
  have H17:=hide ((uh H16).later hb)
  have R17:=hide (row_keep (uh R16) hb)
  have N17:=hide ((uh N16).later hb)
  have G17:=hide (row_keep (uh G16) hb)
  clear N16 G16
  clear hb H16 R16
  refine wp_region_held_drew (S:=fun w'=>w'.heap[w14.heap.size]?=some (.cells #[.int .i64 ek,.int .i64 en,.string es,.slice c el cp] 26 (0,0))) (by kernel_rfl) (uh G17) (fun hS=>?_)
  have HS:=hide hS
  clear hS
  generalize w16.drew=w17 at *
  refine tkB 0 (.pointer (some ⟨rb,0,none⟩)) rfl (uh HS) ?_
  go_simp
  refine tkA 2 (.agg #[.int .i64 ek,.int .i64 en,.string es,.slice c el cp]) rfl (yields_loadG (by rfl) 26 _ rfl (w14.heap.size) rfl 26 #[.int .i64 ek,.int .i64 en,.string es,.slice c el cp] _ (fun w h=>h) Tryz.underlying26 rfl (by kernel_rfl)) (uh HS) ?_
  go_simp
  refine wpAnyH_ready (rs:=[1]) (by kernel_rfl) (by simp) ?_
  refine AllReadyH.cons rfl (fun K2 hK=>?_) AllReadyH.nil
  have x18:=rnd13S rb la cap ts k5 b5 w17 hl (uh H17).rz
  have X18:=hide x18
  clear x18
  go_simp
  refine (uh X18).mono ?_
  rintro r w18 ⟨n,k8,b8,rfl,hr,hg,ho⟩
  have OR:=hide ho
  clear ho
  have H18:=hide ((uh H17).next hr hg)
  have R18:=hide ((uh H17).blk hg (uh R17) (Nat.le_refl _))
  have N18:=hide ((uh N17).grown hg (Nat.lt_succ_of_lt (uh H17).lt))
  have G18:=hide ((uh H17).blk hg (uh G17) (uh HG))
  clear N17 G17
  clear hr hg X18 H17 R17
  refine hK.out _ _ (uh G18) (fun hS=>?_)
  clear HS
  have HS:=hide hS
  clear hS hK K2
  refine tkB 3 (.agg #[.int .i64 6,.int .i64 n,.int .i64 ek,.int .i64 en,.string es,.slice c el cp]) rfl (uh HS) ?_
  go_simp
  refine wpAnyH_ready (rs:=[4]) (by kernel_rfl) (by simp) ?_
  refine AllReadyH.cons rfl (fun K2 hK=>?_) AllReadyH.nil
  rw [if_pos (by rfl)]
  refine wp_store_row 28 _ _ rfl w.heap.size #[.int .i64 6,.int .i64 n,.int .i64 ek,.int .i64 en,.string es,.slice c el cp] rfl rfl 28 _ (uh R18) szAg rfl (ag_one _ _ _ _ _ _ _ _) ?_
  refine hK.out _ _ ((setRow_other _ _ _ _ (uh NR).symm).trans (uh G18)) (fun hS=>?_)
  clear HS
  have HS:=hide hS
  clear hS hK K2
  refine wpAnyH_done (by kernel_rfl) ?_ _
  clear HS
  go_wp2
  refine bodyPost_ret (results_cell_row (P:=Tryz.prog) rfl _ _ w.heap.size 28 #[.int .i64 6,.int .i64 n,.int .i64 ek,.int .i64 en,.string es,.slice c el cp] (0,0) _ rfl (setRow_heap _ _ _ _ _ _ (uh R18)) Tryz.underlying28 rfl szAg) rfl ?_
  exact uh FY _ n k8 b8 hq (uh OR) (((uh N18).row _ (Nat.lt_succ_self _)).lower (Nat.le_succ _)) ((uh H18).row _).rz ((uh H18).row _).gr
 | false =>
  have x16:=seeS_any rb la cap ts k5 b5 (mkS 40) w15 hl (uh H15).rz
  rw [hq] at x16
  have X16:=hide x16
  clear x16
  go_wp2_with fail
  refine (uh X16).mono ?_
  rintro r w16 ⟨rfl,hb⟩
  have H16:=hide ((uh H15).later hb)
  have R16:=hide (row_keep (uh R15) hb)
  have N16:=hide ((uh N15).later hb)
  have G16:=hide (row_keep (uh G15) hb)
  clear N15 G15
  clear hb X16 H15 R15
  go_wp2_with (first|(refine wpList_load_row rfl 26 _ rfl (w14.heap.size) rfl 26 #[.int .i64 ek,.int .i64 en,.string es,.slice c el cp] (0,0) _ (uh G16) Tryz.underlying26 rfl (by kernel_rfl) ?_)|(refine wpList_store_row rfl 28 _ _ rfl w.heap.size #[.int .i64 10,.int .i64 0,.int .i64 ek,.int .i64 en,.string es,.slice c el cp] rfl rfl 28 _ (uh R16) szAg rfl (ag_one _ _ _ _ _ _ _ _) ?_))
  refine bodyPost_ret (results_cell_row (P:=Tryz.prog) rfl _ _ w.heap.size 28 #[.int .i64 10,.int .i64 0,.int .i64 ek,.int .i64 en,.string es,.slice c el cp] (0,0) _ rfl (setRow_heap _ _ _ _ _ _ (uh R16)) Tryz.underlying28 rfl szAg) rfl ?_
  exact uh FZ _ hq (((uh N16).row _ (Nat.lt_succ_self _)).lower (Nat.le_succ _)) ((uh H16).row _).rz ((uh H16).row _).gr
theorem pln_reg (rb:Nat) (la:Option Addr) (cap:Nat) (ts:List Tk) (k:Nat) (bad:Bool) (w:World) (hl:ts.length≤1048576) (h:Rz w rb la cap ts k bad) (hbad:bad=false) (hk:k<ts.length) (hn:¬ regN (tAt ts k)<0):Calls Tryz.prog 225 #[.pointer (some ⟨rb,0,none⟩)] w (PlR (pPln (ts.drop k)) rb la cap ts bad w):=by
 have DR:=drop_at hk
 have OU:=hide (show OutG (pPln (ts.drop k)) ts bad (⟨0,regN (tAt ts k),X0⟩:Ag) (k+1) false from ⟨(fun h=>by rw [hbad] at h;cases h),fun _=>by rw [DR,pPln_p1 hn];exact ⟨rfl,rfl,rfl⟩⟩)
 clear DR
 have FN:=hide (fun r w' a c cp k' bad' (h1:r = .returned (.agg (a.cs c cp))) (h2:NewX w' w.heap.size a.e c) (h3:Rz w' rb la cap ts k' bad') (h4:w.grownBy w' (some rb)) (h5:OutG (pPln (ts.drop k)) ts bad a k' bad')=>(show PlR (pPln (ts.drop k)) rb la cap ts bad w r w' from ⟨a,c,cp,k',bad',h1,h2,h3,h4,h5⟩))
 have hbW:=below_new w (.cells #[.int .i64 0,.int .i64 0,.int .i64 0,.int .i64 0,.string ⟨#[]⟩,.slice none 0 0] 28)
 have R0':(w.alloc (.cells #[.int .i64 0,.int .i64 0,.int .i64 0,.int .i64 0,.string ⟨#[]⟩,.slice none 0 0] 28)).heap[w.heap.size]?=some (.cells #[.int .i64 0,.int .i64 0,.int .i64 0,.int .i64 0,.string ⟨#[]⟩,.slice none 0 0] 28 (0,0)):=Array.getElem?_push_size
 obtain ⟨W,hW⟩:∃ W,w.alloc (.cells #[.int .i64 0,.int .i64 0,.int .i64 0,.int .i64 0,.string ⟨#[]⟩,.slice none 0 0] 28)=W:=⟨_,rfl⟩
 rw [hW] at hbW R0'
 have H0:=hide (h.start.later hbW)
 have R0:=hide R0'
 have ne:=Sub.ne W.heap.size W
 have HZ:=hide (Nat.le_refl W.heap.size)
 have C2:∀ y:Sub W.heap.size W,y.w.cell? ⟨rb,2,none⟩=some (.bool false):=fun y=>hbad▸((uh H0).rz.later y.h).cells.2.2
 have C1:∀ y:Sub W.heap.size W,y.w.cell? ⟨rb,1,none⟩=some (.int .i64 k):=fun y=>((uh H0).rz.later y.h).cells.2.1
 have C0:∀ y:Sub W.heap.size W,y.w.cell? ⟨rb,0,none⟩=some (.slice la ts.length cap):=fun y=>((uh H0).rz.later y.h).cells.1
 obtain ⟨tb,off,hla,htb,_⟩:=(uh H0).rz.tok hk
 rw [hla] at C0
 have TC:=fun y:Sub W.heap.size W=>((uh H0).rz.later y.h).tok hk
 have T0:∀ y:Sub W.heap.size W,y.w.cell? ⟨tb,off+k*3,none⟩=some (.int .i64 (tAt ts k).k):=fun y=>by obtain ⟨_,_,e,_,h1,_⟩:=TC y;rw [hla] at e;cases e;exact h1
 have T1:∀ y:Sub W.heap.size W,y.w.cell? ⟨tb,off+k*3+1,none⟩=some (.int .i64 (tAt ts k).n):=fun y=>by obtain ⟨_,_,e,_,_,h1,_⟩:=TC y;rw [hla] at e;cases e;exact h1
 have T2:∀ y:Sub W.heap.size W,y.w.cell? ⟨tb,off+k*3+2,none⟩=some (.string (tAt ts k).s):=fun y=>by obtain ⟨_,_,e,_,_,_,h1⟩:=TC y;rw [hla] at e;cases e;exact h1
 have RG:=hide (fun y:Sub W.heap.size W=>rg13S (tAt ts k) y.w)
 have RGw:=hide (fun w1=>rg13S (tAt ts k) w1)
 unfold Tk.v Tk.cs at RG RGw
 have hkk:(k:Int)<(ts.length:Int):=by omega
 have hk2:¬ ((ts.length:Int)≤(k:Int)):=by omega
 clear TC hla
 generalize regN (tAt ts k)=n at *
 generalize PlR (pPln (ts.drop k)) rb la cap ts bad w=R at *
 clear h hbW R0'
 go_enter Tryz.func225,Tryz.ntmps225
 go_wp2_with fail
 refine wp_region_sub (⟨W,Below.refl _ _⟩:Sub W.heap.size W) (by kernel_rfl) (by kernel_rfl) ?_
 repeat (go_big_quiet_step (first|(go_at_call 205;exact Sub.call (uh HZ) (uh RG _))))
 refine wpQuiet_nil ?_
 intro y
 have H1:=hide ((uh H0).later y.h)
 have R1:=hide (row_keep (uh R0) y.h)
 clear H0 R0
 have x11:=nextS_yes rb la cap ts k y.w hl (hbad▸(uh H1).rz) hk
 unfold Tk.v Tk.cs at x11
 have X11:=hide x11
 clear x11
 go_wp2_with fail
 refine (uh X11).mono ?_
 rintro r w11 ⟨rfl,hr,hg⟩
 have H11:=hide ((uh H1).next hr hg)
 have R11:=hide ((uh H1).blk hg (uh R1) (Nat.le_refl _))
 clear hr hg X11 H1 R1
 have x12:=uh RGw w11
 have X12:=hide x12
 clear x12
 go_wp2_with fail
 refine (uh X12).mono ?_
 rintro r w12 ⟨rfl,hb⟩
 have H12:=hide ((uh H11).later hb)
 have R12:=hide (row_keep (uh R11) hb)
 clear hb X12 H11 R11
 go_wp2_with (refine wpList_store_row rfl 28 _ _ rfl w.heap.size #[.int .i64 0,.int .i64 n,.int .i64 0,.int .i64 0,.string ⟨#[]⟩,.slice none 0 0] rfl rfl 28 _ (uh R12) szAg rfl (ag_one _ _ _ _ _ _ _ _) ?_)
 refine bodyPost_ret (results_cell_row (P:=Tryz.prog) rfl _ _ w.heap.size 28 #[.int .i64 0,.int .i64 n,.int .i64 0,.int .i64 0,.string ⟨#[]⟩,.slice none 0 0] (0,0) _ rfl (setRow_heap _ _ _ _ _ _ (uh R12)) Tryz.underlying28 rfl szAg) rfl ?_
 exact uh FN _ _ (Ag.mk 0 n X0) none 0 _ _ rfl (NewX.nil _ _ _ _ _ _) ((uh H12).row _).rz ((uh H12).row _).gr (uh OU)
theorem storeM {P:Program} {ops:Array Oper} {rest:List Oper} {o:Oper} {a:Act} {w:World} {Q:Exit→Act→World→Prop} (hgd:o.guard=none) (ty:TypeId) (x y:Operand) (ho:o.op = .store ty x y)
  (cells:Array Value) (hx:a.eval x = .pointer (some ⟨w.heap.size,0,none⟩)) (hy:a.eval y = .agg cells) (old:Array Value) (hi:(P.info? ty).map (·.size)=some cells.size)
  (hold:old.size=cells.size) (h1:cells.all (·.oneCell')=true) (h:wpList P ops Q rest (a.put o.dst undef) (w.alloc (.cells cells ty))):wpList P ops Q (o::rest) a (w.alloc (.cells old ty)) :=
 wpList_store_row hgd ty x y ho w.heap.size cells hx hy ty old (show (w.alloc (.cells old ty)).heap[w.heap.size]?=some (.cells old ty (0,0)) from Array.getElem?_push_size) hi hold h1 (by rw [World.setRow_alloc_new];exact h)
theorem Rq.cellG {w wr:World} {rb:Nat} {la:Option Addr} {cap:Nat} {ts:List Tk} {k:Nat} {bad:Bool} (h:Rq w wr rb la cap ts k bad) {g:Nat} (hg:w.heap.size≤g) (i:Nat) (v:Value):Rq w (wr.setCell ⟨g,i,none⟩ v) rb la cap ts k bad:=by
 have hl:=h.lt
 refine ⟨⟨(heap_setCell_other wr ⟨g,i,none⟩ rb v (by simp;omega)).trans h.rz.row,h.rz.toks.past (grownBy_set (b:=g) (o:=i) v) ?_,h.rz.far,h.rz.le⟩,grownBy_own h.gr (grownBy_set (b:=g) (o:=i) v) (fun g' e=>by cases e;exact hg),hl,h.tk⟩
 rcases h.tk with h|h
 · exact .inl h
 · exact .inr fun ad e=>by have:=h ad e;omega
theorem p3_yes {ts:List Tk} {k8:Nat} {b8:Bool} {n:Int} (hq:seeB ts k8 b8 (mkS 43)=true):OutG (if seeM (ts.drop k8) 43=true then some ((⟨2,n,X0⟩:Ag),(ts.drop k8).tail) else some (⟨1,n,X0⟩,ts.drop k8)) ts b8 ⟨2,n,X0⟩ (k8+1) b8:=by
 obtain ⟨rfl,hk,_⟩:=seeB_bad hq
 rw [see_M] at hq
 rw [if_pos hq]
 refine ⟨fun h=>h,fun _=>⟨rfl,rfl,?_⟩⟩
 rw [List.tail_drop]
theorem p3_no {ts:List Tk} {k8:Nat} {b8:Bool} {n:Int} (hq:seeB ts k8 b8 (mkS 43)=false):OutG (if seeM (ts.drop k8) 43=true then some ((⟨2,n,X0⟩:Ag),(ts.drop k8).tail) else some (⟨1,n,X0⟩,ts.drop k8)) ts b8 ⟨1,n,X0⟩ k8 b8:=by
 refine ⟨fun h=>h,fun h=>?_⟩
 subst h
 rw [see_M] at hq
 rw [if_neg (by rw [hq];decide)]
 exact ⟨rfl,rfl,rfl⟩
theorem pln_down (rb:Nat) (la:Option Addr) (cap:Nat) (ts:List Tk) (k:Nat) (bad:Bool) (w:World) (hl:ts.length≤1048576) (h:Rz w rb la cap ts k bad) (hbad:bad=false) (hk:k<ts.length) (hn:regN (tAt ts k)<0) (hd:downB ts k bad=true):Calls Tryz.prog 225 #[.pointer (some ⟨rb,0,none⟩)] w (PlR (pPln (ts.drop k)) rb la cap ts bad w):=by
 have DR:=drop_at hk
 have DN:=down_M hk
 have h45:seeB ts k bad (mkS 45)=true:=by unfold downB at hd;exact (Bool.and_eq_true_iff.1 hd).1
 have OT:=hide (fun n k8 b8 (ho:OutG (pRndI (ts.drop (k+1))) ts false n k8 b8)=>(show OutG (pPln (ts.drop k)) ts bad (⟨4,n,X0⟩:Ag) k8 b8 from by
  subst hbad
  rw [DR,pPln_p2 hn (DN.1 hd),ms_of (DN.1 hd).1]
  exact ho.bind (OutG.ret _ _ _)))
 clear DR DN
 have FN:=hide (fun r w' a c cp k' bad' (h1:r = .returned (.agg (a.cs c cp))) (h2:NewX w' w.heap.size a.e c) (h3:Rz w' rb la cap ts k' bad') (h4:w.grownBy w' (some rb)) (h5:OutG (pPln (ts.drop k)) ts bad a k' bad')=>(show PlR (pPln (ts.drop k)) rb la cap ts bad w r w' from ⟨a,c,cp,k',bad',h1,h2,h3,h4,h5⟩))
 have hbW:=below_new w (.cells #[.int .i64 0,.int .i64 0,.int .i64 0,.int .i64 0,.string ⟨#[]⟩,.slice none 0 0] 28)
 have R0':(w.alloc (.cells #[.int .i64 0,.int .i64 0,.int .i64 0,.int .i64 0,.string ⟨#[]⟩,.slice none 0 0] 28)).heap[w.heap.size]?=some (.cells #[.int .i64 0,.int .i64 0,.int .i64 0,.int .i64 0,.string ⟨#[]⟩,.slice none 0 0] 28 (0,0)):=Array.getElem?_push_size
 obtain ⟨W,hW⟩:∃ W,w.alloc (.cells #[.int .i64 0,.int .i64 0,.int .i64 0,.int .i64 0,.string ⟨#[]⟩,.slice none 0 0] 28)=W:=⟨_,rfl⟩
 rw [hW] at hbW R0'
 have H0:=hide (h.start.later hbW)
 have R0:=hide R0'
 have ne:=Sub.ne W.heap.size W
 have HZ:=hide (Nat.le_refl W.heap.size)
 have C2:∀ y:Sub W.heap.size W,y.w.cell? ⟨rb,2,none⟩=some (.bool false):=fun y=>hbad▸((uh H0).rz.later y.h).cells.2.2
 have C1:∀ y:Sub W.heap.size W,y.w.cell? ⟨rb,1,none⟩=some (.int .i64 k):=fun y=>((uh H0).rz.later y.h).cells.2.1
 have C0:∀ y:Sub W.heap.size W,y.w.cell? ⟨rb,0,none⟩=some (.slice la ts.length cap):=fun y=>((uh H0).rz.later y.h).cells.1
 obtain ⟨tb,off,hla,htb,_⟩:=(uh H0).rz.tok hk
 rw [hla] at C0
 have TC:=fun y:Sub W.heap.size W=>((uh H0).rz.later y.h).tok hk
 have T0:∀ y:Sub W.heap.size W,y.w.cell? ⟨tb,off+k*3,none⟩=some (.int .i64 (tAt ts k).k):=fun y=>by obtain ⟨_,_,e,_,h1,_⟩:=TC y;rw [hla] at e;cases e;exact h1
 have T1:∀ y:Sub W.heap.size W,y.w.cell? ⟨tb,off+k*3+1,none⟩=some (.int .i64 (tAt ts k).n):=fun y=>by obtain ⟨_,_,e,_,_,h1,_⟩:=TC y;rw [hla] at e;cases e;exact h1
 have T2:∀ y:Sub W.heap.size W,y.w.cell? ⟨tb,off+k*3+2,none⟩=some (.string (tAt ts k).s):=fun y=>by obtain ⟨_,_,e,_,_,_,h1⟩:=TC y;rw [hla] at e;cases e;exact h1
 have RG:=hide (fun y:Sub W.heap.size W=>rg13S (tAt ts k) y.w)
 have RGw:=hide (fun w1=>rg13S (tAt ts k) w1)
 unfold Tk.v Tk.cs at RG RGw
 have hkk:(k:Int)<(ts.length:Int):=by omega
 have hk2:¬ ((ts.length:Int)≤(k:Int)):=by omega
 clear TC hla
 have hn1:¬ 0≤regN (tAt ts k):=by omega
 have hn2:decide (0≤regN (tAt ts k))=false:=decide_eq_false hn1
 generalize regN (tAt ts k)=n0 at *
 generalize PlR (pPln (ts.drop k)) rb la cap ts bad w=R at *
 clear h hbW R0'
 go_enter Tryz.func225,Tryz.ntmps225
 go_wp2_with fail
 refine wp_region_sub (⟨W,Below.refl _ _⟩:Sub W.heap.size W) (by kernel_rfl) (by kernel_rfl) ?_
 repeat (go_big_quiet_step (first|(go_at_call 205;exact Sub.call (uh HZ) (uh RG _))))
 refine wpQuiet_nil ?_
 intro y
 have H1:=hide ((uh H0).later y.h)
 have R1:=hide (row_keep (uh R0) y.h)
 clear H0 R0
 have x11:=dwn13S rb la cap ts k bad y.w hl (uh H1).rz
 rw [hd] at x11
 have X11:=hide x11
 clear x11
 go_wp2_with fail
 refine (uh X11).mono ?_
 rintro r w11 ⟨rfl,hb⟩
 have H11:=hide ((uh H1).later hb)
 have R11:=hide (row_keep (uh R1) hb)
 clear hb X11 H1 R1
 have x12:=mustS_any rb la cap ts k bad (mkS 45) w11 hl (uh H11).rz
 rw [h45] at x12
 have X12:=hide x12
 clear x12
 go_wp2_with fail
 refine (uh X12).mono ?_
 rintro r w12 ⟨rfl,hr,hg⟩
 simp only [if_true,Bool.not_true] at hr
 have H12:=hide ((uh H11).next hr hg)
 have R12:=hide ((uh H11).blk hg (uh R11) (Nat.le_refl _))
 clear hr hg X12 H11 R11
 have x13:=rnd13S rb la cap ts (k+1) false w12 hl (uh H12).rz
 have X13:=hide x13
 clear x13
 go_wp2_with fail
 refine (uh X13).mono ?_
 rintro r w13 ⟨n,k8,b8,rfl,hr,hg,ho⟩
 have OU:=hide (uh OT n k8 b8 ho)
 clear ho
 have H13:=hide ((uh H12).next hr hg)
 have R13:=hide ((uh H12).blk hg (uh R12) (Nat.le_refl _))
 clear hr hg X13 H12 R12
 go_wp2_with (refine wpList_store_row rfl 28 _ _ rfl w.heap.size #[.int .i64 4,.int .i64 n,.int .i64 0,.int .i64 0,.string ⟨#[]⟩,.slice none 0 0] rfl rfl 28 _ (uh R13) szAg rfl (ag_one _ _ _ _ _ _ _ _) ?_)
 refine bodyPost_ret (results_cell_row (P:=Tryz.prog) rfl _ _ w.heap.size 28 #[.int .i64 4,.int .i64 n,.int .i64 0,.int .i64 0,.string ⟨#[]⟩,.slice none 0 0] (0,0) _ rfl (setRow_heap _ _ _ _ _ _ (uh R13)) Tryz.underlying28 rfl szAg) rfl ?_
 exact uh FN _ _ (Ag.mk 4 n X0) none 0 _ _ rfl (NewX.nil _ _ _ _ _ _) ((uh H13).row _).rz ((uh H13).row _).gr (uh OU)
theorem pln_rnd (rb:Nat) (la:Option Addr) (cap:Nat) (ts:List Tk) (k:Nat) (bad:Bool) (w:World) (hl:ts.length≤1048576) (h:Rz w rb la cap ts k bad) (hbad:bad=false) (hk:k<ts.length) (hn:regN (tAt ts k)<0) (hd:downB ts k bad=false) (hs:seeB ts k bad (mkS 40)=true):Calls Tryz.prog 225 #[.pointer (some ⟨rb,0,none⟩)] w (PlR (pPln (ts.drop k)) rb la cap ts bad w):=by
 have DR:=drop_at hk
 have DN:=down_M hk
 have OT:=hide (fun n k8 b8 a k9 b9 (ho:OutG (pRndI (ts.drop k)) ts bad n k8 b8) (h2:OutG (if seeM (ts.drop k8) 43=true then some ((⟨2,n,X0⟩:Ag),(ts.drop k8).tail) else some (⟨1,n,X0⟩,ts.drop k8)) ts b8 a k9 b9)=>(show OutG (pPln (ts.drop k)) ts bad a k9 b9 from by
  subst hbad
  have h4:isM (tAt ts k) 40=true:=by rw [see_in _ hk] at hs;exact hs
  have e:=pPln_p3 (r:=ts.drop (k+1)) hn (fun h=>by rw [DN.2 h] at hd;cases hd) h4
  rw [←DR] at e
  rw [e]
  exact ho.bind h2))
 clear DR DN
 have FN:=hide (fun r w' a c cp k' bad' (h1:r = .returned (.agg (a.cs c cp))) (h2:NewX w' w.heap.size a.e c) (h3:Rz w' rb la cap ts k' bad') (h4:w.grownBy w' (some rb)) (h5:OutG (pPln (ts.drop k)) ts bad a k' bad')=>(show PlR (pPln (ts.drop k)) rb la cap ts bad w r w' from ⟨a,c,cp,k',bad',h1,h2,h3,h4,h5⟩))
 have hbW:=below_new w (.cells #[.int .i64 0,.int .i64 0,.int .i64 0,.int .i64 0,.string ⟨#[]⟩,.slice none 0 0] 28)
 have R0':(w.alloc (.cells #[.int .i64 0,.int .i64 0,.int .i64 0,.int .i64 0,.string ⟨#[]⟩,.slice none 0 0] 28)).heap[w.heap.size]?=some (.cells #[.int .i64 0,.int .i64 0,.int .i64 0,.int .i64 0,.string ⟨#[]⟩,.slice none 0 0] 28 (0,0)):=Array.getElem?_push_size
 obtain ⟨W,hW⟩:∃ W,w.alloc (.cells #[.int .i64 0,.int .i64 0,.int .i64 0,.int .i64 0,.string ⟨#[]⟩,.slice none 0 0] 28)=W:=⟨_,rfl⟩
 rw [hW] at hbW R0'
 have H0:=hide (h.start.later hbW)
 have R0:=hide R0'
 have ne:=Sub.ne W.heap.size W
 have HZ:=hide (Nat.le_refl W.heap.size)
 have C2:∀ y:Sub W.heap.size W,y.w.cell? ⟨rb,2,none⟩=some (.bool false):=fun y=>hbad▸((uh H0).rz.later y.h).cells.2.2
 have C1:∀ y:Sub W.heap.size W,y.w.cell? ⟨rb,1,none⟩=some (.int .i64 k):=fun y=>((uh H0).rz.later y.h).cells.2.1
 have C0:∀ y:Sub W.heap.size W,y.w.cell? ⟨rb,0,none⟩=some (.slice la ts.length cap):=fun y=>((uh H0).rz.later y.h).cells.1
 obtain ⟨tb,off,hla,htb,_⟩:=(uh H0).rz.tok hk
 rw [hla] at C0
 have TC:=fun y:Sub W.heap.size W=>((uh H0).rz.later y.h).tok hk
 have T0:∀ y:Sub W.heap.size W,y.w.cell? ⟨tb,off+k*3,none⟩=some (.int .i64 (tAt ts k).k):=fun y=>by obtain ⟨_,_,e,_,h1,_⟩:=TC y;rw [hla] at e;cases e;exact h1
 have T1:∀ y:Sub W.heap.size W,y.w.cell? ⟨tb,off+k*3+1,none⟩=some (.int .i64 (tAt ts k).n):=fun y=>by obtain ⟨_,_,e,_,_,h1,_⟩:=TC y;rw [hla] at e;cases e;exact h1
 have T2:∀ y:Sub W.heap.size W,y.w.cell? ⟨tb,off+k*3+2,none⟩=some (.string (tAt ts k).s):=fun y=>by obtain ⟨_,_,e,_,_,_,h1⟩:=TC y;rw [hla] at e;cases e;exact h1
 have RG:=hide (fun y:Sub W.heap.size W=>rg13S (tAt ts k) y.w)
 have RGw:=hide (fun w1=>rg13S (tAt ts k) w1)
 unfold Tk.v Tk.cs at RG RGw
 have hkk:(k:Int)<(ts.length:Int):=by omega
 have hk2:¬ ((ts.length:Int)≤(k:Int)):=by omega
 clear TC hla
 have hn1:¬ 0≤regN (tAt ts k):=by omega
 have hn2:decide (0≤regN (tAt ts k))=false:=decide_eq_false hn1
 generalize regN (tAt ts k)=n0 at *
 generalize PlR (pPln (ts.drop k)) rb la cap ts bad w=R at *
 clear h hbW R0'
 go_enter Tryz.func225,Tryz.ntmps225
 go_wp2_with fail
 refine wp_region_sub (⟨W,Below.refl _ _⟩:Sub W.heap.size W) (by kernel_rfl) (by kernel_rfl) ?_
 repeat (go_big_quiet_step (first|(go_at_call 205;exact Sub.call (uh HZ) (uh RG _))))
 refine wpQuiet_nil ?_
 intro y
 have H1:=hide ((uh H0).later y.h)
 have R1:=hide (row_keep (uh R0) y.h)
 clear H0 R0
 have x11:=dwn13S rb la cap ts k bad y.w hl (uh H1).rz
 rw [hd] at x11
 have X11:=hide x11
 clear x11
 go_wp2_with fail
 refine (uh X11).mono ?_
 rintro r w11 ⟨rfl,hb⟩
 have H11:=hide ((uh H1).later hb)
 have R11:=hide (row_keep (uh R1) hb)
 clear hb X11 H1 R1
 have x12:=seeS_any rb la cap ts k bad (mkS 40) w11 hl (uh H11).rz
 rw [hs] at x12
 have X12:=hide x12
 clear x12
 go_wp2_with fail
 refine (uh X12).mono ?_
 rintro r w12 ⟨rfl,hb⟩
 have H12:=hide ((uh H11).later hb)
 have R12:=hide (row_keep (uh R11) hb)
 clear hb X12 H11 R11
 have x13:=rnd13S rb la cap ts k bad w12 hl (uh H12).rz
 have X13:=hide x13
 clear x13
 go_wp2_with fail
 refine (uh X13).mono ?_
 rintro r w13 ⟨n,k8,b8,rfl,hr,hg,ho⟩
 have OR:=hide ho
 clear ho
 have H13:=hide ((uh H12).next hr hg)
 have R13:=hide ((uh H12).blk hg (uh R12) (Nat.le_refl _))
 clear hr hg X13 H12 R12
 have hb:=below_new w13 (.cells #[.int .i64 1,.int .i64 n,.int .i64 0,.int .i64 0,.string ⟨#[]⟩,.slice none 0 0] 28)
 obtain ⟨w14,hw14⟩:∃ z,w13.alloc (.cells #[.int .i64 1,.int .i64 n,.int .i64 0,.int .i64 0,.string ⟨#[]⟩,.slice none 0 0] 28)=z:=⟨_,rfl⟩
 rw [hw14] at hb
 have HG:=hide (show w.heap.size≤w13.heap.size from Nat.le_of_lt (Array.getElem?_eq_some_iff.1 (uh R13)).1)
 have NR:=hide (show w.heap.size≠w13.heap.size from Nat.ne_of_lt (Array.getElem?_eq_some_iff.1 (uh R13)).1)
 have H14:=hide ((uh H13).later hb)
 have R14:=hide (row_keep (uh R13) hb)
 have G14:=hide (show w14.heap[w13.heap.size]?=some (.cells #[.int .i64 1,.int .i64 n,.int .i64 0,.int .i64 0,.string ⟨#[]⟩,.slice none 0 0] 28 (0,0)) by rw [←hw14];exact Array.getElem?_push_size)
 clear hb H13 R13
 cases hq:seeB ts k8 b8 (mkS 43) with
 | true =>
  have OU:=hide (uh OT n k8 b8 _ _ _ (uh OR) (p3_yes hq))
  clear OT OR
  have x15:=isS_any rb la cap ts k8 b8 (mkS 43) w14 hl (uh H14).rz
  rw [hq] at x15
  have X15:=hide x15
  clear x15
  go_wp2_with (refine storeM rfl 28 _ _ rfl #[.int .i64 1,.int .i64 n,.int .i64 0,.int .i64 0,.string ⟨#[]⟩,.slice none 0 0] rfl rfl _ szAg rfl (ag_one _ _ _ _ _ _ _ _) ?_;rw [hw14])
  refine (uh X15).mono ?_
  rintro r w15 ⟨rfl,hr,hg⟩
  simp only [if_true] at hr
  have H15:=hide ((uh H14).next hr hg)
  have R15:=hide ((uh H14).blk hg (uh R14) (Nat.le_refl _))
  have G15:=hide ((uh H14).blk hg (uh G14) (uh HG))
  clear G14
  clear hr hg X15 H14 R14
  obtain ⟨w16,hw16⟩:∃ z,w15.setCell ⟨w13.heap.size,0,none⟩ (.int .i64 2)=z:=⟨_,rfl⟩
  have fz:w15.frozen? ⟨w13.heap.size,0,none⟩=false:=by have:=uh G15;simp [World.frozen?,this]
  have cz:=Lib.cell_of_heap (uh G15) 0
  have H16:=hide (show Rq w w16 rb la cap ts (k8+1) b8 by rw [←hw16];exact (uh H15).cellG (uh HG) _ _)
  have R16:=hide (show w16.heap[w.heap.size]?=some (.cells #[.int .i64 0,.int .i64 0,.int .i64 0,.int .i64 0,.string ⟨#[]⟩,.slice none 0 0] 28 (0,0)) by rw [←hw16];exact (heap_setCell_other _ _ _ _ (uh NR)).trans (uh R15))
  have G16:=hide (show w16.heap[w13.heap.size]?=some (.cells #[.int .i64 2,.int .i64 n,.int .i64 0,.int .i64 0,.string ⟨#[]⟩,.slice none 0 0] 28 (0,0)) by rw [←hw16];exact heap_setCell_same _ _ _ _ _ _ (uh G15))
  clear H15 R15 G15
  go_wp2_with (first|(refine wpList_load_row rfl 28 _ rfl (w13.heap.size) rfl 28 #[.int .i64 2,.int .i64 n,.int .i64 0,.int .i64 0,.string ⟨#[]⟩,.slice none 0 0] (0,0) _ (uh G16) Tryz.underlying28 rfl (by kernel_rfl) ?_)|(refine wpList_store_row rfl 28 _ _ rfl w.heap.size #[.int .i64 2,.int .i64 n,.int .i64 0,.int .i64 0,.string ⟨#[]⟩,.slice none 0 0] rfl rfl 28 _ (uh R16) szAg rfl (ag_one _ _ _ _ _ _ _ _) ?_))
  refine bodyPost_ret (results_cell_row (P:=Tryz.prog) rfl _ _ w.heap.size 28 #[.int .i64 2,.int .i64 n,.int .i64 0,.int .i64 0,.string ⟨#[]⟩,.slice none 0 0] (0,0) _ rfl (setRow_heap _ _ _ _ _ _ (uh R16)) Tryz.underlying28 rfl szAg) rfl ?_
  exact uh FN _ _ (Ag.mk 2 n X0) none 0 _ _ rfl (NewX.nil _ _ _ _ _ _) ((uh H16).row _).rz ((uh H16).row _).gr (uh OU)
 | false =>
  have OU:=hide (uh OT n k8 b8 _ _ _ (uh OR) (p3_no hq))
  clear OT OR
  have x15:=isS_any rb la cap ts k8 b8 (mkS 43) w14 hl (uh H14).rz
  rw [hq] at x15
  have X15:=hide x15
  clear x15
  go_wp2_with (refine storeM rfl 28 _ _ rfl #[.int .i64 1,.int .i64 n,.int .i64 0,.int .i64 0,.string ⟨#[]⟩,.slice none 0 0] rfl rfl _ szAg rfl (ag_one _ _ _ _ _ _ _ _) ?_;rw [hw14])
  refine (uh X15).mono ?_
  rintro r w15 ⟨rfl,hr,hg⟩
  simp only [Bool.false_eq_true,if_false] at hr
  have H15:=hide ((uh H14).next hr hg)
  have R15:=hide ((uh H14).blk hg (uh R14) (Nat.le_refl _))
  have G15:=hide ((uh H14).blk hg (uh G14) (uh HG))
  clear G14
  clear hr hg X15 H14 R14
  go_wp2_with (first|(refine wpList_load_row rfl 28 _ rfl (w13.heap.size) rfl 28 #[.int .i64 1,.int .i64 n,.int .i64 0,.int .i64 0,.string ⟨#[]⟩,.slice none 0 0] (0,0) _ (uh G15) Tryz.underlying28 rfl (by kernel_rfl) ?_)|(refine wpList_store_row rfl 28 _ _ rfl w.heap.size #[.int .i64 1,.int .i64 n,.int .i64 0,.int .i64 0,.string ⟨#[]⟩,.slice none 0 0] rfl rfl 28 _ (uh R15) szAg rfl (ag_one _ _ _ _ _ _ _ _) ?_))
  refine bodyPost_ret (results_cell_row (P:=Tryz.prog) rfl _ _ w.heap.size 28 #[.int .i64 1,.int .i64 n,.int .i64 0,.int .i64 0,.string ⟨#[]⟩,.slice none 0 0] (0,0) _ rfl (setRow_heap _ _ _ _ _ _ (uh R15)) Tryz.underlying28 rfl szAg) rfl ?_
  exact uh FN _ _ (Ag.mk 1 n X0) none 0 _ _ rfl (NewX.nil _ _ _ _ _ _) ((uh H15).row _).rz ((uh H15).row _).gr (uh OU)
theorem pln_imm (rb:Nat) (la:Option Addr) (cap:Nat) (ts:List Tk) (k:Nat) (bad:Bool) (w:World) (hl:ts.length≤1048576) (h:Rz w rb la cap ts k bad) (hbad:bad=false) (hk:k<ts.length) (hn:regN (tAt ts k)<0) (hd:downB ts k bad=false) (hs:seeB ts k bad (mkS 40)=false) (hi:seeB ts k bad (mkS 35)=true):Calls Tryz.prog 225 #[.pointer (some ⟨rb,0,none⟩)] w (PlR (pPln (ts.drop k)) rb la cap ts bad w):=by
 have DR:=drop_at hk
 have DN:=down_M hk
 have OT:=hide (fun e k5 b5 (ho:OutG (readF 6 (ts.drop (k+1))) ts bad e k5 b5)=>(show OutG (pPln (ts.drop k)) ts bad (⟨8,0,e⟩:Ag) k5 b5 from by
  subst hbad
  have h4:isM (tAt ts k) 40=false:=by rw [see_in _ hk] at hs;exact hs
  have h3:isM (tAt ts k) 35=true:=by rw [see_in _ hk] at hi;exact hi
  have e2:=pPln_p4 (r:=ts.drop (k+1)) hn (fun h=>by rw [DN.2 h] at hd;cases hd) h4 h3
  rw [DR,e2,ms_of h3]
  exact ho.bind (OutG.ret _ _ _)))
 clear DR DN
 have FN:=hide (fun r w' a c cp k' bad' (h1:r = .returned (.agg (a.cs c cp))) (h2:NewX w' w.heap.size a.e c) (h3:Rz w' rb la cap ts k' bad') (h4:w.grownBy w' (some rb)) (h5:OutG (pPln (ts.drop k)) ts bad a k' bad')=>(show PlR (pPln (ts.drop k)) rb la cap ts bad w r w' from ⟨a,c,cp,k',bad',h1,h2,h3,h4,h5⟩))
 have hbW:=below_new w (.cells #[.int .i64 0,.int .i64 0,.int .i64 0,.int .i64 0,.string ⟨#[]⟩,.slice none 0 0] 28)
 have R0':(w.alloc (.cells #[.int .i64 0,.int .i64 0,.int .i64 0,.int .i64 0,.string ⟨#[]⟩,.slice none 0 0] 28)).heap[w.heap.size]?=some (.cells #[.int .i64 0,.int .i64 0,.int .i64 0,.int .i64 0,.string ⟨#[]⟩,.slice none 0 0] 28 (0,0)):=Array.getElem?_push_size
 obtain ⟨W,hW⟩:∃ W,w.alloc (.cells #[.int .i64 0,.int .i64 0,.int .i64 0,.int .i64 0,.string ⟨#[]⟩,.slice none 0 0] 28)=W:=⟨_,rfl⟩
 rw [hW] at hbW R0'
 have H0:=hide (h.start.later hbW)
 have R0:=hide R0'
 have ne:=Sub.ne W.heap.size W
 have HZ:=hide (Nat.le_refl W.heap.size)
 have C2:∀ y:Sub W.heap.size W,y.w.cell? ⟨rb,2,none⟩=some (.bool false):=fun y=>hbad▸((uh H0).rz.later y.h).cells.2.2
 have C1:∀ y:Sub W.heap.size W,y.w.cell? ⟨rb,1,none⟩=some (.int .i64 k):=fun y=>((uh H0).rz.later y.h).cells.2.1
 have C0:∀ y:Sub W.heap.size W,y.w.cell? ⟨rb,0,none⟩=some (.slice la ts.length cap):=fun y=>((uh H0).rz.later y.h).cells.1
 obtain ⟨tb,off,hla,htb,_⟩:=(uh H0).rz.tok hk
 rw [hla] at C0
 have TC:=fun y:Sub W.heap.size W=>((uh H0).rz.later y.h).tok hk
 have T0:∀ y:Sub W.heap.size W,y.w.cell? ⟨tb,off+k*3,none⟩=some (.int .i64 (tAt ts k).k):=fun y=>by obtain ⟨_,_,e,_,h1,_⟩:=TC y;rw [hla] at e;cases e;exact h1
 have T1:∀ y:Sub W.heap.size W,y.w.cell? ⟨tb,off+k*3+1,none⟩=some (.int .i64 (tAt ts k).n):=fun y=>by obtain ⟨_,_,e,_,_,h1,_⟩:=TC y;rw [hla] at e;cases e;exact h1
 have T2:∀ y:Sub W.heap.size W,y.w.cell? ⟨tb,off+k*3+2,none⟩=some (.string (tAt ts k).s):=fun y=>by obtain ⟨_,_,e,_,_,_,h1⟩:=TC y;rw [hla] at e;cases e;exact h1
 have RG:=hide (fun y:Sub W.heap.size W=>rg13S (tAt ts k) y.w)
 have RGw:=hide (fun w1=>rg13S (tAt ts k) w1)
 unfold Tk.v Tk.cs at RG RGw
 have hkk:(k:Int)<(ts.length:Int):=by omega
 have hk2:¬ ((ts.length:Int)≤(k:Int)):=by omega
 clear TC hla
 have hn1:¬ 0≤regN (tAt ts k):=by omega
 have hn2:decide (0≤regN (tAt ts k))=false:=decide_eq_false hn1
 generalize regN (tAt ts k)=n0 at *
 generalize PlR (pPln (ts.drop k)) rb la cap ts bad w=R at *
 clear h hbW R0'
 go_enter Tryz.func225,Tryz.ntmps225
 go_wp2_with fail
 refine wp_region_sub (⟨W,Below.refl _ _⟩:Sub W.heap.size W) (by kernel_rfl) (by kernel_rfl) ?_
 repeat (go_big_quiet_step (first|(go_at_call 205;exact Sub.call (uh HZ) (uh RG _))))
 refine wpQuiet_nil ?_
 intro y
 have H1:=hide ((uh H0).later y.h)
 have R1:=hide (row_keep (uh R0) y.h)
 clear H0 R0
 have x11:=dwn13S rb la cap ts k bad y.w hl (uh H1).rz
 rw [hd] at x11
 have X11:=hide x11
 clear x11
 go_wp2_with fail
 refine (uh X11).mono ?_
 rintro r w11 ⟨rfl,hb⟩
 have H11:=hide ((uh H1).later hb)
 have R11:=hide (row_keep (uh R1) hb)
 clear hb X11 H1 R1
 have x12:=seeS_any rb la cap ts k bad (mkS 40) w11 hl (uh H11).rz
 rw [hs] at x12
 have X12:=hide x12
 clear x12
 go_wp2_with fail
 refine (uh X12).mono ?_
 rintro r w12 ⟨rfl,hb⟩
 have H12:=hide ((uh H11).later hb)
 have R12:=hide (row_keep (uh R11) hb)
 clear hb X12 H11 R11
 have x13:=isS_any rb la cap ts k bad (mkS 35) w12 hl (uh H12).rz
 rw [hi] at x13
 have X13:=hide x13
 clear x13
 go_wp2_with fail
 refine (uh X13).mono ?_
 rintro r w13 ⟨rfl,hr,hg⟩
 simp only [if_true] at hr
 have H13:=hide ((uh H12).next hr hg)
 have R13:=hide ((uh H12).blk hg (uh R12) (Nat.le_refl _))
 clear hr hg X13 H12 R12
 have x14:=readS_6 1 rfl rb la cap ts (k+1) bad w13 hl (uh H13).rz
 have X14:=hide x14
 clear x14
 go_wp2_with fail
 refine (uh X14).mono ?_
 rintro r w14 ⟨e,c,cp,k5,b5,rfl,hx,hr,hg,ho⟩
 have OU:=hide (uh OT e k5 b5 ho.g)
 have N0:=hide (hx.lower (show w.heap.size+1≤w13.heap.size from (Array.getElem?_eq_some_iff.1 (uh R13)).1))
 clear ho hx
 have H14:=hide ((uh H13).next hr hg)
 have R14:=hide ((uh H13).blk hg (uh R13) (Nat.le_refl _))
 clear hr hg X14 H13 R13
 unfold Ex.cs
 have FY:=hide (fun w' (hn:NewX w' w.heap.size e c) hz hg=>uh FN (.returned (.agg ((Ag.mk 8 0 e).cs c cp))) w' ⟨8,0,e⟩ c cp k5 b5 rfl hn hz hg (uh OU))
 unfold Ag.cs at FY
 simp only at FY
 clear FN OU OT
 generalize e.k=ek at *
 generalize e.n=en at *
 generalize e.s=es at *
 generalize e.l.length=el at *
 go_wp2_with (refine wpList_store_row rfl 28 _ _ rfl w.heap.size #[.int .i64 8,.int .i64 0,.int .i64 ek,.int .i64 en,.string es,.slice c el cp] rfl rfl 28 _ (uh R14) szAg rfl (ag_one _ _ _ _ _ _ _ _) ?_)
 refine bodyPost_ret (results_cell_row (P:=Tryz.prog) rfl _ _ w.heap.size 28 #[.int .i64 8,.int .i64 0,.int .i64 ek,.int .i64 en,.string es,.slice c el cp] (0,0) _ rfl (setRow_heap _ _ _ _ _ _ (uh R14)) Tryz.underlying28 rfl szAg) rfl ?_
 exact uh FY _ (((uh N0).row _ (Nat.lt_succ_self _)).lower (Nat.le_succ _)) ((uh H14).row _).rz ((uh H14).row _).gr
theorem pln_rel (rb:Nat) (la:Option Addr) (cap:Nat) (ts:List Tk) (k:Nat) (bad:Bool) (w:World) (hl:ts.length≤1048576) (h:Rz w rb la cap ts k bad) (hbad:bad=false) (hk:k<ts.length) (hn:regN (tAt ts k)<0) (hd:downB ts k bad=false) (hs:seeB ts k bad (mkS 40)=false) (hi:seeB ts k bad (mkS 35)=false):Calls Tryz.prog 225 #[.pointer (some ⟨rb,0,none⟩)] w (PlR (pPln (ts.drop k)) rb la cap ts bad w):=by
 have DR:=drop_at hk
 have DN:=down_M hk
 have P5:=hide (show bad=false→bnd (readF 6 (ts.drop k)) p5F=pPln (ts.drop k) from fun _=>by
  subst hbad
  have h4:isM (tAt ts k) 40=false:=by rw [see_in _ hk] at hs;exact hs
  have h3:isM (tAt ts k) 35=false:=by rw [see_in _ hk] at hi;exact hi
  rw [DR]
  exact (pPln_p5 (r:=ts.drop (k+1)) hn (fun h=>by rw [DN.2 h] at hd;cases hd) h4 h3).symm)
 clear DR DN
 have FN:=hide (fun r w' a c cp k' bad' (h1:r = .returned (.agg (a.cs c cp))) (h2:NewX w' w.heap.size a.e c) (h3:Rz w' rb la cap ts k' bad') (h4:w.grownBy w' (some rb)) (h5:OutG (pPln (ts.drop k)) ts bad a k' bad')=>(show PlR (pPln (ts.drop k)) rb la cap ts bad w r w' from ⟨a,c,cp,k',bad',h1,h2,h3,h4,h5⟩))
 have hbW:=below_new w (.cells #[.int .i64 0,.int .i64 0,.int .i64 0,.int .i64 0,.string ⟨#[]⟩,.slice none 0 0] 28)
 have R0':(w.alloc (.cells #[.int .i64 0,.int .i64 0,.int .i64 0,.int .i64 0,.string ⟨#[]⟩,.slice none 0 0] 28)).heap[w.heap.size]?=some (.cells #[.int .i64 0,.int .i64 0,.int .i64 0,.int .i64 0,.string ⟨#[]⟩,.slice none 0 0] 28 (0,0)):=Array.getElem?_push_size
 obtain ⟨W,hW⟩:∃ W,w.alloc (.cells #[.int .i64 0,.int .i64 0,.int .i64 0,.int .i64 0,.string ⟨#[]⟩,.slice none 0 0] 28)=W:=⟨_,rfl⟩
 rw [hW] at hbW R0'
 have H0:=hide (h.start.later hbW)
 have R0:=hide R0'
 have ne:=Sub.ne W.heap.size W
 have HZ:=hide (Nat.le_refl W.heap.size)
 have C2:∀ y:Sub W.heap.size W,y.w.cell? ⟨rb,2,none⟩=some (.bool false):=fun y=>hbad▸((uh H0).rz.later y.h).cells.2.2
 have C1:∀ y:Sub W.heap.size W,y.w.cell? ⟨rb,1,none⟩=some (.int .i64 k):=fun y=>((uh H0).rz.later y.h).cells.2.1
 have C0:∀ y:Sub W.heap.size W,y.w.cell? ⟨rb,0,none⟩=some (.slice la ts.length cap):=fun y=>((uh H0).rz.later y.h).cells.1
 obtain ⟨tb,off,hla,htb,_⟩:=(uh H0).rz.tok hk
 rw [hla] at C0
 have TC:=fun y:Sub W.heap.size W=>((uh H0).rz.later y.h).tok hk
 have T0:∀ y:Sub W.heap.size W,y.w.cell? ⟨tb,off+k*3,none⟩=some (.int .i64 (tAt ts k).k):=fun y=>by obtain ⟨_,_,e,_,h1,_⟩:=TC y;rw [hla] at e;cases e;exact h1
 have T1:∀ y:Sub W.heap.size W,y.w.cell? ⟨tb,off+k*3+1,none⟩=some (.int .i64 (tAt ts k).n):=fun y=>by obtain ⟨_,_,e,_,_,h1,_⟩:=TC y;rw [hla] at e;cases e;exact h1
 have T2:∀ y:Sub W.heap.size W,y.w.cell? ⟨tb,off+k*3+2,none⟩=some (.string (tAt ts k).s):=fun y=>by obtain ⟨_,_,e,_,_,_,h1⟩:=TC y;rw [hla] at e;cases e;exact h1
 have RG:=hide (fun y:Sub W.heap.size W=>rg13S (tAt ts k) y.w)
 have RGw:=hide (fun w1=>rg13S (tAt ts k) w1)
 unfold Tk.v Tk.cs at RG RGw
 have hkk:(k:Int)<(ts.length:Int):=by omega
 have hk2:¬ ((ts.length:Int)≤(k:Int)):=by omega
 clear TC hla
 have hn1:¬ 0≤regN (tAt ts k):=by omega
 have hn2:decide (0≤regN (tAt ts k))=false:=decide_eq_false hn1
 generalize regN (tAt ts k)=n0 at *
 generalize PlR (pPln (ts.drop k)) rb la cap ts bad w=R at *
 clear h hbW R0'
 go_enter Tryz.func225,Tryz.ntmps225
 go_wp2_with fail
 refine wp_region_sub (⟨W,Below.refl _ _⟩:Sub W.heap.size W) (by kernel_rfl) (by kernel_rfl) ?_
 repeat (go_big_quiet_step (first|(go_at_call 205;exact Sub.call (uh HZ) (uh RG _))))
 refine wpQuiet_nil ?_
 intro y
 have H1:=hide ((uh H0).later y.h)
 have R1:=hide (row_keep (uh R0) y.h)
 clear H0 R0
 have x11:=dwn13S rb la cap ts k bad y.w hl (uh H1).rz
 rw [hd] at x11
 have X11:=hide x11
 clear x11
 go_wp2_with fail
 refine (uh X11).mono ?_
 rintro r w11 ⟨rfl,hb⟩
 have H11:=hide ((uh H1).later hb)
 have R11:=hide (row_keep (uh R1) hb)
 clear hb X11 H1 R1
 have x12:=seeS_any rb la cap ts k bad (mkS 40) w11 hl (uh H11).rz
 rw [hs] at x12
 have X12:=hide x12
 clear x12
 go_wp2_with fail
 refine (uh X12).mono ?_
 rintro r w12 ⟨rfl,hb⟩
 have H12:=hide ((uh H11).later hb)
 have R12:=hide (row_keep (uh R11) hb)
 clear hb X12 H11 R11
 have x13:=isS_any rb la cap ts k bad (mkS 35) w12 hl (uh H12).rz
 rw [hi] at x13
 have X13:=hide x13
 clear x13
 go_wp2_with fail
 refine (uh X13).mono ?_
 rintro r w13 ⟨rfl,hr,hg⟩
 simp only [Bool.false_eq_true,if_false] at hr
 have H13:=hide ((uh H12).next hr hg)
 have R13:=hide ((uh H12).blk hg (uh R12) (Nat.le_refl _))
 clear hr hg X13 H12 R12
 have x14:=readS_6 1 rfl rb la cap ts k bad w13 hl (uh H13).rz
 have X14:=hide x14
 clear x14
 go_wp2_with fail
 refine (uh X14).mono ?_
 rintro r w14 ⟨e,c,cp,k5,b5,rfl,hx,hr,hg,ho⟩
 have OO:=hide (show OutG (readF 6 (ts.drop k)) ts bad e k5 b5 from ho.g)
 have N0:=hide (hx.lower (show w.heap.size+1≤w13.heap.size from (Array.getElem?_eq_some_iff.1 (uh R13)).1))
 clear ho hx
 have H14:=hide ((uh H13).next hr hg)
 have R14:=hide ((uh H13).blk hg (uh R13) (Nat.le_refl _))
 clear hr hg X14 H13 R13
 unfold Ex.cs
 have OY:=hide (fun k8 b8 n (hq:seeB ts k5 b5 (mkS 40)=true) (h:OutG (pRndI (ts.drop k5)) ts b5 n k8 b8)=>(show OutG (pPln (ts.drop k)) ts bad (⟨6,n,e⟩:Ag) k8 b8 from ((uh OO).bind (p5_yes hq h)).of_eq (uh P5)))
 have ON:=hide (fun (hq:seeB ts k5 b5 (mkS 40)=false)=>(show OutG (pPln (ts.drop k)) ts bad (⟨10,0,e⟩:Ag) k5 b5 from ((uh OO).bind (p5_no hq)).of_eq (uh P5)))
 have FY:=hide (fun w' n k8 b8 (hq:seeB ts k5 b5 (mkS 40)=true) (h:OutG (pRndI (ts.drop k5)) ts b5 n k8 b8) (hn:NewX w' w.heap.size e c) hz hg=>uh FN (.returned (.agg ((Ag.mk 6 n e).cs c cp))) w' ⟨6,n,e⟩ c cp k8 b8 rfl hn hz hg (uh OY k8 b8 n hq h))
 have FZ:=hide (fun w' (hq:seeB ts k5 b5 (mkS 40)=false) (hn:NewX w' w.heap.size e c) hz hg=>uh FN (.returned (.agg ((Ag.mk 10 0 e).cs c cp))) w' ⟨10,0,e⟩ c cp k5 b5 rfl hn hz hg (uh ON hq))
 unfold Ag.cs at FY FZ
 simp only at FY FZ
 clear OY ON OO FN P5
 generalize e.k=ek at *
 generalize e.n=en at *
 generalize e.s=es at *
 generalize e.l.length=el at *
 have hb:=below_new w14 (.cells #[.int .i64 ek,.int .i64 en,.string es,.slice c el cp] 26)
 obtain ⟨w15,hw15⟩:∃ z,w14.alloc (.cells #[.int .i64 ek,.int .i64 en,.string es,.slice c el cp] 26)=z:=⟨_,rfl⟩
 rw [hw15] at hb
 have HG:=hide (show w.heap.size≤w14.heap.size from Nat.le_of_lt (Array.getElem?_eq_some_iff.1 (uh R14)).1)
 have NR:=hide (show w.heap.size≠w14.heap.size from Nat.ne_of_lt (Array.getElem?_eq_some_iff.1 (uh R14)).1)
 have H15:=hide ((uh H14).later hb)
 have R15:=hide (row_keep (uh R14) hb)
 have N15:=hide ((uh N0).later hb)
 clear N0
 have G15:=hide (show w15.heap[w14.heap.size]?=some (.cells #[.int .i64 ek,.int .i64 en,.string es,.slice c el cp] 26 (0,0)) by rw [←hw15];exact Array.getElem?_push_size)
 clear hb H14 R14
 cases hq:seeB ts k5 b5 (mkS 40) with
 | true =>
  have x16:=seeS_any rb la cap ts k5 b5 (mkS 40) w15 hl (uh H15).rz
  rw [hq] at x16
  have X16:=hide x16
  clear x16
  go_wp2_with fail
  refine (uh X16).mono ?_
  rintro r w16 ⟨rfl,hb⟩
  have H16:=hide ((uh H15).later hb)
  have R16:=hide (row_keep (uh R15) hb)
  have N16:=hide ((uh N15).later hb)
  have G16:=hide (row_keep (uh G15) hb)
  clear N15 G15
  clear hb X16 H15 R15
  go_wp2_with fail
  have hb:=below_drew (w:=w16)
  have H17:=hide ((uh H16).later hb)
  have R17:=hide (row_keep (uh R16) hb)
  have N17:=hide ((uh N16).later hb)
  have G17:=hide (row_keep (uh G16) hb)
  clear N16 G16
  clear hb H16 R16
  refine wp_region_held_drew (S:=fun w'=>w'.heap[w14.heap.size]?=some (.cells #[.int .i64 ek,.int .i64 en,.string es,.slice c el cp] 26 (0,0))) (by kernel_rfl) (uh G17) (fun hS=>?_)
  have HS:=hide hS
  clear hS
  generalize w16.drew=w17 at *
  refine tkB 0 (.pointer (some ⟨rb,0,none⟩)) rfl (uh HS) ?_
  go_simp
  refine tkA 2 (.agg #[.int .i64 ek,.int .i64 en,.string es,.slice c el cp]) rfl (yields_loadG (by rfl) 26 _ rfl (w14.heap.size) rfl 26 #[.int .i64 ek,.int .i64 en,.string es,.slice c el cp] _ (fun w h=>h) Tryz.underlying26 rfl (by kernel_rfl)) (uh HS) ?_
  go_simp
  refine wpAnyH_ready (rs:=[1]) (by kernel_rfl) (by simp) ?_
  refine AllReadyH.cons rfl (fun K2 hK=>?_) AllReadyH.nil
  have x18:=rnd13S rb la cap ts k5 b5 w17 hl (uh H17).rz
  have X18:=hide x18
  clear x18
  go_simp
  refine (uh X18).mono ?_
  rintro r w18 ⟨n,k8,b8,rfl,hr,hg,ho⟩
  have OR:=hide ho
  clear ho
  have H18:=hide ((uh H17).next hr hg)
  have R18:=hide ((uh H17).blk hg (uh R17) (Nat.le_refl _))
  have N18:=hide ((uh N17).grown hg (Nat.lt_succ_of_lt (uh H17).lt))
  have G18:=hide ((uh H17).blk hg (uh G17) (uh HG))
  clear N17 G17
  clear hr hg X18 H17 R17
  refine hK.out _ _ (uh G18) (fun hS=>?_)
  clear HS
  have HS:=hide hS
  clear hS hK K2
  refine tkB 3 (.agg #[.int .i64 6,.int .i64 n,.int .i64 ek,.int .i64 en,.string es,.slice c el cp]) rfl (uh HS) ?_
  go_simp
  refine wpAnyH_ready (rs:=[4]) (by kernel_rfl) (by simp) ?_
  refine AllReadyH.cons rfl (fun K2 hK=>?_) AllReadyH.nil
  rw [if_pos (by rfl)]
  refine wp_store_row 28 _ _ rfl w.heap.size #[.int .i64 6,.int .i64 n,.int .i64 ek,.int .i64 en,.string es,.slice c el cp] rfl rfl 28 _ (uh R18) szAg rfl (ag_one _ _ _ _ _ _ _ _) ?_
  refine hK.out _ _ ((setRow_other _ _ _ _ (uh NR).symm).trans (uh G18)) (fun hS=>?_)
  clear HS
  have HS:=hide hS
  clear hS hK K2
  refine wpAnyH_done (by kernel_rfl) ?_ _
  clear HS
  go_wp2
  refine bodyPost_ret (results_cell_row (P:=Tryz.prog) rfl _ _ w.heap.size 28 #[.int .i64 6,.int .i64 n,.int .i64 ek,.int .i64 en,.string es,.slice c el cp] (0,0) _ rfl (setRow_heap _ _ _ _ _ _ (uh R18)) Tryz.underlying28 rfl szAg) rfl ?_
  exact uh FY _ n k8 b8 hq (uh OR) (((uh N18).row _ (Nat.lt_succ_self _)).lower (Nat.le_succ _)) ((uh H18).row _).rz ((uh H18).row _).gr
 | false =>
  have x16:=seeS_any rb la cap ts k5 b5 (mkS 40) w15 hl (uh H15).rz
  rw [hq] at x16
  have X16:=hide x16
  clear x16
  go_wp2_with fail
  refine (uh X16).mono ?_
  rintro r w16 ⟨rfl,hb⟩
  have H16:=hide ((uh H15).later hb)
  have R16:=hide (row_keep (uh R15) hb)
  have N16:=hide ((uh N15).later hb)
  have G16:=hide (row_keep (uh G15) hb)
  clear N15 G15
  clear hb X16 H15 R15
  go_wp2_with (first|(refine wpList_load_row rfl 26 _ rfl (w14.heap.size) rfl 26 #[.int .i64 ek,.int .i64 en,.string es,.slice c el cp] (0,0) _ (uh G16) Tryz.underlying26 rfl (by kernel_rfl) ?_)|(refine wpList_store_row rfl 28 _ _ rfl w.heap.size #[.int .i64 10,.int .i64 0,.int .i64 ek,.int .i64 en,.string es,.slice c el cp] rfl rfl 28 _ (uh R16) szAg rfl (ag_one _ _ _ _ _ _ _ _) ?_))
  refine bodyPost_ret (results_cell_row (P:=Tryz.prog) rfl _ _ w.heap.size 28 #[.int .i64 10,.int .i64 0,.int .i64 ek,.int .i64 en,.string es,.slice c el cp] (0,0) _ rfl (setRow_heap _ _ _ _ _ _ (uh R16)) Tryz.underlying28 rfl szAg) rfl ?_
  exact uh FZ _ hq (((uh N16).row _ (Nat.lt_succ_self _)).lower (Nat.le_succ _)) ((uh H16).row _).rz ((uh H16).row _).gr
theorem pln13S (rb:Nat) (la:Option Addr) (cap:Nat) (ts:List Tk) (k:Nat) (bad:Bool) (w:World) (hl:ts.length≤1048576) (h:Rz w rb la cap ts k bad):Calls Tryz.prog 225 #[.pointer (some ⟨rb,0,none⟩)] w (PlR (pPln (ts.drop k)) rb la cap ts bad w):=by
 cases hb:bad with
 | true => rw [← hb]; exact pln_bad rb la cap ts k bad w hl h hb
 | false =>
  rw [←hb]
  by_cases hk:k<ts.length
  ·
   by_cases hn:regN (tAt ts k)<0
   ·
    cases hd:downB ts k bad with
    | true => exact pln_down rb la cap ts k bad w hl h hb hk hn hd
    | false =>
     cases hs:seeB ts k bad (mkS 40) with
     | true => exact pln_rnd rb la cap ts k bad w hl h hb hk hn hd hs
     | false =>
      cases hi:seeB ts k bad (mkS 35) with
      | true => exact pln_imm rb la cap ts k bad w hl h hb hk hn hd hs hi
      | false => exact pln_rel rb la cap ts k bad w hl h hb hk hn hd hs hi
   · exact pln_reg rb la cap ts k bad w hl h hb hk hn
  · exact pln_end rb la cap ts k bad w hl h hb (by omega)
def upB (a:Ag) (q:List Tk):Option (Ag × List Tk):=match upF a.f with|none=>none|some f=>some (⟨f,a.r,a.e⟩,q)
theorem pArg_bnd {ts:List Tk} (h:seeM ts 64=true):pArg ts=bnd (pPln ts.tail) upB:=by
 unfold pArg bnd upB
 rw [if_pos h]
 cases pPln ts.tail <;> rfl
theorem up_yes {ts:List Tk} {a:Ag} {k:Nat} {b:Bool} {f:Int} (h:upF a.f=some f):OutG (upB a (ts.drop k)) ts b (⟨f,a.r,a.e⟩:Ag) k b:=by
 unfold upB
 rw [h]
 exact OutG.ret _ _ _
theorem up_no {ts:List Tk} {a:Ag} {k:Nat} {b:Bool} (h:upF a.f=none):OutG (upB a (ts.drop k)) ts b a k true:=OutG.fail _ _ _ (fun _=>by unfold upB;rw [h])
theorem arg13S (rb:Nat) (la:Option Addr) (cap:Nat) (ts:List Tk) (k:Nat) (bad:Bool) (w:World) (hl:ts.length≤1048576) (h:Rz w rb la cap ts k bad):Calls Tryz.prog 203 #[.pointer (some ⟨rb,0,none⟩)] w (PlR (pArg (ts.drop k)) rb la cap ts bad w):=by
 have FN:=hide (fun r w' a c cp k' bad' (h1:r = .returned (.agg (a.cs c cp))) (h2:NewX w' w.heap.size a.e c) (h3:Rz w' rb la cap ts k' bad') (h4:w.grownBy w' (some rb)) (h5:OutG (pArg (ts.drop k)) ts bad a k' bad')=>(show PlR (pArg (ts.drop k)) rb la cap ts bad w r w' from ⟨a,c,cp,k',bad',h1,h2,h3,h4,h5⟩))
 have hbW:=below_new w (.cells #[.int .i64 0,.int .i64 0,.int .i64 0,.int .i64 0,.string ⟨#[]⟩,.slice none 0 0] 28)
 have R0':(w.alloc (.cells #[.int .i64 0,.int .i64 0,.int .i64 0,.int .i64 0,.string ⟨#[]⟩,.slice none 0 0] 28)).heap[w.heap.size]?=some (.cells #[.int .i64 0,.int .i64 0,.int .i64 0,.int .i64 0,.string ⟨#[]⟩,.slice none 0 0] 28 (0,0)):=Array.getElem?_push_size
 obtain ⟨W,hW⟩:∃ W,w.alloc (.cells #[.int .i64 0,.int .i64 0,.int .i64 0,.int .i64 0,.string ⟨#[]⟩,.slice none 0 0] 28)=W:=⟨_,rfl⟩
 rw [hW] at hbW R0'
 have H0:=hide (h.start.later hbW)
 have R0:=hide R0'
 have ne:=Sub.ne W.heap.size W
 have HZ:=hide (Nat.le_refl W.heap.size)
 clear ne HZ
 generalize PlR (pArg (ts.drop k)) rb la cap ts bad w=R at *
 clear h hbW R0'
 cases hq:seeB ts k bad (mkS 64) with
 | false =>
  have OT:=hide (show OutG (pPln (ts.drop k)) ts bad=OutG (pPln (ts.drop k)) ts bad from rfl)
  clear OT
  have PE:=hide (show bad=false→pPln (ts.drop k)=pArg (ts.drop k) from fun hb=>by subst hb;rw [see_M] at hq;exact (pArg_no hq).symm)
  go_enter Tryz.func203,Tryz.ntmps203
  have x11:=isS_any rb la cap ts k bad (mkS 64) W hl (uh H0).rz
  rw [hq] at x11
  have X11:=hide x11
  clear x11
  go_wp2_with fail
  refine (uh X11).mono ?_
  rintro r w11 ⟨rfl,hr,hg⟩
  simp only [Bool.false_eq_true,if_false] at hr
  have H11:=hide ((uh H0).next hr hg)
  have R11:=hide ((uh H0).blk hg (uh R0) (Nat.le_refl _))
  clear hr hg X11 H0 R0
  have x12:=pln13S rb la cap ts k bad w11 hl (uh H11).rz
  have X12:=hide x12
  clear x12
  go_wp2_with fail
  refine (uh X12).mono ?_
  rintro r w12 ⟨a,c,cp,k5,b5,rfl,hx,hr,hg,ho⟩
  have OU:=hide (ho.of_eq (uh PE))
  have N0:=hide (hx.lower (show w.heap.size+1≤w11.heap.size from (Array.getElem?_eq_some_iff.1 (uh R11)).1))
  clear ho hx
  have H12:=hide ((uh H11).next hr hg)
  have R12:=hide ((uh H11).blk hg (uh R11) (Nat.le_refl _))
  clear hr hg X12 H11 R11
  have FY:=hide (fun w' (hn:NewX w' w.heap.size a.e c) hz hg=>uh FN (.returned (.agg (a.cs c cp))) w' a c cp k5 b5 rfl hn hz hg (uh OU))
  unfold Ag.cs at FY
  clear FN OU PE
  unfold Ag.cs
  simp only
  generalize a.f=af at *
  generalize a.r=ar at *
  generalize a.e.k=ek at *
  generalize a.e.n=en at *
  generalize a.e.s=es at *
  generalize a.e.l.length=el at *
  have hb:=below_new w12 (.cells #[.int .i64 af,.int .i64 ar,.int .i64 ek,.int .i64 en,.string es,.slice c el cp] 28)
  obtain ⟨w13,hw13⟩:∃ z,w12.alloc (.cells #[.int .i64 af,.int .i64 ar,.int .i64 ek,.int .i64 en,.string es,.slice c el cp] 28)=z:=⟨_,rfl⟩
  rw [hw13] at hb
  have HG:=hide (show w.heap.size≤w12.heap.size from Nat.le_of_lt (Array.getElem?_eq_some_iff.1 (uh R12)).1)
  have NR:=hide (show w.heap.size≠w12.heap.size from Nat.ne_of_lt (Array.getElem?_eq_some_iff.1 (uh R12)).1)
  have H13:=hide ((uh H12).later hb)
  have R13:=hide (row_keep (uh R12) hb)
  have N13:=hide ((uh N0).later hb)
  clear N0
  have G13:=hide (show w13.heap[w12.heap.size]?=some (.cells #[.int .i64 af,.int .i64 ar,.int .i64 ek,.int .i64 en,.string es,.slice c el cp] 28 (0,0)) by rw [←hw13];exact Array.getElem?_push_size)
  clear hb H12 R12
  go_wp2_with (first|(refine storeM rfl 28 _ _ rfl #[.int .i64 af,.int .i64 ar,.int .i64 ek,.int .i64 en,.string es,.slice c el cp] rfl rfl _ szAg rfl (ag_one _ _ _ _ _ _ _ _) ?_;rw [hw13])|(refine wpList_load_row rfl 28 _ rfl (w12.heap.size) rfl 28 #[.int .i64 af,.int .i64 ar,.int .i64 ek,.int .i64 en,.string es,.slice c el cp] (0,0) _ (uh G13) Tryz.underlying28 rfl (by kernel_rfl) ?_)|(refine wpList_store_row rfl 28 _ _ rfl w.heap.size #[.int .i64 af,.int .i64 ar,.int .i64 ek,.int .i64 en,.string es,.slice c el cp] rfl rfl 28 _ (uh R13) szAg rfl (ag_one _ _ _ _ _ _ _ _) ?_))
  refine bodyPost_ret (results_cell_row (P:=Tryz.prog) rfl _ _ w.heap.size 28 #[.int .i64 af,.int .i64 ar,.int .i64 ek,.int .i64 en,.string es,.slice c el cp] (0,0) _ rfl (setRow_heap _ _ _ _ _ _ (uh R13)) Tryz.underlying28 rfl szAg) rfl ?_
  exact uh FY _ (((uh N13).row _ (Nat.lt_succ_self _)).lower (Nat.le_succ _)) ((uh H13).row _).rz ((uh H13).row _).gr
 | true =>
  obtain ⟨hbad,hk,_⟩:=seeB_bad hq
  have PE:=hide (fun a x k5 b5 k6 b6 (ho:OutG (pPln (ts.drop (k+1))) ts bad a k5 b5) (h2:OutG (upB a (ts.drop k5)) ts b5 x k6 b6)=>(show OutG (pArg (ts.drop k)) ts bad x k6 b6 from by
   subst hbad
   rw [see_M] at hq
   rw [pArg_bnd hq,List.tail_drop]
   exact ho.bind h2))
  go_enter Tryz.func203,Tryz.ntmps203
  have x11:=isS_any rb la cap ts k bad (mkS 64) W hl (uh H0).rz
  rw [hq] at x11
  have X11:=hide x11
  clear x11
  go_wp2_with fail
  refine (uh X11).mono ?_
  rintro r w11 ⟨rfl,hr,hg⟩
  simp only [if_true] at hr
  have H11:=hide ((uh H0).next hr hg)
  have R11:=hide ((uh H0).blk hg (uh R0) (Nat.le_refl _))
  clear hr hg X11 H0 R0
  have x12:=pln13S rb la cap ts (k+1) bad w11 hl (uh H11).rz
  have X12:=hide x12
  clear x12
  go_wp2_with fail
  refine (uh X12).mono ?_
  rintro r w12 ⟨a,c,cp,k5,b5,rfl,hx,hr,hg,ho⟩
  have OP:=hide ho
  have N0:=hide (hx.lower (show w.heap.size+1≤w11.heap.size from (Array.getElem?_eq_some_iff.1 (uh R11)).1))
  clear ho hx
  have H12:=hide ((uh H11).next hr hg)
  have R12:=hide ((uh H11).blk hg (uh R11) (Nat.le_refl _))
  clear hr hg X12 H11 R11
  have FY:=hide (fun f (hf:upF a.f=some f) w' (hn:NewX w' w.heap.size a.e c) hz hg=>uh FN (.returned (.agg ((Ag.mk f a.r a.e).cs c cp))) w' ⟨f,a.r,a.e⟩ c cp k5 b5 rfl hn hz hg (uh PE a _ k5 b5 _ _ (uh OP) (up_yes hf)))
  have FZ:=hide (fun (hf:upF a.f=none) w' (hn:NewX w' w.heap.size a.e c) hz hg=>uh FN (.returned (.agg (a.cs c cp))) w' a c cp k5 true rfl hn hz hg (uh PE a _ k5 b5 _ _ (uh OP) (up_no hf)))
  unfold Ag.cs at FY FZ
  simp only at FY FZ
  clear FN PE OP
  unfold Ag.cs
  simp only
  generalize a.f=af at *
  generalize a.r=ar at *
  generalize a.e.k=ek at *
  generalize a.e.n=en at *
  generalize a.e.s=es at *
  generalize a.e.l.length=el at *
  have NP:=hide (uh N0)
  have hb:=below_new w12 (.cells #[.int .i64 af,.int .i64 ar,.int .i64 ek,.int .i64 en,.string es,.slice c el cp] 28)
  obtain ⟨w13,hw13⟩:∃ z,w12.alloc (.cells #[.int .i64 af,.int .i64 ar,.int .i64 ek,.int .i64 en,.string es,.slice c el cp] 28)=z:=⟨_,rfl⟩
  rw [hw13] at hb
  have BX:=hide hb
  have HG:=hide (show w.heap.size≤w12.heap.size from Nat.le_of_lt (Array.getElem?_eq_some_iff.1 (uh R12)).1)
  have NR:=hide (show w.heap.size≠w12.heap.size from Nat.ne_of_lt (Array.getElem?_eq_some_iff.1 (uh R12)).1)
  have H13:=hide ((uh H12).later hb)
  have R13:=hide (row_keep (uh R12) hb)
  have N13:=hide ((uh N0).later hb)
  clear N0
  have G13:=hide (show w13.heap[w12.heap.size]?=some (.cells #[.int .i64 af,.int .i64 ar,.int .i64 ek,.int .i64 en,.string es,.slice c el cp] 28 (0,0)) by rw [←hw13];exact Array.getElem?_push_size)
  clear hb H12 R12
  by_cases h2:af=2
  ·
   subst h2
   have F1:=hide (uh FY 3 rfl)
   clear FY FZ
   obtain ⟨w14,hw14⟩:∃ z,w13.setCell ⟨w12.heap.size,0,none⟩ (.int .i64 3)=z:=⟨_,rfl⟩
   have fz:w13.frozen? ⟨w12.heap.size,0,none⟩=false:=by have:=uh G13;simp [World.frozen?,this]
   have cz:=Lib.cell_of_heap (uh G13) 0
   have H14:=hide (show Rq w w14 rb la cap ts k5 b5 by rw [←hw14];exact (uh H13).cellG (uh HG) _ _)
   have R14:=hide (show w14.heap[w.heap.size]?=some (.cells #[.int .i64 0,.int .i64 0,.int .i64 0,.int .i64 0,.string ⟨#[]⟩,.slice none 0 0] 28 (0,0)) by rw [←hw14];exact (heap_setCell_other _ _ _ _ (uh NR)).trans (uh R13))
   have G14:=hide (show w14.heap[w12.heap.size]?=some (.cells #[.int .i64 3,.int .i64 ar,.int .i64 ek,.int .i64 en,.string es,.slice c el cp] 28 (0,0)) by rw [←hw14];exact heap_setCell_same _ _ _ _ _ _ (uh G13))
   have N14:=hide (show NewX w14 (w.heap.size+1) a.e c by rw [←hw14];exact (uh NP).later ((uh BX).setCell (p:=⟨w12.heap.size,0,none⟩) (Nat.le_refl _) _))
   clear H13 R13 N13
   go_wp2_with (first|(refine storeM rfl 28 _ _ rfl #[.int .i64 2,.int .i64 ar,.int .i64 ek,.int .i64 en,.string es,.slice c el cp] rfl rfl _ szAg rfl (ag_one _ _ _ _ _ _ _ _) ?_;rw [hw13])|(refine wpList_load_row rfl 28 _ rfl (w12.heap.size) rfl 28 #[.int .i64 3,.int .i64 ar,.int .i64 ek,.int .i64 en,.string es,.slice c el cp] (0,0) _ (uh G14) Tryz.underlying28 rfl (by kernel_rfl) ?_)|(refine wpList_store_row rfl 28 _ _ rfl w.heap.size #[.int .i64 3,.int .i64 ar,.int .i64 ek,.int .i64 en,.string es,.slice c el cp] rfl rfl 28 _ (uh R14) szAg rfl (ag_one _ _ _ _ _ _ _ _) ?_))
   refine bodyPost_ret (results_cell_row (P:=Tryz.prog) rfl _ _ w.heap.size 28 #[.int .i64 3,.int .i64 ar,.int .i64 ek,.int .i64 en,.string es,.slice c el cp] (0,0) _ rfl (setRow_heap _ _ _ _ _ _ (uh R14)) Tryz.underlying28 rfl szAg) rfl ?_
   exact uh F1 _ (((uh N14).row _ (Nat.lt_succ_self _)).lower (Nat.le_succ _)) ((uh H14).row _).rz ((uh H14).row _).gr
  by_cases h4:af=4
  ·
   subst h4
   have F1:=hide (uh FY 5 rfl)
   clear FY FZ
   obtain ⟨w14,hw14⟩:∃ z,w13.setCell ⟨w12.heap.size,0,none⟩ (.int .i64 5)=z:=⟨_,rfl⟩
   have fz:w13.frozen? ⟨w12.heap.size,0,none⟩=false:=by have:=uh G13;simp [World.frozen?,this]
   have cz:=Lib.cell_of_heap (uh G13) 0
   have H14:=hide (show Rq w w14 rb la cap ts k5 b5 by rw [←hw14];exact (uh H13).cellG (uh HG) _ _)
   have R14:=hide (show w14.heap[w.heap.size]?=some (.cells #[.int .i64 0,.int .i64 0,.int .i64 0,.int .i64 0,.string ⟨#[]⟩,.slice none 0 0] 28 (0,0)) by rw [←hw14];exact (heap_setCell_other _ _ _ _ (uh NR)).trans (uh R13))
   have G14:=hide (show w14.heap[w12.heap.size]?=some (.cells #[.int .i64 5,.int .i64 ar,.int .i64 ek,.int .i64 en,.string es,.slice c el cp] 28 (0,0)) by rw [←hw14];exact heap_setCell_same _ _ _ _ _ _ (uh G13))
   have N14:=hide (show NewX w14 (w.heap.size+1) a.e c by rw [←hw14];exact (uh NP).later ((uh BX).setCell (p:=⟨w12.heap.size,0,none⟩) (Nat.le_refl _) _))
   clear H13 R13 N13
   go_wp2_with (first|(refine storeM rfl 28 _ _ rfl #[.int .i64 4,.int .i64 ar,.int .i64 ek,.int .i64 en,.string es,.slice c el cp] rfl rfl _ szAg rfl (ag_one _ _ _ _ _ _ _ _) ?_;rw [hw13])|(refine wpList_load_row rfl 28 _ rfl (w12.heap.size) rfl 28 #[.int .i64 5,.int .i64 ar,.int .i64 ek,.int .i64 en,.string es,.slice c el cp] (0,0) _ (uh G14) Tryz.underlying28 rfl (by kernel_rfl) ?_)|(refine wpList_store_row rfl 28 _ _ rfl w.heap.size #[.int .i64 5,.int .i64 ar,.int .i64 ek,.int .i64 en,.string es,.slice c el cp] rfl rfl 28 _ (uh R14) szAg rfl (ag_one _ _ _ _ _ _ _ _) ?_))
   refine bodyPost_ret (results_cell_row (P:=Tryz.prog) rfl _ _ w.heap.size 28 #[.int .i64 5,.int .i64 ar,.int .i64 ek,.int .i64 en,.string es,.slice c el cp] (0,0) _ rfl (setRow_heap _ _ _ _ _ _ (uh R14)) Tryz.underlying28 rfl szAg) rfl ?_
   exact uh F1 _ (((uh N14).row _ (Nat.lt_succ_self _)).lower (Nat.le_succ _)) ((uh H14).row _).rz ((uh H14).row _).gr
  by_cases h6:af=6
  ·
   subst h6
   have F1:=hide (uh FY 7 rfl)
   clear FY FZ
   obtain ⟨w14,hw14⟩:∃ z,w13.setCell ⟨w12.heap.size,0,none⟩ (.int .i64 7)=z:=⟨_,rfl⟩
   have fz:w13.frozen? ⟨w12.heap.size,0,none⟩=false:=by have:=uh G13;simp [World.frozen?,this]
   have cz:=Lib.cell_of_heap (uh G13) 0
   have H14:=hide (show Rq w w14 rb la cap ts k5 b5 by rw [←hw14];exact (uh H13).cellG (uh HG) _ _)
   have R14:=hide (show w14.heap[w.heap.size]?=some (.cells #[.int .i64 0,.int .i64 0,.int .i64 0,.int .i64 0,.string ⟨#[]⟩,.slice none 0 0] 28 (0,0)) by rw [←hw14];exact (heap_setCell_other _ _ _ _ (uh NR)).trans (uh R13))
   have G14:=hide (show w14.heap[w12.heap.size]?=some (.cells #[.int .i64 7,.int .i64 ar,.int .i64 ek,.int .i64 en,.string es,.slice c el cp] 28 (0,0)) by rw [←hw14];exact heap_setCell_same _ _ _ _ _ _ (uh G13))
   have N14:=hide (show NewX w14 (w.heap.size+1) a.e c by rw [←hw14];exact (uh NP).later ((uh BX).setCell (p:=⟨w12.heap.size,0,none⟩) (Nat.le_refl _) _))
   clear H13 R13 N13
   go_wp2_with (first|(refine storeM rfl 28 _ _ rfl #[.int .i64 6,.int .i64 ar,.int .i64 ek,.int .i64 en,.string es,.slice c el cp] rfl rfl _ szAg rfl (ag_one _ _ _ _ _ _ _ _) ?_;rw [hw13])|(refine wpList_load_row rfl 28 _ rfl (w12.heap.size) rfl 28 #[.int .i64 7,.int .i64 ar,.int .i64 ek,.int .i64 en,.string es,.slice c el cp] (0,0) _ (uh G14) Tryz.underlying28 rfl (by kernel_rfl) ?_)|(refine wpList_store_row rfl 28 _ _ rfl w.heap.size #[.int .i64 7,.int .i64 ar,.int .i64 ek,.int .i64 en,.string es,.slice c el cp] rfl rfl 28 _ (uh R14) szAg rfl (ag_one _ _ _ _ _ _ _ _) ?_))
   refine bodyPost_ret (results_cell_row (P:=Tryz.prog) rfl _ _ w.heap.size 28 #[.int .i64 7,.int .i64 ar,.int .i64 ek,.int .i64 en,.string es,.slice c el cp] (0,0) _ rfl (setRow_heap _ _ _ _ _ _ (uh R14)) Tryz.underlying28 rfl szAg) rfl ?_
   exact uh F1 _ (((uh N14).row _ (Nat.lt_succ_self _)).lower (Nat.le_succ _)) ((uh H14).row _).rz ((uh H14).row _).gr
  by_cases h8:af=8
  ·
   subst h8
   have F1:=hide (uh FY 9 rfl)
   clear FY FZ
   obtain ⟨w14,hw14⟩:∃ z,w13.setCell ⟨w12.heap.size,0,none⟩ (.int .i64 9)=z:=⟨_,rfl⟩
   have fz:w13.frozen? ⟨w12.heap.size,0,none⟩=false:=by have:=uh G13;simp [World.frozen?,this]
   have cz:=Lib.cell_of_heap (uh G13) 0
   have H14:=hide (show Rq w w14 rb la cap ts k5 b5 by rw [←hw14];exact (uh H13).cellG (uh HG) _ _)
   have R14:=hide (show w14.heap[w.heap.size]?=some (.cells #[.int .i64 0,.int .i64 0,.int .i64 0,.int .i64 0,.string ⟨#[]⟩,.slice none 0 0] 28 (0,0)) by rw [←hw14];exact (heap_setCell_other _ _ _ _ (uh NR)).trans (uh R13))
   have G14:=hide (show w14.heap[w12.heap.size]?=some (.cells #[.int .i64 9,.int .i64 ar,.int .i64 ek,.int .i64 en,.string es,.slice c el cp] 28 (0,0)) by rw [←hw14];exact heap_setCell_same _ _ _ _ _ _ (uh G13))
   have N14:=hide (show NewX w14 (w.heap.size+1) a.e c by rw [←hw14];exact (uh NP).later ((uh BX).setCell (p:=⟨w12.heap.size,0,none⟩) (Nat.le_refl _) _))
   clear H13 R13 N13
   go_wp2_with (first|(refine storeM rfl 28 _ _ rfl #[.int .i64 8,.int .i64 ar,.int .i64 ek,.int .i64 en,.string es,.slice c el cp] rfl rfl _ szAg rfl (ag_one _ _ _ _ _ _ _ _) ?_;rw [hw13])|(refine wpList_load_row rfl 28 _ rfl (w12.heap.size) rfl 28 #[.int .i64 9,.int .i64 ar,.int .i64 ek,.int .i64 en,.string es,.slice c el cp] (0,0) _ (uh G14) Tryz.underlying28 rfl (by kernel_rfl) ?_)|(refine wpList_store_row rfl 28 _ _ rfl w.heap.size #[.int .i64 9,.int .i64 ar,.int .i64 ek,.int .i64 en,.string es,.slice c el cp] rfl rfl 28 _ (uh R14) szAg rfl (ag_one _ _ _ _ _ _ _ _) ?_))
   refine bodyPost_ret (results_cell_row (P:=Tryz.prog) rfl _ _ w.heap.size 28 #[.int .i64 9,.int .i64 ar,.int .i64 ek,.int .i64 en,.string es,.slice c el cp] (0,0) _ rfl (setRow_heap _ _ _ _ _ _ (uh R14)) Tryz.underlying28 rfl szAg) rfl ?_
   exact uh F1 _ (((uh N14).row _ (Nat.lt_succ_self _)).lower (Nat.le_succ _)) ((uh H14).row _).rz ((uh H14).row _).gr
  by_cases h10:af=10
  ·
   subst h10
   have F1:=hide (uh FY 11 rfl)
   clear FY FZ
   obtain ⟨w14,hw14⟩:∃ z,w13.setCell ⟨w12.heap.size,0,none⟩ (.int .i64 11)=z:=⟨_,rfl⟩
   have fz:w13.frozen? ⟨w12.heap.size,0,none⟩=false:=by have:=uh G13;simp [World.frozen?,this]
   have cz:=Lib.cell_of_heap (uh G13) 0
   have H14:=hide (show Rq w w14 rb la cap ts k5 b5 by rw [←hw14];exact (uh H13).cellG (uh HG) _ _)
   have R14:=hide (show w14.heap[w.heap.size]?=some (.cells #[.int .i64 0,.int .i64 0,.int .i64 0,.int .i64 0,.string ⟨#[]⟩,.slice none 0 0] 28 (0,0)) by rw [←hw14];exact (heap_setCell_other _ _ _ _ (uh NR)).trans (uh R13))
   have G14:=hide (show w14.heap[w12.heap.size]?=some (.cells #[.int .i64 11,.int .i64 ar,.int .i64 ek,.int .i64 en,.string es,.slice c el cp] 28 (0,0)) by rw [←hw14];exact heap_setCell_same _ _ _ _ _ _ (uh G13))
   have N14:=hide (show NewX w14 (w.heap.size+1) a.e c by rw [←hw14];exact (uh NP).later ((uh BX).setCell (p:=⟨w12.heap.size,0,none⟩) (Nat.le_refl _) _))
   clear H13 R13 N13
   go_wp2_with (first|(refine storeM rfl 28 _ _ rfl #[.int .i64 10,.int .i64 ar,.int .i64 ek,.int .i64 en,.string es,.slice c el cp] rfl rfl _ szAg rfl (ag_one _ _ _ _ _ _ _ _) ?_;rw [hw13])|(refine wpList_load_row rfl 28 _ rfl (w12.heap.size) rfl 28 #[.int .i64 11,.int .i64 ar,.int .i64 ek,.int .i64 en,.string es,.slice c el cp] (0,0) _ (uh G14) Tryz.underlying28 rfl (by kernel_rfl) ?_)|(refine wpList_store_row rfl 28 _ _ rfl w.heap.size #[.int .i64 11,.int .i64 ar,.int .i64 ek,.int .i64 en,.string es,.slice c el cp] rfl rfl 28 _ (uh R14) szAg rfl (ag_one _ _ _ _ _ _ _ _) ?_))
   refine bodyPost_ret (results_cell_row (P:=Tryz.prog) rfl _ _ w.heap.size 28 #[.int .i64 11,.int .i64 ar,.int .i64 ek,.int .i64 en,.string es,.slice c el cp] (0,0) _ rfl (setRow_heap _ _ _ _ _ _ (uh R14)) Tryz.underlying28 rfl szAg) rfl ?_
   exact uh F1 _ (((uh N14).row _ (Nat.lt_succ_self _)).lower (Nat.le_succ _)) ((uh H14).row _).rz ((uh H14).row _).gr
  have g2:(af == 2)=false:=beq_eq_false_iff_ne.2 h2
  have g4:(af == 4)=false:=beq_eq_false_iff_ne.2 h4
  have g6:(af == 6)=false:=beq_eq_false_iff_ne.2 h6
  have g8:(af == 8)=false:=beq_eq_false_iff_ne.2 h8
  have g10:(af == 10)=false:=beq_eq_false_iff_ne.2 h10
  have F1:=hide (uh FZ (by unfold upF;rw [if_neg (by omega)]))
  clear FY FZ
  have cz:=Lib.cell_of_heap (uh G13) 0
  obtain ⟨c0,c1,c2⟩:=(uh H13).rz.cells
  have f2:=(uh H13).rz.frz 2
  obtain ⟨w14,hw14⟩:∃ z,w13.setCell ⟨rb,2,none⟩ (.bool true)=z:=⟨_,rfl⟩
  have H14:=hide (show Rq w w14 rb la cap ts k5 true by rw [←hw14];exact (uh H13).next (uh H13).rz.setBad (grownBy_set _))
  have R14:=hide (show w14.heap[w.heap.size]?=some (.cells #[.int .i64 0,.int .i64 0,.int .i64 0,.int .i64 0,.string ⟨#[]⟩,.slice none 0 0] 28 (0,0)) by rw [←hw14];exact (uh H13).blk (grownBy_set _) (uh R13) (Nat.le_refl _))
  have G14:=hide (show w14.heap[w12.heap.size]?=some (.cells #[.int .i64 af,.int .i64 ar,.int .i64 ek,.int .i64 en,.string es,.slice c el cp] 28 (0,0)) by rw [←hw14];exact (uh H13).blk (grownBy_set _) (uh G13) (uh HG))
  have N14:=hide (show NewX w14 (w.heap.size+1) a.e c by rw [←hw14];exact (uh N13).grown (grownBy_set _) (Nat.lt_succ_of_lt (uh H13).lt))
  clear H13 R13 N13
  go_wp2_with (first|(refine storeM rfl 28 _ _ rfl #[.int .i64 af,.int .i64 ar,.int .i64 ek,.int .i64 en,.string es,.slice c el cp] rfl rfl _ szAg rfl (ag_one _ _ _ _ _ _ _ _) ?_;rw [hw13])|(refine wpList_load_row rfl 28 _ rfl (w12.heap.size) rfl 28 #[.int .i64 af,.int .i64 ar,.int .i64 ek,.int .i64 en,.string es,.slice c el cp] (0,0) _ (uh G14) Tryz.underlying28 rfl (by kernel_rfl) ?_)|(refine wpList_store_row rfl 28 _ _ rfl w.heap.size #[.int .i64 af,.int .i64 ar,.int .i64 ek,.int .i64 en,.string es,.slice c el cp] rfl rfl 28 _ (uh R14) szAg rfl (ag_one _ _ _ _ _ _ _ _) ?_))
  refine bodyPost_ret (results_cell_row (P:=Tryz.prog) rfl _ _ w.heap.size 28 #[.int .i64 af,.int .i64 ar,.int .i64 ek,.int .i64 en,.string es,.slice c el cp] (0,0) _ rfl (setRow_heap _ _ _ _ _ _ (uh R14)) Tryz.underlying28 rfl szAg) rfl ?_
  exact uh F1 _ (((uh N14).row _ (Nat.lt_succ_self _)).lower (Nat.le_succ _)) ((uh H14).row _).rz ((uh H14).row _).gr
theorem agX_low {f:Int} (hf:0≤f∧f≤5) {n:Nat} (hn:n<8):agX ⟨f,n,X0⟩=true:=by
 unfold agX
 simp only
 rw [if_pos ((inB_iff _ _ _).2 hf),(inB_iff _ _ _).2 (by omega)]
 decide +kernel
theorem agX_six {f:Int} (hf:f=6∨f=7) {n:Nat} (hn:n<8) {e:Ex} (ok:okF 6 true e=true):agX ⟨f,n,e⟩=true:=by
 unfold agX
 simp only
 rw [if_neg (fun q=>by have:=inB_of q;omega),if_pos (by simpa using hf),(inB_iff _ _ _).2 (by omega),ok]
 rfl
theorem agX_imm {f:Int} (hf:8≤f∧f≤11) {e:Ex} (ok:okF 6 true e=true):agX ⟨f,0,e⟩=true:=by
 unfold agX
 simp only
 rw [if_neg (fun q=>by have:=inB_of q;omega),if_neg (by simp;omega),if_pos ((inB_iff _ _ _).2 hf),ok]
 rfl
theorem see_some {ts:List Tk} (h:AllOk ts) {c:UInt8} (hc:smB (c.toNat:Int)=false) (hs:seeM ts c=true):ts=mkT c::ts.tail:=by
 cases ts with
 | nil => cases hs
 | cons t q => rw [ok_mark h.head.1 hc hs]; rfl
theorem AllOk.tail {ts:List Tk} (h:AllOk ts):AllOk ts.tail:=fun t ht=>h t (List.mem_of_mem_tail ht)
theorem pPln_some {ts:List Tk} (h:AllOk ts) {a:Ag} {r:List Tk} (hp:pPln ts=some (a,r)):agX a=true∧ts=agT a++r∧(a.f=0∨a.f=1∨a.f=2∨a.f=4∨a.f=6∨a.f=8∨a.f=10):=by
 cases ts with
 | nil => cases hp
 | cons t q =>
  obtain ⟨ht,hq⟩:=h.head
  cases hr:pReg t with
  | some n =>
   rw [pPln_reg hr] at hp
   injection hp with hp
   injection hp with e1 e2
   subst e1 e2
   obtain ⟨h8,e⟩:=pReg_some ht hr
   exact ⟨agX_low (by omega) h8,by rw [e];rfl,.inl rfl⟩
  | none =>
   rw [pPln_no hr] at hp
   split at hp
   ·
    rename_i hc
    split at hp
    · cases hp
    ·
     rename_i n q2 hn
     injection hp with hp
     injection hp with e1 e2
     subst e1 e2
     obtain ⟨h8,e⟩:=pRnd_some hq hn
     exact ⟨agX_low (by omega) h8,by rw [ok_mark ht (by decide) hc.1,e];rfl,by simp⟩
   split at hp
   ·
    rename_i hc
    split at hp
    · cases hp
    ·
     rename_i n q2 hn
     obtain ⟨h8,e⟩:=pRnd_some h hn
     split at hp
     ·
      rename_i h43
      injection hp with hp
      injection hp with e1 e2
      subst e1 e2
      have h2:AllOk q2:=fun x hx=>h x (by rw [e];exact List.mem_append.2 (.inr hx))
      refine ⟨agX_low (by omega) h8,?_,by simp⟩
      rw [e]
      show rnT n++q2=(rnT n++[mkT 43])++q2.tail
      rw [List.append_assoc]
      congr 1
      exact see_some h2 (by decide) h43
     ·
      injection hp with hp
      injection hp with e1 e2
      subst e1 e2
      exact ⟨agX_low (by omega) h8,e,by simp⟩
   split at hp
   ·
    rename_i hc
    split at hp
    · cases hp
    ·
     rename_i e q2 he
     injection hp with hp
     injection hp with e1 e2
     subst e1 e2
     obtain ⟨ok,e3⟩:=toks_read 6 _ _ _ hq he
     exact ⟨agX_imm (by omega) ok,by rw [ok_mark ht (by decide) hc,e3];rfl,by simp⟩
   ·
    split at hp
    · cases hp
    ·
     rename_i e q2 he
     obtain ⟨ok,e3⟩:=toks_read 6 _ _ _ h he
     have h2:AllOk q2:=fun x hx=>h x (by rw [e3];exact List.mem_append.2 (.inr hx))
     split at hp
     ·
      split at hp
      · cases hp
      ·
       rename_i n q3 hn
       injection hp with hp
       injection hp with e1 e2
       subst e1 e2
       obtain ⟨h8,e4⟩:=pRnd_some h2 hn
       refine ⟨agX_six (.inl rfl) h8 ok,?_,by simp⟩
       rw [e3,e4]
       show _=(toksF 6 e++rnT n)++q3
       rw [List.append_assoc]
     ·
      injection hp with hp
      injection hp with e1 e2
      subst e1 e2
      exact ⟨agX_imm (by omega) ok,e3,by simp⟩
theorem agX_up {a:Ag} (ok:agX a=true) (hf:a.f=2∨a.f=4∨a.f=6∨a.f=8∨a.f=10):agX ⟨a.f+1,a.r,a.e⟩=true∧agT ⟨a.f+1,a.r,a.e⟩=mkT 64::agT a:=by
 obtain ⟨r1,r2⟩:=agX_r ok
 obtain ⟨f,g,e⟩:=a
 simp only at hf r1 r2 ⊢
 obtain ⟨n,rfl⟩:∃ n:Nat,g=(n:Int):=⟨g.toNat,by omega⟩
 unfold agX at ok ⊢
 simp only at ok ⊢
 rcases hf with rfl|rfl|rfl|rfl|rfl
 · exact ⟨ok,rfl⟩
 · exact ⟨ok,rfl⟩
 · exact ⟨ok,rfl⟩
 · exact ⟨ok,rfl⟩
 · exact ⟨ok,rfl⟩
theorem pArg_some {ts:List Tk} (h:AllOk ts) {a:Ag} {r:List Tk} (hp:pArg ts=some (a,r)):agX a=true∧ts=agT a++r:=by
 by_cases hs:seeM ts 64=true
 ·
  have e:=see_some h (by decide) hs
  rw [e,pArg_at] at hp
  split at hp
  · cases hp
  ·
   rename_i b q hb
   obtain ⟨ok,e2,_⟩:=pPln_some h.tail hb
   unfold upF at hp
   split at hp
   · cases hp
   ·
    rename_i f hf
    split at hf
    ·
     rename_i hf2
     injection hf with hf
     injection hp with hp
     injection hp with e3 e4
     subst hf e3 e4
     obtain ⟨o1,o2⟩:=agX_up ok hf2
     refine ⟨o1,?_⟩
     rw [o2,List.cons_append,←e2]
     exact e
    · cases hf
 ·
  rw [pArg_no (by simpa using hs)] at hp
  obtain ⟨o1,o2,_⟩:=pPln_some h hp
  exact ⟨o1,o2⟩
def a0:Ag:=⟨0,0,X0⟩
def ln0:Ln:=⟨0,⟨#[]⟩,0,a0,a0,0,[]⟩
def pIns (op:Int) (ts:List Tk):Option (Ln × List Tk) :=
 if op≤6 then (match pArg ts with|none=>none|some (a,q)=>if seeM q 44=true then (match pArg q.tail with|none=>none|some (b,q2)=>some (⟨3,⟨#[]⟩,op,a,b,0,[]⟩,q2)) else none)
 else if op≤14 then (match pArg ts with|none=>none|some (b,q)=>some (⟨3,⟨#[]⟩,op,a0,b,0,[]⟩,q))
 else if op=15 then (match ts with | []=>none|t::q=>if seeM q 44=true then (match pArg q.tail with|none=>none|some (b,q2)=>some (⟨3,⟨#[]⟩,op,a0,b,regN t,[]⟩,q2)) else none)
 else if op=16 then (match ts with | []=>none|t::q=>some (⟨3,⟨#[]⟩,op,a0,a0,regN t,[]⟩,q))
 else if op=22 then some (⟨3,⟨#[]⟩,op,a0,a0,0,[]⟩,ts)
 else (match readF 6 ts with|none=>none|some (e,q)=>some (⟨3,⟨#[]⟩,op,a0,a0,0,[e]⟩,q))
def pLst:Nat→List Tk→Option (List Ex × List Tk)
 | 0, _ => none
 | f + 1, ts => match readF 6 ts with
  | none => none
  | some (e, q) => if seeM q 44 = true then (match pLst f q.tail with | none => none | some (l, q2) => some (e :: l, q2)) else some ([e], q)
def pTms (k:Int) (ts:List Tk):Option (Ln × List Tk):=match pLst (ts.length+1) ts with|none=>none|some (l,q)=>some (⟨k,⟨#[]⟩,0,a0,a0,0,l⟩,q)
def pDot (s:ByteArray) (ts:List Tk):Option (Ln × List Tk) :=
 if eqS s ⟨#[46,119,111,114,100]⟩=true then pTms 4 ts
 else if eqS s ⟨#[46,98,108,107,119]⟩=true then pTms 5 ts
 else if eqS s ⟨#[46,103,108,111,98,108]⟩=true then pTms 7 ts
 else if eqS s ⟨#[46,101,110,100]⟩=true then some (⟨8,⟨#[]⟩,0,a0,a0,0,[]⟩,ts)
 else if eqS s ⟨#[46,115,101,99,116]⟩=true then (match ts with
  | [] => none
  | t :: q => if seeM q 44 = true then (match q.tail with | [] => none | t2 :: q2 => if eqS t2.s ⟨#[111, 118, 101, 114]⟩ = true then some (⟨6, t.s, 0, a0, a0, 1, []⟩, q2) else none) else some (⟨6, t.s, 0, a0, a0, 0, []⟩, q))
 else none
def pLn:List Tk→Option (Ln × List Tk)
 | [] => none
 | t :: r =>
  if t.k=5 then (if atV keptL t.s<23 then pIns (atV keptL t.s+1) r else none)
  else if t.k=3 then pDot t.s r
  else if t.k=1 then (if seeM r 58=true then some (⟨1,t.s,0,a0,a0,0,[]⟩,r.tail) else if seeM r 61=true then (match readF 6 r.tail with|none=>none|some (e,q)=>some (⟨2,t.s,0,a0,a0,0,[e]⟩,q)) else none)
  else none
def pOf (ts:List Tk):Option Ln:=if ts = [] then some ln0 else (match pLn ts with|some (x,[])=>if lnX x=true then some x else none|_=>none)
theorem pLst_some:∀ (f:Nat) (ts:List Tk) (l:List Ex) (r:List Tk),AllOk ts→pLst f ts=some (l,r)→l≠[]∧l.all (okF 6 true)=true∧ts=cmT l++r:=by
 intro f
 induction f with
 | zero => intro ts l r _ h; cases h
 | succ f ih =>
  intro ts l r h hp
  unfold pLst at hp
  split at hp
  · cases hp
  ·
   rename_i e q he
   obtain ⟨ok,e1⟩:=toks_read 6 _ _ _ h he
   have hq:AllOk q:=fun x hx=>h x (by rw [e1];exact List.mem_append.2 (.inr hx))
   split at hp
   ·
    rename_i hs
    split at hp
    · cases hp
    ·
     rename_i l2 q2 hl
     injection hp with hp
     injection hp with e3 e4
     subst e3 e4
     obtain ⟨n1,o1,e5⟩:=ih _ _ _ hq.tail hl
     refine ⟨by simp,by rw [List.all_cons,ok,o1];rfl,?_⟩
     have eq:=see_some hq (by decide) hs
     rw [e1,eq,e5]
     cases l2 with
     | nil => exact absurd rfl n1
     | cons e2 l2 =>
      show toksF 6 e++(mkT 44::((toksF 6 e2++(l2.map fun x=>mkT 44::toksF 6 x).flatten)++q2))=(toksF 6 e++((mkT 44::toksF 6 e2)++(l2.map fun x=>mkT 44::toksF 6 x).flatten))++q2
      simp only [List.append_assoc,List.cons_append]
   ·
    injection hp with hp
    injection hp with e3 e4
    subst e3 e4
    exact ⟨by simp,by rw [List.all_cons,ok];rfl,by rw [e1];show _=(toksF 6 e++[])++q;rw [List.append_nil]⟩
section
theorem ms_see (q:List Tk) (c:UInt8) {β:Type} (f:Unit→List Tk→Option (β × List Tk)):bnd (pMs (mkS c) q) f=if seeM q c=true then f () q.tail else none:=by
 cases q with
 | nil => rfl
 | cons t r =>
  show bnd (if eqS t.s (mkS c)=true then some ((),r) else none) f=if eqS t.s (mkS c)=true then f () r else none
  by_cases h:eqS t.s (mkS c)=true
  · rw [if_pos h,if_pos h];rfl
  · rw [if_neg h,if_neg h];rfl
theorem pIns_two {op:Int} (ts:List Tk) (h:op≤6):pIns op ts=bnd (pArg ts) fun a q=>bnd (pMs (mkS 44) q) fun _ q=>bnd (pArg q) fun b q=>some (⟨3,⟨#[]⟩,op,a,b,0,[]⟩,q):=by
 unfold pIns
 rw [if_pos h]
 cases pArg ts with
 | none => rfl
 | some p =>
  obtain ⟨a,q⟩:=p
  show _=bnd (pMs (mkS 44) q) _
  rw [ms_see]
  simp only
  split
  · cases pArg q.tail <;> rfl
  · rfl
theorem pIns_one {op:Int} (ts:List Tk) (h:¬ op≤6) (h2:op≤14):pIns op ts=bnd (pArg ts) fun b q=>some (⟨3,⟨#[]⟩,op,a0,b,0,[]⟩,q):=by
 unfold pIns
 rw [if_neg h,if_pos h2]
 cases pArg ts <;> rfl
theorem pIns_jsr (ts:List Tk):pIns 15 ts=bnd (pNx ts) fun t q=>bnd (pMs (mkS 44) q) fun _ q=>bnd (pArg q) fun b q=>some (⟨3,⟨#[]⟩,15,a0,b,regN t,[]⟩,q):=by
 unfold pIns
 rw [if_neg (by decide),if_neg (by decide),if_pos rfl]
 cases ts with
 | nil => rfl
 | cons t r =>
  simp only [pNx]
  show _=bnd (pMs (mkS 44) r) _
  rw [ms_see]
  split
  · cases pArg r.tail <;> rfl
  · rfl
theorem pIns_rts (ts:List Tk):pIns 16 ts=bnd (pNx ts) fun t q=>some (⟨3,⟨#[]⟩,16,a0,a0,regN t,[]⟩,q):=by
 unfold pIns
 rw [if_neg (by decide),if_neg (by decide),if_neg (by decide),if_pos rfl]
 cases ts <;> rfl
theorem pIns_halt (ts:List Tk):pIns 22 ts=some (⟨3,⟨#[]⟩,22,a0,a0,0,[]⟩,ts):=by
 unfold pIns
 rw [if_neg (by decide),if_neg (by decide),if_neg (by decide),if_neg (by decide),if_pos rfl]
theorem pIns_term {op:Int} (ts:List Tk) (h:16<op) (h2:op≠22):pIns op ts=bnd (readF 6 ts) fun e q=>some (⟨3,⟨#[]⟩,op,a0,a0,0,[e]⟩,q):=by
 unfold pIns
 rw [if_neg (by omega),if_neg (by omega),if_neg (by omega),if_neg (by omega),if_neg h2]
 cases readF 6 ts <;> rfl
theorem read_lt:∀ (d:Nat) (ts:List Tk) (e:Ex) (r:List Tk),readF d ts=some (e,r)→r.length<ts.length:=by
 intro d
 induction d with
 | zero => intro ts e r h; cases h
 | succ d ih =>
  intro ts e r h
  cases ts with
  | nil => cases h
  | cons t q =>
   rw [readF_cons] at h
   show r.length<q.length+1
   by_cases c1:t.k=2
   · rw [if_pos c1] at h;cases h;exact Nat.lt_succ_self _
   rw [if_neg c1] at h
   by_cases c2:t.k=1
   · rw [if_pos c2] at h;cases h;exact Nat.lt_succ_self _
   rw [if_neg c2] at h
   by_cases c3:eqS t.s (mkS 46)=true
   · rw [if_pos c3] at h;cases h;exact Nat.lt_succ_self _
   rw [if_neg c3] at h
   by_cases c4:eqS t.s (mkS 45)=true
   ·
    rw [if_pos c4] at h
    cases e1:readF d q with
    | none => rw [e1] at h; cases h
    | some p =>
     rw [e1] at h
     cases h
     have:=ih q p.1 p.2 e1
     omega
   rw [if_neg c4] at h
   by_cases c5:eqS t.s (mkS 60)=true
   ·
    rw [if_pos c5] at h
    unfold twoF at h
    cases e1:readF d q with
    | none => rw [e1] at h; cases h
    | some p =>
     obtain ⟨a,q1⟩:=p
     rw [e1] at h
     have l1:=ih q a q1 e1
     cases q1 with
     | nil => cases h
     | cons t1 q1 =>
      simp only at h
      cases e2:readF d q1 with
      | none => rw [e2] at h; cases h
      | some p =>
       obtain ⟨b,q2⟩:=p
       rw [e2] at h
       have l2:=ih q1 b q2 e2
       cases q2 with
       | nil => cases h
       | cons t2 q2 =>
        simp only at h
        simp only [List.length_cons] at l1 l2
        by_cases c6:eqS t2.s (mkS 62)=true
        ·
         rw [if_pos c6] at h
         cases e3:sgnK t1.s with
         | none => rw [e3] at h; cases h
         | some k => rw [e3] at h; cases h; omega
        · rw [if_neg c6] at h;cases h
   · rw [if_neg c5] at h;cases h
def pLs (ts:List Tk):Option (List Ex × List Tk):=pLst (ts.length+1) ts
theorem pLst_fuel:∀ (f g:Nat) (ts:List Tk),ts.length<f→ts.length<g→pLst f ts=pLst g ts:=by
 intro f
 induction f with
 | zero => intro g ts h; omega
 | succ f ih =>
  intro g ts h1 h2
  cases g with
  | zero => omega
  | succ g =>
   unfold pLst
   cases e1:readF 6 ts with
   | none => rfl
   | some p =>
    obtain ⟨e,q⟩:=p
    have l1:=read_lt 6 ts e q e1
    simp only
    have l2:q.tail.length≤q.length:=by rw [List.length_tail];omega
    rw [ih g q.tail (by omega) (by omega)]
theorem pLs_eq (ts:List Tk):pLs ts=bnd (readF 6 ts) fun e q=>if seeM q 44=true then bnd (pLs q.tail) fun l q=>some (e::l,q) else some ([e],q):=by
 unfold pLs
 rw [pLst]
 unfold bnd
 cases e1:readF 6 ts with
 | none => rfl
 | some p =>
  obtain ⟨e,q⟩:=p
  have l1:=read_lt 6 ts e q e1
  simp only
  have l2:q.tail.length≤q.length:=by rw [List.length_tail];omega
  split
  ·
   rw [pLst_fuel ts.length (q.tail.length+1) q.tail (by omega) (by omega)]
   cases pLst (q.tail.length+1) q.tail <;> rfl
  · rfl
theorem pTms_eq (k:Int) (ts:List Tk):pTms k ts=bnd (pLs ts) fun l q=>some (⟨k,⟨#[]⟩,0,a0,a0,0,l⟩,q):=by
 unfold pTms pLs
 cases pLst (ts.length+1) ts <;> rfl
def LsI (ts:List Tk) (k:Nat) (bad:Bool) (acc:List Ex) (k1:Nat) (b1:Bool):Prop:=∀ l k2 b2,OutG (pLs (ts.drop k1)) ts b1 l k2 b2→OutG (pLs (ts.drop k)) ts bad (acc++l) k2 b2
section
variable {ts:List Tk} {k k1 k2:Nat} {bad b1 b2:Bool} {acc:List Ex} {e:Ex}
theorem LsI.zero (ts:List Tk) (k:Nat) (bad:Bool):LsI ts k bad [] k bad:=fun _ _ _ h=>h
theorem LsI.more (h:LsI ts k bad acc k1 b1) (h1:OutG (readF 6 (ts.drop k1)) ts b1 e k2 b2) (hs:seeB ts k2 b2 (mkS 44)=true):LsI ts k bad (acc++[e]) (k2+1) b2:=by
 intro l k3 b3 h3
 rw [List.append_assoc]
 refine h _ _ _ ?_
 rw [pLs_eq]
 refine h1.bind ?_
 obtain ⟨hb,_,_⟩:=seeB_bad hs
 subst hb
 rw [see_M] at hs
 rw [if_pos hs,List.tail_drop]
 exact h3.bind (OutG.ret _ _ _)
theorem LsI.last (h:LsI ts k bad acc k1 b1) (h1:OutG (readF 6 (ts.drop k1)) ts b1 e k2 b2) (hs:seeB ts k2 b2 (mkS 44)=false):OutG (pLs (ts.drop k)) ts bad (acc++[e]) k2 b2:=by
 refine h _ _ _ ?_
 rw [pLs_eq]
 refine h1.bind ?_
 cases b2 with
 | true => exact OutG.fail _ _ _ (fun h => absurd h (by decide))
 | false =>
  rw [see_M] at hs
  rw [if_neg (by rw [hs];decide)]
  exact OutG.ret _ _ _
theorem LsI.stop (h:LsI ts k bad acc k1 true):OutG (pLs (ts.drop k)) ts bad acc k1 true:=by
 have:=h [] k1 true (OutG.fail _ _ _ (fun h=>absurd h (by decide)))
 rwa [List.append_nil] at this
end
def sOver:ByteArray:=⟨#[111,118,101,114]⟩
theorem pDot_sect {s:ByteArray} (ts:List Tk) (h1:eqS s ⟨#[46,119,111,114,100]⟩=false) (h2:eqS s ⟨#[46,98,108,107,119]⟩=false) (h3:eqS s ⟨#[46,103,108,111,98,108]⟩=false) (h4:eqS s ⟨#[46,101,110,100]⟩=false) (h5:eqS s ⟨#[46,115,101,99,116]⟩=true):pDot s ts=bnd (pNx ts) fun t q=>if seeM q 44=true then bnd (pMs sOver q.tail) fun _ q=>some (⟨6,t.s,0,a0,a0,1,[]⟩,q) else some (⟨6,t.s,0,a0,a0,0,[]⟩,q):=by
 unfold pDot
 rw [if_neg (by rw [h1];decide),if_neg (by rw [h2];decide),if_neg (by rw [h3];decide),if_neg (by rw [h4];decide),if_pos h5]
 cases ts with
 | nil => rfl
 | cons t q =>
  simp only [pNx]
  show _=(if seeM q 44=true then _ else _)
  split
  ·
   cases q.tail with
   | nil => rfl
   | cons t2 q2 =>
    simp only [pMs]
    by_cases h6:eqS t2.s ⟨#[111,118,101,114]⟩=true
    · rw [if_pos h6,if_pos (show eqS t2.s sOver=true from h6)];rfl
    · rw [if_neg h6,if_neg (show ¬ eqS t2.s sOver=true from h6)];rfl
  · rfl
theorem pLn_bnd (ts:List Tk):pLn ts=bnd (pNx ts) fun t r =>
  if t.k=5 then (if atV keptL t.s<23 then pIns (atV keptL t.s+1) r else none)
  else if t.k=3 then pDot t.s r
  else if t.k=1 then (if seeM r 58=true then some (⟨1,t.s,0,a0,a0,0,[]⟩,r.tail) else if seeM r 61=true then bnd (readF 6 r.tail) (fun e q=>some (⟨2,t.s,0,a0,a0,0,[e]⟩,q)) else none)
  else none:=by
 cases ts with
 | nil => rfl
 | cons t r =>
  simp only [pNx,bnd,pLn]
  by_cases c1:t.k=5
  · rw [if_pos c1,if_pos c1]
  rw [if_neg c1,if_neg c1]
  by_cases c2:t.k=3
  · rw [if_pos c2,if_pos c2]
  rw [if_neg c2,if_neg c2]
  by_cases c3:t.k=1
  ·
   rw [if_pos c3,if_pos c3]
   cases readF 6 r.tail <;> rfl
  · rw [if_neg c3,if_neg c3]
end
section
def ApL (w:World) (B:Nat) (l:List Ex) (v:Value) (M:Nat):Prop:=∃ (cs:List Value) (Fs:List (List Nat)),w.ownsRow B 26 4 v l.length cs∧(∀ g,v.ownBlock=some g→g<M)∧Fs.length=l.length∧Fs.flatten.Nodup∧(∀ b∈Fs.flatten,B≤b∧b<M∧v.ownBlock≠some b)∧∀ i,i<l.length→OwIn w cs i (xAt l i) (Fs.getD i [])
def xL (x:Ex) (c:Option Addr) (cp:Nat):List Value:=[.int .i64 x.k,.int .i64 x.n,.string x.s,.slice c x.l.length cp]
theorem ownsRow_keepL {w w':World} {B n m:Nat} {t:TypeId} {v:Value} {cs:List Value} (h:w.ownsRow B t m v n cs) (hk:∀ g,v.ownBlock=some g→w'.heap[g]?=w.heap[g]?):w'.ownsRow B t m v n cs:=by
 obtain ⟨h1,h2|⟨g,cap,cur,rfl,hg,hh,r⟩⟩:=h
 · exact ⟨h1,.inl h2⟩
 · exact ⟨h1,.inr ⟨g,cap,cur,rfl,hg,(hk g rfl).trans hh,r⟩⟩
theorem xAt_old {l:List Ex} {i:Nat} (h:i<l.length) (x:Ex):xAt (l++[x]) i=xAt l i:=by
 unfold xAt
 simp [List.getD,List.getElem?_append_left h]
theorem xAt_last (l:List Ex) (x:Ex):xAt (l++[x]) l.length=x:=by
 unfold xAt
 simp [List.getD]
section
variable {w w':World} {B M:Nat} {l:List Ex} {v:Value}
theorem ApL.keep (h:ApL w B l v M) (hk:∀ b,B≤b→b<M→w'.heap[b]?=w.heap[b]?):ApL w' B l v M:=by
 obtain ⟨cs,Fs,h1,h2,h3,h4,h5,h6⟩:=h
 refine ⟨cs,Fs,ownsRow_keepL h1 (fun g hg=>hk g (World.ownsRow.lt h1 g hg).1 (h2 g hg)),h2,h3,h4,h5,fun i hi=>(h6 i hi).keep (fun b hb=>?_)⟩
 obtain ⟨q1,q2,_⟩:=h5 b (getD_flat hb)
 exact hk b q1 q2
theorem ApL.later (h:ApL w B l v M) (hb:Below w.heap.size w w') (hM:M≤w.heap.size):ApL w' B l v M:=h.keep (fun b _ h2=>hb.block b (by omega))
theorem ApL.grown {rb:Nat} (h:ApL w B l v M) (hg:w.grownBy w' (some rb)) (hM:M≤w.heap.size) (hrb:rb<B):ApL w' B l v M:=h.keep (fun b h1 h2=>hg.block b (by omega) (fun e=>by cases e;omega))
theorem ApL.upto {M':Nat} (h:ApL w B l v M) (hM:M≤M'):ApL w B l v M':=by
 obtain ⟨cs,Fs,h1,h2,h3,h4,h5,h6⟩:=h
 exact ⟨cs,Fs,h1,fun g hg=>Nat.lt_of_lt_of_le (h2 g hg) hM,h3,h4,fun b hb=>⟨(h5 b hb).1,Nat.lt_of_lt_of_le (h5 b hb).2.1 hM,(h5 b hb).2.2⟩,h6⟩
theorem ApL.zero {g:Nat} (hB:B≤g) (hM:g<M) (h:w.heap[g]?=some (.cells #[] 26 (0,0))):ApL w B [] (.slice (some ⟨g,0,none⟩) 0 0) M :=
 ⟨[],[],⟨rfl,.inr ⟨g,0,#[],rfl,hB,h,Nat.le_refl _,Nat.zero_le _,rfl,rfl⟩⟩,(fun b hb=>by cases hb;exact hM),rfl,List.nodup_nil,(fun b hb=>by simp at hb),fun i hi=>by simp at hi⟩
theorem ApL.form (h:ApL w B l v M):∃ a cap,v = .slice a l.length cap:=by
 obtain ⟨_,_,⟨_,⟨e,e2⟩|⟨g,cap',cur,e,_⟩⟩,_⟩:=h
 · exact ⟨_,_,by rw [e2];exact e⟩
 · exact ⟨_,_,e⟩
theorem ApL.step {M':Nat} {x:Ex} {cs:List Value} {Fs:List (List Nat)} {q:Option Addr} {cp g cap:Nat} (h1:w.ownsRow B 26 4 v l.length cs) (h2:∀ g,v.ownBlock=some g→g<M) (h3:Fs.length=l.length) (h4:Fs.flatten.Nodup) (h5:∀ b∈Fs.flatten,B≤b∧b<M∧v.ownBlock≠some b) (h6:∀ i,i<l.length→OwIn w cs i (xAt l i) (Fs.getD i []))
  (hx:HalfX w M M' x q) (hBM:B≤M) (hM:M≤M') (hM':M'≤w.heap.size) (ho:w'.ownsRow B 26 4 (.slice (some ⟨g,0,none⟩) (l.length+1:Nat) cap) (l.length+1) (cs++xL x q cp)) (hg:w.grownBy w' v.ownBlock) (hw:v.ownBlock=some g∨g=w.heap.size):ApL w' B (l++[x]) (.slice (some ⟨g,0,none⟩) (l.length+1:Nat) cap) w'.heap.size:=by
 obtain ⟨F,x1,x2,x3⟩:=hx
 have hl:=h1.1
 have hln:(l++[x]).length=l.length+1:=by simp
 unfold ApL
 rw [hln]
 refine ⟨_,Fs++[F],ho,(fun g' e=>by
  have:=World.ownsRow.lt ho g' e
  exact this.2),by simp [h3],?_,?_,?_⟩
 ·
  rw [flat_snoc]
  exact nodup_snoc h4 x2 (fun b hb=>(h5 b hb).2.1) (fun b hb=>(x3 b hb).1)
 ·
  intro b hb
  rw [flat_snoc] at hb
  have hs:=hg.size
  rcases List.mem_append.1 hb with hb|hb
  ·
   obtain ⟨q1,q2,q3⟩:=h5 b hb
   refine ⟨q1,by omega,fun e=>?_⟩
   have e:g=b:=by simpa [Value.ownBlock] using e
   rcases hw with hw|hw
   · exact q3 (by rw [hw,e])
   · omega
  ·
   obtain ⟨q1,q2⟩:=x3 b hb
   refine ⟨by omega,by omega,fun e=>?_⟩
   have e:g=b:=by simpa [Value.ownBlock] using e
   rcases hw with hw|hw
   ·
    have:=h2 g hw
    omega
   · omega
 ·
  intro i hi
  by_cases hik:i<l.length
  ·
   rw [getD_snoc_lt (by omega),xAt_old hik]
   obtain ⟨c0,c1,c2,c,cp',c3,c4⟩:=h6 i hik
   refine ⟨by rw [List.getElem?_append_left (by omega)];exact c0,by rw [List.getElem?_append_left (by omega)];exact c1,by rw [List.getElem?_append_left (by omega)];exact c2,c,cp',by rw [List.getElem?_append_left (by omega)];exact c3,?_⟩
   refine OwX.keep _ _ _ (fun b hb=>?_) c4
   obtain ⟨q1,q2,q3⟩:=h5 b (getD_flat hb)
   exact hg.block b (by omega) (fun e=>q3 e.symm)
  ·
   obtain rfl:i=l.length:=by omega
   rw [getD_snoc_eq (by omega),xAt_last]
   have hj:∀ j,j<4→(cs++xL x q cp)[l.length*4+j]?=(xL x q cp)[j]?:=fun j hj=>by
    rw [List.getElem?_append_right (by omega),hl]
    congr 1
    omega
   refine ⟨(hj 0 (by omega)).trans rfl,(hj 1 (by omega)).trans rfl,(hj 2 (by omega)).trans rfl,q,cp,(hj 3 (by omega)).trans rfl,?_⟩
   refine OwX.keep _ _ _ (fun b hb=>?_) x1
   obtain ⟨q1,q2⟩:=x3 b hb
   exact hg.block b (by omega) (fun e=>by have:=h2 b e.symm;omega)
theorem ApL.done {n cap:Nat} {a:Option Addr} (h:ApL w B l (.slice a n cap) M) (k m:Int) (s:ByteArray):NewX w B ⟨k,m,s,l⟩ a∧n=l.length:=by
 obtain ⟨cs,Fs,h1,h2,h3,h4,h5,h6⟩:=h
 obtain ⟨hl,⟨e,h0⟩|⟨g,cap',cur,e,hg,hh,hn,hm,hz,ht⟩⟩:=h1
 ·
  cases e
  have:l = []:=List.length_eq_zero_iff.1 h0
  subst this
  exact ⟨⟨[],(OwX_eq _ _ _ _).2 (.inl ⟨rfl,rfl⟩),List.nodup_nil,fun b hb=>by cases hb⟩,rfl⟩
 ·
  cases e
  have hc:∀ j,j<l.length*4→cur[j]?=cs[j]?:=fun j hj=>by
   rw [←ht,List.getElem?_take_of_lt hj,Array.getElem?_toList]
  refine ⟨⟨g::Fs.flatten,(OwX_eq _ _ _ _).2 (.inr ⟨g,cur,_,Fs,rfl,hh,by show l.length*4≤cur.size;rw [hz];exact Nat.mul_le_mul_right _ hn,h3,rfl,fun i hi=>?_⟩),List.nodup_cons.2 ⟨fun hb=>(h5 g hb).2.2 rfl,h4⟩,fun b hb=>?_⟩,rfl⟩
  ·
   obtain ⟨c0,c1,c2,c,cp',c3,c4⟩:=h6 i hi
   have hi:i<l.length:=hi
   exact ⟨(hc _ (by omega)).trans c0,(hc _ (by omega)).trans c1,(hc _ (by omega)).trans c2,c,cp',(hc _ (by omega)).trans c3,c4⟩
  ·
   rcases List.mem_cons.1 hb with rfl|hb
   · exact hg
   · exact (h5 b hb).1
end
def LsR (o:Option (List Ex × List Tk)) (rb:Nat) (la:Option Addr) (cap:Nat) (ts:List Tk) (bad:Bool) (w:World) (r:Ending) (w':World):Prop:=∃ (l:List Ex) (c:Option Addr) (cp k':Nat) (bad':Bool),r = .returned (.slice c l.length cp)∧NewX w' w.heap.size ⟨0,0,⟨#[]⟩,l⟩ c∧Rz w' rb la cap ts k' bad'∧w.grownBy w' (some rb)∧OutG o ts bad l k' bad'
end
section
section
variable {P:Program} {w:World}
theorem append_to (base:Nat) (t ty e:TypeId) (i:TypeInfo) (z:Value) (size bytes:Nat) (ht:P.underlying t=some (.slice e)) (hi:P.info? e=some i) (hz:i.zero=some z)
  (hsize:i.size=size) (hby:i.bytes=bytes) (hzs:z.cells.size=size) (hsz:0<size)
  (v:Value) (n:Nat) (xs:List Value) (hown:w.ownsRow base e size v n xs)
  (a:Addr) (m c:Nat) (news:List Value) (hl:news.length=m*size) (hnews:∀ j u,news[j]?=some u→w.cell? (a.add j)=some u) (h1:∀ u∈news,u.oneCell'=true)
  (h63:n+m≤maxLen) (hbytes:(n+m)*bytes≤140737488355328) (hbase:base≤w.heap.size) (hm:0<m) :
  ∃ v' w',(Builtin.append_ #[t,t] ty #[v,.slice (some a) m c]).run P w = .ok v' w'∧w'.ownsRow base e size v' (n+m) (xs++news)∧w.grownBy w' v.ownBlock∧(∃ g cap,v' = .slice (some ⟨g,0,none⟩) (n+m) cap∧(v.ownBlock=some g∨g=w.heap.size)):=by
 obtain ⟨v',w',hr,h2,h3,_⟩:=run_append_own (P:=P) w base t ty e i z size bytes ht hi hz hsize hby hzs hsz v n xs hown a m c news hl hnews h1 h63 hbytes hbase
 refine ⟨v',w',hr,h2,h3,?_⟩
 subst hsize
 subst hby
 have hs:n+m≤9223372036854775807:=by simp only [maxLen] at h63;omega
 rcases hown.2 with ⟨rfl,rfl⟩|⟨g,cap,cur,rfl,hbg,hg,hnc,hcm,hcs,htake⟩
 ·
  have k:=run_append_nil (P:=P) w t ty e i z ht hi hz a m c news hl hnews hm (by omega) (by have hb:=hbytes;simp only [Nat.zero_add] at hb;omega)
  rw [hr] at k
  injection k with k1 k2
  exact ⟨_,_,by rw [k1,Nat.zero_add],.inr rfl⟩
 ·
  by_cases hroom:n+m≤cap
  ·
   have hfit:n*i.size+news.length≤cur.size:=by rw [hl,hcs,←Nat.add_mul];exact Nat.mul_le_mul_right _ hroom
   have k:=run_append_room (P:=P) w t ty e i ht hi g n cap cur hg a m c news hl hnews h1 hroom hfit
   rw [hr] at k
   injection k with k1 k2
   exact ⟨_,_,k1,.inl rfl⟩
  ·
   have k:=run_append_grow (P:=P) w t ty e i z ht hi hz ⟨g,0,none⟩ n cap xs hown.1 (hown.cells (g:=g) rfl) a m c news hl hnews (by omega) (by omega) (growslice_fits (by omega) hbytes)
   rw [hr] at k
   injection k with k1 k2
   exact ⟨_,_,k1,.inr rfl⟩
theorem wp_append_to {o:Oper} {a:Act} {K:Act→World→Prop} {Q:Exit→Act→World→Prop} (s x:Operand) (t:TypeId)
  (ho:o.op = .call { callee:=.builtin .append,args:=#[s,x],argTypes:=#[t,t] })
  (base:Nat) (e:TypeId) (i:TypeInfo) (z:Value) (size bytes:Nat) (ht:P.underlying t=some (.slice e)) (hi:P.info? e=some i) (hz:i.zero=some z)
  (hsize:i.size=size) (hby:i.bytes=bytes) (hzs:z.cells.size=size) (hsz:0<size)
  (v:Value) (n:Nat) (xs:List Value) (hs:a.eval s=v) (hown:w.ownsRow base e size v n xs)
  (ad:Addr) (m c:Nat) (news:List Value) (hx:a.eval x = .slice (some ad) m c) (hl:news.length=m*size) (hnews:∀ j u,news[j]?=some u→w.cell? (ad.add j)=some u) (h1:∀ u∈news,u.oneCell'=true)
  (h63:n+m≤maxLen) (hbytes:(n+m)*bytes≤140737488355328) (hbase:base≤w.heap.size) (hm:0<m)
  (h:∀ g cap w',w'.ownsRow base e size (.slice (some ⟨g,0,none⟩) (n+m) cap) (n+m) (xs++news)→w.grownBy w' v.ownBlock→(v.ownBlock=some g∨g=w.heap.size)→K (a.put o.dst (.slice (some ⟨g,0,none⟩) (n+m:Nat) cap)) w'):o.wp P a w K Q:=by
 obtain ⟨v',w',hr,h2,h3,g,cap,rfl,h4⟩:=append_to (P:=P) (w:=w) base t o.type e i z size bytes ht hi hz hsize hby hzs hsz v n xs hown ad m c news hl hnews h1 h63 hbytes hbase hm
 unfold Oper.wp execOp
 simp only [ho,resolve,invoke,builtin,Sem.run_bind,Sem.run_pure,Result.andThen_ok,List.map_toArray,List.map_cons,List.map_nil,hs,hx,hr]
 exact h g cap w' h2 h3 h4
theorem wpList_append_to {ops:Array Oper} {rest:List Oper} {o:Oper} {a:Act} {Q:Exit→Act→World→Prop} (hgd:o.guard=none) (s x:Operand) (t:TypeId)
  (ho:o.op = .call { callee:=.builtin .append,args:=#[s,x],argTypes:=#[t,t] })
  (base:Nat) (e:TypeId) (i:TypeInfo) (z:Value) (size bytes:Nat) (ht:P.underlying t=some (.slice e)) (hi:P.info? e=some i) (hz:i.zero=some z)
  (hsize:i.size=size) (hby:i.bytes=bytes) (hzs:z.cells.size=size) (hsz:0<size)
  (v:Value) (n:Nat) (xs:List Value) (hs:a.eval s=v) (hown:w.ownsRow base e size v n xs)
  (ad:Addr) (m c:Nat) (news:List Value) (hx:a.eval x = .slice (some ad) m c) (hl:news.length=m*size) (hnews:∀ j u,news[j]?=some u→w.cell? (ad.add j)=some u) (h1:∀ u∈news,u.oneCell'=true)
  (h63:n+m≤maxLen) (hbytes:(n+m)*bytes≤140737488355328) (hbase:base≤w.heap.size) (hm:0<m)
  (h:∀ g cap w',w'.ownsRow base e size (.slice (some ⟨g,0,none⟩) (n+m) cap) (n+m) (xs++news)→w.grownBy w' v.ownBlock→(v.ownBlock=some g∨g=w.heap.size)→wpList P ops Q rest (a.put o.dst (.slice (some ⟨g,0,none⟩) (n+m:Nat) cap)) w'):wpList P ops Q (o::rest) a w :=
 wpList_plain hgd fun _ hK=>wp_append_to s x t ho base e i z size bytes ht hi hz hsize hby hzs hsz v n xs hs hown ad m c news hx hl hnews h1 h63 hbytes hbase hm fun g cap w' h2 h3 h4=>hK _ _ (h g cap w' h2 h3 h4)
end
def exL (x:Ex) (c:Option Addr) (cp:Nat):List Value:=[.int .i64 x.k,.int .i64 x.n,.string x.s,.slice c x.l.length cp]
theorem HalfX.beyond {w w':World} {B C cb:Nat} {e:Ex} {a:Option Addr} (h:HalfX w B C e a) (hg:w.grownBy w' (some cb)) (hB:C≤cb):HalfX w' B C e a:=by
 obtain ⟨F,h1,h2,h3⟩:=h
 exact ⟨F,OwX.keep e a F (fun b hF=>hg.block b (OwX.lt e a F h1 b hF) (fun e=>by have:=(h3 b hF).2;simp at e;omega)) h1,h2,h3⟩
theorem row_take {w:World} {B g n cap:Nat} {t:TypeId} {cs:List Value} (h:w.ownsRow B t 4 (.slice (some ⟨g,0,none⟩) n cap) n cs):∃ cur:Array Value,w.heap[g]?=some (.cells cur t (0,0))∧n*4≤cur.size∧B≤g∧∀ j,j<n*4→cur[j]?=cs[j]?:=by
 obtain ⟨hl,h|⟨g',cap',cur,he,hB,hh,hc,hm,hz,ht⟩⟩:=h
 · cases h.1
 ·
  cases he
  refine ⟨cur,hh,by rw [hz];exact Nat.mul_le_mul_right _ hc,hB,fun j hj=>?_⟩
  rw [←ht,List.getElem?_take_of_lt hj]
  simp
theorem HalfX.row1 {w:World} {B M:Nat} {x:Ex} {c:Option Addr} {cp g cap:Nat} {t:TypeId} (h:HalfX w B M x c) (ho:w.ownsRow M t 4 (.slice (some ⟨g,0,none⟩) 1 cap) 1 (exL x c cp)) (hB:B≤M) (k n:Int) (s:ByteArray):NewX w B ⟨k,n,s,[x]⟩ (some ⟨g,0,none⟩):=by
 obtain ⟨F,h1,h2,h3⟩:=h
 obtain ⟨cur,hh,hz,hg,hc⟩:=row_take ho
 refine ⟨g::F,(OwX_eq _ _ _ _).2 (.inr ⟨g,cur,t,[F],rfl,hh,hz,rfl,by simp,fun i hi=>?_⟩),List.nodup_cons.2 ⟨fun h=>by have:=(h3 _ h).2;omega,h2⟩,fun b hb=>?_⟩
 ·
  have hi:i<1:=hi
  obtain rfl:i=0:=by omega
  exact ⟨(hc 0 (by omega)).trans rfl,(hc 1 (by omega)).trans rfl,(hc 2 (by omega)).trans rfl,c,cp,(hc 3 (by omega)).trans rfl,h1⟩
 ·
  rcases List.mem_cons.1 hb with rfl|hb
  · omega
  · exact (h3 b hb).1
theorem HalfX.row2 {w:World} {B M C D:Nat} {x y:Ex} {c d:Option Addr} {cp dp g cap:Nat} {t:TypeId} (h:HalfX w B M x c) (k:HalfX w C D y d) (ho:w.ownsRow M t 4 (.slice (some ⟨g,0,none⟩) 2 cap) 2 (exL x c cp++exL y d dp)) (hB:B≤M) (hM:M≤C) (hg:g<C∨D≤g) (k' n:Int) (s:ByteArray):NewX w B ⟨k',n,s,[x,y]⟩ (some ⟨g,0,none⟩):=by
 obtain ⟨F,h1,h2,h3⟩:=h
 obtain ⟨G,k1,k2,k3⟩:=k
 obtain ⟨cur,hh,hz,hgM,hc⟩:=row_take ho
 refine ⟨g::(F++G),(OwX_eq _ _ _ _).2 (.inr ⟨g,cur,t,[F,G],rfl,hh,hz,rfl,by simp,fun i hi=>?_⟩),List.nodup_cons.2 ⟨fun h=>?_,List.nodup_append.2 ⟨h2,k2,fun a ha b hb e=>?_⟩⟩,fun b hb=>?_⟩
 ·
  have hi:i<2:=hi
  have hi2:i=0∨i=1:=by omega
  rcases hi2 with rfl|rfl
  · exact ⟨(hc 0 (by omega)).trans rfl,(hc 1 (by omega)).trans rfl,(hc 2 (by omega)).trans rfl,c,cp,(hc 3 (by omega)).trans rfl,h1⟩
  · exact ⟨(hc 4 (by omega)).trans rfl,(hc 5 (by omega)).trans rfl,(hc 6 (by omega)).trans rfl,d,dp,(hc 7 (by omega)).trans rfl,k1⟩
 ·
  rcases List.mem_append.1 h with h|h
  · have:=(h3 _ h).2;omega
  · have:=k3 _ h;omega
 ·
  subst e
  have:=(h3 _ ha).2
  have:=(k3 _ hb).1
  omega
 ·
  rcases List.mem_cons.1 hb with rfl|hb
  · omega
  ·
   rcases List.mem_append.1 hb with hb|hb
   · exact (h3 b hb).1
   · have:=(k3 b hb).1;omega
end
def lenV:Value→Nat
 | .slice _ n _ => n
 | _ => 0
theorem Rq.own {w wr w':World} {rb:Nat} {la:Option Addr} {cap:Nat} {ts:List Tk} {k:Nat} {bad:Bool} {o:Option Nat} (h:Rq w wr rb la cap ts k bad) (hg:wr.grownBy w' o) (ho:∀ g,o=some g→w.heap.size≤g):Rq w w' rb la cap ts k bad:=by
 have hl:=h.lt
 obtain ⟨g,hg',hge⟩:∃ g,wr.grownBy w' (some g)∧w.heap.size≤g:=by
  cases o with
  | none => exact ⟨w.heap.size, ⟨hg.os, hg.tape, hg.output, hg.size, fun k hk _ => hg.block k hk (by simp)⟩, Nat.le_refl _⟩
  | some g => exact ⟨g, hg, ho g rfl⟩
 refine ⟨⟨(hg'.block rb h.rz.lt (fun e=>by cases e;omega)).trans h.rz.row,h.rz.toks.past hg' ?_,h.rz.far,h.rz.le⟩,grownBy_own h.gr hg' (fun g' e=>by cases e;exact hge),hl,h.tk⟩
 rcases h.tk with h|h
 · exact .inl h
 · exact .inr fun ad e=>by have:=h ad e;omega
theorem read_on {ts:List Tk} {e:Ex} {k1 k2:Nat} (h:OutG (readF 6 (ts.drop k1)) ts false e k2 false) (h1:k1≤ts.length):k1<k2:=by
 have h:=h.2 rfl
 cases e1:readF 6 (ts.drop k1) with
 | none => rw [e1] at h; cases h
 | some p =>
  obtain ⟨x,q⟩:=p
  rw [e1] at h
  obtain ⟨_,_,rfl⟩:=h
  have:=read_lt 6 _ _ _ e1
  simp only [List.length_drop] at this
  omega
theorem cell_newL (W:World) (cs:Array Value) (t:TypeId):∀ j u,cs.toList[j]?=some u→(W.alloc (.cells cs t)).cell? ((⟨W.heap.size,0,none⟩:Addr).add j)=some u:=by
 intro j u hu
 have h:(W.alloc (.cells cs t)).cell? ⟨W.heap.size,j,none⟩=some u:=by rw [World.cell?_alloc_at _ _ _ _ rfl];simpa using hu
 unfold Addr.add
 by_cases h0:j=0
 · subst h0;simpa using h
 · simpa [h0] using h
theorem lst13S (rb:Nat) (la:Option Addr) (cap:Nat) (ts:List Tk) (k:Nat) (bad:Bool) (w:World) (hl:ts.length≤1048576) (h:Rz w rb la cap ts k bad):Calls Tryz.prog 206 #[.pointer (some ⟨rb,0,none⟩)] w (LsR (pLs (ts.drop k)) rb la cap ts bad w):=by
 have FN:=hide (fun w' (l:List Ex) c cp k' bad' (h2:NewX w' w.heap.size ⟨0,0,⟨#[]⟩,l⟩ c) (h3:Rz w' rb la cap ts k' bad') (h4:w.grownBy w' (some rb)) (h5:OutG (pLs (ts.drop k)) ts bad l k' bad')=>(show LsR (pLs (ts.drop k)) rb la cap ts bad w (.returned (.slice c l.length cp)) w' from ⟨l,c,cp,k',bad',rfl,h2,h3,h4,h5⟩))
 have H0:=hide (h.start.later (below_new w (.cells #[] 26)))
 have A0:=hide (ApL.zero (w:=w.alloc (.cells #[] 26)) (B:=w.heap.size) (M:=(w.alloc (.cells #[] 26)).heap.size) (Nat.le_refl _) (by simp) Array.getElem?_push_size)
 have L0:=hide (LsI.zero ts k bad)
 obtain ⟨i0,hi,hz0,hz1,hz2⟩:=info_parts infoX
 generalize LsR (pLs (ts.drop k)) rb la cap ts bad w=X at *
 clear h
 go_enter Tryz.func206,Tryz.ntmps206
 go_wp2
 generalize w.alloc (.cells #[] 26)=W at *
 go_loopw [3,4] (fun v a wr=>∃ (acc:List Ex) (k1:Nat) (b1 ag:Bool),a = .bool ag∧(ag=true→acc.length≤k1∧LsI ts k bad acc k1 b1)∧(ag=false→OutG (pLs (ts.drop k)) ts bad acc k1 b1)∧Rq w wr rb la cap ts k1 b1∧ApL wr w.heap.size acc v wr.heap.size) (fun v _ _=>ts.length+1-lenV v)
 case atStart=>exact ⟨[],k,bad,true,rfl,fun _=>⟨Nat.zero_le _,uh L0⟩,(fun e=>by cases e),uh H0,uh A0⟩
 case round =>
  clear H0 A0 L0
  obtain ⟨acc,k1,b1,ag,rfl,hy,hn,hq,hap⟩:=hrel
  obtain ⟨c0,c1,c2⟩:=hq.rz.cells
  obtain ⟨a5,c5,rfl⟩:=hap.form
  cases ag with
  | false =>
   have FO:=hide (uh FN wr acc a5 c5 k1 b1 (hap.done 0 0 ⟨#[]⟩).1 hq.rz hq.gr (hn rfl))
   clear hq hap hy hn FN
   generalize acc.length=an at *
   go_wp2
   exact uh FO
  | true =>
   obtain ⟨hk,hls⟩:=hy rfl
   have hk1:=hq.rz.le
   cases b1 with
   | true =>
    have FO:=hide (uh FN wr acc a5 c5 k1 true (hap.done 0 0 ⟨#[]⟩).1 hq.rz hq.gr hls.stop)
    clear hq hap hy hn FN hls
    generalize acc.length=an at *
    go_wp2
    exact uh FO
   | false =>
    have X1:=hide (readS_6 1 rfl rb la cap ts k1 false wr hl hq.rz)
    have HQ:=hide hq
    have AP:=hide hap
    have LS:=hide hls
    have BS:=hide (show w.heap.size≤wr.heap.size from hq.gr.size)
    clear hq hap hls hy hn FN
    go_wp2_with fail
    refine (uh X1).mono ?_
    rintro r w1 ⟨e,c,cp,k2,b2,rfl,hx,hr,hg,ho⟩
    have OO:=hide ho.g
    have H1:=hide ((uh HQ).next hr hg)
    have A1:=hide ((uh AP).grown hg (Nat.le_refl _) (uh HQ).lt)
    have S1:=hide hg.size
    have HX:=hide hx.half
    have AS:=hide (fun (w2 w3:World) (g cap':Nat) cs Fs h1 h2 h3 h4 h5 h6 hx hBM hM hM' ho hg hw=>ApL.step (w:=w2) (w':=w3) (B:=w.heap.size) (M:=wr.heap.size) (M':=w1.heap.size) (l:=acc) (v:=.slice a5 acc.length c5) (x:=e) (cs:=cs) (Fs:=Fs) (q:=c) (cp:=cp) (g:=g) (cap:=cap') h1 h2 h3 h4 h5 h6 hx hBM hM hM' ho hg hw)
    unfold xL at AS
    clear hx hr hg ho X1 HQ AP
    unfold Ex.cs
    simp only
    generalize e.s=ss at AS ⊢
    generalize e.k=kk at AS ⊢
    generalize e.n=nn at AS ⊢
    generalize e.l.length=ll at AS ⊢
    have hb2:=below_new w1 (.cells #[.int .i64 kk,.int .i64 nn,.string ss,.slice c ll cp] 26)
    have hb3:=below_new (w1.alloc (.cells #[.int .i64 kk,.int .i64 nn,.string ss,.slice c ll cp] 26)) (.cells #[.int .i64 kk,.int .i64 nn,.string ss,.slice c ll cp] 26)
    have hb23:=hb2.trans (hb3.mono hb2.size)
    have hz2':(w1.alloc (.cells #[.int .i64 kk,.int .i64 nn,.string ss,.slice c ll cp] 26)).heap.size=w1.heap.size+1:=by simp
    have hz3':((w1.alloc (.cells #[.int .i64 kk,.int .i64 nn,.string ss,.slice c ll cp] 26)).alloc (.cells #[.int .i64 kk,.int .i64 nn,.string ss,.slice c ll cp] 26)).heap.size=w1.heap.size+2:=by simp
    have H3:=hide (((uh H1).later hb2).later hb3)
    have G2:=hide (show (w1.alloc (.cells #[.int .i64 kk,.int .i64 nn,.string ss,.slice c ll cp] 26)).heap[w1.heap.size]?=some (.cells #[.int .i64 kk,.int .i64 nn,.string ss,.slice c ll cp] 26 (0,0)) from Array.getElem?_push_size)
    have A3:=hide ((uh A1).later hb23 (uh S1))
    have CN':=cell_newL (w1.alloc (.cells #[.int .i64 kk,.int .i64 nn,.string ss,.slice c ll cp] 26)) #[.int .i64 kk,.int .i64 nn,.string ss,.slice c ll cp] 26
    rw [hz2'] at CN'
    have CN:=hide CN'
    have HY:=hide ((uh HX).later hb23)
    have SZ:=hide hz3'
    clear hb2 hb3 hb23 hz2' hz3' CN' HX A1 H1
    obtain ⟨cs,Fs,a1,a2,a3,a4,a5',a6⟩:=uh A3
    have OW:=hide a1
    have SP:=hide (fun w2 g cp'=>uh AS ((w1.alloc (.cells #[.int .i64 kk,.int .i64 nn,.string ss,.slice c ll cp] 26)).alloc (.cells #[.int .i64 kk,.int .i64 nn,.string ss,.slice c ll cp] 26)) w2 g cp' cs Fs a1 a2 a3 a4 a5' a6 (uh HY) (uh BS) (uh S1) (by have:=uh SZ;omega))
    have BA:=hide (show w.heap.size≤((w1.alloc (.cells #[.int .i64 kk,.int .i64 nn,.string ss,.slice c ll cp] 26)).alloc (.cells #[.int .i64 kk,.int .i64 nn,.string ss,.slice c ll cp] 26)).heap.size by have:=uh SZ;have:=uh S1;have:=uh BS;omega)
    have WB:=hide (show ∀ g,(Value.slice a5 acc.length c5).ownBlock=some g→w.heap.size≤g from fun g hg=>(World.ownsRow.lt a1 g hg).1)
    have ON:=hide (show ∀ u∈([.int .i64 kk,.int .i64 nn,.string ss,.slice c ll cp]:List Value),u.oneCell'=true by intro u hu;simp only [List.mem_cons,List.not_mem_nil,or_false] at hu;rcases hu with rfl|rfl|rfl|rfl <;> rfl)
    clear a1 a2 a3 a4 a5' a6 A3 AS HY
    go_wp2_with (first|(refine storeM rfl 26 _ _ rfl #[.int .i64 kk,.int .i64 nn,.string ss,.slice c ll cp] rfl rfl _ szE rfl (ex_one _ _ _ _ _ _) ?_)|(refine wpList_load_row rfl 26 _ rfl w1.heap.size rfl 26 #[.int .i64 kk,.int .i64 nn,.string ss,.slice c ll cp] (0,0) _ (uh G2) Tryz.underlying26 rfl (by kernel_rfl) ?_)|(at_builtin;go_must (refine wpList_append_to rfl (.tmp 17) (.tmp 19) 24 rfl w.heap.size 26 i0 (.agg #[.int .i64 0,.int .i64 0,.string ⟨#[]⟩,.slice none 0 0]) 4 56 Tryz.underlying24 hi hz0 hz1 hz2 rfl (by decide) (.slice a5 acc.length c5) acc.length cs rfl (uh OW) ⟨w1.heap.size+1,0,none⟩ 1 1 [.int .i64 kk,.int .i64 nn,.string ss,.slice c ll cp] rfl rfl (uh CN) (uh ON) (by unfold maxLen;omega) (by omega) (uh BA) (by omega) ?_;intro g4 cap4 w4 hown4 hgrow4 hwh4;have A4:=hide (uh SP w4 g4 cap4 hown4 hgrow4 hwh4);have H4:=hide ((uh H3).own hgrow4 (uh WB));have X4:=hide (isS_any rb la cap ts k2 b2 (mkS 44) w4 hl (uh H4).rz);clear hown4 hgrow4 hwh4)))
    refine (uh X4).mono ?_
    rintro r w5 ⟨rfl,hr5,hg5⟩
    have H5:=hide ((uh H4).next hr5 hg5)
    have A5:=hide (((uh A4).grown hg5 (Nat.le_refl _) (uh H4).lt).upto hg5.size)
    clear hr5 hg5 X4 H4 A4
    go_wp2
    go_roundw
    case rel=>exact ⟨acc++[e],_,b2,_,rfl,(fun hs=>by
     obtain ⟨rfl,_,_⟩:=seeB_bad hs
     have:=read_on (uh OO) hk1
     rw [if_pos hs]
     exact ⟨by simp;omega,(uh LS).more (uh OO) hs⟩),(fun hs=>by
     rw [if_neg (by rw [hs];decide)]
     exact (uh LS).last (uh OO) hs),uh H5,uh A5⟩
    case measure=>simp only [lenV];omega
def EqP (e:Ex):Prop:=∀ (a b:Option Addr) (c1 c2:Nat) (w:World),RdX w 0 e a→RdX w 0 e b→e.sz≤1048576→Calls Tryz.prog 142 #[.agg (e.cs a c1),.agg (e.cs b c2)] w fun r w'=>r = .returned (.bool true)∧Below w.heap.size w w'
theorem eqXS_of (e:Ex) (ih:∀ i,i<e.l.length→EqP (xAt e.l i)) (a b:Option Addr) (c1 c2:Nat) (w:World) (h1:RdX w 0 e a) (h2:RdX w 0 e b) (hz:e.sz≤1048576) :
  Calls Tryz.prog 87 #[.slice a e.l.length c1,.slice b e.l.length c2] w fun r w'=>r = .returned (.bool true)∧Below w.heap.size w w':=by
 have hsz:=sz_is e
 rw [RdX_eq] at h1 h2
 have hp:∀ i,i<e.l.length→(xAt e.l i).sz≤1048576:=fun i hi=>by have:=sz_part hi;omega
 have hm:e.l.length≤1048576:=by omega
 clear hsz hz
 generalize e.l=l at *
 obtain ⟨len,hl⟩:∃ len,l.length=len:=⟨_,rfl⟩
 rw [hl] at hm ih h1 h2 hp ⊢
 go_enter Tryz.func87,Tryz.ntmps87
 go_wp2
 go_loopw [5] (fun i wr=>∃ (k:Nat) (y:Sub w.heap.size w),k≤len∧i = .int .i64 k∧wr=y.w) (fun i _=>len-(intOf i).toNat)
 case atStart=>exact ⟨0,⟨w,Below.refl _ _⟩,Nat.zero_le _,rfl,rfl⟩
 case round =>
  obtain ⟨k,x,hk,rfl,rfl⟩:=hrel
  by_cases hlt:k<len
  ·
   rcases h1 with h0|⟨p,po,rfl,_,hp1,hpc⟩
   · rw [h0] at hl;simp at hl;omega
   rcases h2 with h0|⟨q,qo,rfl,_,hq1,hqc⟩
   · rw [h0] at hl;simp at hl;omega
   obtain ⟨e0,e1,e2,pc,pp,e3,e4⟩:=hpc k (by omega)
   obtain ⟨g0,g1,g2,qc,qp,g3,g4⟩:=hqc k (by omega)
   have d0:∀ y:Sub w.heap.size w,y.w.cell? ⟨p,po+k*4,none⟩=_:=fun y=>(y.h.cell (p:=⟨p,_,none⟩) hp1).trans e0
   have d1:∀ y:Sub w.heap.size w,y.w.cell? ⟨p,po+k*4+1,none⟩=_:=fun y=>(y.h.cell (p:=⟨p,_,none⟩) hp1).trans e1
   have d2:∀ y:Sub w.heap.size w,y.w.cell? ⟨p,po+k*4+2,none⟩=_:=fun y=>(y.h.cell (p:=⟨p,_,none⟩) hp1).trans e2
   have d3:∀ y:Sub w.heap.size w,y.w.cell? ⟨p,po+k*4+3,none⟩=_:=fun y=>(y.h.cell (p:=⟨p,_,none⟩) hp1).trans e3
   have f0:∀ y:Sub w.heap.size w,y.w.cell? ⟨q,qo+k*4,none⟩=_:=fun y=>(y.h.cell (p:=⟨q,_,none⟩) hq1).trans g0
   have f1:∀ y:Sub w.heap.size w,y.w.cell? ⟨q,qo+k*4+1,none⟩=_:=fun y=>(y.h.cell (p:=⟨q,_,none⟩) hq1).trans g1
   have f2:∀ y:Sub w.heap.size w,y.w.cell? ⟨q,qo+k*4+2,none⟩=_:=fun y=>(y.h.cell (p:=⟨q,_,none⟩) hq1).trans g2
   have f3:∀ y:Sub w.heap.size w,y.w.cell? ⟨q,qo+k*4+3,none⟩=_:=fun y=>(y.h.cell (p:=⟨q,_,none⟩) hq1).trans g3
   have HE:=hide (fun y:Sub w.heap.size w=>ih k hlt pc qc pp qp y.w (e4.later y.h) (g4.later y.h) (hp k hlt))
   have ne:=Sub.ne w.heap.size w
   have HZ:=hide (Nat.le_refl w.heap.size)
   clear e0 e1 e2 e3 e4 g0 g1 g2 g3 g4 hpc hqc ih hp
   unfold Ex.cs at HE
   generalize (xAt l k).s=ss at *
   generalize (xAt l k).k=kk at *
   generalize (xAt l k).n=nn at *
   generalize (xAt l k).l.length=ll at *
   go_wp2_with fail
   refine wp_region_sub x (by kernel_rfl) (by kernel_rfl) ?_
   repeat (go_big_quiet_step (first|(go_at_call 142;exact Sub.call (uh HZ) (uh HE _))))
   refine wpQuiet_nil ?_
   intro y
   go_wp2
   go_roundw
   case rel=>exact ⟨k+1,y,by omega,by go_num,rfl⟩
   case measure=>simp [intOf];omega
  ·
   go_wp2
   go_ret
   exact ⟨rfl,x.h⟩
theorem eqX_same (e:Ex):EqP e:=by
 induction e using Ex.ind with
 | h k n s l ih =>
  intro a b c1 c2 w h1 h2 hz
  have e2:(Ex.mk k n s l).l=l:=rfl
  have hbW:Below w.heap.size w ((w.alloc (.cells #[.int .i64 k,.int .i64 n,.string s,.slice a l.length c1] 26)).alloc (.cells #[.int .i64 k,.int .i64 n,.string s,.slice b l.length c2] 26)):=((Below.refl _ _).alloc (Nat.le_refl _) _).alloc (by simp) _
  have HZ:=eqXS_of ⟨k,n,s,l⟩ (fun i hi=>ih _ (xAt_mem hi)) a b c1 c2 _ (h1.later hbW) (h2.later hbW) hz
  rw [e2] at HZ
  have HS:=hide (HZ.mono (R':=fun r w'=>r = .returned (.bool true)∧Below w.heap.size w w') (by rintro r w' ⟨rfl,h⟩;exact ⟨rfl,hbW.trans (h.mono hbW.size)⟩))
  unfold Ex.cs
  simp only
  clear h1 h2 hz ih HZ hbW e2
  generalize l.length=ll at *
  go_enter Tryz.func142,Tryz.ntmps142
  go_wp2_with (go_at_call 87;refine (uh HS).mono ?_;rintro e w1 ⟨rfl,hb1⟩)
  go_ret
  exact ⟨rfl,hb1⟩
theorem eqA_same (a:Ag) (b c:Option Addr) (cp dp:Nat) (w:World) (h1:RdX w 0 a.e b) (h2:RdX w 0 a.e c) (hz:a.e.sz≤1048576):Calls Tryz.prog 86 #[.agg (a.cs b cp),.agg (a.cs c dp)] w fun r w'=>r = .returned (.bool true)∧Below w.heap.size w w':=by
 have B0:Below w.heap.size w ((w.alloc (.cells (a.cs b cp) 28)).alloc (.cells (a.cs c dp) 28)):=((Below.refl _ _).alloc (Nat.le_refl _) _).alloc (by simp) _
 have S:=hide (eqX_same a.e b c cp dp _ (h1.later B0) (h2.later B0) hz)
 have HB:=hide B0
 unfold Ex.cs at S
 unfold Ag.cs at S HB ⊢
 generalize a.e.l.length=ll at *
 generalize a.e.k=k at *
 generalize a.e.n=n at *
 generalize a.e.s=s at *
 generalize a.f=f at *
 generalize a.r=r at *
 clear h1 h2 hz B0
 go_enter Tryz.func86,Tryz.ntmps86
 go_wp2_with (go_at_call 142;refine (uh S).mono ?_;rintro e w1 ⟨rfl,hb1⟩)
 go_ret
 exact ⟨rfl,(uh HB).trans (hb1.mono (uh HB).size)⟩
theorem eqL_same (x:Ln) (p q:La) (w:World) (hp:RdL w x p) (hq:RdL w x q) (hz:SzL x) (hzl:(Ex.mk 0 0 E0 x.l).sz≤1048576):Calls Tryz.prog 31 #[.agg (x.cs p),.agg (x.cs q)] w fun r w'=>r = .returned (.bool true)∧Below w.heap.size w w':=by
 have b1:=below_new w (.cells (x.cs p) 30)
 have b2:=below_new (w.alloc (.cells (x.cs p) 30)) (.cells (x.cs q) 30)
 have hbW:=b1.trans (b2.mono b1.size)
 obtain ⟨W,hW⟩:∃ W,(w.alloc (.cells (x.cs p) 30)).alloc (.cells (x.cs q) 30)=W:=⟨_,rfl⟩
 have hpW:=hp.later hbW
 have hqW:=hq.later hbW
 have xl:w.heap.size+1<W.heap.size:=by rw [←hW];simp
 have xc:∀ (i:Nat) (v:Value),(x.cs p)[i]?=some v→∀ y:Sub W.heap.size W,y.w.cell? ⟨w.heap.size,i,none⟩=some v:=fun i v h y=>(y.h.cell (p:=⟨w.heap.size,i,none⟩) (by show w.heap.size<W.heap.size;omega)).trans (by rw [←hW];exact (b2.cell (p:=⟨w.heap.size,i,none⟩) (by simp)).trans (box17 w _ _ i v h))
 have xd:∀ (i:Nat) (v:Value),(x.cs q)[i]?=some v→∀ y:Sub W.heap.size W,y.w.cell? ⟨w.heap.size+1,i,none⟩=some v:=fun i v h y=>(y.h.cell (p:=⟨w.heap.size+1,i,none⟩) xl).trans (by rw [←hW];have:=box17 (w.alloc (.cells (x.cs p) 30)) (x.cs q) 30 i v h;rw [show (w.alloc (.cells (x.cs p) 30)).heap.size=w.heap.size+1 by simp] at this;exact this)
 rw [hW] at hbW hpW hqW
 obtain ⟨z,hz0⟩:∃ z:Sub W.heap.size W,(w.alloc (.cells (x.cs p) 30)).alloc (.cells (x.cs q) 30)=z.w:=⟨⟨W,Below.refl _ _⟩,hW⟩
 have ne:=Sub.ne W.heap.size W
 have HZ:=hide (Nat.le_refl W.heap.size)
 have HB:=hide (fun y:Sub W.heap.size W=>hbW.trans (y.h.mono hbW.size))
 obtain ⟨hza,hzb,hzc,hzd,hze⟩:=hz
 have C1:=hide (fun y:Sub W.heap.size W=>eqA_same x.src p.b1 q.b1 p.c1 q.c1 y.w (hpW.a.later y.h) (hqW.a.later y.h) hzb)
 have C2:=hide (fun y:Sub W.heap.size W=>eqA_same x.dst p.b2 q.b2 p.c2 q.c2 y.w (hpW.b.later y.h) (hqW.b.later y.h) hzc)
 have C3:=hide (fun y:Sub W.heap.size W=>(show Calls Tryz.prog 87 #[.slice p.b3 x.l.length p.c3,.slice q.b3 x.l.length q.c3] y.w fun r w'=>r = .returned (.bool true)∧Below y.w.heap.size y.w w' from eqXS_of ⟨0,0,E0,x.l⟩ (fun i hi=>eqX_same _) p.b3 q.b3 p.c3 q.c3 y.w (hpW.l.later y.h) (hqW.l.later y.h) hzl))
 have F0:∀ y:Sub W.heap.size W,y.w.cell? ⟨w.heap.size,0,none⟩=some (.int .i64 x.k):=xc 0 _ rfl
 have G0:∀ y:Sub W.heap.size W,y.w.cell? ⟨w.heap.size+1,0,none⟩=some (.int .i64 x.k):=xd 0 _ rfl
 have F1:∀ y:Sub W.heap.size W,y.w.cell? ⟨w.heap.size,1,none⟩=some (.string x.s):=xc 1 _ rfl
 have G1:∀ y:Sub W.heap.size W,y.w.cell? ⟨w.heap.size+1,1,none⟩=some (.string x.s):=xd 1 _ rfl
 have F2:∀ y:Sub W.heap.size W,y.w.cell? ⟨w.heap.size,2,none⟩=some (.int .i64 x.op):=xc 2 _ rfl
 have G2:∀ y:Sub W.heap.size W,y.w.cell? ⟨w.heap.size+1,2,none⟩=some (.int .i64 x.op):=xd 2 _ rfl
 have F3:∀ y:Sub W.heap.size W,y.w.cell? ⟨w.heap.size,3,none⟩=some (.int .i64 x.src.f):=xc 3 _ rfl
 have G3:∀ y:Sub W.heap.size W,y.w.cell? ⟨w.heap.size+1,3,none⟩=some (.int .i64 x.src.f):=xd 3 _ rfl
 have F4:∀ y:Sub W.heap.size W,y.w.cell? ⟨w.heap.size,4,none⟩=some (.int .i64 x.src.r):=xc 4 _ rfl
 have G4:∀ y:Sub W.heap.size W,y.w.cell? ⟨w.heap.size+1,4,none⟩=some (.int .i64 x.src.r):=xd 4 _ rfl
 have F5:∀ y:Sub W.heap.size W,y.w.cell? ⟨w.heap.size,5,none⟩=some (.int .i64 x.src.e.k):=xc 5 _ rfl
 have G5:∀ y:Sub W.heap.size W,y.w.cell? ⟨w.heap.size+1,5,none⟩=some (.int .i64 x.src.e.k):=xd 5 _ rfl
 have F6:∀ y:Sub W.heap.size W,y.w.cell? ⟨w.heap.size,6,none⟩=some (.int .i64 x.src.e.n):=xc 6 _ rfl
 have G6:∀ y:Sub W.heap.size W,y.w.cell? ⟨w.heap.size+1,6,none⟩=some (.int .i64 x.src.e.n):=xd 6 _ rfl
 have F7:∀ y:Sub W.heap.size W,y.w.cell? ⟨w.heap.size,7,none⟩=some (.string x.src.e.s):=xc 7 _ rfl
 have G7:∀ y:Sub W.heap.size W,y.w.cell? ⟨w.heap.size+1,7,none⟩=some (.string x.src.e.s):=xd 7 _ rfl
 have F8:∀ y:Sub W.heap.size W,y.w.cell? ⟨w.heap.size,8,none⟩=some (.slice p.b1 x.src.e.l.length p.c1):=xc 8 _ rfl
 have G8:∀ y:Sub W.heap.size W,y.w.cell? ⟨w.heap.size+1,8,none⟩=some (.slice q.b1 x.src.e.l.length q.c1):=xd 8 _ rfl
 have F9:∀ y:Sub W.heap.size W,y.w.cell? ⟨w.heap.size,9,none⟩=some (.int .i64 x.dst.f):=xc 9 _ rfl
 have G9:∀ y:Sub W.heap.size W,y.w.cell? ⟨w.heap.size+1,9,none⟩=some (.int .i64 x.dst.f):=xd 9 _ rfl
 have F10:∀ y:Sub W.heap.size W,y.w.cell? ⟨w.heap.size,10,none⟩=some (.int .i64 x.dst.r):=xc 10 _ rfl
 have G10:∀ y:Sub W.heap.size W,y.w.cell? ⟨w.heap.size+1,10,none⟩=some (.int .i64 x.dst.r):=xd 10 _ rfl
 have F11:∀ y:Sub W.heap.size W,y.w.cell? ⟨w.heap.size,11,none⟩=some (.int .i64 x.dst.e.k):=xc 11 _ rfl
 have G11:∀ y:Sub W.heap.size W,y.w.cell? ⟨w.heap.size+1,11,none⟩=some (.int .i64 x.dst.e.k):=xd 11 _ rfl
 have F12:∀ y:Sub W.heap.size W,y.w.cell? ⟨w.heap.size,12,none⟩=some (.int .i64 x.dst.e.n):=xc 12 _ rfl
 have G12:∀ y:Sub W.heap.size W,y.w.cell? ⟨w.heap.size+1,12,none⟩=some (.int .i64 x.dst.e.n):=xd 12 _ rfl
 have F13:∀ y:Sub W.heap.size W,y.w.cell? ⟨w.heap.size,13,none⟩=some (.string x.dst.e.s):=xc 13 _ rfl
 have G13:∀ y:Sub W.heap.size W,y.w.cell? ⟨w.heap.size+1,13,none⟩=some (.string x.dst.e.s):=xd 13 _ rfl
 have F14:∀ y:Sub W.heap.size W,y.w.cell? ⟨w.heap.size,14,none⟩=some (.slice p.b2 x.dst.e.l.length p.c2):=xc 14 _ rfl
 have G14:∀ y:Sub W.heap.size W,y.w.cell? ⟨w.heap.size+1,14,none⟩=some (.slice q.b2 x.dst.e.l.length q.c2):=xd 14 _ rfl
 have F15:∀ y:Sub W.heap.size W,y.w.cell? ⟨w.heap.size,15,none⟩=some (.int .i64 x.n):=xc 15 _ rfl
 have G15:∀ y:Sub W.heap.size W,y.w.cell? ⟨w.heap.size+1,15,none⟩=some (.int .i64 x.n):=xd 15 _ rfl
 have F16:∀ y:Sub W.heap.size W,y.w.cell? ⟨w.heap.size,16,none⟩=some (.slice p.b3 x.l.length p.c3):=xc 16 _ rfl
 have G16:∀ y:Sub W.heap.size W,y.w.cell? ⟨w.heap.size+1,16,none⟩=some (.slice q.b3 x.l.length q.c3):=xd 16 _ rfl
 unfold Ag.cs at C1 C2
 unfold Ln.cs at hz0 ⊢
 clear hp hq hpW hqW xl hW xc xd hbW b1 b2 hza hzb hzc hzd hze hzl
 generalize x.src.f=sf at *
 generalize x.src.r=sr at *
 generalize x.src.e.k=sk at *
 generalize x.src.e.n=sn at *
 generalize x.src.e.s=ss at *
 generalize x.src.e.l.length=sl at *
 generalize x.dst.f=df at *
 generalize x.dst.r=dr at *
 generalize x.dst.e.k=dk at *
 generalize x.dst.e.n=dn at *
 generalize x.dst.e.s=ds at *
 generalize x.dst.e.l.length=dl at *
 generalize x.k=k at *
 generalize x.s=s at *
 generalize x.op=op at *
 generalize x.n=n at *
 generalize x.l.length=ll at *
 generalize p.b1=b1 at *
 generalize p.c1=c1 at *
 generalize p.b2=b2 at *
 generalize p.c2=c2 at *
 generalize p.b3=b3 at *
 generalize p.c3=c3 at *
 generalize q.b1=qb1 at *
 generalize q.c1=qc1 at *
 generalize q.b2=qb2 at *
 generalize q.c2=qc2 at *
 generalize q.b3=qb3 at *
 generalize q.c3=qc3 at *
 go_enter Tryz.func31,Tryz.ntmps31
 go_wp2_with (first|(go_at_call_of 86 sf;refine (Sub.call (uh HZ) (uh C1 _)).mono ?_;rintro r _ ⟨rfl,z2,rfl⟩)|(go_at_call_of 86 df;refine (Sub.call (uh HZ) (uh C2 _)).mono ?_;rintro r _ ⟨rfl,z2,rfl⟩)|(go_at_call 87;refine (Sub.call (uh HZ) (uh C3 _)).mono ?_;rintro r _ ⟨rfl,z2,rfl⟩))
 go_ret
 exact ⟨rfl,uh HB _⟩
structure NwL (w:World) (B:Nat) (x:Ln) (p:La):Prop where
 a:NewX w B x.src.e p.b1
 b:NewX w B x.dst.e p.b2
 l:NewX w B ⟨0,0,E0,x.l⟩ p.b3
theorem NwL.rd {w:World} {B:Nat} {x:Ln} {p:La} (h:NwL w B x p):RdL w x p:=⟨h.a.rd.lower (Nat.zero_le _) _ _,h.b.rd.lower (Nat.zero_le _) _ _,h.l.rd.lower (Nat.zero_le _) _ _⟩
section
theorem szLn:(Tryz.prog.info? 30).map (·.size)=some 17:=by kernel_rfl
def LnR (o:Option (Ln × List Tk)) (rb:Nat) (la:Option Addr) (cap:Nat) (ts:List Tk) (bad:Bool) (w:World) (r:Ending) (w':World):Prop :=
 ∃ (x:Ln) (p:La) (k':Nat) (bad':Bool),r = .returned (.agg (x.cs p))∧NwL w' w.heap.size x p∧Rz w' rb la cap ts k' bad'∧w.grownBy w' (some rb)∧OutG o ts bad x k' bad'
structure Lx (w wr:World) (rb:Nat) (la:Option Addr) (cap:Nat) (ts:List Tk) (k:Nat) (bad:Bool) (row:Array Value):Prop where
 q:Rq w wr rb la cap ts k bad
 res:wr.heap[w.heap.size]?=some (.cells #[.int .i64 0,.string ⟨#[]⟩,.int .i64 0,.int .i64 0,.int .i64 0,.int .i64 0,.int .i64 0,.string ⟨#[]⟩,.slice none 0 0,.int .i64 0,.int .i64 0,.int .i64 0,.int .i64 0,.string ⟨#[]⟩,.slice none 0 0,.int .i64 0,.slice none 0 0] 30 (0,0))
 box:wr.heap[w.heap.size+1]?=some (.cells row 30 (0,0))
section
variable {w wr w':World} {rb:Nat} {la:Option Addr} {cap:Nat} {ts:List Tk} {k k':Nat} {bad b':Bool} {row row':Array Value}
theorem Lx.next (h:Lx w wr rb la cap ts k bad row) (hr:Rz w' rb la cap ts k' b') (hg:wr.grownBy w' (some rb)):Lx w w' rb la cap ts k' b' row:=⟨h.q.next hr hg,h.q.blk hg h.res (Nat.le_refl _),h.q.blk hg h.box (Nat.le_succ _)⟩
theorem Lx.later (h:Lx w wr rb la cap ts k bad row) (hb:Below wr.heap.size wr w'):Lx w w' rb la cap ts k bad row:=⟨h.q.later hb,row_keep h.res hb,row_keep h.box hb⟩
theorem Lx.set (h:Lx w wr rb la cap ts k bad row) (i:Nat) (v:Value) (hb:(wr.setCell ⟨w.heap.size+1,i,none⟩ v).heap[w.heap.size+1]?=some (.cells row' 30 (0,0))):Lx w (wr.setCell ⟨w.heap.size+1,i,none⟩ v) rb la cap ts k bad row':=⟨h.q.cellG (Nat.le_succ _) i v,(heap_setCell_other _ _ _ _ (by simp)).trans h.res,hb⟩
theorem Lx.new (h:Rz w rb la cap ts k bad) (row:Array Value):Lx w ((w.alloc (.cells #[.int .i64 0,.string ⟨#[]⟩,.int .i64 0,.int .i64 0,.int .i64 0,.int .i64 0,.int .i64 0,.string ⟨#[]⟩,.slice none 0 0,.int .i64 0,.int .i64 0,.int .i64 0,.int .i64 0,.string ⟨#[]⟩,.slice none 0 0,.int .i64 0,.slice none 0 0] 30)).alloc (.cells row 30)) rb la cap ts k bad row:=by
 have h1:(w.alloc (.cells #[.int .i64 0,.string ⟨#[]⟩,.int .i64 0,.int .i64 0,.int .i64 0,.int .i64 0,.int .i64 0,.string ⟨#[]⟩,.slice none 0 0,.int .i64 0,.int .i64 0,.int .i64 0,.int .i64 0,.string ⟨#[]⟩,.slice none 0 0,.int .i64 0,.slice none 0 0] 30)).heap.size=w.heap.size+1:=by simp
 refine ⟨(h.start.later (below_new _ _)).later (below_new _ _),row_keep (heap_alloc_new w _) (below_new _ _),?_⟩
 rw [←h1];exact Array.getElem?_push_size
end
theorem ins_halt (rb:Nat) (la:Option Addr) (cap:Nat) (ts:List Tk) (k:Nat) (bad:Bool) (w:World) (hl:ts.length≤1048576) (h:Rz w rb la cap ts k bad):Calls Tryz.prog 175 #[.pointer (some ⟨rb,0,none⟩),.int .i64 22] w (LnR (pIns 22 (ts.drop k)) rb la cap ts bad w):=by
 have F:=hide (fun w' (hz:Rz w' rb la cap ts k bad) hg=>(show LnR (pIns 22 (ts.drop k)) rb la cap ts bad w (.returned (.agg #[.int .i64 3,.string ⟨#[]⟩,.int .i64 22,.int .i64 0,.int .i64 0,.int .i64 0,.int .i64 0,.string ⟨#[]⟩,.slice none 0 0,.int .i64 0,.int .i64 0,.int .i64 0,.int .i64 0,.string ⟨#[]⟩,.slice none 0 0,.int .i64 0,.slice none 0 0])) w' from ⟨⟨3,⟨#[]⟩,22,a0,a0,0,[]⟩,⟨none,0,none,0,none,0⟩,k,bad,rfl,⟨NewX.nil _ _ _ _ _ _,NewX.nil _ _ _ _ _ _,NewX.nil _ _ _ _ _ _⟩,hz,hg,by rw [pIns_halt];exact OutG.ret _ _ _⟩))
 have L0:=hide (Lx.new h #[.int .i64 3,.string ⟨#[]⟩,.int .i64 22,.int .i64 0,.int .i64 0,.int .i64 0,.int .i64 0,.string ⟨#[]⟩,.slice none 0 0,.int .i64 0,.int .i64 0,.int .i64 0,.int .i64 0,.string ⟨#[]⟩,.slice none 0 0,.int .i64 0,.slice none 0 0])
 generalize LnR (pIns 22 (ts.drop k)) rb la cap ts bad w=R at *
 clear h
 go_enter Tryz.func175,Tryz.ntmps175
 go_wp2_with (first|(refine wpList_load_row rfl 30 _ rfl (w.heap.size+1) rfl 30 #[.int .i64 3,.string ⟨#[]⟩,.int .i64 22,.int .i64 0,.int .i64 0,.int .i64 0,.int .i64 0,.string ⟨#[]⟩,.slice none 0 0,.int .i64 0,.int .i64 0,.int .i64 0,.int .i64 0,.string ⟨#[]⟩,.slice none 0 0,.int .i64 0,.slice none 0 0] (0,0) _ ((uh L0).box) Tryz.underlying30 rfl (by kernel_rfl) ?_)|(refine wpList_store_row rfl 30 _ _ rfl w.heap.size #[.int .i64 3,.string ⟨#[]⟩,.int .i64 22,.int .i64 0,.int .i64 0,.int .i64 0,.int .i64 0,.string ⟨#[]⟩,.slice none 0 0,.int .i64 0,.int .i64 0,.int .i64 0,.int .i64 0,.string ⟨#[]⟩,.slice none 0 0,.int .i64 0,.slice none 0 0] rfl rfl 30 _ ((uh L0).res) szLn rfl (by simp [Value.oneCell']) ?_))
 refine bodyPost_ret (results_cell_row (P:=Tryz.prog) rfl _ _ w.heap.size 30 #[.int .i64 3,.string ⟨#[]⟩,.int .i64 22,.int .i64 0,.int .i64 0,.int .i64 0,.int .i64 0,.string ⟨#[]⟩,.slice none 0 0,.int .i64 0,.int .i64 0,.int .i64 0,.int .i64 0,.string ⟨#[]⟩,.slice none 0 0,.int .i64 0,.slice none 0 0] (0,0) _ rfl (setRow_heap _ _ _ _ _ _ (uh L0).res) Tryz.underlying30 rfl szLn) rfl ?_
 exact uh F _ ((uh L0).q.row _).rz ((uh L0).q.row _).gr
theorem ins_rts (rb:Nat) (la:Option Addr) (cap:Nat) (ts:List Tk) (k:Nat) (bad:Bool) (w:World) (hl:ts.length≤1048576) (h:Rz w rb la cap ts k bad):Calls Tryz.prog 175 #[.pointer (some ⟨rb,0,none⟩),.int .i64 16] w (LnR (pIns 16 (ts.drop k)) rb la cap ts bad w):=by
 have OO:=next_out ts k bad
 have X0':=hide (fun wr (hz:Rz wr rb la cap ts k bad)=>nextS_any rb la cap ts k bad wr hl hz)
 generalize nextT ts k bad=tt at OO X0'
 generalize nextK ts k bad=k1 at OO X0'
 generalize (!nextB ts k bad)=b1 at OO X0'
 have F:=hide (fun w' (hz:Rz w' rb la cap ts k1 b1) hg=>(show LnR (pIns 16 (ts.drop k)) rb la cap ts bad w (.returned (.agg #[.int .i64 3,.string ⟨#[]⟩,.int .i64 16,.int .i64 0,.int .i64 0,.int .i64 0,.int .i64 0,.string ⟨#[]⟩,.slice none 0 0,.int .i64 0,.int .i64 0,.int .i64 0,.int .i64 0,.string ⟨#[]⟩,.slice none 0 0,.int .i64 (regN tt),.slice none 0 0])) w' from ⟨⟨3,⟨#[]⟩,16,a0,a0,regN tt,[]⟩,⟨none,0,none,0,none,0⟩,k1,b1,rfl,⟨NewX.nil _ _ _ _ _ _,NewX.nil _ _ _ _ _ _,NewX.nil _ _ _ _ _ _⟩,hz,hg,by rw [pIns_rts];exact OO.bind (OutG.ret _ _ _)⟩))
 have L0:=hide (Lx.new h #[.int .i64 3,.string ⟨#[]⟩,.int .i64 16,.int .i64 0,.int .i64 0,.int .i64 0,.int .i64 0,.string ⟨#[]⟩,.slice none 0 0,.int .i64 0,.int .i64 0,.int .i64 0,.int .i64 0,.string ⟨#[]⟩,.slice none 0 0,.int .i64 0,.slice none 0 0])
 generalize LnR (pIns 16 (ts.drop k)) rb la cap ts bad w=R at *
 clear h OO
 have X1:=hide (uh X0' _ (uh L0).q.rz)
 clear X0'
 go_enter Tryz.func175,Tryz.ntmps175
 go_wp2_with fail
 refine (uh X1).mono ?_
 rintro r w1 ⟨rfl,hr,hg⟩
 have L1:=hide ((uh L0).next hr hg)
 have X2:=hide (rg13S tt w1)
 generalize regN tt=rn at F X2
 clear hr hg L0 X1
 go_wp2_with fail
 refine (uh X2).mono ?_
 rintro r w2 ⟨rfl,hb⟩
 have L2:=hide ((uh L1).later hb)
 have c15:=Lib.cell_of_heap (uh L2).box 15
 have fz:w2.frozen? ⟨w.heap.size+1,15,none⟩=false:=by have:=(uh L2).box;simp [World.frozen?,this]
 have L3:=hide ((uh L2).set 15 (.int .i64 rn) (row':=#[.int .i64 3,.string ⟨#[]⟩,.int .i64 16,.int .i64 0,.int .i64 0,.int .i64 0,.int .i64 0,.string ⟨#[]⟩,.slice none 0 0,.int .i64 0,.int .i64 0,.int .i64 0,.int .i64 0,.string ⟨#[]⟩,.slice none 0 0,.int .i64 rn,.slice none 0 0]) (by rw [heap_setCell_same _ _ 15 _ _ _ (uh L2).box];rfl))
 clear hb L1 X2 L2
 go_wp2_with (first|(refine wpList_load_row rfl 30 _ rfl (w.heap.size+1) rfl 30 #[.int .i64 3,.string ⟨#[]⟩,.int .i64 16,.int .i64 0,.int .i64 0,.int .i64 0,.int .i64 0,.string ⟨#[]⟩,.slice none 0 0,.int .i64 0,.int .i64 0,.int .i64 0,.int .i64 0,.string ⟨#[]⟩,.slice none 0 0,.int .i64 rn,.slice none 0 0] (0,0) _ ((uh L3).box) Tryz.underlying30 rfl (by kernel_rfl) ?_)|(refine wpList_store_row rfl 30 _ _ rfl w.heap.size #[.int .i64 3,.string ⟨#[]⟩,.int .i64 16,.int .i64 0,.int .i64 0,.int .i64 0,.int .i64 0,.string ⟨#[]⟩,.slice none 0 0,.int .i64 0,.int .i64 0,.int .i64 0,.int .i64 0,.string ⟨#[]⟩,.slice none 0 0,.int .i64 rn,.slice none 0 0] rfl rfl 30 _ ((uh L3).res) szLn rfl (by simp [Value.oneCell']) ?_))
 refine bodyPost_ret (results_cell_row (P:=Tryz.prog) rfl _ _ w.heap.size 30 #[.int .i64 3,.string ⟨#[]⟩,.int .i64 16,.int .i64 0,.int .i64 0,.int .i64 0,.int .i64 0,.string ⟨#[]⟩,.slice none 0 0,.int .i64 0,.int .i64 0,.int .i64 0,.int .i64 0,.string ⟨#[]⟩,.slice none 0 0,.int .i64 rn,.slice none 0 0] (0,0) _ rfl (setRow_heap _ _ _ _ _ _ (uh L3).res) Tryz.underlying30 rfl szLn) rfl ?_
 exact uh F _ ((uh L3).q.row _).rz ((uh L3).q.row _).gr
end
section
variable {P:Program}
theorem run_storeVar_part (w:World) (g off:Nat) (t ty:TypeId) (old cells row:Array Value) (hg:w.heap[g]?=some (.cells old t (0,0))) (hi:(P.info? ty).map (·.size)=some cells.size)
  (ho:off+cells.size≤old.size) (h1:cells.all (·.oneCell')=true) (he:(old.toList.take off++cells.toList++old.toList.drop (off+cells.size)).toArray=row) :
  (storeVar ty ⟨g,off,none⟩ (.agg cells)).run P w = .ok () (w.setRow g row):=by
 have:=run_storeCells_at P g off t cells.toList 0 old w hg (by simpa using ho) (fun v hv=>(Array.all_eq_true_iff_forall_mem.1 h1) v (by simpa using hv))
 simp only [Nat.add_zero,Array.length_toList] at this
 rw [he] at this
 cases hq:P.info? ty with
 | none => simp [hq] at hi
 | some i =>
  have hs:cells.size=i.size:=by simp [hq] at hi;omega
  simp [storeVar,sizeOf,typeInfo,hq,Value.cells,hs,this]
theorem wp_store_part {o:Oper} {a:Act} {w:World} {K:Act→World→Prop} {Q:Exit→Act→World→Prop} (ty:TypeId) (x y:Operand) (ho:o.op = .store ty x y)
  (g off:Nat) (cells:Array Value) (hx:a.eval x = .pointer (some ⟨g,off,none⟩)) (hy:a.eval y = .agg cells)
  (t:TypeId) (old row:Array Value) (hg:w.heap[g]?=some (.cells old t (0,0))) (hi:(P.info? ty).map (·.size)=some cells.size)
  (hold:off+cells.size≤old.size) (h1:cells.all (·.oneCell')=true) (he:(old.toList.take off++cells.toList++old.toList.drop (off+cells.size)).toArray=row)
  (h:K (a.put o.dst undef) (w.setRow g row)):o.wp P a w K Q:=by
 unfold Oper.wp execOp
 simp only [ho,hx,hy,Instr.storeAt,Instr.sureAddr,Sem.run_bind,Sem.run_pure,Result.andThen_ok,run_storeVar_part w g off t ty old cells row hg hi hold h1 he]
 exact h
theorem wpList_store_part {ops:Array Oper} {rest:List Oper} {o:Oper} {a:Act} {w:World} {Q:Exit→Act→World→Prop} (hgd:o.guard=none) (ty:TypeId) (x y:Operand) (ho:o.op = .store ty x y)
  (g off:Nat) (cells:Array Value) (hx:a.eval x = .pointer (some ⟨g,off,none⟩)) (hy:a.eval y = .agg cells)
  (t:TypeId) (old row:Array Value) (hg:w.heap[g]?=some (.cells old t (0,0))) (hi:(P.info? ty).map (·.size)=some cells.size)
  (hold:off+cells.size≤old.size) (h1:cells.all (·.oneCell')=true) (he:(old.toList.take off++cells.toList++old.toList.drop (off+cells.size)).toArray=row)
  (h:wpList P ops Q rest (a.put o.dst undef) (w.setRow g row)):wpList P ops Q (o::rest) a w :=
 wpList_plain hgd fun _ hK=>wp_store_part ty x y ho g off cells hx hy t old row hg hi hold h1 he (hK _ _ h)
theorem run_storeVar_cell (w:World) (g off:Nat) (t ty:TypeId) (old row:Array Value) (v:Value) (hg:w.heap[g]?=some (.cells old t (0,0))) (hi:(P.info? ty).map (·.size)=some 1)
  (ho:off<old.size) (hv:v.oneCell'=true) (hc:v.cells=#[v]) (he:old.setIfInBounds off v=row) :
  (storeVar ty ⟨g,off,none⟩ v).run P w = .ok () (w.setRow g row):=by
 have:=run_storeCells_at P g off t [v] 0 old w hg (by simp;omega) (fun u hu=>by simp at hu;rw [hu];exact hv)
 simp only [Nat.add_zero,List.length_singleton] at this
 have hr:(old.toList.take off++[v]++old.toList.drop (off+1)).toArray=row:=by
  rw [←he]
  apply Array.toList_inj.1
  rw [Array.toList_setIfInBounds]
  simp only
  rw [List.set_eq_take_append_cons_drop,if_pos (by simpa using ho)]
  simp
 rw [hr] at this
 cases hq:P.info? ty with
 | none => simp [hq] at hi
 | some i =>
  have hs:i.size=1:=by simpa [hq] using hi
  simp [storeVar,sizeOf,typeInfo,hq,hc,hs,this]
theorem wp_store_cell {o:Oper} {a:Act} {w:World} {K:Act→World→Prop} {Q:Exit→Act→World→Prop} (ty:TypeId) (x y:Operand) (ho:o.op = .store ty x y)
  (g off:Nat) (v:Value) (hx:a.eval x = .pointer (some ⟨g,off,none⟩)) (hy:a.eval y=v)
  (t:TypeId) (old row:Array Value) (hg:w.heap[g]?=some (.cells old t (0,0))) (hi:(P.info? ty).map (·.size)=some 1)
  (hold:off<old.size) (hv:v.oneCell'=true) (hc:v.cells=#[v]) (he:old.setIfInBounds off v=row)
  (h:K (a.put o.dst undef) (w.setRow g row)):o.wp P a w K Q:=by
 unfold Oper.wp execOp
 simp only [ho,hx,hy,Instr.storeAt,Instr.sureAddr,Sem.run_bind,Sem.run_pure,Result.andThen_ok,run_storeVar_cell w g off t ty old row v hg hi hold hv hc he]
 exact h
theorem wpList_store_cell {ops:Array Oper} {rest:List Oper} {o:Oper} {a:Act} {w:World} {Q:Exit→Act→World→Prop} (hgd:o.guard=none) (ty:TypeId) (x y:Operand) (ho:o.op = .store ty x y)
  (g off:Nat) (v:Value) (hx:a.eval x = .pointer (some ⟨g,off,none⟩)) (hy:a.eval y=v)
  (t:TypeId) (old row:Array Value) (hg:w.heap[g]?=some (.cells old t (0,0))) (hi:(P.info? ty).map (·.size)=some 1)
  (hold:off<old.size) (hv:v.oneCell'=true) (hc:v.cells=#[v]) (he:old.setIfInBounds off v=row)
  (h:wpList P ops Q rest (a.put o.dst undef) (w.setRow g row)):wpList P ops Q (o::rest) a w :=
 wpList_plain hgd fun _ hK=>wp_store_cell ty x y ho g off v hx hy t old row hg hi hold hv hc he (hK _ _ h)
theorem setCell_rowTo {w:World} {g i:Nat} {cur row:Array Value} {t:TypeId} {fr:Nat × Nat} {v:Value} (hg:w.heap[g]?=some (.cells cur t fr)) (he:cur.setIfInBounds i v=row):w.setCell ⟨g,i,none⟩ v=w.setRow g row:=by
 rw [←he]
 exact setCell_eq_setRow w g i cur t fr v hg
end
section
def jumps (J:Nat→Act→World→Prop) (Q:Exit→Act→World→Prop):Exit→Act→World→Prop
 | .goto l, a, w => J l a w
 | e, a, w => Q e a w
theorem jumps_mono {J J':Nat→Act→World→Prop} {Q:Exit→Act→World→Prop} (h:∀ l a w,J l a w→J' l a w):∀ e a w,jumps J Q e a w→jumps J' Q e a w:=by
 intro e a w hq
 cases e with
 | goto l => exact h l a w hq
 | normal => exact hq
 | exit id => exact hq
 | ret => exact hq
 | panic ch => exact hq
 | outgrown => exact hq
section
variable {P:Program} {a:Act} {w:World} {Q:Exit→Act→World→Prop}
theorem wp_scope_many {c:Code} (z:Nat) (J:Nat→Act→World→Prop) (μ:Nat→Act→World→Nat)
  (passz:∀ a w,J z a w→∃ rest,findLabel c z=some (.seq .skip rest)∧rest.wp P (jumps (fun l' a' w'=>J l' a' w'∧μ l' a' w'<μ z a w) Q) a w)
  (pass:(∀ M a w rest,findLabel c z=some (.seq .skip rest)→J z a w→μ z a w≤M→rest.wp P (jumps (fun l' a' w'=>J l' a' w'∧μ l' a' w'<M) Q) a w) →
   ∀ l a w,l≠z→J l a w→∃ rest,findLabel c l=some (.seq .skip rest)∧rest.wp P (jumps (fun l' a' w'=>J l' a' w'∧μ l' a' w'<μ l a w) Q) a w)
  (first:(∀ l a w rest,findLabel c l=some (.seq .skip rest)→J l a w→rest.wp P (jumps J Q) a w)→c.wp P (jumps J Q) a w):(Code.scope c).wp P Q a w:=by
 have fallz:∀ M a w rest,findLabel c z=some (.seq .skip rest)→J z a w→μ z a w≤M→rest.wp P (jumps (fun l' a' w'=>J l' a' w'∧μ l' a' w'<M) Q) a w:=by
  intro M a w rest hf hJ hM
  obtain ⟨rest',hf',h⟩:=passz a w hJ
  rw [hf] at hf'
  cases hf'
  exact wp_mono h (jumps_mono fun l a w ⟨h1,h2⟩=>⟨h1,Nat.lt_of_lt_of_le h2 hM⟩)
 have all:∀ l a w,J l a w→∃ rest,findLabel c l=some (.seq .skip rest)∧rest.wp P (jumps (fun l' a' w'=>J l' a' w'∧μ l' a' w'<μ l a w) Q) a w:=by
  intro l a w hJ
  by_cases hl:l=z
  · subst hl;exact passz a w hJ
  · exact pass fallz l a w hl hJ
 have first':=first fun l a w rest hf hJ=>by
  obtain ⟨rest',hf',h⟩:=all l a w hJ
  rw [hf] at hf'
  cases hf'
  exact wp_mono h (jumps_mono fun l a w h=>h.1)
 intro b k cs
 have key:∀ n l a w rest,μ l a w=n→J l a w→findLabel c l=some rest→∃ e a' w',Q e a' w'∧Arrives P (lone (b.at a (.code rest::.inScope c::k)) cs w) b k cs e a' w':=by
  intro n
  induction n using Nat.strongRecOn with
  | _ n ih =>
   intro l a w rest hn hJ hf
   obtain ⟨rest',hf',hp⟩:=all l a w hJ
   rw [hf] at hf'
   cases hf'
   have hp2:(Code.seq .skip rest').wp P (jumps (fun l' a' w'=>J l' a' w'∧μ l' a' w'<μ l a w) Q) a w:=wp_seq (wp_skip (by exact hp))
   obtain ⟨e,a₁,w₁,hq,harr⟩:=hp2 b (.inScope c::k) cs
   cases e with
   | normal => exact ⟨.normal, a₁, w₁, hq, Steps.trans harr (.one step_inScope)⟩
   | exit id => exact ⟨.exit id, a₁, w₁, hq, fun k' hk => harr k' (by simp [exitTo, hk])⟩
   | goto l' =>
    obtain ⟨hJ',hlt⟩:=hq
    obtain ⟨rest2,hf2,_⟩:=all l' a₁ w₁ hJ'
    obtain ⟨e₂,a₂,w₂,hq₂,harr₂⟩:=ih _ (by omega) l' a₁ w₁ _ rfl hJ' hf2
    exact ⟨e₂,a₂,w₂,hq₂,.of_steps (harr _ (by simp [gotoIn,hf2])) harr₂⟩
   | ret => exact ⟨_, a₁, w₁, hq, harr⟩
   | panic ch => exact ⟨_, a₁, w₁, hq, harr⟩
   | outgrown => exact ⟨_, a₁, w₁, hq, harr⟩
 obtain ⟨e,a₁,w₁,hq,harr⟩:=first' b (.inScope c::k) cs
 cases e with
 | normal => exact ⟨.normal, a₁, w₁, hq, .head step_scope (Steps.trans harr (.one step_inScope))⟩
 | exit id => exact ⟨.exit id, a₁, w₁, hq, fun k' hk => .head step_scope (harr k' (by simp [exitTo, hk]))⟩
 | goto l' =>
  obtain ⟨rest2,hf2,_⟩:=all l' a₁ w₁ hq
  obtain ⟨e₂,a₂,w₂,hq₂,harr₂⟩:=key _ l' a₁ w₁ _ rfl hq hf2
  exact ⟨e₂,a₂,w₂,hq₂,.of_steps (.head step_scope (harr _ (by simp [gotoIn,hf2]))) harr₂⟩
 | ret => exact ⟨_, a₁, w₁, hq, .of_steps (.one step_scope) harr⟩
 | panic ch => exact ⟨_, a₁, w₁, hq, .of_steps (.one step_scope) harr⟩
 | outgrown => exact ⟨_, a₁, w₁, hq, .of_steps (.one step_scope) harr⟩
end
end
section
structure Lk (w wr:World) (t:Tk) (sa:Option Addr) (cap:Nat) (acc:List Tk):Prop where
 bel:Below w.heap.size w wr
 box:wr.heap[w.heap.size]?=some (.cells t.cs 71 (0,0))
 own:OwnT wr (w.heap.size+1) (.slice sa acc.length cap) acc
 n8:acc.length≤800
section
variable {w wr w':World} {t t':Tk} {sa:Option Addr} {cap:Nat} {acc:List Tk}
theorem Lk.lt (h:Lk w wr t sa cap acc):w.heap.size<wr.heap.size:=(Array.getElem?_eq_some_iff.1 h.box).1
theorem Lk.later (h:Lk w wr t sa cap acc) (hb:Below wr.heap.size wr w'):Lk w w' t sa cap acc :=
 ⟨h.bel.trans (hb.mono (by have:=h.lt;omega)),(hb.block _ h.lt).trans h.box,h.own.later hb,h.n8⟩
theorem Lk.put (h:Lk w wr t sa cap acc) (t':Tk):Lk w (wr.setRow w.heap.size t'.cs) t' sa cap acc :=
 ⟨below_row h.bel,setRow_heap _ _ _ _ _ _ h.box,h.own.keep fun g hg hl=>setRow_other _ _ _ _ (fun e=>by have:=(h.own.lt hg).1;omega),h.n8⟩
theorem Lk.cells (h:Lk w wr t sa cap acc):wr.cell? ⟨w.heap.size,0,none⟩=some (.int .i64 t.k)∧wr.cell? ⟨w.heap.size,1,none⟩=some (.int .i64 t.n)∧wr.cell? ⟨w.heap.size,2,none⟩=some (.string t.s):=tri_cells h.box
theorem Lk.frz (h:Lk w wr t sa cap acc) (j:Nat):wr.frozen? ⟨w.heap.size,j,none⟩=false:=by simp [World.frozen?,h.box]
theorem Lk.set2 (h:Lk w wr t sa cap acc):Lk w (wr.setCell ⟨w.heap.size,2,none⟩ (.string t.s)) t sa cap acc:=by
 refine ⟨h.bel.setCell (p:=⟨w.heap.size,2,none⟩) (Nat.le_refl _) _,?_,h.own.keep fun g hg hl=>Below.heap_setCell _ _ _ _ (fun e=>by have:=(h.own.lt hg).1;have e':g=w.heap.size:=e;omega),h.n8⟩
 rw [heap_setCell_same wr w.heap.size 2 t.cs 71 (.string t.s) h.box]
 rfl
theorem Lk.app {w5:World} {a5:Option Addr} {c5:Nat} {o:Obj} (h:Lk w wr t sa cap acc) (hg:(wr.alloc o).grownBy w5 (Value.slice sa acc.length cap).ownBlock) (ho:OwnT w5 (w.heap.size+1) (.slice a5 (acc++[t]).length c5) (acc++[t])) (h8:acc.length<800):Lk w w5 t a5 c5 (acc++[t]):=by
 have hl:=h.lt
 refine ⟨(h.bel.alloc (by omega) o).grown hg (by simp;omega) (fun g e=>by have:=(h.own.lt e).1;omega),?_,ho,by rw [List.length_append];simp;omega⟩
 rw [hg.block _ (by simp;omega) (fun e=>by have:=(h.own.lt e.symm).1;omega),Below.heap_alloc wr o _ hl]
 exact h.box
end
theorem markI_any (x:ByteArray) (w:World):Calls Tryz.prog 44 #[.string x] w fun e w'=>e = .returned (Tk.v ⟨4,0,x⟩)∧Below w.heap.size w w':=by
 have B0:=hide (below_new w (.cells T0c 71))
 have R0:=hide (heap_alloc_new w (.cells T0c 71))
 unfold T0c at B0 R0
 unfold Tk.v Tk.cs
 simp only
 go_enter Tryz.func44,Tryz.ntmps44
 go_wp2_with (first|(refine wpList_store_row rfl 71 _ _ rfl w.heap.size #[.int .i64 4,.int .i64 0,.string x] rfl rfl 71 _ (uh R0) szK rfl (tk_one _ _ _) ?_))
 refine bodyPost_ret (results_cell_row (P:=Tryz.prog) rfl _ _ w.heap.size 71 #[.int .i64 4,.int .i64 0,.string x] (0,0) _ rfl (setRow_heap _ _ _ _ _ _ (uh R0)) Tryz.underlying71 rfl szK) rfl ?_
 exact ⟨rfl,below_row (uh B0)⟩
theorem lk_new (w:World):Lk w (w.alloc (.cells (Tk.cs ⟨0,0,⟨#[]⟩⟩) 71)) ⟨0,0,⟨#[]⟩⟩ none 0 [] :=
 ⟨below_new w _,heap_alloc_new w _,ownT_none _ _,by simp⟩
structure Pend (s:ByteArray) (R:List Tk × Bool) (f:Nat) (acc:List Tk):Prop where
 lt:f<s.size
 semi:bAt s.data.toList f≠59
 bl:blB (bAt s.data.toList f)=false
 rest:lexR s f acc=R
def St (s:ByteArray) (R:List Tk × Bool) (l k f:Nat) (acc:List Tk) (t:Tk):Prop :=
 (l=0∧k≤s.size∧lexR s k acc=R) ∨
 (l=1∧Pend s R f acc∧f<k∧k≤s.size∧runN ldB s.data.toList k=oneE s f∧oneT badI s f=wordT (s.extract f (oneE s f))) ∨
 (l=2∧Pend s R f acc∧f<k∧k≤s.size∧runN dgB s.data.toList k=oneE s f∧oneT badI s f=numT badI (s.extract f (oneE s f))) ∨
 (l=3∧Pend s R f acc∧f<k∧k≤s.size∧runN ldB s.data.toList k=oneE s f∧oneT badI s f=⟨3,0,s.extract f (oneE s f)⟩) ∨
 (l=4∧Pend s R f acc∧f<k∧k≤s.size∧k=oneE s f∧t=oneT badI s f)
theorem St.at0 {s R k f acc t} (h:St s R 0 k f acc t):k≤s.size∧lexR s k acc=R:=by
 rcases h with ⟨_,h⟩|⟨h,_⟩|⟨h,_⟩|⟨h,_⟩|⟨h,_⟩
 · exact h
 all_goals omega
theorem St.at1 {s R k f acc t} (h:St s R 1 k f acc t):Pend s R f acc∧f<k∧k≤s.size∧runN ldB s.data.toList k=oneE s f∧oneT badI s f=wordT (s.extract f (oneE s f)):=by
 rcases h with ⟨h,_⟩|⟨_,h⟩|⟨h,_⟩|⟨h,_⟩|⟨h,_⟩
 · omega
 · exact h
 all_goals omega
theorem St.at2 {s R k f acc t} (h:St s R 2 k f acc t):Pend s R f acc∧f<k∧k≤s.size∧runN dgB s.data.toList k=oneE s f∧oneT badI s f=numT badI (s.extract f (oneE s f)):=by
 rcases h with ⟨h,_⟩|⟨h,_⟩|⟨_,h⟩|⟨h,_⟩|⟨h,_⟩
 · omega
 · omega
 · exact h
 all_goals omega
theorem St.at3 {s R k f acc t} (h:St s R 3 k f acc t):Pend s R f acc∧f<k∧k≤s.size∧runN ldB s.data.toList k=oneE s f∧oneT badI s f=⟨3,0,s.extract f (oneE s f)⟩:=by
 rcases h with ⟨h,_⟩|⟨h,_⟩|⟨h,_⟩|⟨_,h⟩|⟨h,_⟩
 · omega
 · omega
 · omega
 · exact h
 · omega
theorem St.at4 {s R k f acc t} (h:St s R 4 k f acc t):Pend s R f acc∧f<k∧k≤s.size∧k=oneE s f∧t=oneT badI s f:=by
 rcases h with ⟨h,_⟩|⟨h,_⟩|⟨h,_⟩|⟨h,_⟩|⟨_,h⟩
 · omega
 · omega
 · omega
 · omega
 · exact h
theorem St.to0 {s R k f acc t} (h:k≤s.size) (h1:lexR s k acc=R):St s R 0 k f acc t:=.inl ⟨rfl,h,h1⟩
theorem St.to1 {s R k f acc t} (h:Pend s R f acc∧f<k∧k≤s.size∧runN ldB s.data.toList k=oneE s f∧oneT badI s f=wordT (s.extract f (oneE s f))):St s R 1 k f acc t:=.inr (.inl ⟨rfl,h⟩)
theorem St.to2 {s R k f acc t} (h:Pend s R f acc∧f<k∧k≤s.size∧runN dgB s.data.toList k=oneE s f∧oneT badI s f=numT badI (s.extract f (oneE s f))):St s R 2 k f acc t:=.inr (.inr (.inl ⟨rfl,h⟩))
theorem St.to3 {s R k f acc t} (h:Pend s R f acc∧f<k∧k≤s.size∧runN ldB s.data.toList k=oneE s f∧oneT badI s f=⟨3,0,s.extract f (oneE s f)⟩):St s R 3 k f acc t:=.inr (.inr (.inr (.inl ⟨rfl,h⟩)))
theorem St.to4 {s R k f acc t} (h:Pend s R f acc∧f<k∧k≤s.size∧k=oneE s f∧t=oneT badI s f):St s R 4 k f acc t:=.inr (.inr (.inr (.inr ⟨rfl,h⟩)))
theorem St.low {s R l k f acc t} (h:St s R l k f acc t) (h4:l≠4):l=0∨l=1∨l=2∨l=3:=by
 rcases h with ⟨h,_⟩|⟨h,_⟩|⟨h,_⟩|⟨h,_⟩|⟨h,_⟩ <;> omega
def fx (s:ByteArray) (w:World) (v4 v6 v7:Value) (u:Nat→Value):Act:={ tmps:=#[.string s,undef,.slice none 0 0,.bool false,v4,.pointer (some ⟨w.heap.size,0,none⟩),v6,v7,u 8,u 9,u 10,u 11,u 12,u 13,u 14,u 15,u 16,u 17,u 18,u 19,u 20,u 21,u 22,u 23,u 24,u 25,u 26,u 27,u 28,u 29,u 30,u 31,u 32,u 33,u 34,u 35,u 36,u 37,u 38,u 39,u 40,u 41,u 42,u 43,u 44,u 45,u 46,u 47,u 48,u 49,u 50,u 51,u 52,u 53,u 54,u 55,u 56,u 57,u 58,u 59,u 60,u 61,u 62,u 63,u 64,u 65,u 66,u 67,u 68,u 69,u 70,u 71,u 72,u 73,u 74,u 75,u 76,u 77,u 78,u 79,u 80,u 81,u 82,u 83,u 84,u 85,u 86,u 87,u 88,u 89,u 90,u 91,u 92,u 93,u 94,u 95,u 96,u 97,u 98,u 99,u 100,u 101,u 102,u 103,u 104,u 105,u 106,u 107,u 108,u 109,u 110,u 111,u 112,u 113,u 114,u 115,u 116,u 117,u 118,u 119,u 120,u 121],defers:=[] }
def Jx (s:ByteArray) (w:World) (R:List Tk × Bool) (l:Nat) (a':Act) (w':World):Prop :=
 ∃ (u:Nat→Value) (k f:Nat) (t:Tk) (sa:Option Addr) (cap:Nat) (acc:List Tk),a'=fx s w (.slice sa acc.length cap) (.int .i64 f) (.int .i64 k) u∧Lk w w' t sa cap acc∧St s R l k f acc t
theorem jx_in {s:ByteArray} {w wr:World} {R:List Tk × Bool} {l:Nat} {v4 v6 v7 u8 u9 u10 u11 u12 u13 u14 u15 u16 u17 u18 u19 u20 u21 u22 u23 u24 u25 u26 u27 u28 u29 u30 u31 u32 u33 u34 u35 u36 u37 u38 u39 u40 u41 u42 u43 u44 u45 u46 u47 u48 u49 u50 u51 u52 u53 u54 u55 u56 u57 u58 u59 u60 u61 u62 u63 u64 u65 u66 u67 u68 u69 u70 u71 u72 u73 u74 u75 u76 u77 u78 u79 u80 u81 u82 u83 u84 u85 u86 u87 u88 u89 u90 u91 u92 u93 u94 u95 u96 u97 u98 u99 u100 u101 u102 u103 u104 u105 u106 u107 u108 u109 u110 u111 u112 u113 u114 u115 u116 u117 u118 u119 u120 u121:Value} (k f:Nat) (t:Tk) (sa:Option Addr) (cap:Nat) (acc:List Tk) (h4:v4 = .slice sa acc.length cap) (h6:v6 = .int .i64 f) (h7:v7 = .int .i64 k) (lk:Lk w wr t sa cap acc) (st:St s R l k f acc t):Jx s w R l { tmps:=#[.string s,undef,.slice none 0 0,.bool false,v4,.pointer (some ⟨w.heap.size,0,none⟩),v6,v7,u8,u9,u10,u11,u12,u13,u14,u15,u16,u17,u18,u19,u20,u21,u22,u23,u24,u25,u26,u27,u28,u29,u30,u31,u32,u33,u34,u35,u36,u37,u38,u39,u40,u41,u42,u43,u44,u45,u46,u47,u48,u49,u50,u51,u52,u53,u54,u55,u56,u57,u58,u59,u60,u61,u62,u63,u64,u65,u66,u67,u68,u69,u70,u71,u72,u73,u74,u75,u76,u77,u78,u79,u80,u81,u82,u83,u84,u85,u86,u87,u88,u89,u90,u91,u92,u93,u94,u95,u96,u97,u98,u99,u100,u101,u102,u103,u104,u105,u106,u107,u108,u109,u110,u111,u112,u113,u114,u115,u116,u117,u118,u119,u120,u121],defers:=[] } wr:=by
 subst h4 h6 h7
 exact ⟨fun i=>(#[u8,u9,u10,u11,u12,u13,u14,u15,u16,u17,u18,u19,u20,u21,u22,u23,u24,u25,u26,u27,u28,u29,u30,u31,u32,u33,u34,u35,u36,u37,u38,u39,u40,u41,u42,u43,u44,u45,u46,u47,u48,u49,u50,u51,u52,u53,u54,u55,u56,u57,u58,u59,u60,u61,u62,u63,u64,u65,u66,u67,u68,u69,u70,u71,u72,u73,u74,u75,u76,u77,u78,u79,u80,u81,u82,u83,u84,u85,u86,u87,u88,u89,u90,u91,u92,u93,u94,u95,u96,u97,u98,u99,u100,u101,u102,u103,u104,u105,u106,u107,u108,u109,u110,u111,u112,u113,u114,u115,u116,u117,u118,u119,u120,u121]:Array Value).getD (i-8) undef,k,f,t,sa,cap,acc,rfl,lk,st⟩
theorem jx_out {s:ByteArray} {w:World} {R:List Tk × Bool} {l:Nat} {X:Act→World→Prop} (h:∀ (u:Nat→Value) (k f:Nat) (t:Tk) (sa:Option Addr) (cap:Nat) (acc:List Tk) (wr:World),Lk w wr t sa cap acc→St s R l k f acc t→X (fx s w (.slice sa acc.length cap) (.int .i64 f) (.int .i64 k) u) wr):∀ a' wr,Jx s w R l a' wr→X a' wr:=by
 rintro a' wr ⟨u,k,f,t,sa,cap,acc,rfl,lk,st⟩
 exact h u k f t sa cap acc wr lk st
def rk (l:Nat):Nat:=if l=0 then 0 else if l=4 then 1 else 2
def Mx (s:ByteArray) (l:Nat) (a:Act) (w:World):Nat:=5*(s.size-(intOf (a.tmps.getD 7 undef)).toNat)+rk l
theorem lexI_any (s:ByteArray) (w:World) (hz:s.size≤1048576) (he:Env w):Calls Tryz.prog 19 #[.string s] w fun e w'=>∃ v,e = .returned (.tuple #[v,.bool (lexR s 0 []).2])∧OwnT w' w.heap.size v (lexR s 0 []).1∧Below w.heap.size w w':=by
 obtain ⟨i0,hi,hz0,hz1,hz2⟩:=info_parts infoT
 obtain ⟨R,hR⟩:∃ R,lexR s 0 []=R:=⟨_,rfl⟩
 have HR:=hide hR
 rw [hR]
 clear hR
 have hl:=size_len s
 have EV:=hide (fun wr (h:Below w.heap.size w wr)=>he.later h)
 clear he
 have L0:=hide (lk_new w)
 unfold Tk.cs at L0
 go_enter Tryz.func19,Tryz.ntmps19
 go_wp2
 refine wp_scope_many 4 (Jx s w R) (Mx s) ?z ?p ?f
 case f =>
  intro fall
  go_wp2
  go_step3
  rename_i K hK
  refine hK _ _ (fall 0 _ _ _ rfl ?_)
  exact jx_in 0 0 _ none 0 [] rfl rfl rfl (uh L0) (St.to0 (Nat.zero_le _) (uh HR))
 case z =>
  clear L0 HR
  refine jx_out ?_
  intro u k f t sa cap acc wr lk st
  unfold fx
  obtain ⟨pd,hfk,hks,rfl,rfl⟩:=st.at4
  refine ⟨_,rfl,?_⟩
  have LK:=hide lk
  have SAME:=hide (oneT_same badI badS badI_ok badS_ok s f)
  have EB:=hide (fun h=>(lexR_bad pd.lt pd.semi pd.bl h).symm.trans pd.rest)
  have EN:=hide (fun h3 h4=>(lexR_next pd.lt pd.semi pd.bl h3 h4).symm.trans pd.rest)
  have XS:=hide (show (oneT badI s f).s.size≤1099511627776 by
   unfold oneT
   have hx:=extract_size s f (oneE s f)
   split
   · unfold wordT;split <;> (show (s.extract f (oneE s f)).size≤_;omega)
   ·
    split
    ·
     unfold numT
     split
     · show (0:Nat)≤_;omega
     · show (0:Nat)≤_;omega
    · split <;> (show (s.extract f (oneE s f)).size≤_;omega))
  have TV:=hide (tokI_any (oneT badI s f) wr (uh XS) (uh EV wr lk.bel).tab)
  have CL:=hide (fun W=>cloneI_any (oneT badI s f).s W (uh XS))
  have h8:=lk.n8
  rw [←(uh SAME).1] at EB EN
  have TE:=hide (uh SAME).2
  rw [←(uh SAME).1] at TE
  generalize oneE s f=k at *
  generalize oneT badS s f=TS at *
  generalize oneT badI s f=T at *
  generalize T.ok=q at *
  have CE:=hide lk.cells
  obtain ⟨tk,tn,tx⟩:=T
  unfold Tk.v Tk.cs at TV
  simp only at TV CE CL
  obtain ⟨c0,c1,c2⟩:=uh CE
  clear lk st pd XS SAME CE
  go_wp2_with fail
  refine (uh TV).mono ?_
  rintro e w1 ⟨rfl,hb1⟩
  have LK1:=hide ((uh LK).later hb1)
  have hs1:=(uh LK1).lt
  clear hb1 LK TV c0 c1 c2
  cases q
  ·
   have E1:=hide (uh EB (.inl rfl))
   have B1:=hide (uh LK1).bel
   clear EB EN TE CL
   go_wp2
   simp only [jumps]
   go_ret2
   exact ⟨_,by rw [←uh E1];rfl,by rw [←uh E1];exact ownT_none _ _,uh B1⟩
  ·
   by_cases h800:acc.length=800
   ·
    have E1:=hide (uh EB (.inr h800))
    have B1:=hide (uh LK1).bel
    have h8e:((acc.length:Int) == 800)=true:=by simp [h800]
    clear EB EN TE CL h800
    go_wp2
    simp only [jumps]
    go_ret2
    exact ⟨_,by rw [←uh E1];rfl,by rw [←uh E1];exact ownT_none _ _,uh B1⟩
   ·
    have E1:=hide (uh EN rfl h800)
    rw [←uh TE rfl] at E1
    have h8e:((acc.length:Int) == 800)=false:=beq_eq_false_iff_ne.2 (by omega)
    have h8l:acc.length<800:=by omega
    obtain ⟨c0,c1,c2⟩:=(uh LK1).cells
    simp only at c0 c1 c2
    clear EB EN TE
    go_wp2_with fail
    refine (uh CL _).mono ?_
    rintro e w2 ⟨rfl,hb2⟩
    have LK2:=hide ((uh LK1).later hb2)
    clear c0 c1 c2
    obtain ⟨c0,c1,c2⟩:=(uh LK2).cells
    simp only at c0 c1 c2
    have f2:=(uh LK2).frz 2
    have LK3:=hide (uh LK2).set2
    have hs3:=(uh LK3).lt
    have OW3:=hide (uh LK3).own
    have K1:=hide (cell_new (w2.setCell ⟨w.heap.size,2,none⟩ (.string tx)) #[.int .i64 tk,.int .i64 tn,.string tx] 71)
    rw [show (w2.setCell ⟨w.heap.size,2,none⟩ (.string tx)).heap.size=w2.heap.size by simp] at K1
    simp only at LK3 OW3 hs3
    clear hb2 LK1 LK2 CL
    go_wp2_with (at_builtin;go_must (refine wpList_append_own _ rfl (.tmp 118) (.tmp 120) 39 rfl (w.heap.size+1) 71 i0 (.agg #[.int .i64 0,.int .i64 0,.string ⟨#[]⟩]) 3 32 Tryz.underlying39 hi hz0 hz1 hz2 rfl (by decide) (.slice sa acc.length cap) acc.length (cellsT acc) rfl (World.ownsRow.alloc (uh OW3) _) ⟨w2.heap.size,0,none⟩ 1 1 [.int .i64 tk,.int .i64 tn,.string tx] rfl rfl (uh K1) (newT_one _ _ _) (by unfold maxLen;omega) (by omega) (by simp at hs3 ⊢;omega) ?_;intro v5 w5 hown5 hgrow5 _;have OW5:=hide (ownT_app (t:=⟨tk,tn,tx⟩) hown5);obtain ⟨a5,c5,hv5,_⟩:=(uh OW5).rd;subst hv5;have LK5:=hide ((uh LK3).app hgrow5 (uh OW5) h8l);clear hown5 hgrow5))
    go_step3
    refine ⟨jx_in (k) (f) (⟨tk,tn,tx⟩) a5 c5 (acc++[Tk.mk tk tn tx]) (by first|rfl|(rw [List.length_append];rfl)) (by first|rfl|go_num) (by first|rfl|go_num) (uh LK5) (St.to0 hks (uh E1)),?_⟩
    (simp [Mx,rk,intOf,Act.put]) <;> omega
 case p =>
  clear L0 HR
  intro fall l a' wr hl4 hJ
  have FALL:=hide fall
  clear fall
  have hl0:l=0∨l=1∨l=2∨l=3:=by
   obtain ⟨_,_,_,_,_,_,_,_,_,st⟩:=hJ
   exact st.low hl4
  clear hl4
  rcases hl0 with rfl|rfl|rfl|rfl <;> revert a' wr
  ·
   refine jx_out ?_
   intro u k f t sa cap acc wr lk st
   unfold fx
   obtain ⟨hk,hr⟩:=st.at0
   refine ⟨_,rfl,?_⟩
   have LK:=hide lk
   have BX:=hide lk.box
   clear lk st
   by_cases hlt:k<s.size
   ·
    have he:=sAt s k hlt
    have hbd:=bAt_bd s.data.toList k
    have hkne:((k:Int) == (s.size:Int))=false:=beq_eq_false_iff_ne.2 (by omega)
    by_cases h59:bAt s.data.toList k=59
    ·
     have E:=hide ((lexR_semi hlt h59).symm.trans hr)
     rw [h59] at he
     clear hr h59 hbd
     go_wp2
     simp only [jumps]
     go_ret2
     exact ⟨_,by rw [←uh E];rfl,by rw [←uh E];exact (uh LK).own.base (by omega),(uh LK).bel⟩
    ·
     cases hbl:blB (bAt s.data.toList k)
     ·
      have PD:=hide (Pend.mk hlt h59 hbl hr)
      have h59b:(bAt s.data.toList k == 59)=false:=beq_eq_false_iff_ne.2 h59
      clear hr
      cases h1:smB (bAt s.data.toList k)
      ·
       cases h2:dgB (bAt s.data.toList k)
       ·
        by_cases h46:bAt s.data.toList k=46
        ·
         by_cases hk1:k+1<s.size
         ·
          have he1:=sAt s (k+1) hk1
          have hbd1:=bAt_bd s.data.toList (k+1)
          cases h3:smB (bAt s.data.toList (k+1))
          ·
           obtain ⟨e1,e2⟩:=one_mk badI h1 h2 (fun _ _=>h3)
           have S4:=hide (St.to4 (t:=⟨4,0,s.extract k (k+1)⟩) ⟨uh PD,by omega,by omega,e1.symm,e2.symm⟩)
           have MK:=hide (fun W=>markI_any (s.extract k (k+1)) W)
           unfold Tk.v Tk.cs at MK
           simp only at MK
           clear e1 e2
           rw [h46] at he h1 h2 h59b hbl
           generalize bAt s.data.toList (k+1)=c1 at *
           clear h46 hbd h59
           go_wp2_with (first|(go_at_call 64;refine (blank_any _ _).mono ?_;rintro e w' ⟨rfl,hw'⟩;rw [hw'];clear hw' w')|(go_at_call 65;refine (smI_any _ _).mono ?_;rintro e w' ⟨rfl,hw'⟩;rw [hw'];clear hw' w')|(go_at_call 66;refine (dgI_any _ _).mono ?_;rintro e w' ⟨rfl,hw'⟩;rw [hw'];clear hw' w'))
           refine (uh MK _).mono ?_
           rintro e w1 ⟨rfl,hb1⟩
           have LK1:=hide ((uh LK).later hb1)
           have BX1:=hide (uh LK1).box
           have LK4:=hide ((uh LK1).put ⟨4,0,s.extract k (k+1)⟩)
           clear hb1 LK1 MK
           go_wp2_with (first|(refine wpList_store_row rfl 71 _ _ rfl w.heap.size #[.int .i64 4,.int .i64 0,.string (s.extract k (k+1))] rfl rfl 71 _ (uh BX1) szK rfl (tk_one _ _ _) ?_))
           go_step3
           refine ⟨jx_in (k+1) (k) (⟨4,0,s.extract k (k+1)⟩) sa cap (acc) (by first|rfl|(rw [List.length_append];rfl)) (by first|rfl|go_num) (by first|rfl|go_num) (uh LK4) (uh S4),?_⟩
           (simp [Mx,rk,intOf,Act.put]) <;> omega
          ·
           obtain ⟨e1,e2⟩:=one_dot badI h1 h2 h46 hk1 h3
           have S3:=hide (St.to3 (t:=t) ⟨uh PD,by omega,by omega,e1.symm,e2⟩)
           rw [h46] at he h1 h2 h59b hbl
           generalize bAt s.data.toList (k+1)=c1 at *
           clear h46 hbd h59 e1 e2
           go_wp2_with (first|(go_at_call 64;refine (blank_any _ _).mono ?_;rintro e w' ⟨rfl,hw'⟩;rw [hw'];clear hw' w')|(go_at_call 65;refine (smI_any _ _).mono ?_;rintro e w' ⟨rfl,hw'⟩;rw [hw'];clear hw' w')|(go_at_call 66;refine (dgI_any _ _).mono ?_;rintro e w' ⟨rfl,hw'⟩;rw [hw'];clear hw' w'))
           go_step3
           refine ⟨jx_in (k+1) (k) (t) sa cap (acc) (by first|rfl|(rw [List.length_append];rfl)) (by first|rfl|go_num) (by first|rfl|go_num) (uh LK) (uh S3),?_⟩
           (simp [Mx,rk,intOf,Act.put]) <;> omega
         ·
          have hk1d:decide ((k:Int)+1<(s.size:Int))=false:=by simp;omega
          obtain ⟨e1,e2⟩:=one_mk badI h1 h2 (fun _ h=>absurd h hk1)
          have S4:=hide (St.to4 (t:=⟨4,0,s.extract k (k+1)⟩) ⟨uh PD,by omega,by omega,e1.symm,e2.symm⟩)
          have MK:=hide (fun W=>markI_any (s.extract k (k+1)) W)
          unfold Tk.v Tk.cs at MK
          simp only at MK
          clear e1 e2
          rw [h46] at he h1 h2 h59b hbl
          clear h46 hbd h59
          go_wp2_with (first|(go_at_call 64;refine (blank_any _ _).mono ?_;rintro e w' ⟨rfl,hw'⟩;rw [hw'];clear hw' w')|(go_at_call 65;refine (smI_any _ _).mono ?_;rintro e w' ⟨rfl,hw'⟩;rw [hw'];clear hw' w')|(go_at_call 66;refine (dgI_any _ _).mono ?_;rintro e w' ⟨rfl,hw'⟩;rw [hw'];clear hw' w'))
          refine (uh MK _).mono ?_
          rintro e w1 ⟨rfl,hb1⟩
          have LK1:=hide ((uh LK).later hb1)
          have BX1:=hide (uh LK1).box
          have LK4:=hide ((uh LK1).put ⟨4,0,s.extract k (k+1)⟩)
          clear hb1 LK1 MK
          go_wp2_with (first|(refine wpList_store_row rfl 71 _ _ rfl w.heap.size #[.int .i64 4,.int .i64 0,.string (s.extract k (k+1))] rfl rfl 71 _ (uh BX1) szK rfl (tk_one _ _ _) ?_))
          go_step3
          refine ⟨jx_in (k+1) (k) (⟨4,0,s.extract k (k+1)⟩) sa cap (acc) (by first|rfl|(rw [List.length_append];rfl)) (by first|rfl|go_num) (by first|rfl|go_num) (uh LK4) (uh S4),?_⟩
          (simp [Mx,rk,intOf,Act.put]) <;> omega
        ·
         have h46b:(bAt s.data.toList k == 46)=false:=beq_eq_false_iff_ne.2 h46
         obtain ⟨e1,e2⟩:=one_mk badI h1 h2 (fun h=>absurd h h46)
         have S4:=hide (St.to4 (t:=⟨4,0,s.extract k (k+1)⟩) ⟨uh PD,by omega,by omega,e1.symm,e2.symm⟩)
         have MK:=hide (fun W=>markI_any (s.extract k (k+1)) W)
         unfold Tk.v Tk.cs at MK
         simp only at MK
         clear e1 e2
         generalize bAt s.data.toList k=c at *
         clear h59 h46
         go_wp2_with (first|(go_at_call 64;refine (blank_any _ _).mono ?_;rintro e w' ⟨rfl,hw'⟩;rw [hw'];clear hw' w')|(go_at_call 65;refine (smI_any _ _).mono ?_;rintro e w' ⟨rfl,hw'⟩;rw [hw'];clear hw' w')|(go_at_call 66;refine (dgI_any _ _).mono ?_;rintro e w' ⟨rfl,hw'⟩;rw [hw'];clear hw' w'))
         refine (uh MK _).mono ?_
         rintro e w1 ⟨rfl,hb1⟩
         have LK1:=hide ((uh LK).later hb1)
         have BX1:=hide (uh LK1).box
         have LK4:=hide ((uh LK1).put ⟨4,0,s.extract k (k+1)⟩)
         clear hb1 LK1 MK
         go_wp2_with (first|(refine wpList_store_row rfl 71 _ _ rfl w.heap.size #[.int .i64 4,.int .i64 0,.string (s.extract k (k+1))] rfl rfl 71 _ (uh BX1) szK rfl (tk_one _ _ _) ?_))
         go_step3
         refine ⟨jx_in (k+1) (k) (⟨4,0,s.extract k (k+1)⟩) sa cap (acc) (by first|rfl|(rw [List.length_append];rfl)) (by first|rfl|go_num) (by first|rfl|go_num) (uh LK4) (uh S4),?_⟩
         (simp [Mx,rk,intOf,Act.put]) <;> omega
       ·
        obtain ⟨e1,e2⟩:=one_dg badI h1 h2
        have S2:=hide (St.to2 (t:=t) ⟨uh PD,by omega,by omega,(runN_yes (by omega) h2).symm.trans e1.symm,e2⟩)
        generalize bAt s.data.toList k=c at *
        clear h59 e1 e2
        go_wp2_with (first|(go_at_call 64;refine (blank_any _ _).mono ?_;rintro e w' ⟨rfl,hw'⟩;rw [hw'];clear hw' w')|(go_at_call 65;refine (smI_any _ _).mono ?_;rintro e w' ⟨rfl,hw'⟩;rw [hw'];clear hw' w')|(go_at_call 66;refine (dgI_any _ _).mono ?_;rintro e w' ⟨rfl,hw'⟩;rw [hw'];clear hw' w'))
        go_step3
        refine ⟨jx_in (k+1) (k) (t) sa cap (acc) (by first|rfl|(rw [List.length_append];rfl)) (by first|rfl|go_num) (by first|rfl|go_num) (uh LK) (uh S2),?_⟩
        (simp [Mx,rk,intOf,Act.put]) <;> omega
      ·
       obtain ⟨e1,e2⟩:=one_sm badI h1
       have S1:=hide (St.to1 (t:=t) ⟨uh PD,by omega,by omega,(runN_yes (by omega) (ld_of_sm h1)).symm.trans e1.symm,e2⟩)
       generalize bAt s.data.toList k=c at *
       clear h59 e1 e2
       go_wp2_with (first|(go_at_call 64;refine (blank_any _ _).mono ?_;rintro e w' ⟨rfl,hw'⟩;rw [hw'];clear hw' w')|(go_at_call 65;refine (smI_any _ _).mono ?_;rintro e w' ⟨rfl,hw'⟩;rw [hw'];clear hw' w')|(go_at_call 66;refine (dgI_any _ _).mono ?_;rintro e w' ⟨rfl,hw'⟩;rw [hw'];clear hw' w'))
       go_step3
       refine ⟨jx_in (k+1) (k) (t) sa cap (acc) (by first|rfl|(rw [List.length_append];rfl)) (by first|rfl|go_num) (by first|rfl|go_num) (uh LK) (uh S1),?_⟩
       (simp [Mx,rk,intOf,Act.put]) <;> omega
     ·
      have S0:=hide (St.to0 (f:=k) (t:=t) (show k+1≤s.size by omega) ((lexR_blank hlt h59 hbl).symm.trans hr))
      have h59b:(bAt s.data.toList k == 59)=false:=beq_eq_false_iff_ne.2 h59
      generalize bAt s.data.toList k=c at *
      clear hr h59
      go_wp2_with (first|(go_at_call 64;refine (blank_any _ _).mono ?_;rintro e w' ⟨rfl,hw'⟩;rw [hw'];clear hw' w')|(go_at_call 65;refine (smI_any _ _).mono ?_;rintro e w' ⟨rfl,hw'⟩;rw [hw'];clear hw' w')|(go_at_call 66;refine (dgI_any _ _).mono ?_;rintro e w' ⟨rfl,hw'⟩;rw [hw'];clear hw' w'))
      go_step3
      refine ⟨jx_in (k+1) (k) (t) sa cap (acc) (by first|rfl|(rw [List.length_append];rfl)) (by first|rfl|go_num) (by first|rfl|go_num) (uh LK) (uh S0),?_⟩
      (simp [Mx,rk,intOf,Act.put]) <;> omega
   ·
    have E:=hide ((lexR_end hlt).symm.trans hr)
    obtain rfl:k=s.size:=by omega
    clear hr hlt
    go_wp2
    simp only [jumps]
    go_ret2
    exact ⟨_,by rw [←uh E];rfl,by rw [←uh E];exact (uh LK).own.base (by omega),(uh LK).bel⟩
  ·
   refine jx_out ?_
   intro u k f t sa cap acc wr lk st
   unfold fx
   obtain ⟨pd,hfk,hks,hrun,hT⟩:=st.at1
   refine ⟨_,rfl,?_⟩
   have LK:=hide lk
   clear lk st
   by_cases hlt:k<s.size
   ·
    have he:=sAt s k hlt
    have hbd:=bAt_bd s.data.toList k
    cases hq:ldB (bAt s.data.toList k)
    ·
     have hke:k=oneE s f:=(runN_no (by omega) hq).symm.trans hrun
     generalize bAt s.data.toList k=c at *
     have S4:=hide (fun T (hT:T=oneT badI s f)=>St.to4 (t:=T) ⟨pd,hfk,hks,hke,hT⟩)
     rw [←hke] at hT
     have WO:=hide (wordI_any (s.extract f k) wr (uh EV wr (uh LK).bel).tab)
     rw [←hT] at WO
     generalize oneT badI s f=T at *
     have S5:=hide (uh S4 T rfl)
     obtain ⟨tk,tn,tx⟩:=T
     unfold Tk.v Tk.cs at WO
     simp only at WO
     clear S4 hT hke pd hrun
     go_wp2_with (first|(go_at_call 67;refine (ldI_any _ _).mono ?_;rintro e w' ⟨rfl,hw'⟩;rw [hw'];clear hw' w'))
     refine (uh WO).mono ?_
     rintro e w1 ⟨rfl,hb1⟩
     have LK1:=hide ((uh LK).later hb1)
     have BX1:=hide (uh LK1).box
     have LK4:=hide ((uh LK1).put ⟨tk,tn,tx⟩)
     clear hb1 LK1 WO
     go_wp2_with (first|(refine wpList_store_row rfl 71 _ _ rfl w.heap.size #[.int .i64 tk,.int .i64 tn,.string tx] rfl rfl 71 _ (uh BX1) szK rfl (tk_one _ _ _) ?_))
     go_step3
     refine ⟨jx_in (k) (f) (⟨tk,tn,tx⟩) sa cap (acc) (by first|rfl|(rw [List.length_append];rfl)) (by first|rfl|go_num) (by first|rfl|go_num) (uh LK4) (uh S5),?_⟩
     (simp [Mx,rk,intOf,Act.put]) <;> omega
    ·
     have SS:=hide (St.to1 (t:=t) ⟨pd,show f<k+1 by omega,by omega,(runN_yes (by omega) hq).symm.trans hrun,hT⟩)
     generalize bAt s.data.toList k=c at *
     clear pd hrun hT
     go_wp2_with (first|(go_at_call 67;refine (ldI_any _ _).mono ?_;rintro e w' ⟨rfl,hw'⟩;rw [hw'];clear hw' w'))
     go_step3
     refine ⟨jx_in (k+1) (f) (t) sa cap (acc) (by first|rfl|(rw [List.length_append];rfl)) (by first|rfl|go_num) (by first|rfl|go_num) (uh LK) (uh SS),?_⟩
     (simp [Mx,rk,intOf,Act.put]) <;> omega
   ·
    have hke:k=oneE s f:=(runN_end (by omega)).symm.trans hrun
    have S4:=hide (fun T (hT:T=oneT badI s f)=>St.to4 (t:=T) ⟨pd,hfk,hks,hke,hT⟩)
    rw [←hke] at hT
    have WO:=hide (wordI_any (s.extract f k) wr (uh EV wr (uh LK).bel).tab)
    rw [←hT] at WO
    generalize oneT badI s f=T at *
    have S5:=hide (uh S4 T rfl)
    obtain ⟨tk,tn,tx⟩:=T
    unfold Tk.v Tk.cs at WO
    simp only at WO
    clear S4 hT hke pd hrun
    go_wp2_with fail
    refine (uh WO).mono ?_
    rintro e w1 ⟨rfl,hb1⟩
    have LK1:=hide ((uh LK).later hb1)
    have BX1:=hide (uh LK1).box
    have LK4:=hide ((uh LK1).put ⟨tk,tn,tx⟩)
    clear hb1 LK1 WO
    go_wp2_with (first|(refine wpList_store_row rfl 71 _ _ rfl w.heap.size #[.int .i64 tk,.int .i64 tn,.string tx] rfl rfl 71 _ (uh BX1) szK rfl (tk_one _ _ _) ?_))
    go_step3
    refine ⟨jx_in (k) (f) (⟨tk,tn,tx⟩) sa cap (acc) (by first|rfl|(rw [List.length_append];rfl)) (by first|rfl|go_num) (by first|rfl|go_num) (uh LK4) (uh S5),?_⟩
    (simp [Mx,rk,intOf,Act.put]) <;> omega
  ·
   refine jx_out ?_
   intro u k f t sa cap acc wr lk st
   unfold fx
   obtain ⟨pd,hfk,hks,hrun,hT⟩:=st.at2
   refine ⟨_,rfl,?_⟩
   have LK:=hide lk
   clear lk st
   by_cases hlt:k<s.size
   ·
    have he:=sAt s k hlt
    have hbd:=bAt_bd s.data.toList k
    cases hq:dgB (bAt s.data.toList k)
    ·
     have hke:k=oneE s f:=(runN_no (by omega) hq).symm.trans hrun
     generalize bAt s.data.toList k=c at *
     have S4:=hide (fun T (hT:T=oneT badI s f)=>St.to4 (t:=T) ⟨pd,hfk,hks,hke,hT⟩)
     rw [←hke] at hT
     have WO:=hide (numI_any (s.extract f k) wr (by have:=extract_size s f k;omega) (uh EV wr (uh LK).bel))
     rw [←hT] at WO
     generalize oneT badI s f=T at *
     have S5:=hide (uh S4 T rfl)
     obtain ⟨tk,tn,tx⟩:=T
     unfold Tk.v Tk.cs at WO
     simp only at WO
     clear S4 hT hke pd hrun
     go_wp2_with (first|(go_at_call 66;refine (dgI_any _ _).mono ?_;rintro e w' ⟨rfl,hw'⟩;rw [hw'];clear hw' w'))
     refine (uh WO).mono ?_
     rintro e w1 ⟨rfl,hb1⟩
     have LK1:=hide ((uh LK).later hb1)
     have BX1:=hide (uh LK1).box
     have LK4:=hide ((uh LK1).put ⟨tk,tn,tx⟩)
     clear hb1 LK1 WO
     go_wp2_with (first|(refine wpList_store_row rfl 71 _ _ rfl w.heap.size #[.int .i64 tk,.int .i64 tn,.string tx] rfl rfl 71 _ (uh BX1) szK rfl (tk_one _ _ _) ?_))
     go_step3
     refine ⟨jx_in (k) (f) (⟨tk,tn,tx⟩) sa cap (acc) (by first|rfl|(rw [List.length_append];rfl)) (by first|rfl|go_num) (by first|rfl|go_num) (uh LK4) (uh S5),?_⟩
     (simp [Mx,rk,intOf,Act.put]) <;> omega
    ·
     have SS:=hide (St.to2 (t:=t) ⟨pd,show f<k+1 by omega,by omega,(runN_yes (by omega) hq).symm.trans hrun,hT⟩)
     generalize bAt s.data.toList k=c at *
     clear pd hrun hT
     go_wp2_with (first|(go_at_call 66;refine (dgI_any _ _).mono ?_;rintro e w' ⟨rfl,hw'⟩;rw [hw'];clear hw' w'))
     go_step3
     refine ⟨jx_in (k+1) (f) (t) sa cap (acc) (by first|rfl|(rw [List.length_append];rfl)) (by first|rfl|go_num) (by first|rfl|go_num) (uh LK) (uh SS),?_⟩
     (simp [Mx,rk,intOf,Act.put]) <;> omega
   ·
    have hke:k=oneE s f:=(runN_end (by omega)).symm.trans hrun
    have S4:=hide (fun T (hT:T=oneT badI s f)=>St.to4 (t:=T) ⟨pd,hfk,hks,hke,hT⟩)
    rw [←hke] at hT
    have WO:=hide (numI_any (s.extract f k) wr (by have:=extract_size s f k;omega) (uh EV wr (uh LK).bel))
    rw [←hT] at WO
    generalize oneT badI s f=T at *
    have S5:=hide (uh S4 T rfl)
    obtain ⟨tk,tn,tx⟩:=T
    unfold Tk.v Tk.cs at WO
    simp only at WO
    clear S4 hT hke pd hrun
    go_wp2_with fail
    refine (uh WO).mono ?_
    rintro e w1 ⟨rfl,hb1⟩
    have LK1:=hide ((uh LK).later hb1)
    have BX1:=hide (uh LK1).box
    have LK4:=hide ((uh LK1).put ⟨tk,tn,tx⟩)
    clear hb1 LK1 WO
    go_wp2_with (first|(refine wpList_store_row rfl 71 _ _ rfl w.heap.size #[.int .i64 tk,.int .i64 tn,.string tx] rfl rfl 71 _ (uh BX1) szK rfl (tk_one _ _ _) ?_))
    go_step3
    refine ⟨jx_in (k) (f) (⟨tk,tn,tx⟩) sa cap (acc) (by first|rfl|(rw [List.length_append];rfl)) (by first|rfl|go_num) (by first|rfl|go_num) (uh LK4) (uh S5),?_⟩
    (simp [Mx,rk,intOf,Act.put]) <;> omega
  ·
   refine jx_out ?_
   intro u k f t sa cap acc wr lk st
   unfold fx
   obtain ⟨pd,hfk,hks,hrun,hT⟩:=st.at3
   refine ⟨_,rfl,?_⟩
   have LK:=hide lk
   have BX:=hide lk.box
   clear lk st
   by_cases hlt:k<s.size
   ·
    have he:=sAt s k hlt
    have hbd:=bAt_bd s.data.toList k
    cases hq:ldB (bAt s.data.toList k)
    ·
     have hke:k=oneE s f:=(runN_no (by omega) hq).symm.trans hrun
     generalize bAt s.data.toList k=c at *
     rw [←hke] at hT
     have S5:=hide (St.to4 (t:=⟨3,0,s.extract f k⟩) ⟨pd,hfk,hks,hke,hT.symm⟩)
     have LK4:=hide ((uh LK).put ⟨3,0,s.extract f k⟩)
     clear hT hke pd hrun
     go_wp2_with (first|(go_at_call 67;refine (ldI_any _ _).mono ?_;rintro e w' ⟨rfl,hw'⟩;rw [hw'];clear hw' w')|(refine wpList_store_row rfl 71 _ _ rfl w.heap.size #[.int .i64 3,.int .i64 0,.string (s.extract f k)] rfl rfl 71 _ (uh BX) szK rfl (tk_one _ _ _) ?_))
     go_step3
     rename_i K hK
     refine hK _ _ (uh FALL _ _ _ _ rfl (jx_in k f ⟨3,0,s.extract f k⟩ sa cap acc rfl rfl rfl (uh LK4) (uh S5)) ?_)
     (simp [Mx,rk,intOf,Act.put]) <;> omega
    ·
     have SS:=hide (St.to3 (t:=t) ⟨pd,show f<k+1 by omega,by omega,(runN_yes (by omega) hq).symm.trans hrun,hT⟩)
     generalize bAt s.data.toList k=c at *
     clear pd hrun hT
     go_wp2_with (first|(go_at_call 67;refine (ldI_any _ _).mono ?_;rintro e w' ⟨rfl,hw'⟩;rw [hw'];clear hw' w'))
     go_step3
     refine ⟨jx_in (k+1) (f) (t) sa cap (acc) (by first|rfl|(rw [List.length_append];rfl)) (by first|rfl|go_num) (by first|rfl|go_num) (uh LK) (uh SS),?_⟩
     (simp [Mx,rk,intOf,Act.put]) <;> omega
   ·
    have hke:k=oneE s f:=(runN_end (by omega)).symm.trans hrun
    rw [←hke] at hT
    have S5:=hide (St.to4 (t:=⟨3,0,s.extract f k⟩) ⟨pd,hfk,hks,hke,hT.symm⟩)
    have LK4:=hide ((uh LK).put ⟨3,0,s.extract f k⟩)
    clear hT hke pd hrun
    go_wp2_with (first|(refine wpList_store_row rfl 71 _ _ rfl w.heap.size #[.int .i64 3,.int .i64 0,.string (s.extract f k)] rfl rfl 71 _ (uh BX) szK rfl (tk_one _ _ _) ?_))
    go_step3
    rename_i K hK
    refine hK _ _ (uh FALL _ _ _ _ rfl (jx_in k f ⟨3,0,s.extract f k⟩ sa cap acc rfl rfl rfl (uh LK4) (uh S5)) ?_)
    (simp [Mx,rk,intOf,Act.put]) <;> omega
end
def sgnL:List ByteArray:=[E0,E0,E0,E0,E0,mkS 43,mkS 45,mkS 42,mkS 47,mkS 38,mkS 124]
def sgA:Array Value:=(sgnL.map Value.string).toArray
def TabG (w:World):Prop:=∃ t fr,w.heap[4]?=some (.cells sgA t fr)
theorem TabG.lt {w:World} (h:TabG w):4<w.heap.size:=by obtain ⟨t,fr,h⟩:=h;exact (Array.getElem?_eq_some_iff.1 h).1
theorem TabG.later {w w':World} {B:Nat} (h:TabG w) (hb:Below B w w') (hB:4<B):TabG w':=by
 obtain ⟨t,fr,h⟩:=h
 exact ⟨t,fr,(hb.block _ hB).trans h⟩
theorem eqTok (k n j m:Int) (s r:ByteArray) (w:World):(binOp .eql 71 (.agg #[.int .i64 k,.int .i64 n,.string s]) (.agg #[.int .i64 j,.int .i64 m,.string r])).run Tryz.prog w = .ok (.bool (k == j&&(n == m&&s.toList == r.toList))) w:=by
 go_simp
 by_cases h1:k=j <;> by_cases h2:n=m <;> by_cases h3:s.toList=r.toList <;> simp [h1,h2,h3]
theorem mark_same {t:Tk} (h:t.ok=true) {c:UInt8} (hc:smB (c.toNat:Int)=false):(t.k == 4&&(t.n == 0&&t.s.toList == (mkS c).toList))=eqS t.s (mkS c):=by
 rw [Bool.eq_iff_iff]
 constructor
 ·
  intro hh
  simp only [Bool.and_eq_true] at hh
  exact hh.2.2
 ·
  intro hh
  have e:=one_mark h ((eqS_iff _ _).1 hh) hc
  rw [e]
  show ((4:Int) == 4&&((0:Int) == 0&&eqS (mkS c) (mkS c)))=true
  rw [(eqS_iff _ _).2 rfl]
  rfl
theorem TabG.at {w:World} (h:TabG w) (j:Nat) (h5:5≤j) (h10:j≤10):w.cell? ⟨4,j,none⟩=some (.string (mkS (sgnC (j:Int)))):=by
 obtain ⟨t,fr,h⟩:=h
 have:j=5∨j=6∨j=7∨j=8∨j=9∨j=10:=by omega
 rcases this with rfl|rfl|rfl|rfl|rfl|rfl <;> exact (Lib.cell_of_heap h _).trans rfl
theorem kindP_any (t:Tk) (hok:t.ok=true) (w:World) (ht:TabG w):Calls Tryz.prog 239 #[t.v] w fun r w'=>r = .returned (.int .i64 ((sgnK t.s).getD 0))∧Below w.heap.size w w':=by
 have B0:=hide (below_new w (.cells t.cs 71))
 have R0:=hide (heap_alloc_new w (.cells t.cs 71))
 have TG:=hide (ht.later (below_new w (.cells t.cs 71)) ht.lt)
 have OM:=hide (fun (c:UInt8) (hc:smB (c.toNat:Int)=false) (h:t.s=mkS c)=>one_mark hok h hc)
 obtain ⟨tk,tn,tx⟩:=t
 unfold Tk.v
 unfold Tk.cs at B0 R0 TG ⊢
 simp only at B0 R0 TG OM ⊢
 generalize hK:(sgnK tx).getD 0=K0 at *
 have HK:=hide hK
 clear hK ht hok
 go_enter Tryz.func239,Tryz.ntmps239
 go_wp2
 generalize w.alloc (Obj.cells #[.int .i64 tk,.int .i64 tn,.string tx] 71)=W at *
 go_loopw [3] (fun i wr=>∃ j:Nat,i = .int .i64 j∧5≤j∧j≤11∧NotB tx j∧Below W.heap.size W wr) (fun i _=>11-(intOf i).toNat)
 case atStart=>exact ⟨5,rfl,by omega,by omega,fun j h1 h2=>by omega,Below.refl _ _⟩
 case round =>
  obtain ⟨j,rfl,hj5,hj11,hnb,hbw⟩:=hrel
  by_cases hj:j≤10
  ·
   have hp:(j:Int)≤10:=by omega
   have SB:=hide (sgn_back (k:=(j:Int)) (by omega))
   have SM:=hide (sgn_small (k:=(j:Int)) (by omega))
   have SC:=hide (show wr.drew.cell? ⟨4,j,none⟩=some (.string (mkS (sgnC (j:Int)))) from (((uh TG).later hbw (uh TG).lt).later (below_drew (w:=wr)) (Nat.lt_of_lt_of_le (uh TG).lt hbw.size)).at j hj5 hj)
   have RR:=hide (row_keep (uh R0) hbw)
   have BW:=hide ((uh B0).trans (hbw.mono (uh B0).size))
   have BX:=hide hbw
   have NX:=hide (show eqS (mkS (sgnC (j:Int))) tx=false→NotB tx (j+1) from fun hf i h1 h2=>by
    by_cases hi:i<j
    · exact hnb i h1 hi
    ·
     obtain rfl:i=j:=by omega
     exact hf)
   clear hnb hbw
   by_cases hq:tx=mkS (sgnC (j:Int))
   ·
    have e:=uh OM _ (uh SM) hq
    have KK:=hide (show (j:Int)=K0 by have:=uh HK;rw [hq,uh SB] at this;exact this)
    unfold mkT at e
    clear NX SB SM OM HK hq
    generalize mkS (sgnC (j:Int))=sg at *
    injection e with e1 e2 e3
    subst e1 e2 e3
    have D0:=hide (show (fun v:World=>v.heap[w.heap.size]?=some (.cells #[.int .i64 4,.int .i64 0,.string tx] 71 (0,0))∧v.cell? ⟨4,j,none⟩=some (.string tx)) wr.drew from ⟨row_keep (uh RR) below_drew,uh SC⟩)
    have hp2:(j:Int)<11:=by omega
    have hp3:¬ (11:Int)≤(j:Int):=by omega
    have hp4:j<11:=by omega
    go_wp2_with fail
    refine wp_region_held_drew (S:=fun v=>v.heap[w.heap.size]?=some (.cells #[.int .i64 4,.int .i64 0,.string tx] 71 (0,0))∧v.cell? ⟨4,j,none⟩=some (.string tx)) (by kernel_rfl) (uh D0) (fun hS=>?_)
    have HS:=hide hS
    clear hS
    refine tkA 0 (.agg #[.int .i64 4,.int .i64 0,.string tx]) rfl (yields_loadG (by rfl) 71 _ rfl w.heap.size rfl 71 #[.int .i64 4,.int .i64 0,.string tx] _ (fun w h=>h.1) Tryz.underlying71 rfl (by kernel_rfl)) (uh HS) ?_
    go_simp
    refine tkB 1 (.int .i64 j) rfl (uh HS) ?_
    go_simp
    refine tkB 2 (.pointer (some ⟨4,j,none⟩)) rfl (uh HS) ?_
    go_simp
    refine tkA 3 (.string tx) rfl (.inl ⟨by rfl,fun w hc=>?_⟩) (uh HS) ?_
    · have hc2:=hc.2;clear hc;go_simp
    go_simp
    refine wpAnyH_ready (rs:=[4]) (by kernel_rfl) (by simp) ?_
    refine AllReadyH.cons rfl (fun K2 hK=>?_) AllReadyH.nil
    go_simp
    refine (markI_any tx _).mono ?_
    rintro r w3 ⟨rfl,hb3⟩
    refine hK.out _ _ (⟨row_keep (uh D0).1 hb3,(hb3.cell (p:=⟨4,j,none⟩) (World.block_lt_of_cell? _ _ (uh D0).2)).trans (uh D0).2⟩) (fun hS=>?_)
    clear HS
    have HS:=hide hS
    clear hS hK K2
    unfold Tk.v Tk.cs
    have B3:=hide ((uh BW).trans ((below_drew (w:=wr)).mono (uh BW).size |>.trans (hb3.mono (uh BW).size)))
    have BZ:=hide (show Below W.heap.size wr w3 from (below_drew (w:=wr)).mono (uh BX).size |>.trans (hb3.mono (uh BX).size))
    clear hb3 D0
    refine tkB 5 (.bool true) rfl (uh HS) ?_
    go_simp
    refine wpAnyH_done (by kernel_rfl) ?_ _
    go_wp2
    go_ret
    exact ⟨by rw [←uh KK];rfl,uh B3⟩
   ·
    have NN:=hide (uh NX (by
     cases hb:eqS (mkS (sgnC (j:Int))) tx with
     | false => rfl
     | true => exact absurd ((eqS_iff _ _).1 hb).symm hq))
    have hne:¬ tx.toList=(mkS (sgnC (j:Int))).toList:=fun h=>hq ((eqS_iff _ _).1 (by unfold eqS;rw [h];exact beq_self_eq_true _))
    clear NX SB SM OM hq
    generalize mkS (sgnC (j:Int))=sg at *
    have D0:=hide (show (fun v:World=>v.heap[w.heap.size]?=some (.cells #[.int .i64 tk,.int .i64 tn,.string tx] 71 (0,0))∧v.cell? ⟨4,j,none⟩=some (.string sg)) wr.drew from ⟨row_keep (uh RR) below_drew,uh SC⟩)
    have hp2:(j:Int)<11:=by omega
    have hp3:¬ (11:Int)≤(j:Int):=by omega
    have hp4:j<11:=by omega
    go_wp2_with fail
    refine wp_region_held_drew (S:=fun v=>v.heap[w.heap.size]?=some (.cells #[.int .i64 tk,.int .i64 tn,.string tx] 71 (0,0))∧v.cell? ⟨4,j,none⟩=some (.string sg)) (by kernel_rfl) (uh D0) (fun hS=>?_)
    have HS:=hide hS
    clear hS
    refine tkA 0 (.agg #[.int .i64 tk,.int .i64 tn,.string tx]) rfl (yields_loadG (by rfl) 71 _ rfl w.heap.size rfl 71 #[.int .i64 tk,.int .i64 tn,.string tx] _ (fun w h=>h.1) Tryz.underlying71 rfl (by kernel_rfl)) (uh HS) ?_
    go_simp
    refine tkB 1 (.int .i64 j) rfl (uh HS) ?_
    go_simp
    refine tkB 2 (.pointer (some ⟨4,j,none⟩)) rfl (uh HS) ?_
    go_simp
    refine tkA 3 (.string sg) rfl (.inl ⟨by rfl,fun w hc=>?_⟩) (uh HS) ?_
    · have hc2:=hc.2;clear hc;go_simp
    go_simp
    refine wpAnyH_ready (rs:=[4]) (by kernel_rfl) (by simp) ?_
    refine AllReadyH.cons rfl (fun K2 hK=>?_) AllReadyH.nil
    go_simp
    refine (markI_any sg _).mono ?_
    rintro r w3 ⟨rfl,hb3⟩
    refine hK.out _ _ (⟨row_keep (uh D0).1 hb3,(hb3.cell (p:=⟨4,j,none⟩) (World.block_lt_of_cell? _ _ (uh D0).2)).trans (uh D0).2⟩) (fun hS=>?_)
    clear HS
    have HS:=hide hS
    clear hS hK K2
    unfold Tk.v Tk.cs
    have B3:=hide ((uh BW).trans ((below_drew (w:=wr)).mono (uh BW).size |>.trans (hb3.mono (uh BW).size)))
    have BZ:=hide (show Below W.heap.size wr w3 from (below_drew (w:=wr)).mono (uh BX).size |>.trans (hb3.mono (uh BX).size))
    clear hb3 D0
    refine tkB 5 (.bool false) rfl (uh HS) ?_
    go_simp
    refine wpAnyH_done (by kernel_rfl) ?_ _
    have BY:=hide (show Below W.heap.size W w3 from (uh BX).trans (uh BZ))
    go_wp2
    go_roundw
    case rel=>exact ⟨j+1,by go_num,by omega,by omega,uh NN,uh BY⟩
    case measure=>simp [intOf];omega
  ·
   obtain rfl:j=11:=by omega
   have NO:=hide (show (0:Int)=K0 by have:=uh HK;rw [notB_all hnb] at this;exact this)
   have B9:=hide ((uh B0).trans (hbw.mono (uh B0).size))
   clear hnb hbw
   go_wp2
   go_ret
   exact ⟨by rw [←uh NO];rfl,uh B9⟩
structure Sl (w:World) (a:Option Addr) (n cap:Nat) (ts:List Tk):Prop where
 ln:ts.length=n
 cp:n≤cap
 mx:cap≤maxLen
 rd:RdT w a ts
 ok:AllOk ts
 sm:n≤1048576
 ty:ts = []∨∃ b off cs fr,a=some ⟨b,off,none⟩∧w.heap[b]?=some (.cells cs 71 fr)
theorem Sl.later {w w':World} {a:Option Addr} {n cap:Nat} {ts:List Tk} (h:Sl w a n cap ts) (hb:Below w.heap.size w w'):Sl w' a n cap ts:={ h with rd:=h.rd.later hb,ty:=h.ty.imp id (fun ⟨b,off,cs,fr,e,g⟩=>⟨b,off,cs,fr,e,(hb.block b (Array.getElem?_eq_some_iff.1 g).1).trans g⟩) }
theorem Sl.tail {w:World} {b off n cap:Nat} {t:Tk} {q:List Tk} (h:Sl w (some ⟨b,off,none⟩) n cap (t::q)):Sl w (some ⟨b,off+3,none⟩) (n-1) (cap-1) q:=by
 have hl:=h.ln
 simp at hl
 refine ⟨by omega,by have:=h.cp;omega,by have:=h.mx;omega,?_,h.ok.head.2,by have:=h.sm;omega,.inr ?_⟩
 rotate_left
 ·
  rcases h.ty with h0|⟨b',off',cs,fr,e,g⟩
  · cases h0
  ·
   cases e
   exact ⟨b,off+3,cs,fr,rfl,g⟩
 rcases h.rd with h0|⟨b',off',ha,hlt,hc⟩
 · cases h0
 ·
  cases ha
  refine .inr ⟨b,off+3,rfl,hlt,fun i hi=>?_⟩
  have:=hc (i+1) (by simp;omega)
  have e:tAt (t::q) (i+1)=tAt q i:=by unfold tAt;simp
  rw [e] at this
  rw [show off+3+i*3=off+(i+1)*3 by omega]
  exact this
theorem Sl.head {w:World} {a:Option Addr} {n cap:Nat} {t:Tk} {q:List Tk} (h:Sl w a n cap (t::q)):∃ b off,a=some ⟨b,off,none⟩∧b<w.heap.size∧w.cell? ⟨b,off,none⟩=some (.int .i64 t.k)∧w.cell? ⟨b,off+1,none⟩=some (.int .i64 t.n)∧w.cell? ⟨b,off+2,none⟩=some (.string t.s):=by
 rcases h.rd with h0|⟨b,off,ha,hlt,hc⟩
 · cases h0
 ·
  have:=hc 0 (by simp)
  simp only [Nat.zero_mul,Nat.add_zero] at this
  exact ⟨b,off,ha,hlt,this⟩
def Ifv (v:Value):Prop:=v = .nilIface∨∃ t x,v = .iface t x
def TrR (o:Option (Ex × List Tk)) (w:World) (r:Ending) (w':World):Prop :=
 Below w.heap.size w w'∧match o with
 | none => ∃ v x, Ifv v ∧ r = .returned (.tuple #[v, x, .bool false])
 | some (e, q) => ∃ a n cap, r = .returned (.tuple #[tv e, .slice a n cap, .bool true]) ∧ Sl w' a n cap q
def TrP (d:Nat):Prop:=∀ (a:Option Addr) (n cap:Nat) (ts:List Tk) (w:World),Sl w a n cap ts→TabG w→Calls Tryz.prog 199 #[.slice a n cap,.int .i64 d] w (TrR (readF d ts) w)
theorem readI_0:TrP 0:=by
 intro a n cap ts w h ht
 unfold TrR
 clear h ht
 go_enter Tryz.func199,Tryz.ntmps199
 go_wp2
 refine bodyPost_ret (results_tmp3 rfl _ _ _) rfl ?_
 exact ⟨Below.refl _ _,_,_,.inl rfl,rfl⟩
theorem readI_nil (d:Nat) (hd:d≤5) (a:Option Addr) (n cap:Nat) (w:World) (h:Sl w a n cap []):Calls Tryz.prog 199 #[.slice a n cap,.int .i64 (d+1:Nat)] w (TrR (readF (d+1) []) w):=by
 obtain rfl:n=0:=by have:=h.ln;simpa using this.symm
 have hd0:¬ ((d:Int)+1)=0:=by omega
 show Calls _ _ _ _ fun r w'=>Below w.heap.size w w'∧∃ v x,Ifv v∧r = .returned (.tuple #[v,x,.bool false])
 clear h
 go_enter Tryz.func199,Tryz.ntmps199
 go_wp2
 refine bodyPost_ret (results_tmp3 rfl _ _ _) rfl ?_
 exact ⟨Below.refl _ _,_,_,.inl rfl,rfl⟩
section
def noL:ByteArray:=⟨#[116,104,105,115,32,105,115,32,110,111,32,108,105,110,101]⟩
def pn:List PanicEntry:=[{ v:=.iface 9 (.string noL),recovered:=false }]
structure Pz (w:World) (rb:Nat) (a:Option Addr) (n cap:Nat) (ts:List Tk):Prop where
 row:w.heap[rb]?=some (.cells #[.slice a n cap] 146 (0,0))
 sl:Sl w a n cap ts
def Pr (w:World) (rb:Nat) (ts:List Tk):Prop:=∃ a n cap,Pz w rb a n cap ts
section
variable {w w':World} {rb:Nat} {a a':Option Addr} {n n' cap cap':Nat} {ts ts':List Tk}
theorem Pz.lt (h:Pz w rb a n cap ts):rb<w.heap.size:=(Array.getElem?_eq_some_iff.1 h.row).1
theorem Pr.lt (h:Pr w rb ts):rb<w.heap.size:=by obtain ⟨_,_,_,h⟩:=h;exact h.lt
theorem Pr.ok (h:Pr w rb ts):AllOk ts:=by obtain ⟨_,_,_,h⟩:=h;exact h.sl.ok
theorem Sl.farR {a1:Option Addr} {n1 cap1:Nat} {q:List Tk} {v:Value} {ty:TypeId} {fr:Nat × Nat} (hrow:w.heap[rb]?=some (.cells #[v] ty fr)) (h:Sl w a1 n1 cap1 q):q = []∨∀ ad,a1=some ad→ad.block≠rb:=by
 rcases h.rd with h0|⟨b,off,ha,hlt,hc⟩
 · exact .inl h0
 ·
  cases q with
  | nil => exact .inl rfl
  | cons t q =>
   refine .inr fun ad e=>?_
   rw [ha] at e
   cases e
   intro hb
   have hb:b=rb:=hb
   subst hb
   have h2:=(hc 0 (by simp)).2.1
   rw [Lib.cell_of_heap hrow] at h2
   simp at h2
theorem Pz.far (h:Pz w rb a n cap ts):ts = []∨∀ ad,a=some ad→ad.block≠rb:=h.sl.farR h.row
theorem Pz.later (h:Pz w rb a n cap ts) (hb:Below w.heap.size w w'):Pz w' rb a n cap ts:=⟨(hb.block _ h.lt).trans h.row,h.sl.later hb⟩
theorem Pr.later (h:Pr w rb ts) (hb:Below w.heap.size w w'):Pr w' rb ts:=by obtain ⟨a,n,cap,h⟩:=h;exact ⟨a,n,cap,h.later hb⟩
theorem Pz.cell (h:Pz w rb a n cap ts):w.cell? ⟨rb,0,none⟩=some (.slice a n cap):=Lib.cell_of_heap h.row 0
theorem Pz.frz (h:Pz w rb a n cap ts):w.frozen? ⟨rb,0,none⟩=false:=by simp [World.frozen?,h.row]
theorem Sl.past {b:Nat} (h:Sl w a n cap ts) (hg:w.grownBy w' (some b)) (hne:ts = []∨∀ ad,a=some ad→ad.block≠b):Sl w' a n cap ts:={ h with rd:=h.rd.past hg hne,ty:=Or.elim hne (fun h0=>.inl h0) (fun hne=>h.ty.imp id (fun ⟨c,off,cs,fr,e,g⟩=>⟨c,off,cs,fr,e,(hg.block c (Array.getElem?_eq_some_iff.1 g).1 (by simpa using hne _ e)).trans g⟩)) }
theorem Sl.off {g:Nat} {cs:Array Value} {t:TypeId} {fr:Nat × Nat} (h:Sl w a n cap ts) (hg:w.heap[g]?=some (.cells cs t fr)) (ht:t≠71):ts = []∨∀ ad,a=some ad→ad.block≠g:=by
 refine h.ty.imp id (fun ⟨b,off,cs',fr',e,g'⟩ ad e' hb=>?_)
 rw [e] at e'
 cases e'
 have hb:b=g:=hb
 subst hb
 rw [g'] at hg
 injection hg with hg
 injection hg with _ h2 _
 exact ht h2.symm
theorem Pz.set (h:Pz w rb a n cap ts) (hs:Sl w a' n' cap' ts') (hne:ts' = []∨∀ ad,a'=some ad→ad.block≠rb):Pz (w.setCell ⟨rb,0,none⟩ (.slice a' n' cap')) rb a' n' cap' ts' :=
 ⟨heap_setCell_same w rb 0 _ _ _ h.row,hs.past (grownBy_set _) hne⟩
theorem Pz.aside {b:Nat} (h:Pz w rb a n cap ts) (hg:w.grownBy w' (some b)) (hb:b≠rb) (hne:ts = []∨∀ ad,a=some ad→ad.block≠b):Pz w' rb a n cap ts:=⟨(hg.block rb h.lt (by simpa using hb.symm)).trans h.row,h.sl.past hg hne⟩
end
theorem Pz.pr {w:World} {rb:Nat} {a:Option Addr} {n cap:Nat} {ts:List Tk} (h:Pz w rb a n cap ts):Pr w rb ts:=⟨a,n,cap,h⟩
theorem Pr.row {w:World} {rb g:Nat} {ts:List Tk} {old:Array Value} {t:TypeId} {fr:Nat × Nat} (h:Pr w rb ts) (hg:w.heap[g]?=some (.cells old t fr)) (ht:t≠71) (hr:t≠146) (cs:Array Value):Pr (w.setRow g cs) rb ts:=by
 obtain ⟨a,n,cap,h⟩:=h
 refine ⟨a,n,cap,h.aside (grownBy_row cs) (fun e=>?_) (h.sl.off hg ht)⟩
 subst e
 have:=h.row
 rw [this] at hg
 injection hg with hg
 injection hg with _ h2 _
 exact hr h2.symm
def PnR {α:Type} (o:Option (α × List Tk)) (V:α→World→Value→Prop) (rb:Nat) (w:World) (r:Ending) (w':World):Prop :=
 w.grownBy w' (some rb)∧match o with
 | none => r = .panicked pn
 | some (x, q) => ∃ v, r = .returned v ∧ V x w' v ∧ Pr w' rb q
theorem pnR_none {α:Type} {o:Option (α × List Tk)} {V:α→World→Value→Prop} {rb:Nat} {w:World} {r:Ending} {w':World} (ho:o=none) (hr:r = .panicked pn) (hg:w.grownBy w' (some rb)):PnR o V rb w r w':=by subst ho;exact ⟨hg,hr⟩
theorem pnR_some {α:Type} {o:Option (α × List Tk)} {V:α→World→Value→Prop} {rb:Nat} {w:World} {r:Ending} {w':World} {x:α} {q:List Tk} {v:Value} (ho:o=some (x,q)) (hr:r = .returned v) (hg:w.grownBy w' (some rb)) (hv:V x w' v) (hz:Pr w' rb q):PnR o V rb w r w':=by subst ho;exact ⟨hg,v,hr,hv,hz⟩
theorem two_below (w:World) (o o':Obj):Below w.heap.size w ((w.alloc o).alloc o'):=(below_new w o).trans ((below_new _ o').mono (below_new w o).size)
theorem two_at (w:World) (cs:Array Value) {t:TypeId} (o:Obj) {n:Nat} (h:w.heap.size=n):((w.alloc (.cells cs t)).alloc o).heap[n]?=some (.cells cs t (0,0)):=by
 subst h
 exact row_keep (heap_alloc_new w _) (below_new _ _)
def VTk (t:Tk) (_:World) (v:Value):Prop:=v = .agg #[.int .i64 t.k,.int .i64 t.n,.string t.s]
def VIn (n:Int) (_:World) (v:Value):Prop:=v = .int .i64 n
def VSt (s:ByteArray) (_:World) (v:Value):Prop:=v = .string s
def VUn (_:Unit) (_:World) (v:Value):Prop:=v = .tuple #[]
theorem nxtI (rb:Nat) (ts:List Tk) (w:World) (h:Pr w rb ts):Calls Tryz.prog 112 #[.pointer (some ⟨rb,0,none⟩)] w (PnR (pNx ts) VTk rb w):=by
 obtain ⟨a,n,cap,h⟩:=h
 have c0:=h.cell
 have f0:=h.frz
 have hrl:=h.lt
 cases ts with
 | nil =>
  obtain rfl:n=0:=by have:=h.sl.ln;simpa using this.symm
  have F:=hide (fun r w' (hr:r = .panicked pn) (hg:w.grownBy w' (some rb))=>(show PnR (pNx []) VTk rb w r w' from pnR_none rfl hr hg))
  generalize PnR (pNx []) VTk rb w=R at *
  clear h
  go_enter Tryz.func112,Tryz.ntmps112
  go_wp2
  exact ⟨rfl,uh F _ _ rfl (grownBy_below (below_new _ _))⟩
 | cons t q =>
  obtain ⟨b,off,rfl,hbl,t0,t1,t2⟩:=h.sl.head
  have hfar:b≠rb:=by
   rcases h.far with h0|h0
   · cases h0
   · exact h0 _ rfl
  have hn:0<n:=by have:=h.sl.ln;simp at this;omega
  have hcap:=h.sl.cp
  have hmax:=h.sl.mx
  have hsm:=h.sl.sm
  have F:=hide (fun r w' a' n' cap' (hr:r = .returned (.agg #[.int .i64 t.k,.int .i64 t.n,.string t.s])) (hg:w.grownBy w' (some rb)) (hz:Pz w' rb a' n' cap' q)=>(show PnR (pNx (t::q)) VTk rb w r w' from pnR_some rfl hr hg rfl ⟨a',n',cap',hz⟩))
  generalize PnR (pNx (t::q)) VTk rb w=R at *
  by_cases hc:cap=1
  ·
   subst hc
   obtain rfl:n=1:=by omega
   have hq:q = []:=by have:=h.sl.ln;simpa using this
   have Z:=hide (h.set (a':=some ⟨b,off,none⟩) (n':=0) (cap':=0) (ts':=q) (by rw [hq];exact ⟨rfl,Nat.le_refl _,by unfold maxLen;omega,.inl rfl,allOk_nil,by omega,.inl rfl⟩) (.inl hq))
   clear h hq
   generalize t.k=tk at *
   generalize t.n=tn at *
   generalize t.s=tx at *
   go_enter Tryz.func112,Tryz.ntmps112
   go_wp2
   refine bodyPost_ret (results_cell_row (P:=Tryz.prog) rfl _ _ w.heap.size 71 #[.int .i64 tk,.int .i64 tn,.string tx] (0,0) _ rfl (two_at _ _ _ (by simp)) Tryz.underlying71 rfl szK) rfl ?_
   exact uh F _ _ _ _ _ rfl (grownBy_trans (grownBy_set _) (grownBy_below (two_below _ _ _))) ((uh Z).later (two_below _ _ _))
  ·
   have Z:=hide (h.set (a':=some ⟨b,off+3,none⟩) (n':=n-1) (cap':=cap-1) (ts':=q) h.sl.tail (.inr (fun ad e=>by cases e;exact hfar)))
   clear h
   generalize t.k=tk at *
   generalize t.n=tn at *
   generalize t.s=tx at *
   go_enter Tryz.func112,Tryz.ntmps112
   go_wp2
   refine bodyPost_ret (results_cell_row (P:=Tryz.prog) rfl _ _ w.heap.size 71 #[.int .i64 tk,.int .i64 tn,.string tx] (0,0) _ rfl (two_at _ _ _ (by simp)) Tryz.underlying71 rfl szK) rfl ?_
   exact uh F _ _ _ _ _ rfl (grownBy_trans (grownBy_set _) (grownBy_below (two_below _ _ _))) ((uh Z).later (two_below _ _ _))
end
theorem Rq.rowG {w wr:World} {rb:Nat} {la:Option Addr} {cap:Nat} {ts:List Tk} {k:Nat} {bad:Bool} (h:Rq w wr rb la cap ts k bad) {g:Nat} (hg:w.heap.size≤g) (cs:Array Value):Rq w (wr.setRow g cs) rb la cap ts k bad:=by
 have hl:=h.lt
 refine ⟨⟨(setRow_other _ _ _ _ (by omega)).trans h.rz.row,h.rz.toks.past (grownBy_row cs) ?_,h.rz.far,h.rz.le⟩,grownBy_own h.gr (grownBy_row cs) (fun g' e=>by cases e;exact hg),hl,h.tk⟩
 rcases h.tk with h|h
 · exact .inl h
 · exact .inr fun ad e=>by have:=h ad e;omega
theorem NwL.nil (w:World) (B:Nat) (k:Int) (s:ByteArray) (op n:Int) (p:La):NwL w B ⟨k,s,op,a0,a0,n,[]⟩ p:=⟨NewX.nil _ _ _ _ _ _,NewX.nil _ _ _ _ _ _,NewX.nil _ _ _ _ _ _⟩
theorem ins_two (op:Int) (h6:op≤6) (rb:Nat) (la:Option Addr) (cap:Nat) (ts:List Tk) (k:Nat) (bad:Bool) (w:World) (hl:ts.length≤1048576) (h:Rz w rb la cap ts k bad):Calls Tryz.prog 175 #[.pointer (some ⟨rb,0,none⟩),.int .i64 op] w (LnR (pIns op (ts.drop k)) rb la cap ts bad w):=by
 have PE:=hide (pIns_two (op:=op) (ts.drop k) h6)
 have d0:decide (op≤6)=true:=decide_eq_true h6
 have FY:=hide (fun (x:Ln) (p:La) k' bad' w' (hn:NwL w' w.heap.size x p) (h:Rq w w' rb la cap ts k' bad') (ho:OutG (pIns op (ts.drop k)) ts bad x k' bad')=>(show LnR (pIns op (ts.drop k)) rb la cap ts bad w (.returned (.agg (x.cs p))) w' from ⟨x,p,k',bad',rfl,hn,h.rz,h.gr,ho⟩))
 generalize LnR (pIns op (ts.drop k)) rb la cap ts bad w=R at *
 have hb0:=below_new w (.cells #[.int .i64 0,.string ⟨#[]⟩,.int .i64 0,.int .i64 0,.int .i64 0,.int .i64 0,.int .i64 0,.string ⟨#[]⟩,.slice none 0 0,.int .i64 0,.int .i64 0,.int .i64 0,.int .i64 0,.string ⟨#[]⟩,.slice none 0 0,.int .i64 0,.slice none 0 0] 30)
 have hg0:(w.alloc (.cells #[.int .i64 0,.string ⟨#[]⟩,.int .i64 0,.int .i64 0,.int .i64 0,.int .i64 0,.int .i64 0,.string ⟨#[]⟩,.slice none 0 0,.int .i64 0,.int .i64 0,.int .i64 0,.int .i64 0,.string ⟨#[]⟩,.slice none 0 0,.int .i64 0,.slice none 0 0] 30)).heap[w.heap.size]?=some (.cells #[.int .i64 0,.string ⟨#[]⟩,.int .i64 0,.int .i64 0,.int .i64 0,.int .i64 0,.int .i64 0,.string ⟨#[]⟩,.slice none 0 0,.int .i64 0,.int .i64 0,.int .i64 0,.int .i64 0,.string ⟨#[]⟩,.slice none 0 0,.int .i64 0,.slice none 0 0] 30 (0,0)):=Array.getElem?_push_size
 have hs0:w.heap.size<(w.alloc (.cells #[.int .i64 0,.string ⟨#[]⟩,.int .i64 0,.int .i64 0,.int .i64 0,.int .i64 0,.int .i64 0,.string ⟨#[]⟩,.slice none 0 0,.int .i64 0,.int .i64 0,.int .i64 0,.int .i64 0,.string ⟨#[]⟩,.slice none 0 0,.int .i64 0,.slice none 0 0] 30)).heap.size:=by simp
 obtain ⟨w0,hw0⟩:∃ w0,w.alloc (.cells #[.int .i64 0,.string ⟨#[]⟩,.int .i64 0,.int .i64 0,.int .i64 0,.int .i64 0,.int .i64 0,.string ⟨#[]⟩,.slice none 0 0,.int .i64 0,.int .i64 0,.int .i64 0,.int .i64 0,.string ⟨#[]⟩,.slice none 0 0,.int .i64 0,.slice none 0 0] 30)=w0:=⟨_,rfl⟩
 rw [hw0] at hb0 hg0 hs0
 have Q0:=hide (h.start.later hb0)
 have R0:=hide hg0
 have S0:=hide hs0
 clear h hb0 hg0 hs0
 go_enter Tryz.func175,Tryz.ntmps175
 have BGx:=hide (show w.heap.size≤w0.heap.size from Nat.le_of_lt (uh S0))
 have BLx:=hide (uh S0)
 have Qx1:=hide ((uh Q0).later (below_new w0 (.cells #[.int .i64 3,.string ⟨#[]⟩,.int .i64 op,.int .i64 0,.int .i64 0,.int .i64 0,.int .i64 0,.string ⟨#[]⟩,.slice none 0 0,.int .i64 0,.int .i64 0,.int .i64 0,.int .i64 0,.string ⟨#[]⟩,.slice none 0 0,.int .i64 0,.slice none 0 0] 30)))
 have Rx1:=hide (row_keep (uh R0) (below_new w0 (.cells #[.int .i64 3,.string ⟨#[]⟩,.int .i64 op,.int .i64 0,.int .i64 0,.int .i64 0,.int .i64 0,.string ⟨#[]⟩,.slice none 0 0,.int .i64 0,.int .i64 0,.int .i64 0,.int .i64 0,.string ⟨#[]⟩,.slice none 0 0,.int .i64 0,.slice none 0 0] 30)))
 have Sx1:=hide (Nat.lt_of_lt_of_le (uh S0) ((below_new w0 (.cells #[.int .i64 3,.string ⟨#[]⟩,.int .i64 op,.int .i64 0,.int .i64 0,.int .i64 0,.int .i64 0,.string ⟨#[]⟩,.slice none 0 0,.int .i64 0,.int .i64 0,.int .i64 0,.int .i64 0,.string ⟨#[]⟩,.slice none 0 0,.int .i64 0,.slice none 0 0] 30))).size)
 have Bx0:=hide (show (w0.alloc (.cells #[.int .i64 3,.string ⟨#[]⟩,.int .i64 op,.int .i64 0,.int .i64 0,.int .i64 0,.int .i64 0,.string ⟨#[]⟩,.slice none 0 0,.int .i64 0,.int .i64 0,.int .i64 0,.int .i64 0,.string ⟨#[]⟩,.slice none 0 0,.int .i64 0,.slice none 0 0] 30)).heap[w0.heap.size]?=some (.cells #[.int .i64 3,.string ⟨#[]⟩,.int .i64 op,.int .i64 0,.int .i64 0,.int .i64 0,.int .i64 0,.string ⟨#[]⟩,.slice none 0 0,.int .i64 0,.int .i64 0,.int .i64 0,.int .i64 0,.string ⟨#[]⟩,.slice none 0 0,.int .i64 0,.slice none 0 0] 30 (0,0)) from Array.getElem?_push_size)
 clear Q0 R0 S0
 have X:=hide (arg13S rb la cap ts k bad (w0.alloc (.cells #[.int .i64 3,.string ⟨#[]⟩,.int .i64 op,.int .i64 0,.int .i64 0,.int .i64 0,.int .i64 0,.string ⟨#[]⟩,.slice none 0 0,.int .i64 0,.int .i64 0,.int .i64 0,.int .i64 0,.string ⟨#[]⟩,.slice none 0 0,.int .i64 0,.slice none 0 0] 30)) hl (uh Qx1).rz)
 unfold PlR at X
 go_wp2_with fail
 generalize (w0.alloc (.cells #[.int .i64 3,.string ⟨#[]⟩,.int .i64 op,.int .i64 0,.int .i64 0,.int .i64 0,.int .i64 0,.string ⟨#[]⟩,.slice none 0 0,.int .i64 0,.int .i64 0,.int .i64 0,.int .i64 0,.string ⟨#[]⟩,.slice none 0 0,.int .i64 0,.slice none 0 0] 30))=w1 at *
 generalize w0.heap.size=gx at *
 refine (uh X).mono ?_
 rintro r w2 ⟨a1,c1,c1p,k2,b2,rfl,hn,hr,hg,ho⟩
 have PM2:=hide (uh Sx1)
 have PBx2:=hide (show gx<w1.heap.size from (Array.getElem?_eq_some_iff.1 (uh Bx0)).1)
 have Rx2:=hide ((uh Qx1).blk hg (uh Rx1) (Nat.le_refl _))
 have Sx2:=hide (Nat.lt_of_lt_of_le (uh Sx1) (hg).size)
 have Bxx2:=hide ((uh Qx1).blk hg (uh Bx0) (uh BGx))
 have Qg2:=hide ((uh Qx1).next hr hg)
 clear hg hr X Rx1 Sx1 Bx0 Qx1
 have OO2:=hide ho
 have Nt12:=hide (hn).half
 clear hn ho
 unfold Ag.cs
 simp only
 have FA:=hide (fun (b:Ag) (c2:Option Addr) (c2p:Nat) k' bad' w' hn h ho=>uh FY ⟨3,⟨#[]⟩,op,a1,b,0,[]⟩ ⟨c1,c1p,c2,c2p,none,0⟩ k' bad' w' hn h ho)
 clear FY
 have FB:=hide (fun (b:Ag) c2 c2p k' bad' w' hn h ho=>(show R (.returned (.agg #[.int .i64 3,.string ⟨#[]⟩,.int .i64 op,.int .i64 a1.f,.int .i64 a1.r,.int .i64 a1.e.k,.int .i64 a1.e.n,.string a1.e.s,.slice c1 a1.e.l.length c1p,.int .i64 b.f,.int .i64 b.r,.int .i64 b.e.k,.int .i64 b.e.n,.string b.e.s,.slice c2 b.e.l.length c2p,.int .i64 0,.slice none 0 0])) w' from uh FA b c2 c2p k' bad' w' hn h ho))
 clear FA
 generalize a1.e.k=k1a at FB ⊢
 generalize a1.e.n=n1 at FB ⊢
 generalize a1.e.s=s1 at FB ⊢
 generalize a1.e.l.length=l1 at FB ⊢
 generalize a1.f=f1 at FB ⊢
 generalize a1.r=r1 at FB ⊢
 have Qx3:=hide ((uh Qg2).rowG (uh BGx) #[.int .i64 3,.string ⟨#[]⟩,.int .i64 op,.int .i64 f1,.int .i64 r1,.int .i64 k1a,.int .i64 n1,.string s1,.slice c1 l1 c1p,.int .i64 0,.int .i64 0,.int .i64 0,.int .i64 0,.string ⟨#[]⟩,.slice none 0 0,.int .i64 0,.slice none 0 0])
 have Rx3:=hide ((setRow_other w2 gx w.heap.size #[.int .i64 3,.string ⟨#[]⟩,.int .i64 op,.int .i64 f1,.int .i64 r1,.int .i64 k1a,.int .i64 n1,.string s1,.slice c1 l1 c1p,.int .i64 0,.int .i64 0,.int .i64 0,.int .i64 0,.string ⟨#[]⟩,.slice none 0 0,.int .i64 0,.slice none 0 0] (Nat.ne_of_lt (uh BLx))).trans (uh Rx2))
 have Sx3:=hide ((show w.heap.size<((w2.setRow gx #[.int .i64 3,.string ⟨#[]⟩,.int .i64 op,.int .i64 f1,.int .i64 r1,.int .i64 k1a,.int .i64 n1,.string s1,.slice c1 l1 c1p,.int .i64 0,.int .i64 0,.int .i64 0,.int .i64 0,.string ⟨#[]⟩,.slice none 0 0,.int .i64 0,.slice none 0 0])).heap.size by rw [setRow_size];exact uh Sx2))
 have Bxx3:=hide ((show ((w2.setRow gx #[.int .i64 3,.string ⟨#[]⟩,.int .i64 op,.int .i64 f1,.int .i64 r1,.int .i64 k1a,.int .i64 n1,.string s1,.slice c1 l1 c1p,.int .i64 0,.int .i64 0,.int .i64 0,.int .i64 0,.string ⟨#[]⟩,.slice none 0 0,.int .i64 0,.slice none 0 0])).heap[gx]?=some (.cells #[.int .i64 3,.string ⟨#[]⟩,.int .i64 op,.int .i64 f1,.int .i64 r1,.int .i64 k1a,.int .i64 n1,.string s1,.slice c1 l1 c1p,.int .i64 0,.int .i64 0,.int .i64 0,.int .i64 0,.string ⟨#[]⟩,.slice none 0 0,.int .i64 0,.slice none 0 0] 30 (0,0)) from setRow_heap _ _ _ _ _ _ (uh Bxx2)))
 have Nxt13:=hide ((uh Nt12).drawn (grownBy_row #[.int .i64 3,.string ⟨#[]⟩,.int .i64 op,.int .i64 f1,.int .i64 r1,.int .i64 k1a,.int .i64 n1,.string s1,.slice c1 l1 c1p,.int .i64 0,.int .i64 0,.int .i64 0,.int .i64 0,.string ⟨#[]⟩,.slice none 0 0,.int .i64 0,.slice none 0 0]) (uh PBx2))
 clear Qg2 Rx2 Sx2 Nt12
 have OO4:=hide (must_out ts k2 b2 ⟨#[44]⟩)
 have X:=hide (mustS_any rb la cap ts k2 b2 ⟨#[44]⟩ (w2.setRow gx #[.int .i64 3,.string ⟨#[]⟩,.int .i64 op,.int .i64 f1,.int .i64 r1,.int .i64 k1a,.int .i64 n1,.string s1,.slice c1 l1 c1p,.int .i64 0,.int .i64 0,.int .i64 0,.int .i64 0,.string ⟨#[]⟩,.slice none 0 0,.int .i64 0,.slice none 0 0]) hl (uh Qx3).rz)
 generalize (if seeB ts k2 b2 ⟨#[44]⟩=true then k2+1 else k2)=k4 at OO4 X
 generalize (!seeB ts k2 b2 ⟨#[44]⟩)=b4 at OO4 X
 go_wp2_with (first|((with_reducible show wpList _ _ _ (⟨_,.store _ _ _,_,_,_,_⟩::_) _ _);refine wpList_store_part rfl 28 _ _ rfl gx 3 #[.int .i64 f1,.int .i64 r1,.int .i64 k1a,.int .i64 n1,.string s1,.slice c1 l1 c1p] rfl rfl 30 #[.int .i64 3,.string ⟨#[]⟩,.int .i64 op,.int .i64 0,.int .i64 0,.int .i64 0,.int .i64 0,.string ⟨#[]⟩,.slice none 0 0,.int .i64 0,.int .i64 0,.int .i64 0,.int .i64 0,.string ⟨#[]⟩,.slice none 0 0,.int .i64 0,.slice none 0 0] #[.int .i64 3,.string ⟨#[]⟩,.int .i64 op,.int .i64 f1,.int .i64 r1,.int .i64 k1a,.int .i64 n1,.string s1,.slice c1 l1 c1p,.int .i64 0,.int .i64 0,.int .i64 0,.int .i64 0,.string ⟨#[]⟩,.slice none 0 0,.int .i64 0,.slice none 0 0] (uh Bxx2) szAg (by simp) (ag_one _ _ _ _ _ _ _ _) rfl ?_))
 generalize (w2.setRow gx #[.int .i64 3,.string ⟨#[]⟩,.int .i64 op,.int .i64 f1,.int .i64 r1,.int .i64 k1a,.int .i64 n1,.string s1,.slice c1 l1 c1p,.int .i64 0,.int .i64 0,.int .i64 0,.int .i64 0,.string ⟨#[]⟩,.slice none 0 0,.int .i64 0,.slice none 0 0])=w3 at *
 clear Bxx2
 refine (uh X).mono ?_
 rintro r w4 ⟨rfl,hr,hg⟩
 have Rx4:=hide ((uh Qx3).blk hg (uh Rx3) (Nat.le_refl _))
 have Sx4:=hide (Nat.lt_of_lt_of_le (uh Sx3) (hg).size)
 have Bxx4:=hide ((uh Qx3).blk hg (uh Bxx3) (uh BGx))
 have Nxt14:=hide ((uh Nxt13).drawn hg (Nat.lt_trans (uh Qx3).lt (uh PM2)))
 have Qg4:=hide ((uh Qx3).next hr hg)
 clear hg hr X Rx3 Sx3 Bxx3 Nxt13 Qx3
 have X:=hide (arg13S rb la cap ts k4 b4 w4 hl (uh Qg4).rz)
 unfold PlR at X
 go_wp2_with fail
 refine (uh X).mono ?_
 rintro r w5 ⟨a2,c2,c2p,k5,b5,rfl,hn,hr,hg,ho⟩
 have PM5:=hide (uh Sx4)
 have PBx5:=hide (show gx<w4.heap.size from (Array.getElem?_eq_some_iff.1 (uh Bxx4)).1)
 have Rx5:=hide ((uh Qg4).blk hg (uh Rx4) (Nat.le_refl _))
 have Bxx5:=hide ((uh Qg4).blk hg (uh Bxx4) (uh BGx))
 have Nxt15:=hide ((uh Nxt14).drawn hg (Nat.lt_trans (uh Qg4).lt (uh PM2)))
 have Qg5:=hide ((uh Qg4).next hr hg)
 clear hg hr X Rx4 Sx4 Bxx4 Nxt14 Qg4
 have OO5:=hide ho
 have Nt25:=hide (hn).half
 clear hn ho
 unfold Ag.cs
 simp only
 have FE:=hide (fun w' h (h1:NewX w' w.heap.size a1.e c1) (h2:NewX w' w.heap.size a2.e c2)=>uh FB a2 c2 c2p k5 b5 w' ⟨h1,h2,NewX.nil _ _ _ _ _ _⟩ h (by rw [uh PE];refine (uh OO2).bind ?_;refine (uh OO4).bind ?_;refine (uh OO5).bind ?_;exact OutG.ret _ _ _))
 clear FB PE
 generalize a2.e.k=k2a at FE ⊢
 generalize a2.e.n=n2 at FE ⊢
 generalize a2.e.s=s2 at FE ⊢
 generalize a2.e.l.length=l2 at FE ⊢
 generalize a2.f=f2 at FE ⊢
 generalize a2.r=r2 at FE ⊢
 have Qx6:=hide ((uh Qg5).rowG (uh BGx) #[.int .i64 3,.string ⟨#[]⟩,.int .i64 op,.int .i64 f1,.int .i64 r1,.int .i64 k1a,.int .i64 n1,.string s1,.slice c1 l1 c1p,.int .i64 f2,.int .i64 r2,.int .i64 k2a,.int .i64 n2,.string s2,.slice c2 l2 c2p,.int .i64 0,.slice none 0 0])
 have Rx6:=hide ((setRow_other w5 gx w.heap.size #[.int .i64 3,.string ⟨#[]⟩,.int .i64 op,.int .i64 f1,.int .i64 r1,.int .i64 k1a,.int .i64 n1,.string s1,.slice c1 l1 c1p,.int .i64 f2,.int .i64 r2,.int .i64 k2a,.int .i64 n2,.string s2,.slice c2 l2 c2p,.int .i64 0,.slice none 0 0] (Nat.ne_of_lt (uh BLx))).trans (uh Rx5))
 have Bxx6:=hide ((show ((w5.setRow gx #[.int .i64 3,.string ⟨#[]⟩,.int .i64 op,.int .i64 f1,.int .i64 r1,.int .i64 k1a,.int .i64 n1,.string s1,.slice c1 l1 c1p,.int .i64 f2,.int .i64 r2,.int .i64 k2a,.int .i64 n2,.string s2,.slice c2 l2 c2p,.int .i64 0,.slice none 0 0])).heap[gx]?=some (.cells #[.int .i64 3,.string ⟨#[]⟩,.int .i64 op,.int .i64 f1,.int .i64 r1,.int .i64 k1a,.int .i64 n1,.string s1,.slice c1 l1 c1p,.int .i64 f2,.int .i64 r2,.int .i64 k2a,.int .i64 n2,.string s2,.slice c2 l2 c2p,.int .i64 0,.slice none 0 0] 30 (0,0)) from setRow_heap _ _ _ _ _ _ (uh Bxx5)))
 have Nxt16:=hide ((uh Nxt15).drawn (grownBy_row #[.int .i64 3,.string ⟨#[]⟩,.int .i64 op,.int .i64 f1,.int .i64 r1,.int .i64 k1a,.int .i64 n1,.string s1,.slice c1 l1 c1p,.int .i64 f2,.int .i64 r2,.int .i64 k2a,.int .i64 n2,.string s2,.slice c2 l2 c2p,.int .i64 0,.slice none 0 0]) (uh PBx2))
 have Nxt26:=hide ((uh Nt25).drawn (grownBy_row #[.int .i64 3,.string ⟨#[]⟩,.int .i64 op,.int .i64 f1,.int .i64 r1,.int .i64 k1a,.int .i64 n1,.string s1,.slice c1 l1 c1p,.int .i64 f2,.int .i64 r2,.int .i64 k2a,.int .i64 n2,.string s2,.slice c2 l2 c2p,.int .i64 0,.slice none 0 0]) (uh PBx5))
 clear Qg5 Rx5 Nxt15 Nt25
 go_wp2_with (first|((with_reducible show wpList _ _ _ (⟨_,.store _ _ _,_,_,_,_⟩::_) _ _);refine wpList_store_part rfl 28 _ _ rfl gx 9 #[.int .i64 f2,.int .i64 r2,.int .i64 k2a,.int .i64 n2,.string s2,.slice c2 l2 c2p] rfl rfl 30 #[.int .i64 3,.string ⟨#[]⟩,.int .i64 op,.int .i64 f1,.int .i64 r1,.int .i64 k1a,.int .i64 n1,.string s1,.slice c1 l1 c1p,.int .i64 0,.int .i64 0,.int .i64 0,.int .i64 0,.string ⟨#[]⟩,.slice none 0 0,.int .i64 0,.slice none 0 0] #[.int .i64 3,.string ⟨#[]⟩,.int .i64 op,.int .i64 f1,.int .i64 r1,.int .i64 k1a,.int .i64 n1,.string s1,.slice c1 l1 c1p,.int .i64 f2,.int .i64 r2,.int .i64 k2a,.int .i64 n2,.string s2,.slice c2 l2 c2p,.int .i64 0,.slice none 0 0] (uh Bxx5) szAg (by simp) (ag_one _ _ _ _ _ _ _ _) rfl ?_)|((with_reducible show wpList _ _ _ (⟨_,.load _ _,_,_,_,_⟩::_) _ _);refine wpList_load_row rfl 30 _ rfl gx rfl 30 #[.int .i64 3,.string ⟨#[]⟩,.int .i64 op,.int .i64 f1,.int .i64 r1,.int .i64 k1a,.int .i64 n1,.string s1,.slice c1 l1 c1p,.int .i64 f2,.int .i64 r2,.int .i64 k2a,.int .i64 n2,.string s2,.slice c2 l2 c2p,.int .i64 0,.slice none 0 0] (0,0) _ (uh Bxx6) Tryz.underlying30 rfl (by kernel_rfl) ?_)|((with_reducible show wpList _ _ _ (⟨_,.store _ _ _,_,_,_,_⟩::_) _ _);refine wpList_store_row rfl 30 _ _ rfl w.heap.size #[.int .i64 3,.string ⟨#[]⟩,.int .i64 op,.int .i64 f1,.int .i64 r1,.int .i64 k1a,.int .i64 n1,.string s1,.slice c1 l1 c1p,.int .i64 f2,.int .i64 r2,.int .i64 k2a,.int .i64 n2,.string s2,.slice c2 l2 c2p,.int .i64 0,.slice none 0 0] rfl rfl 30 _ (uh Rx6) szLn rfl (by simp [Value.oneCell']) ?_))
 refine bodyPost_ret (results_cell_row (P:=Tryz.prog) rfl _ _ w.heap.size 30 #[.int .i64 3,.string ⟨#[]⟩,.int .i64 op,.int .i64 f1,.int .i64 r1,.int .i64 k1a,.int .i64 n1,.string s1,.slice c1 l1 c1p,.int .i64 f2,.int .i64 r2,.int .i64 k2a,.int .i64 n2,.string s2,.slice c2 l2 c2p,.int .i64 0,.slice none 0 0] (0,0) _ rfl (setRow_heap _ _ _ _ _ _ (uh Rx6)) Tryz.underlying30 rfl szLn) rfl ?_
 exact uh FE _ ((uh Qx6).rowG (Nat.le_refl _) _) (((uh Nxt16).drawn (grownBy_row _) (uh PM2)).new.lower (Nat.le_of_lt (uh PM2))) (((uh Nxt26).drawn (grownBy_row _) (uh PM5)).new.lower (Nat.le_of_lt (uh PM5)))
end Go.Proofs.YtjnblcgekpgkoaaGreatDoor
