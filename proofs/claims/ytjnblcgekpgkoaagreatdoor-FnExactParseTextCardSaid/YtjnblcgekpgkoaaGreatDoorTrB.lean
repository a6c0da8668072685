/- Contracts over this seat's translation, laid together; conditions stand as hypotheses of each. -/
import Derived.Test.YtjnblcgekpgkoaaGreatDoorTrA
import Derived.LoopN
namespace Go.Proofs.YtjnblcgekpgkoaaGreatDoor
open Go.ChangeShapes Go.WideShapes Go.ChangeAt Go.RowKit
set_option maxHeartbeats 16000000
set_option linter.unusedVariables false
set_option maxRecDepth 8000
theorem cell_new (W:World) (cs:Array Value) (t:TypeId):∀ j u,cs.toList[j]?=some u→(W.alloc (.cells cs t)).cell? ((⟨W.heap.size,0,none⟩:Addr).add j)=some u:=by
 intro j u hu
 have h:(W.alloc (.cells cs t)).cell? ⟨W.heap.size,j,none⟩=some u:=by rw [World.cell?_alloc_at _ _ _ _ rfl];simpa using hu
 unfold Addr.add
 by_cases h0:j=0
 · subst h0;simpa using h
 · simpa [h0] using h
theorem ownT_empty (w:World) (B:Nat) (hB:B≤w.heap.size):OwnT (w.alloc (Obj.cells #[] 71)) B (.slice (some ⟨w.heap.size,0,none⟩) 0 0) [] :=
 World.ownsRow_lit w #[] 0 hB (by decide) rfl
theorem ownT_none (w:World) (B:Nat):OwnT w B (.slice none 0 0) []:=⟨rfl,.inl ⟨rfl,rfl⟩⟩
theorem ownT_app {w':World} {B:Nat} {v:Value} {ts:List Tk} {t:Tk} (h:w'.ownsRow B 71 3 v (ts.length+1) (cellsT ts++[.int .i64 t.k,.int .i64 t.n,.string t.s])):OwnT w' B v (ts++[t]):=by
 unfold OwnT
 rw [List.length_append,cellsT_app]
 exact h
theorem newT_one (k n:Int) (x:ByteArray):∀ u∈[Value.int .i64 k,.int .i64 n,.string x],u.oneCell'=true:=by
 intro u hu
 simp only [List.mem_cons,List.not_mem_nil,or_false] at hu
 rcases hu with rfl|rfl|rfl <;> rfl
theorem lexS_any (s:ByteArray) (w:World) (hz:s.size≤1048576):Calls Tryz.prog 55 #[.string s] w fun e w'=>∃ v,e = .returned (.tuple #[v,.bool (lexR s 0 []).2])∧OwnT w' w.heap.size v (lexR s 0 []).1∧Below w.heap.size w w':=by
 obtain ⟨i0,hi,hz0,hz1,hz2⟩:=info_parts infoT
 obtain ⟨R,hR⟩:∃ R,lexR s 0 []=R:=⟨_,rfl⟩
 have HR:=hide hR
 rw [hR]
 clear hR
 have hl:=size_len s
 have O0:=hide (ownT_empty w w.heap.size (Nat.le_refl _))
 have B0:=hide (below_new w (.cells #[] 71))
 go_enter Tryz.func55,Tryz.ntmps55
 go_wp2
 go_loopw [4,5] (fun o i wr=>∃ (k:Nat) (acc:List Tk) (a:Option Addr) (cap:Nat),k≤s.size∧i = .int .i64 k∧o = .slice a acc.length cap∧acc.length≤800∧OwnT wr w.heap.size (.slice a acc.length cap) acc∧Below w.heap.size w wr∧Hid (lexR s k acc=R)) (fun _ i _=>s.size-(intOf i).toNat)
 case atStart=>exact ⟨0,[],_,_,Nat.zero_le _,rfl,rfl,by simp,uh O0,uh B0,uh HR⟩
 case round =>
  clear O0 B0 HR
  obtain ⟨k,acc,a,cap,hk,rfl,rfl,h8,ho,hb,hd⟩:=hrel
  have OW:=hide ho
  have HB:=hide hb
  clear ho hb
  by_cases hlt:k<s.size
  ·
   have he:=sAt s k hlt
   have hbd:=bAt_bd s.data.toList k
   by_cases h59:bAt s.data.toList k=59
   ·
    have E:=hide ((lexR_semi hlt h59).symm.trans hd.out)
    rw [h59] at he
    clear hd h59 hbd
    go_wp2
    go_ret2
    exact ⟨_,by rw [←uh E];rfl,by rw [←uh E];exact uh OW,uh HB⟩
   ·
    cases hbl:blB (bAt s.data.toList k)
    ·
     have EB:=hide (fun h=>(lexR_bad hlt h59 hbl h).symm.trans hd.out)
     have EN:=hide (fun h3 h4=>(lexR_next hlt h59 hbl h3 h4).symm.trans hd.out)
     have BL:=hide hbl
     have h32:(bAt s.data.toList k == 32)=false:=beq_eq_false_iff_ne.2 fun e=>by rw [e] at hbl;exact absurd hbl (by decide)
     have h9:(bAt s.data.toList k == 9)=false:=beq_eq_false_iff_ne.2 fun e=>by rw [e] at hbl;exact absurd hbl (by decide)
     have EE:=hide (oneE_bd s k hlt)
     have O1:=hide (oneS_any s k wr hz hlt)
     have TS:=hide (fun w=>tokS_any (oneT badS s k) w)
     have XS:=hide (show (oneT badS s k).s.size≤1099511627776 by
      unfold oneT
      have hx:=extract_size s k (oneE s k)
      split
      · unfold wordT;split <;> (show (s.extract k (oneE s k)).size≤_;omega)
      ·
       split
       ·
        unfold numT
        split
        · show (0:Nat)≤_;omega
        · show (0:Nat)≤_;omega
       · split <;> (show (s.extract k (oneE s k)).size≤_;omega))
     generalize oneE s k=E at *
     generalize bAt s.data.toList k=c at *
     generalize hT:oneT badS s k=T at *
     have TV:=hide (fun w=>uh TS w (uh XS))
     generalize T.ok=q at *
     obtain ⟨tk,tn,tx⟩:=T
     have B2:=hide (fun W=>below_new W (.cells (Tk.cs ⟨tk,tn,tx⟩) 71))
     have R2:=hide (fun W=>heap_alloc_new W (.cells (Tk.cs ⟨tk,tn,tx⟩) 71))
     unfold Tk.v Tk.cs at *
     simp only at O1 TV B2 R2
     obtain ⟨b1,b2⟩:=uh EE
     clear TS XS hT hd hbl EE
     go_wp2_with fail
     refine (uh O1).mono ?_
     rintro e w1 ⟨rfl,hb1⟩
     have OW1:=hide ((uh OW).later hb1)
     have HB1:=hide ((uh HB).trans (hb1.mono (uh HB).size))
     clear hb1 OW HB O1
     go_wp2_with fail
     refine (uh TV _).mono ?_
     rintro e w3 ⟨rfl,hb3⟩
     have R3:=hide ((hb3.block _ (by simp)).trans (uh R2 w1))
     have OW3:=hide (((uh OW1).later (uh B2 w1)).later hb3)
     have HB3:=hide (((uh HB1).trans ((uh B2 w1).mono (uh HB1).size)).trans (hb3.mono (Nat.le_trans (uh HB1).size (uh B2 w1).size)))
     have hs3:=(uh HB3).size
     clear hb3 OW1 HB1 TV B2 R2
     generalize w1.heap.size=g1 at *
     cases q
     ·
      have E1:=hide (uh EB (.inl rfl))
      have O4:=hide (ownT_empty w3 w.heap.size hs3)
      have B4:=hide ((uh HB3).alloc hs3 (.cells #[] 71))
      clear EB EN
      go_wp2
      go_ret2
      exact ⟨_,by rw [←uh E1];rfl,by rw [←uh E1];exact uh O4,uh B4⟩
     ·
      by_cases h800:acc.length=800
      ·
       have E1:=hide (uh EB (.inr h800))
       have O4:=hide (ownT_empty w3 w.heap.size hs3)
       have B4:=hide ((uh HB3).alloc hs3 (.cells #[] 71))
       have h8e:((acc.length:Int) == 800)=true:=by simp [h800]
       clear EB EN
       go_wp2
       go_ret2
       exact ⟨_,by rw [←uh E1];rfl,by rw [←uh E1];exact uh O4,uh B4⟩
      ·
       have E1:=hide (uh EN rfl h800)
       have h8e:((acc.length:Int) == 800)=false:=beq_eq_false_iff_ne.2 (by omega)
       have c0:=(tri_cells (t:=⟨tk,tn,tx⟩) (uh R3)).1
       have c1:=(tri_cells (t:=⟨tk,tn,tx⟩) (uh R3)).2.1
       have c2:=(tri_cells (t:=⟨tk,tn,tx⟩) (uh R3)).2.2
       simp only at c0 c1 c2
       have K1:=hide (cell_new w3 #[.int .i64 tk,.int .i64 tn,.string tx] 71)
       clear EB EN R3
       go_wp2_with (at_builtin;go_must (refine wpList_append_own _ rfl (.tmp 46) (.tmp 48) 39 rfl w.heap.size 71 i0 (.agg #[.int .i64 0,.int .i64 0,.string ⟨#[]⟩]) 3 32 Tryz.underlying39 hi hz0 hz1 hz2 rfl (by decide) (.slice a acc.length cap) acc.length (cellsT acc) rfl (World.ownsRow.alloc (uh OW3) _) ⟨w3.heap.size,0,none⟩ 1 1 [.int .i64 tk,.int .i64 tn,.string tx] rfl rfl (uh K1) (newT_one _ _ _) (by unfold maxLen;omega) (by omega) (by simp;omega) ?_;intro v5 w5 hown5 hgrow5 _;have OW5:=hide (ownT_app (t:=⟨tk,tn,tx⟩) hown5);obtain ⟨a5,c5,hv5,_⟩:=(uh OW5).rd;have HB5:=hide (((uh HB3).alloc hs3 (.cells #[.int .i64 tk,.int .i64 tn,.string tx] 71)).grown hgrow5 (by simp;omega) (fun g hg=>((uh OW3).lt hg).1));clear hown5 hgrow5;subst hv5))
       go_roundw
       case rel=>exact ⟨E,acc++[Tk.mk tk tn tx],a5,c5,b2,by go_num,by rw [List.length_append];rfl,by rw [List.length_append];simp;omega,uh OW5,uh HB5,uh E1⟩
       case measure=>simp [intOf];omega
    ·
     have EL:=hide ((lexR_blank hlt h59 hbl).symm.trans hd.out)
     clear hd
     by_cases h32:bAt s.data.toList k=32
     ·
      rw [h32] at he
      clear hbl hbd h59 h32
      go_wp2
      go_roundw
      case rel=>exact ⟨k+1,acc,a,cap,by omega,by go_num,rfl,h8,uh OW,uh HB,uh EL⟩
      case measure=>simp [intOf];omega
     ·
      have h9:bAt s.data.toList k=9:=by
       unfold blB at hbl
       rw [Bool.or_eq_true,beq_iff_eq,beq_iff_eq] at hbl
       exact hbl.elim (fun e=>absurd e h32) id
      rw [h9] at he
      clear hbl hbd h59 h32 h9
      go_wp2
      go_roundw
      case rel=>exact ⟨k+1,acc,a,cap,by omega,by go_num,rfl,h8,uh OW,uh HB,uh EL⟩
      case measure=>simp [intOf];omega
  ·
   have E:=hide ((lexR_end hlt).symm.trans hd.out)
   clear hd
   go_wp2
   go_ret2
   exact ⟨_,by rw [←uh E];rfl,by rw [←uh E];exact uh OW,uh HB⟩
set_option linter.unusedSimpArgs false
theorem signS_any (k:Int) (hk:5≤k∧k≤10) (w:World):Calls Tryz.prog 183 #[.int .i64 k] w fun e w'=>e = .returned (.string (mkS (sgnC k)))∧w'=w:=by
 have:k=5∨k=6∨k=7∨k=8∨k=9∨k=10:=by omega
 rcases this with rfl|rfl|rfl|rfl|rfl|rfl <;> (go_enter Tryz.func183,Tryz.ntmps183;go_wp2;go_ret;exact ⟨rfl,rfl⟩)
def RdR (o:Option (Ex × List Tk)) (rb:Nat) (la:Option Addr) (cap:Nat) (ts:List Tk) (bad:Bool) (w:World) (r:Ending) (w':World):Prop :=
 ∃ (e:Ex) (c:Option Addr) (cp k':Nat) (bad':Bool),r = .returned (.agg (e.cs c cp))∧NewX w' w.heap.size e c∧Rz w' rb la cap ts k' bad'∧w.grownBy w' (some rb)∧OutO o ts bad e k' bad'
def RdP (d:Nat):Prop:=∀ (m:Int),m=7-(d:Int)→∀ (rb:Nat) (la:Option Addr) (cap:Nat) (ts:List Tk) (k:Nat) (bad:Bool) (w:World),ts.length≤1048576→Rz w rb la cap ts k bad →
 Calls Tryz.prog 178 #[.pointer (some ⟨rb,0,none⟩),.int .i64 m] w (RdR (readF d (ts.drop k)) rb la cap ts bad w)
theorem nextS_any (rb:Nat) (la:Option Addr) (cap:Nat) (ts:List Tk) (k:Nat) (bad:Bool) (w:World) (hm:ts.length≤1048576) (h:Rz w rb la cap ts k bad) :
  Calls Tryz.prog 174 #[.pointer (some ⟨rb,0,none⟩)] w fun r w'=>r = .returned (nextT ts k bad).v∧Rz w' rb la cap ts (nextK ts k bad) (!nextB ts k bad)∧w.grownBy w' (some rb):=by
 unfold nextT nextK
 cases hq:nextB ts k bad with
 | false =>
  refine (nextS_no rb la cap ts k bad w hm h hq).mono ?_
  rintro r w' ⟨rfl,h1,h2⟩
  exact ⟨rfl,h1,h2⟩
 | true =>
  unfold nextB at hq
  cases bad with
  | true => cases hq
  | false =>
   have hk:k<ts.length:=by simpa using hq
   refine (nextS_yes rb la cap ts k w hm h hk).mono ?_
   rintro r w' ⟨rfl,h1,h2⟩
   exact ⟨rfl,h1,h2⟩
theorem fieldS (a b:Int) (s:ByteArray) (w:World):(Instr.field 71 (.agg #[.int .i64 a,.int .i64 b,.string s]) 2).run Tryz.prog w = .ok (.string s) w:=by
 kernel_rfl
def NotB (s:ByteArray) (i:Nat):Prop:=∀ j:Nat,5≤j→j<i→eqS (mkS (sgnC (j:Int))) s=false
theorem notB_all {s:ByteArray} (h:NotB s 11):sgnK s=none:=by
 cases hk:sgnK s with
 | none => rfl
 | some k =>
  obtain ⟨⟨h1,h2⟩,h3⟩:=sgnK_some hk
  obtain ⟨j,rfl⟩:=Int.eq_ofNat_of_zero_le (show 0≤k by omega)
  have:=h j (by omega) (by omega)
  rw [h3,(eqS_iff _ _).2 rfl] at this
  cases this
theorem twoS_of (d:Nat) (hd:d≤5) (ih:RdP d) (m:Int) (hm:m=6-(d:Int)) (rb:Nat) (la:Option Addr) (cap:Nat) (ts:List Tk) (k:Nat) (bad:Bool) (w:World) (hl:ts.length≤1048576) (h:Rz w rb la cap ts k bad) :
  Calls Tryz.prog 208 #[.pointer (some ⟨rb,0,none⟩),.int .i64 m] w (RdR (twoF d (ts.drop k)) rb la cap ts bad w):=by
 have B0:=below_new w (.cells E0x 26)
 have R0:=hide (heap_alloc_new w (.cells E0x 26))
 have hZ0:w.heap.size<(w.alloc (.cells E0x 26)).heap.size:=by simp
 have H0:=hide (h.start.later B0)
 have hlt:=h.lt
 have hm0:1≤m:=by omega
 have hm1:m≤6:=by omega
 have hmd:m+1=7-(d:Int):=by omega
 have IH:=hide (fun k bad wr (hr:Rz wr rb la cap ts k bad)=>ih (m+1) hmd rb la cap ts k bad wr hl hr)
 unfold RdR at IH
 unfold RdR
 unfold E0x at R0 H0 hZ0
 clear h B0 ih hmd hm
 go_enter Tryz.func208,Tryz.ntmps208
 go_wp2_with fail
 generalize w.alloc (Obj.cells #[.int .i64 0,.int .i64 0,.string ⟨#[]⟩,.slice none 0 0] 26)=W at *
 refine (uh IH k bad W (uh H0).rz).mono ?_
 rintro r w1 ⟨x,c,cp,k1,b1,rfl,hnx,hr1,hg1,ho1⟩
 have H1:=hide ((uh H0).next hr1 hg1)
 have R1:=hide ((uh H0).blk hg1 (uh R0) (Nat.le_refl _))
 have hZ1:w.heap.size<w1.heap.size:=Nat.lt_of_lt_of_le hZ0 hg1.size
 have X1:=hide ((hnx.lower (show w.heap.size+1≤W.heap.size by omega)).half)
 have O1:=hide ho1
 unfold Ex.cs
 clear hnx hr1 hg1 ho1 H0 R0
 have hb2:=below_new w1 (.cells #[.int .i64 x.k,.int .i64 x.n,.string x.s,.slice c x.l.length cp] 26)
 have hg2:(w1.alloc (.cells #[.int .i64 x.k,.int .i64 x.n,.string x.s,.slice c x.l.length cp] 26)).heap[w1.heap.size]?=some (.cells #[.int .i64 x.k,.int .i64 x.n,.string x.s,.slice c x.l.length cp] 26 (0,0)):=Array.getElem?_push_size
 have hz2:(w1.alloc (.cells #[.int .i64 x.k,.int .i64 x.n,.string x.s,.slice c x.l.length cp] 26)).heap.size=w1.heap.size+1:=by simp
 obtain ⟨w2,hw2⟩:∃ w2,w1.alloc (.cells #[.int .i64 x.k,.int .i64 x.n,.string x.s,.slice c x.l.length cp] 26)=w2:=⟨_,rfl⟩
 rw [hw2] at hb2 hg2 hz2
 have H2:=hide ((uh H1).later hb2)
 have R2:=hide (row_keep (uh R1) hb2)
 have G2:=hide hg2
 have X2:=hide (((uh X1).later hb2).upto (show w1.heap.size≤w2.heap.size by omega))
 have hZ2:w.heap.size<w2.heap.size:=by omega
 have HZ2:=hide hz2
 have N2:=hide (nextS_any rb la cap ts k1 b1 w2 hl (uh H2).rz)
 clear hb2 hg2 hz2 H1 R1 X1
 unfold Tk.v Tk.cs at N2
 generalize hTT:nextT ts k1 b1=TT at *
 have fS:=fieldS
 obtain ⟨g,hgg⟩:∃ g,w1.heap.size=g:=⟨_,rfl⟩
 rw [hgg] at G2
 have HG2:=hide (show w.heap.size<g from hgg▸hZ1)
 go_wp2_with fail
 refine (uh N2).mono ?_
 rintro r w3 ⟨rfl,hr3,hg3⟩
 have H3:=hide ((uh H2).next hr3 hg3)
 have R3:=hide ((uh H2).blk hg3 (uh R2) (Nat.le_refl _))
 have G3:=hide ((uh H2).blk hg3 (uh G2) (Nat.le_of_lt (uh HG2)))
 have X3:=hide ((((uh X2).drawn hg3 (Nat.lt_succ_of_lt hlt))).upto hg3.size)
 have hZ3:w.heap.size<w3.heap.size:=Nat.lt_of_lt_of_le hZ2 hg3.size
 clear hr3 hg3 H2 R2 G2 X2 N2 hw2
 go_wp2_with fail
 refine (uh IH _ _ w3 (uh H3).rz).mono ?_
 rintro r w4 ⟨y,d2,dp,k3,b3,rfl,hny,hr4,hg4,ho4⟩
 have H4:=hide ((uh H3).next hr4 hg4)
 have R4:=hide ((uh H3).blk hg4 (uh R3) (Nat.le_refl _))
 have G4:=hide ((uh H3).blk hg4 (uh G3) (Nat.le_of_lt (uh HG2)))
 have X4:=hide ((uh X3).drawn hg4 (Nat.lt_succ_of_lt hlt))
 have Y4:=hide hny
 have TW:=hide (two_yes (uh O1) ho4)
 have hZ4:w3.heap.size≤w4.heap.size:=hg4.size
 unfold Ex.cs
 rw [hTT] at TW
 clear hny hr4 hg4 ho4 H3 R3 G3 X3 O1 IH
 have hb5:=below_new w4 (.cells #[.int .i64 y.k,.int .i64 y.n,.string y.s,.slice d2 y.l.length dp] 26)
 have hg5:(w4.alloc (.cells #[.int .i64 y.k,.int .i64 y.n,.string y.s,.slice d2 y.l.length dp] 26)).heap[w4.heap.size]?=some (.cells #[.int .i64 y.k,.int .i64 y.n,.string y.s,.slice d2 y.l.length dp] 26 (0,0)):=Array.getElem?_push_size
 have hz5:(w4.alloc (.cells #[.int .i64 y.k,.int .i64 y.n,.string y.s,.slice d2 y.l.length dp] 26)).heap.size=w4.heap.size+1:=by simp
 obtain ⟨w5,hw5⟩:∃ w5,w4.alloc (.cells #[.int .i64 y.k,.int .i64 y.n,.string y.s,.slice d2 y.l.length dp] 26)=w5:=⟨_,rfl⟩
 rw [hw5] at hb5 hg5 hz5
 have H5:=hide ((uh H4).later hb5)
 have R5:=hide (row_keep (uh R4) hb5)
 have G5:=hide (row_keep (uh G4) hb5)
 have X5:=hide ((uh X4).later hb5)
 have Y5:=hide ((uh Y4).later hb5)
 have M5:=hide (mustS_any rb la cap ts k3 b3 (mkS 62) w5 hl (uh H5).rz)
 unfold mkS at M5
 obtain ⟨f,hff⟩:∃ f,w4.heap.size=f:=⟨_,rfl⟩
 rw [hff] at hg5
 have F5:=hide hg5
 have HF5:=hide (show w.heap.size<f by omega)
 clear hb5 hg5 hz5 H4 R4 G4 X4 Y4
 go_wp2_with fail
 refine (uh M5).mono ?_
 rintro r w6 ⟨rfl,hr6,hg6⟩
 have H6:=hide ((uh H5).next hr6 hg6)
 have R6:=hide ((uh H5).blk hg6 (uh R5) (Nat.le_refl _))
 have G6:=hide ((uh H5).blk hg6 (uh G5) (Nat.le_of_lt (uh HG2)))
 have F6:=hide ((uh H5).blk hg6 (uh F5) (Nat.le_of_lt (uh HF5)))
 have X6:=hide ((uh X5).drawn hg6 (Nat.lt_succ_of_lt hlt))
 have Y6:=hide ((uh Y5).drawn hg6 (show rb<w3.heap.size by omega))
 have hZ6:w3.heap.size≤w6.heap.size:=Nat.le_trans (show w3.heap.size≤w5.heap.size by rw [←hw5];simp;omega) hg6.size
 have TW6:(∀ kk,sgnK TT.s=some kk→OutO (twoF d (ts.drop k)) ts bad ⟨kk,0,E0,[x,y]⟩ (if seeB ts k3 b3 ⟨#[62]⟩=true then k3+1 else k3) (!seeB ts k3 b3 ⟨#[62]⟩))∧(sgnK TT.s=none→∀ e j,OutO (twoF d (ts.drop k)) ts bad e j true):=uh TW
 have TW7:=hide TW6
 clear TW6 TW hr6 hg6 H5 R5 G5 F5 X5 Y5 M5 hw5
 generalize (if seeB ts k3 b3 ⟨#[62]⟩=true then k3+1 else k3)=k4 at *
 generalize (!seeB ts k3 b3 ⟨#[62]⟩)=b4 at *
 generalize TT.s=S1 at *
 go_wp2
 go_loopw [8] (fun i wr=>∃ j:Nat,i = .int .i64 j∧5≤j∧j≤11∧NotB S1 j∧wr=w6) (fun i _=>11-(intOf i).toNat)
 case atStart=>exact ⟨5,rfl,by omega,by omega,fun j h1 h2=>by omega,rfl⟩
 case round =>
  obtain ⟨j,rfl,hj5,hj11,hnb,rfl⟩:=hrel
  by_cases hj:j≤10
  ·
   have hp:(j:Int)≤10:=by omega
   have SG:=hide (signS_any (j:Int) (by omega) wr)
   have SB:=hide (sgn_back (k:=(j:Int)) (by omega))
   have NB:=hide hnb
   clear hnb
   have HE:=hide (eqS_iff (mkS (sgnC (j:Int))) S1)
   have NX:=hide (show eqS (mkS (sgnC (j:Int))) S1=false→NotB S1 (j+1) from fun hf i h1 h2=>by
    by_cases hi:i<j
    · exact uh NB i h1 hi
    ·
     obtain rfl:i=j:=by omega
     exact hf)
   generalize mkS (sgnC (j:Int))=sg at *
   unfold eqS at HE NX
   by_cases hq:(sg.toList == S1.toList)=true
   ·
    have hs:sg=S1:=(uh HE).1 hq
    have KK:=hide (show sgnK S1=some (j:Int) from hs▸uh SB)
    have y0:=Lib.cell_of_heap (uh G6) 0
    have y1:=Lib.cell_of_heap (uh G6) 1
    have y2:=Lib.cell_of_heap (uh G6) 2
    have y3:=Lib.cell_of_heap (uh G6) 3
    have z0:=Lib.cell_of_heap (uh F6) 0
    have z1:=Lib.cell_of_heap (uh F6) 1
    have z2:=Lib.cell_of_heap (uh F6) 2
    have z3:=Lib.cell_of_heap (uh F6) 3
    have N6:=hide (HalfX.two (cp:=cp) (dp:=dp) (uh X6) (uh Y6) (by omega) hZ6 (j:Int) 0 E0 26)
    have hb7:=below_new wr (.cells #[.int .i64 x.k,.int .i64 x.n,.string x.s,.slice c x.l.length cp,.int .i64 y.k,.int .i64 y.n,.string y.s,.slice d2 y.l.length dp] 26)
    have H7:=hide ((uh H6).later hb7)
    have R7:=hide (row_keep (uh R6) hb7)
    clear hb7 hs NX HE
    go_wp2_with (first|(go_at_call 183;refine (uh SG).mono ?_;rintro e w' ⟨rfl,hw'⟩;rw [hw'];clear hw' w')|(refine wpList_store_row rfl 26 _ _ rfl w.heap.size #[.int .i64 j,.int .i64 0,.string ⟨#[]⟩,.slice (some ⟨wr.heap.size,0,none⟩) 2 2] rfl rfl 26 _ (uh R7) szE rfl (ex_one _ _ _ _ _ _) ?_))
    refine bodyPost_ret (results_cell_row (P:=Tryz.prog) rfl _ _ w.heap.size 26 #[.int .i64 j,.int .i64 0,.string ⟨#[]⟩,.slice (some ⟨wr.heap.size,0,none⟩) 2 2] (0,0) _ rfl (setRow_heap _ _ _ _ _ _ (uh R7)) Tryz.underlying26 rfl szE) rfl ?_
    exact ⟨⟨j,0,E0,[x,y]⟩,_,_,k4,b4,rfl,((uh N6).row _ (Nat.lt_succ_self _)).lower (Nat.le_succ _),((uh H7).row _).rz,((uh H7).row _).gr,(uh TW7).1 _ (uh KK)⟩
   ·
    have hq:(sg.toList == S1.toList)=false:=by simpa using hq
    have NN:=hide (uh NX hq)
    clear NX HE SB
    go_wp2_with (first|(go_at_call 183;refine (uh SG).mono ?_;rintro e w' ⟨rfl,hw'⟩;rw [hw'];clear hw' w'))
    go_roundw
    case rel=>first|exact ⟨j+1,by go_num,by omega,by omega,uh NN,trivial⟩|exact ⟨j+1,by go_num,by omega,by omega,uh NN,rfl⟩
    case measure=>simp [intOf];omega
  ·
   obtain rfl:j=11:=by omega
   have NO:=hide (notB_all hnb)
   obtain ⟨c0,c1,c2⟩:=(uh H6).rz.cells
   have f2:=(uh H6).rz.frz 2
   have H7:=hide ((uh H6).next (uh H6).rz.setBad (grownBy_set _))
   have R7:=hide ((uh H6).blk (grownBy_set (w:=wr) (b:=rb) (o:=2) (.bool true)) (uh R6) (Nat.le_refl _))
   clear hnb
   go_wp2_with (refine wpList_store_row rfl 26 _ _ rfl w.heap.size #[.int .i64 0,.int .i64 0,.string ⟨#[]⟩,.slice none 0 0] rfl rfl 26 _ (uh R7) szE rfl (ex_one _ _ _ _ _ _) ?_)
   refine bodyPost_ret (results_cell_row (P:=Tryz.prog) rfl _ _ w.heap.size 26 #[.int .i64 0,.int .i64 0,.string ⟨#[]⟩,.slice none 0 0] (0,0) _ rfl (setRow_heap _ _ _ _ _ _ (uh R7)) Tryz.underlying26 rfl szE) rfl ?_
   exact ⟨⟨0,0,E0,[]⟩,none,0,k4,true,rfl,NewX.nil _ _ _ _ _ _,((uh H7).row _).rz,((uh H7).row _).gr,(uh TW7).2 (uh NO) _ _⟩
theorem readF_cons (d:Nat) (t:Tk) (r:List Tk):readF (d+1) (t::r)=(if t.k=2 then some (⟨1,t.n,E0,[]⟩,r) else if t.k=1 then some (⟨2,0,t.s,[]⟩,r)
  else if eqS t.s (mkS 46)=true then some (⟨3,0,E0,[]⟩,r)
  else if eqS t.s (mkS 45)=true then (match readF d r with|none=>none|some (a,q)=>some (⟨4,0,E0,[a]⟩,q))
  else if eqS t.s (mkS 60)=true then twoF d r else none):=rfl
theorem neg_out {d:Nat} {r ts:List Tk} {x:Ex} {k3:Nat} {b3:Bool} (h:OutO (readF d r) ts false x k3 b3):OutO (match readF d r with|none=>none|some (a,q)=>some (⟨4,0,E0,[a]⟩,q)) ts false ⟨4,0,E0,[x]⟩ k3 b3:=by
 refine ⟨fun h=>(by cases h),fun _=>?_⟩
 have:=h.2 rfl
 cases hq:readF d r with
 | none => rw [hq] at this; exact this
 | some p =>
  obtain ⟨a,q⟩:=p
  rw [hq] at this
  obtain ⟨e1,e2,e3⟩:=this
  exact ⟨e1,by rw [e2],e3⟩
theorem eq46 (s:ByteArray):eqS s (mkS 46)=(s.toList == [46]):=by unfold eqS;rw [show (mkS 46).toList = [46] by rw [ByteArray.toList_eq];rfl]
theorem eq45 (s:ByteArray):eqS s (mkS 45)=(s.toList == [45]):=by unfold eqS;rw [show (mkS 45).toList = [45] by rw [ByteArray.toList_eq];rfl]
theorem eq60 (s:ByteArray):eqS s (mkS 60)=(s.toList == [60]):=by unfold eqS;rw [show (mkS 60).toList = [60] by rw [ByteArray.toList_eq];rfl]
theorem readS_0:RdP 0:=by
 rintro m rfl rb la cap ts k bad w hl h
 have B0:=below_new w (.cells E0x 26)
 have R0:=hide (heap_alloc_new w (.cells E0x 26))
 have H0:=hide (h.start.later B0)
 unfold RdR
 unfold E0x at R0 H0
 clear h B0
 go_enter Tryz.func178,Tryz.ntmps178
 obtain ⟨W,hW⟩:∃ W,w.alloc (Obj.cells #[.int .i64 0,.int .i64 0,.string ⟨#[]⟩,.slice none 0 0] 26)=W:=⟨_,rfl⟩
 rw [hW] at R0 H0
 obtain ⟨c0,c1,c2⟩:=(uh H0).rz.cells
 have f2:=(uh H0).rz.frz 2
 have H7:=hide ((uh H0).next (uh H0).rz.setBad (grownBy_set _))
 have R7:=hide ((uh H0).blk (grownBy_set (w:=W) (b:=rb) (o:=2) (.bool true)) (uh R0) (Nat.le_refl _))
 go_wp2_with (refine wpList_store_row rfl 26 _ _ rfl w.heap.size #[.int .i64 0,.int .i64 0,.string ⟨#[]⟩,.slice none 0 0] rfl rfl 26 _ (uh R7) szE rfl (ex_one _ _ _ _ _ _) ?_)
 refine bodyPost_ret (results_cell_row (P:=Tryz.prog) rfl _ _ w.heap.size 26 #[.int .i64 0,.int .i64 0,.string ⟨#[]⟩,.slice none 0 0] (0,0) _ rfl (setRow_heap _ _ _ _ _ _ (uh R7)) Tryz.underlying26 rfl szE) rfl ?_
 exact ⟨⟨0,0,E0,[]⟩,none,0,k,true,rfl,NewX.nil _ _ _ _ _ _,((uh H7).row _).rz,((uh H7).row _).gr,OutO.bad _ _ (fun _=>rfl)⟩
theorem readS_s (d:Nat) (hd:d≤5) (ih:RdP d):RdP (d+1):=by
 rintro m hm rb la cap ts k bad w hl h
 have B0:=below_new w (.cells E0x 26)
 have R0:=hide (heap_alloc_new w (.cells E0x 26))
 have hZ0:w.heap.size<(w.alloc (.cells E0x 26)).heap.size:=by simp
 have H0:=hide (h.start.later B0)
 have hlt:=h.lt
 have hm0:1≤m:=by omega
 have hm1:m≤6:=by omega
 have hm2:¬ 6<m:=by omega
 have hmd:m+1=7-(d:Int):=by omega
 have IH:=hide (fun k bad wr (hr:Rz wr rb la cap ts k bad)=>ih (m+1) hmd rb la cap ts k bad wr hl hr)
 have TW:=hide (fun k bad wr (hr:Rz wr rb la cap ts k bad)=>twoS_of d hd ih m (by omega) rb la cap ts k bad wr hl hr)
 unfold RdR at IH TW
 unfold RdR
 unfold E0x at R0 hZ0
 clear h B0 ih hmd hm
 cases hn:nextB ts k bad
 case false =>
  have N0:=hide (nextS_no rb la cap ts k bad _ hl (uh H0).rz hn)
  have ND2:=hide (show OutO (readF (d+1) (ts.drop k)) ts bad ⟨0,0,E0,[]⟩ k true from OutO.bad _ _ (fun hb=>by
   subst hb
   have:ts.length≤k:=by
    unfold nextB at hn
    simpa using hn
   rw [List.drop_eq_nil_of_le this]
   rfl))
  obtain ⟨tx,htx⟩:∃ tx:ByteArray,(⟨#[]⟩:ByteArray)=tx:=⟨_,rfl⟩
  rw [htx] at N0
  have h46:(tx.toList == [46])=false:=by rw [←htx,ByteArray.toList_eq];rfl
  have h45:(tx.toList == [45])=false:=by rw [←htx,ByteArray.toList_eq];rfl
  have h60:(tx.toList == [60])=false:=by rw [←htx,ByteArray.toList_eq];rfl
  clear IH TW hn htx
  unfold E0x at H0 N0
  go_enter Tryz.func178,Tryz.ntmps178
  go_wp2_with fail
  generalize w.alloc (Obj.cells #[.int .i64 0,.int .i64 0,.string ⟨#[]⟩,.slice none 0 0] 26)=W at *
  refine (uh N0).mono ?_
  rintro r w1 ⟨rfl,hr1,hg1⟩
  have H1:=hide ((uh H0).next hr1 hg1)
  have R1:=hide ((uh H0).blk hg1 (uh R0) (Nat.le_refl _))
  have hZ1:w.heap.size<w1.heap.size:=Nat.lt_of_lt_of_le hZ0 hg1.size
  clear hr1 hg1 H0 R0 N0
  have hb2:=below_new w1 (.cells #[.int .i64 0,.int .i64 0,.string tx] 71)
  have hg2:(w1.alloc (.cells #[.int .i64 0,.int .i64 0,.string tx] 71)).heap[w1.heap.size]?=some (.cells #[.int .i64 0,.int .i64 0,.string tx] 71 (0,0)):=Array.getElem?_push_size
  obtain ⟨w2,hw2⟩:∃ w2,w1.alloc (.cells #[.int .i64 0,.int .i64 0,.string tx] 71)=w2:=⟨_,rfl⟩
  rw [hw2] at hb2 hg2
  have H2:=hide ((uh H1).later hb2)
  have R2:=hide (row_keep (uh R1) hb2)
  have t0:=Lib.cell_of_heap hg2 0
  have t1:=Lib.cell_of_heap hg2 1
  have t2:=Lib.cell_of_heap hg2 2
  have hZ2:w.heap.size<w2.heap.size:=Nat.lt_of_lt_of_le hZ1 hb2.size
  obtain ⟨c0,c1,c2⟩:=(uh H2).rz.cells
  have f2:=(uh H2).rz.frz 2
  have H7:=hide ((uh H2).next (uh H2).rz.setBad (grownBy_set _))
  have R7:=hide ((uh H2).blk (grownBy_set (w:=w2) (b:=rb) (o:=2) (.bool true)) (uh R2) (Nat.le_refl _))
  clear hb2 hg2 H1 R1
  go_wp2_with (refine wpList_store_row rfl 26 _ _ rfl w.heap.size #[.int .i64 0,.int .i64 0,.string ⟨#[]⟩,.slice none 0 0] rfl rfl 26 _ (uh R7) szE rfl (ex_one _ _ _ _ _ _) ?_)
  refine bodyPost_ret (results_cell_row (P:=Tryz.prog) rfl _ _ w.heap.size 26 #[.int .i64 0,.int .i64 0,.string ⟨#[]⟩,.slice none 0 0] (0,0) _ rfl (setRow_heap _ _ _ _ _ _ (uh R7)) Tryz.underlying26 rfl szE) rfl ?_
  exact ⟨⟨0,0,E0,[]⟩,none,0,k,true,rfl,NewX.nil _ _ _ _ _ _,((uh H7).row _).rz,((uh H7).row _).gr,uh ND2⟩
 case true =>
  obtain ⟨rfl,hk⟩:bad=false∧k<ts.length:=by
   unfold nextB at hn
   cases bad with
   | true => cases hn
   | false => exact ⟨rfl, by simpa using hn⟩
  have N0:=hide (nextS_yes rb la cap ts k _ hl (uh H0).rz hk)
  have RE:=hide (show readF (d+1) (ts.drop k)=_ from (congrArg (readF (d+1)) (drop_at hk)).trans (readF_cons d (tAt ts k) (ts.drop (k+1))))
  rw [eq46,eq45,eq60] at RE
  unfold E0x at H0 N0
  unfold Tk.v Tk.cs at N0
  clear hn
  generalize (tAt ts k).k=tk at *
  generalize (tAt ts k).n=tn at *
  generalize (tAt ts k).s=tx at *
  generalize readF (d+1) (ts.drop k)=RO at *
  go_enter Tryz.func178,Tryz.ntmps178
  go_wp2_with fail
  generalize w.alloc (Obj.cells #[.int .i64 0,.int .i64 0,.string ⟨#[]⟩,.slice none 0 0] 26)=W at *
  refine (uh N0).mono ?_
  rintro r w1 ⟨rfl,hr1,hg1⟩
  have H1:=hide ((uh H0).next hr1 hg1)
  have R1:=hide ((uh H0).blk hg1 (uh R0) (Nat.le_refl _))
  have hZ1:w.heap.size<w1.heap.size:=Nat.lt_of_lt_of_le hZ0 hg1.size
  clear hr1 hg1 H0 R0 N0
  have hb2:=below_new w1 (.cells #[.int .i64 tk,.int .i64 tn,.string tx] 71)
  have hg2:(w1.alloc (.cells #[.int .i64 tk,.int .i64 tn,.string tx] 71)).heap[w1.heap.size]?=some (.cells #[.int .i64 tk,.int .i64 tn,.string tx] 71 (0,0)):=Array.getElem?_push_size
  obtain ⟨w2,hw2⟩:∃ w2,w1.alloc (.cells #[.int .i64 tk,.int .i64 tn,.string tx] 71)=w2:=⟨_,rfl⟩
  rw [hw2] at hb2 hg2
  have H2:=hide ((uh H1).later hb2)
  have R2:=hide (row_keep (uh R1) hb2)
  have t0:=Lib.cell_of_heap hg2 0
  have t1:=Lib.cell_of_heap hg2 1
  have t2:=Lib.cell_of_heap hg2 2
  have hZ2:w.heap.size<w2.heap.size:=Nat.lt_of_lt_of_le hZ1 hb2.size
  obtain ⟨c0,c1,c2⟩:=(uh H2).rz.cells
  have f2:=(uh H2).rz.frz 2
  have H7:=hide ((uh H2).next (uh H2).rz.setBad (grownBy_set _))
  have R7:=hide ((uh H2).blk (grownBy_set (w:=w2) (b:=rb) (o:=2) (.bool true)) (uh R2) (Nat.le_refl _))
  clear hb2 hg2 H1 R1
  by_cases h2:tk=2
  ·
   subst h2
   have O:=hide (show RO=some (⟨1,tn,E0,[]⟩,ts.drop (k+1)) from uh RE)
   clear IH TW RE H7 R7
   go_wp2_with (refine wpList_store_row rfl 26 _ _ rfl w.heap.size #[.int .i64 1,.int .i64 tn,.string ⟨#[]⟩,.slice none 0 0] rfl rfl 26 _ (uh R2) szE rfl (ex_one _ _ _ _ _ _) ?_)
   refine bodyPost_ret (results_cell_row (P:=Tryz.prog) rfl _ _ w.heap.size 26 #[.int .i64 1,.int .i64 tn,.string ⟨#[]⟩,.slice none 0 0] (0,0) _ rfl (setRow_heap _ _ _ _ _ _ (uh R2)) Tryz.underlying26 rfl szE) rfl ?_
   exact ⟨⟨1,tn,E0,[]⟩,none,0,k+1,false,rfl,NewX.nil _ _ _ _ _ _,((uh H2).row _).rz,((uh H2).row _).gr,⟨fun h=>(by cases h),fun _=>by rw [uh O];exact ⟨rfl,rfl,rfl⟩⟩⟩
  by_cases h1:tk=1
  ·
   subst h1
   have O:=hide (show RO=some (⟨2,0,tx,[]⟩,ts.drop (k+1)) from uh RE)
   clear IH TW RE H7 R7 h2
   go_wp2_with (refine wpList_store_row rfl 26 _ _ rfl w.heap.size #[.int .i64 2,.int .i64 0,.string tx,.slice none 0 0] rfl rfl 26 _ (uh R2) szE rfl (ex_one _ _ _ _ _ _) ?_)
   refine bodyPost_ret (results_cell_row (P:=Tryz.prog) rfl _ _ w.heap.size 26 #[.int .i64 2,.int .i64 0,.string tx,.slice none 0 0] (0,0) _ rfl (setRow_heap _ _ _ _ _ _ (uh R2)) Tryz.underlying26 rfl szE) rfl ?_
   exact ⟨⟨2,0,tx,[]⟩,none,0,k+1,false,rfl,NewX.nil _ _ _ _ _ _,((uh H2).row _).rz,((uh H2).row _).gr,⟨fun h=>(by cases h),fun _=>by rw [uh O];exact ⟨rfl,rfl,rfl⟩⟩⟩
  by_cases h46:(tx.toList == [46])=true
  ·
   have O:=hide (show RO=some (⟨3,0,E0,[]⟩,ts.drop (k+1)) by rw [uh RE,if_neg h2,if_neg h1,if_pos h46])
   clear IH TW RE H7 R7
   go_wp2_with (refine wpList_store_row rfl 26 _ _ rfl w.heap.size #[.int .i64 3,.int .i64 0,.string ⟨#[]⟩,.slice none 0 0] rfl rfl 26 _ (uh R2) szE rfl (ex_one _ _ _ _ _ _) ?_)
   refine bodyPost_ret (results_cell_row (P:=Tryz.prog) rfl _ _ w.heap.size 26 #[.int .i64 3,.int .i64 0,.string ⟨#[]⟩,.slice none 0 0] (0,0) _ rfl (setRow_heap _ _ _ _ _ _ (uh R2)) Tryz.underlying26 rfl szE) rfl ?_
   exact ⟨⟨3,0,E0,[]⟩,none,0,k+1,false,rfl,NewX.nil _ _ _ _ _ _,((uh H2).row _).rz,((uh H2).row _).gr,⟨fun h=>(by cases h),fun _=>by rw [uh O];exact ⟨rfl,rfl,rfl⟩⟩⟩
  have h46:(tx.toList == [46])=false:=by simpa using h46
  by_cases h45:(tx.toList == [45])=true
  ·
   have O:=hide (show RO=(match readF d (ts.drop (k+1)) with|none=>none|some (a,q)=>some (⟨4,0,E0,[a]⟩,q)) by rw [uh RE,if_neg h2,if_neg h1,if_neg (by rw [h46];decide),if_pos h45])
   have IH2:=hide (uh IH (k+1) false w2 (uh H2).rz)
   clear IH TW RE H7 R7 c0 c1 c2 f2
   go_wp2_with fail
   refine (uh IH2).mono ?_
   rintro r w3 ⟨x,c,cp,k3,b3,rfl,hnx,hr3,hg3,ho3⟩
   have H3:=hide ((uh H2).next hr3 hg3)
   have R3:=hide ((uh H2).blk hg3 (uh R2) (Nat.le_refl _))
   have X3:=hide (hnx.lower (show w.heap.size+1≤w2.heap.size by omega))
   have hZ3:w.heap.size<w3.heap.size:=Nat.lt_of_lt_of_le hZ2 hg3.size
   have O3:=hide (show OutO RO ts false ⟨4,0,E0,[x]⟩ k3 b3 from (uh O).symm▸neg_out ho3)
   unfold Ex.cs
   clear hnx hr3 hg3 ho3 H2 R2 O IH2 t0 t1 t2
   have hb4:=below_new w3 (.cells #[.int .i64 x.k,.int .i64 x.n,.string x.s,.slice c x.l.length cp] 26)
   have hg4:(w3.alloc (.cells #[.int .i64 x.k,.int .i64 x.n,.string x.s,.slice c x.l.length cp] 26)).heap[w3.heap.size]?=some (.cells #[.int .i64 x.k,.int .i64 x.n,.string x.s,.slice c x.l.length cp] 26 (0,0)):=Array.getElem?_push_size
   obtain ⟨w4,hw4⟩:∃ w4,w3.alloc (.cells #[.int .i64 x.k,.int .i64 x.n,.string x.s,.slice c x.l.length cp] 26)=w4:=⟨_,rfl⟩
   rw [hw4] at hb4 hg4
   have H4:=hide ((uh H3).later hb4)
   have R4:=hide (row_keep (uh R3) hb4)
   have X4:=hide ((uh X3).later hb4)
   have hZ4:w.heap.size<w4.heap.size:=Nat.lt_of_lt_of_le hZ3 hb4.size
   have N4:=hide (NewX.one (cp:=cp) (uh X4) (by omega) 4 0 E0 26)
   have y0:=Lib.cell_of_heap hg4 0
   have y1:=Lib.cell_of_heap hg4 1
   have y2:=Lib.cell_of_heap hg4 2
   have y3:=Lib.cell_of_heap hg4 3
   have hb5:=below_new w4 (.cells #[.int .i64 x.k,.int .i64 x.n,.string x.s,.slice c x.l.length cp] 26)
   have H5:=hide ((uh H4).later hb5)
   have R5:=hide (row_keep (uh R4) hb5)
   clear hb4 hg4 hb5 H3 R3 X3 H4 R4 X4
   go_wp2_with (refine wpList_store_row rfl 26 _ _ rfl w.heap.size #[.int .i64 4,.int .i64 0,.string ⟨#[]⟩,.slice (some ⟨w4.heap.size,0,none⟩) 1 1] rfl rfl 26 _ (uh R5) szE rfl (ex_one _ _ _ _ _ _) ?_)
   refine bodyPost_ret (results_cell_row (P:=Tryz.prog) rfl _ _ w.heap.size 26 #[.int .i64 4,.int .i64 0,.string ⟨#[]⟩,.slice (some ⟨w4.heap.size,0,none⟩) 1 1] (0,0) _ rfl (setRow_heap _ _ _ _ _ _ (uh R5)) Tryz.underlying26 rfl szE) rfl ?_
   exact ⟨⟨4,0,E0,[x]⟩,_,_,k3,b3,rfl,((uh N4).row _ (Nat.lt_succ_self _)).lower (Nat.le_succ _),((uh H5).row _).rz,((uh H5).row _).gr,uh O3⟩
  have h45:(tx.toList == [45])=false:=by simpa using h45
  by_cases h60:(tx.toList == [60])=true
  ·
   have O:=hide (show RO=twoF d (ts.drop (k+1)) by rw [uh RE,if_neg h2,if_neg h1,if_neg (by rw [h46];decide),if_neg (by rw [h45];decide),if_pos h60])
   have TW2:=hide (uh TW (k+1) false w2 (uh H2).rz)
   rw [←uh O] at TW2
   clear IH TW RE H7 R7 c0 c1 c2 f2 O
   go_wp2_with fail
   refine (uh TW2).mono ?_
   rintro r w3 ⟨x,c,cp,k3,b3,rfl,hnx,hr3,hg3,ho3⟩
   have H3:=hide ((uh H2).next hr3 hg3)
   have R3:=hide ((uh H2).blk hg3 (uh R2) (Nat.le_refl _))
   have X3:=hide (hnx.lower (show w.heap.size+1≤w2.heap.size by omega))
   have O3:=hide ho3
   unfold Ex.cs
   clear hnx hr3 hg3 ho3 H2 R2 TW2 t0 t1 t2
   go_wp2_with (refine wpList_store_row rfl 26 _ _ rfl w.heap.size #[.int .i64 x.k,.int .i64 x.n,.string x.s,.slice c x.l.length cp] rfl rfl 26 _ (uh R3) szE rfl (ex_one _ _ _ _ _ _) ?_)
   refine bodyPost_ret (results_cell_row (P:=Tryz.prog) rfl _ _ w.heap.size 26 #[.int .i64 x.k,.int .i64 x.n,.string x.s,.slice c x.l.length cp] (0,0) _ rfl (setRow_heap _ _ _ _ _ _ (uh R3)) Tryz.underlying26 rfl szE) rfl ?_
   exact ⟨x,c,cp,k3,b3,rfl,((uh X3).row _ (Nat.lt_succ_self _)).lower (Nat.le_succ _),((uh H3).row _).rz,((uh H3).row _).gr,uh O3⟩
  have h60:(tx.toList == [60])=false:=by simpa using h60
  have O:=hide (show RO=none by rw [uh RE,if_neg h2,if_neg h1,if_neg (by rw [h46];decide),if_neg (by rw [h45];decide),if_neg (by rw [h60];decide)])
  clear IH TW RE
  go_wp2_with (refine wpList_store_row rfl 26 _ _ rfl w.heap.size #[.int .i64 0,.int .i64 0,.string ⟨#[]⟩,.slice none 0 0] rfl rfl 26 _ (uh R7) szE rfl (ex_one _ _ _ _ _ _) ?_)
  refine bodyPost_ret (results_cell_row (P:=Tryz.prog) rfl _ _ w.heap.size 26 #[.int .i64 0,.int .i64 0,.string ⟨#[]⟩,.slice none 0 0] (0,0) _ rfl (setRow_heap _ _ _ _ _ _ (uh R7)) Tryz.underlying26 rfl szE) rfl ?_
  exact ⟨⟨0,0,E0,[]⟩,none,0,k+1,true,rfl,NewX.nil _ _ _ _ _ _,((uh H7).row _).rz,((uh H7).row _).gr,OutO.bad _ _ (fun _=>uh O)⟩
theorem readS_6:RdP 6:=readS_s 5 (by omega) (readS_s 4 (by omega) (readS_s 3 (by omega) (readS_s 2 (by omega) (readS_s 1 (by omega) (readS_s 0 (by omega) readS_0)))))
section
def OutG {α:Type} (o:Option (α × List Tk)) (ts:List Tk) (bad:Bool) (x:α) (k':Nat) (bad':Bool):Prop :=
 (bad=true→bad'=true)∧(bad=false→match o with|none=>bad'=true|some (y,q)=>bad'=false∧x=y∧q=ts.drop k')
def bnd {α β:Type} (p:Option (α × List Tk)) (f:α→List Tk→Option (β × List Tk)):Option (β × List Tk):=match p with|none=>none|some (x,q)=>f x q
section
variable {α β:Type} {ts:List Tk} {bad b1 b2:Bool} {k k1 k2:Nat} {x:α} {y:β}
theorem OutG.bind {p:Option (α × List Tk)} {f:α→List Tk→Option (β × List Tk)} (h1:OutG p ts bad x k1 b1) (h2:OutG (f x (ts.drop k1)) ts b1 y k2 b2):OutG (bnd p f) ts bad y k2 b2:=by
 refine ⟨fun hb=>h2.1 (h1.1 hb),fun hb=>?_⟩
 have h:=h1.2 hb
 match p,h with
 | none, h => exact h2.1 h
 | some (z, q), h =>
  obtain ⟨e1,e2,e3⟩:=h
  subst e2 e3
  exact h2.2 e1
theorem OutG.ret (x:α) (k:Nat) (bad:Bool):OutG (some (x,ts.drop k)) ts bad x k bad:=⟨fun h=>h,fun h=>⟨h,rfl,rfl⟩⟩
theorem OutG.fail (o:Option (α × List Tk)) (x:α) (k:Nat) (h:bad=false→o=none):OutG o ts bad x k true:=⟨fun _=>rfl,fun hb=>by rw [h hb]⟩
theorem OutG.of_eq {o o':Option (α × List Tk)} (h:OutG o ts bad x k b1) (he:bad=false→o=o'):OutG o' ts bad x k b1:=⟨h.1,fun hb=>by rw [←he hb];exact h.2 hb⟩
end
def pMs (s:ByteArray):List Tk→Option (Unit × List Tk)
 | [] => none
 | t :: r => if eqS t.s s = true then some ((), r) else none
def pNx:List Tk→Option (Tk × List Tk)
 | [] => none
 | t :: r => some (t, r)
theorem must_out (ts:List Tk) (k:Nat) (bad:Bool) (s:ByteArray):OutG (pMs s (ts.drop k)) ts bad () (if seeB ts k bad s=true then k+1 else k) (!seeB ts k bad s):=by
 refine ⟨fun hb=>by subst hb;rfl,fun hb=>?_⟩
 subst hb
 by_cases hk:k<ts.length
 ·
  rw [drop_at hk,see_in s hk]
  unfold pMs
  simp only
  cases h:eqS (tAt ts k).s s with
  | true => simp
  | false => simp
 ·
  rw [List.drop_eq_nil_of_le (by omega),see_end false s (by omega)]
  rfl
theorem next_out (ts:List Tk) (k:Nat) (bad:Bool):OutG (pNx (ts.drop k)) ts bad (nextT ts k bad) (nextK ts k bad) (!nextB ts k bad):=by
 refine ⟨fun hb=>by subst hb;rfl,fun hb=>?_⟩
 subst hb
 by_cases hk:k<ts.length
 ·
  unfold nextT nextK
  rw [drop_at hk,next_in hk]
  exact ⟨rfl,rfl,rfl⟩
 ·
  rw [List.drop_eq_nil_of_le (by omega),next_end false (by omega)]
  rfl
theorem see_out (ts:List Tk) (k:Nat) (s:ByteArray):seeB ts k false s=(match ts.drop k with | []=>false|t::_=>eqS t.s s):=by
 by_cases hk:k<ts.length
 · rw [drop_at hk,see_in s hk]
 · rw [List.drop_eq_nil_of_le (by omega),see_end false s (by omega)]
theorem see_M (ts:List Tk) (k:Nat) (c:UInt8):seeB ts k false (mkS c)=seeM (ts.drop k) c:=by
 rw [see_out]
 cases ts.drop k <;> rfl
theorem regN_if (t:Tk):regN t=if t.k=5∧23≤atV keptL t.s then atV keptL t.s-23 else -1:=by
 unfold regN pReg
 by_cases h:t.k=5∧23≤atV keptL t.s
 ·
  rw [if_pos h,if_pos h]
  simp only
  omega
 · rw [if_neg h,if_neg h]
theorem atV_lt (s:ByteArray) : -1≤atV keptL s∧atV keptL s≤30:=by
 unfold atV
 split
 ·
  rename_i h
  have:keptL.findIdx (fun t=>eqS t s)<keptL.length:=List.findIdx_lt_length_of_exists (by
   unfold hasS at h
   simpa using h)
  rw [show keptL.length=31 by decide] at this
  omega
 · omega
theorem regN_neg {t:Tk} (h:regN t<0):pReg t=none:=by
 unfold regN at h
 split at h
 · omega
 · assumption
theorem regN_pos {t:Tk} (h:¬ regN t<0):pReg t=some (regN t).toNat:=by
 unfold regN at h ⊢
 split at h
 ·
  rename_i n e
  rw [e]
  simp
 · omega
theorem rg13S (t:Tk) (w:World):Calls Tryz.prog 205 #[t.v] w fun r w'=>r = .returned (.int .i64 (regN t))∧Below w.heap.size w w':=by
 rw [regN_if]
 have hz:=atV_lt t.s
 have hbW:=below_new w (.cells t.cs 71)
 have KA:=hide (fun w=>kept_any w)
 have AT:=hide (fun w1 g (hr:RdS w1 g keptL)=>at_any keptL t.s g 31 31 w1 (show keptL.length=31 by decide) (by omega) hr)
 have rT:(w.alloc (.cells t.cs 71)).heap[w.heap.size]?=some (.cells t.cs 71 (0,0)):=Array.getElem?_push_size
 obtain ⟨W,hW⟩:∃ W,w.alloc (.cells t.cs 71)=W:=⟨_,rfl⟩
 rw [hW] at hbW rT
 unfold Tk.cs at rT hW
 unfold Tk.v Tk.cs
 generalize atV keptL t.s=z at *
 have e0:=Lib.cell_of_heap rT 0
 have e2:=Lib.cell_of_heap rT 2
 have RT:=hide rT
 have BW:=hide hbW
 generalize t.k=tk at *
 generalize t.n=tn at *
 generalize t.s=ts at *
 clear hbW rT
 obtain ⟨T,hT⟩:∃ T,(if tk=5∧23≤z then z-23 else -1)=T:=⟨_,rfl⟩
 have HT:=hide hT
 rw [hT]
 clear hT
 go_enter Tryz.func205,Tryz.ntmps205
 go_wp2_with fail
 have D0:=hide (show (fun w'=>w'.heap[w.heap.size]?=some (.cells #[.int .i64 tk,.int .i64 tn,.string ts] 71 (0,0))) W.drew from row_keep (uh RT) below_drew)
 have BD:=hide ((uh BW).trans ((below_drew (w:=W)).mono (uh BW).size))
 refine wp_region_held_drew (S:=fun w'=>w'.heap[w.heap.size]?=some (.cells #[.int .i64 tk,.int .i64 tn,.string ts] 71 (0,0))) (by kernel_rfl) (uh D0) (fun hS=>?_)
 have HS:=hide hS
 have KA:=hide (uh KA W.drew)
 clear hS RT BW
 generalize W.drew=Y at *
 refine tkB 1 (.pointer (some ⟨w.heap.size,2,none⟩)) rfl (uh HS) ?_
 go_simp
 refine tkA 2 (.string ts) rfl (.inl ⟨by rfl,fun w hc=>?_⟩) (uh HS) ?_
 · have q2:=Lib.cell_of_heap hc 2;clear hc;go_simp
 go_simp
 refine wpAnyH_ready (rs:=[0]) (by kernel_rfl) (by simp) ?_
 refine AllReadyH.cons rfl (fun K2 hK=>?_) AllReadyH.nil
 go_simp
 refine (uh KA).mono ?_
 rintro r w1 ⟨rfl,hr1,hb1⟩
 have B1:=hide ((uh BD).trans (hb1.mono (uh BD).size))
 have D1:=hide (row_keep (uh D0) hb1)
 have A1:=hide (uh AT w1 _ hr1)
 clear hb1 hr1 KA BD D0 AT
 refine hK.out _ _ (uh D1) (fun hS=>?_)
 clear HS
 have HS:=hide hS
 clear hS hK K2
 refine wpAnyH_ready (rs:=[3]) (by kernel_rfl) (by simp) ?_
 refine AllReadyH.cons rfl (fun K2 hK=>?_) AllReadyH.nil
 go_simp
 refine (uh A1).mono ?_
 rintro r w' ⟨rfl,hw'⟩
 rw [hw']
 clear hw' w'
 refine hK.out _ _ (uh D1) (fun hS=>?_)
 clear HS
 have HS:=hide hS
 clear hS hK K2
 refine tkB 4 (.int .i64 z) rfl (uh HS) ?_
 go_simp
 refine wpAnyH_done (by kernel_rfl) ?_ _
 clear HS
 have f0:=Lib.cell_of_heap (uh D1) 0
 by_cases h5:tk=5
 ·
  subst h5
  by_cases h23:z<23
  ·
   have E:=(uh HT).symm
   rw [if_neg (by omega)] at E
   subst E
   clear HT
   go_wp2
   go_ret
   exact ⟨rfl,uh B1⟩
  ·
   have E:=(uh HT).symm
   rw [if_pos ⟨rfl,by omega⟩] at E
   subst E
   clear HT
   have hw1:IntKind.i64.wrap (z-23)=z-23:=by rw [IntKind.wrap_i64];omega
   have h23':decide (z<23)=false:=decide_eq_false h23
   go_wp2
   go_ret
   exact ⟨rfl,uh B1⟩
 ·
  have E:=(uh HT).symm
  rw [if_neg (by omega)] at E
  subst E
  clear HT
  have g5:(tk == 5)=false:=beq_eq_false_iff_ne.2 h5
  go_wp2
  go_ret
  exact ⟨rfl,uh B1⟩
end
theorem Rz.setB {wr:World} {rb:Nat} {la:Option Addr} {cap:Nat} {ts:List Tk} {k:Nat} {bad:Bool} (h:Rz wr rb la cap ts k bad) (b:Bool):Rz (wr.setCell ⟨rb,2,none⟩ (.bool b)) rb la cap ts k b :=
 ⟨heap_setCell_same wr rb 2 _ _ _ h.row,h.toks.past (grownBy_set _) h.far,h.far,h.le⟩
def pRndI (ts:List Tk):Option (Int × List Tk):=match pRnd ts with|none=>none|some (n,q)=>some ((n:Int),q)
theorem pRnd_bind (ts:List Tk):pRndI ts=bnd (pMs (mkS 40) ts) fun _ q=>bnd (pNx q) fun t q=>bnd (pMs (mkS 41) q) fun _ q=>if regN t<0 then none else some (regN t,q):=by
 unfold pRndI
 match ts with
 | [] => rfl
 | [t0] =>
  cases h:eqS t0.s (mkS 40) <;> simp [pMs,pRnd,pNx,bnd,h]
 | [t0, t1] =>
  cases h:eqS t0.s (mkS 40) <;> simp [pMs,pRnd,pNx,bnd,h]
 | t0 :: t1 :: t2 :: r =>
  cases h:eqS t0.s (mkS 40) with
  | false => simp [pMs, pRnd, bnd, isM, h]
  | true =>
   cases h2:eqS t2.s (mkS 41) with
   | false => simp [pMs, pRnd, pNx, bnd, isM, h, h2]
   | true =>
    by_cases hn:regN t1<0
    · simp [pMs,pRnd,pNx,bnd,isM,h,h2,hn,regN_neg hn]
    ·
     simp only [pMs,pRnd,pNx,bnd,isM,h,h2,and_self,if_true,regN_pos hn]
     rw [if_neg hn]
     simp only [Option.some.injEq,Prod.mk.injEq,and_true]
     omega
theorem last_out (ts:List Tk) (n:Int) (k:Nat) (b:Bool):OutG (if n<0 then none else some (n,ts.drop k)) ts b n k (b || decide (n<0)):=by
 refine ⟨fun h=>by rw [h];rfl,fun h=>?_⟩
 subst h
 by_cases hn:n<0
 ·
  rw [if_pos hn]
  simp [hn]
 ·
  rw [if_neg hn]
  exact ⟨by simp [hn],rfl,rfl⟩
def RnR (rb:Nat) (la:Option Addr) (cap:Nat) (ts:List Tk) (k:Nat) (bad:Bool) (w:World) (r:Ending) (w':World):Prop :=
 ∃ (n:Int) (k':Nat) (bad':Bool),r = .returned (.int .i64 n)∧Rz w' rb la cap ts k' bad'∧w.grownBy w' (some rb)∧OutG (pRndI (ts.drop k)) ts bad n k' bad'
theorem rnd13S (rb:Nat) (la:Option Addr) (cap:Nat) (ts:List Tk) (k:Nat) (bad:Bool) (w:World) (hl:ts.length≤1048576) (h:Rz w rb la cap ts k bad):Calls Tryz.prog 241 #[.pointer (some ⟨rb,0,none⟩)] w (RnR rb la cap ts k bad w):=by
 have FN:=hide (fun (r:Ending) (w':World) (t:Tk) k1 b1 k2 b2 k3 b3 (h1:OutG (pMs (mkS 40) (ts.drop k)) ts bad () k1 b1) (h2:OutG (pNx (ts.drop k1)) ts b1 t k2 b2) (h3:OutG (pMs (mkS 41) (ts.drop k2)) ts b2 () k3 b3) (hr:r = .returned (.int .i64 (regN t))) (hz:Rz w' rb la cap ts k3 (b3 || decide (regN t<0))) (hg:w.grownBy w' (some rb))=>(show RnR rb la cap ts k bad w r w' from ⟨regN t,k3,_,hr,hz,hg,by rw [pRnd_bind];refine h1.bind ?_;refine h2.bind ?_;refine h3.bind ?_;exact last_out ts (regN t) k3 b3⟩))
 have M1:=hide (mustS_any rb la cap ts k bad (mkS 40) w hl h)
 have O1:=hide (must_out ts k bad (mkS 40))
 have H0:=hide h.start
 have MU:=hide (fun k bad w (h:Rz w rb la cap ts k bad)=>mustS_any rb la cap ts k bad (mkS 41) w hl h)
 have MO:=hide (fun k bad=>must_out ts k bad (mkS 41))
 have NX:=hide (fun k bad w (h:Rz w rb la cap ts k bad)=>nextS_any rb la cap ts k bad w hl h)
 have NO:=hide (fun k bad=>next_out ts k bad)
 clear h
 generalize RnR rb la cap ts k bad w=R at *
 generalize (if seeB ts k bad (mkS 40)=true then k+1 else k)=k1 at *
 generalize (!seeB ts k bad (mkS 40))=b1 at *
 go_enter Tryz.func241,Tryz.ntmps241
 go_wp2_with fail
 refine (uh M1).mono ?_
 rintro r w1 ⟨rfl,hr1,hg1⟩
 have H1:=hide ((uh H0).next hr1 hg1)
 have N1:=hide (uh NX k1 b1 w1 hr1)
 have O2:=hide (uh NO k1 b1)
 clear hr1 hg1 H0 M1 NX NO
 generalize nextT ts k1 b1=t at *
 generalize nextK ts k1 b1=k2 at *
 generalize (!nextB ts k1 b1)=b2 at *
 have RG:=hide (fun w=>rg13S t w)
 unfold Tk.v Tk.cs at N1 RG
 have F2:=hide (fun r w' k3 b3 h3 hr hz hg=>uh FN r w' t k1 b1 k2 b2 k3 b3 (uh O1) (uh O2) h3 hr hz hg)
 generalize regN t=n at *
 clear FN
 go_wp2_with fail
 refine (uh N1).mono ?_
 rintro r w2 ⟨rfl,hr2,hg2⟩
 have H2:=hide ((uh H1).next hr2 hg2)
 clear hr2 hg2 H1 N1
 go_wp2_with fail
 refine (uh RG w2).mono ?_
 rintro r w3 ⟨rfl,hb⟩
 have H3:=hide ((uh H2).later hb)
 have M3:=hide (uh MU k2 b2 w3 (uh H3).rz)
 have O3:=hide (uh MO k2 b2)
 clear hb H2 RG MU MO
 generalize (if seeB ts k2 b2 (mkS 41)=true then k2+1 else k2)=k3 at *
 generalize (!seeB ts k2 b2 (mkS 41))=b3 at *
 go_wp2_with fail
 refine (uh M3).mono ?_
 rintro r w4 ⟨rfl,hr4,hg4⟩
 have H4:=hide ((uh H3).next hr4 hg4)
 obtain ⟨c0,c1,c2⟩:=hr4.cells
 have f2:=hr4.frz 2
 have H5:=hide (fun b=>(uh H4).next (hr4.setB b) (grownBy_set _))
 clear hr4 hg4 H3 M3
 cases b3 with
 | true =>
  have H6:=hide (uh H5 true)
  clear H5
  go_wp2
  (try go_ret)
  exact uh F2 _ _ _ _ (uh O3) rfl (uh H6).rz (uh H6).gr
 | false =>
  have H6:=hide (uh H5 (decide (n<0)))
  clear H5
  go_wp2
  (try go_ret)
  exact uh F2 _ _ _ _ (uh O3) rfl (uh H6).rz (uh H6).gr
theorem eq40 (s:ByteArray):eqS s (mkS 40)=(s.toList == [40]):=by unfold eqS;rw [show (mkS 40).toList = [40] by rw [ByteArray.toList_eq];rfl]
theorem Rz.tokAt {wr:World} {rb:Nat} {la:Option Addr} {cap:Nat} {ts:List Tk} {k j:Nat} {bad:Bool} (h:Rz wr rb la cap ts k bad) (hj:j<ts.length):∃ b off,la=some ⟨b,off,none⟩∧b≠rb∧wr.cell? ⟨b,off+j*3+2,none⟩=some (.string (tAt ts j).s):=by
 rcases h.toks with h0|⟨b,off,ha,hlt,hc⟩
 · rw [h0] at hj;simp at hj
 ·
  refine ⟨b,off,ha,?_,(hc j hj).2.2⟩
  rcases h.far with h0|h0
  · rw [h0] at hj;simp at hj
  · exact h0 _ ha
def downB (ts:List Tk) (k:Nat) (bad:Bool):Bool:=seeB ts k bad (mkS 45)&&(decide (k+1<ts.length)&&eqS (tAt ts (k+1)).s (mkS 40))
theorem dwn13S (rb:Nat) (la:Option Addr) (cap:Nat) (ts:List Tk) (k:Nat) (bad:Bool) (w:World) (hm:ts.length≤1048576) (h:Rz w rb la cap ts k bad):Calls Tryz.prog 240 #[.pointer (some ⟨rb,0,none⟩)] w fun r w'=>r = .returned (.bool (downB ts k bad))∧Below w.heap.size w w':=by
 have hk:=h.le
 have hrl:=h.lt
 have SE:=hide (fun y:Sub w.heap.size w=>seeS_any rb la cap ts k bad (mkS 45) y.w hm (h.later y.h))
 have C0:∀ y:Sub w.heap.size w,y.w.cell? ⟨rb,0,none⟩=some (.slice la ts.length cap):=fun y=>(h.later y.h).cells.1
 have C1:∀ y:Sub w.heap.size w,y.w.cell? ⟨rb,1,none⟩=some (.int .i64 k):=fun y=>(h.later y.h).cells.2.1
 have ne:=Sub.ne w.heap.size w
 have HZ:=hide (Nat.le_refl w.heap.size)
 have HB:=hide (fun y:Sub w.heap.size w=>y.h)
 obtain ⟨T,hT⟩:∃ T,downB ts k bad=T:=⟨_,rfl⟩
 have HT:=hide hT
 rw [hT]
 clear hT
 unfold downB at HT
 cases hq:seeB ts k bad (mkS 45) with
 | false =>
  rw [hq] at SE HT
  have E:=(uh HT).symm
  rw [Bool.false_and] at E
  subst E
  clear h HT
  unfold mkS at SE
  generalize ts.length=n at *
  go_enter Tryz.func240,Tryz.ntmps240
  go_wp2_with fail
  refine wp_region_sub (⟨w,Below.refl _ _⟩:Sub w.heap.size w) (by kernel_rfl) (by kernel_rfl) ?_
  repeat (go_big_quiet_step (first|(go_at_call 207;exact Sub.call (uh HZ) (uh SE _))))
  refine wpQuiet_nil ?_
  intro y
  go_wp2
  go_ret
  exact ⟨rfl,uh HB y⟩
 | true =>
  obtain ⟨rfl,hlt,_⟩:=seeB_bad hq
  rw [hq] at SE HT
  unfold mkS at SE
  have wr1:IntKind.i64.wrap ((k:Int)+1)=(k:Int)+1:=by rw [IntKind.wrap_i64];omega
  by_cases h1:k+1<ts.length
  ·
   obtain ⟨b,off,rfl,hne,t2⟩:=h.tokAt h1
   have hbl:=World.block_lt_of_cell? w _ t2
   have T2:∀ y:Sub w.heap.size w,y.w.cell? ⟨b,off+(k+1)*3+2,none⟩=some (.string (tAt ts (k+1)).s):=fun y=>(y.h.cell (p:=⟨b,off+(k+1)*3+2,none⟩) hbl).trans t2
   have E:=(uh HT).symm
   rw [decide_eq_true h1,Bool.true_and,Bool.true_and] at E
   rw [eq40] at E
   subst E
   clear h HT t2 hq
   generalize (tAt ts (k+1)).s=sx at *
   generalize ts.length=n at *
   have hi:(k:Int)+1<(n:Int):=by omega
   have hi2:¬ (n:Int)≤(k:Int)+1:=by omega
   have hi3:(0:Int)≤(k:Int)+1:=by omega
   have hi4:((k:Int)+1).toNat=k+1:=by omega
   go_enter Tryz.func240,Tryz.ntmps240
   go_wp2_with fail
   refine wp_region_sub (⟨w,Below.refl _ _⟩:Sub w.heap.size w) (by kernel_rfl) (by kernel_rfl) ?_
   repeat (go_big_quiet_step (first|(go_at_call 207;exact Sub.call (uh HZ) (uh SE _))))
   refine wpQuiet_nil ?_
   intro y
   go_wp2
   go_ret
   exact ⟨rfl,uh HB y⟩
  ·
   have E:=(uh HT).symm
   rw [decide_eq_false h1,Bool.false_and,Bool.and_false] at E
   subst E
   clear h HT hq
   generalize ts.length=n at *
   have hi:¬ ((k:Int)+1<(n:Int)):=by omega
   have hi2:(n:Int)≤(k:Int)+1:=by omega
   have hi3:decide ((k:Int)+1<(n:Int))=false:=decide_eq_false hi
   go_enter Tryz.func240,Tryz.ntmps240
   go_wp2_with fail
   refine wp_region_sub (⟨w,Below.refl _ _⟩:Sub w.heap.size w) (by kernel_rfl) (by kernel_rfl) ?_
   repeat (go_big_quiet_step (first|(go_at_call 207;exact Sub.call (uh HZ) (uh SE _))))
   refine wpQuiet_nil ?_
   intro y
   go_wp2
   go_ret
   exact ⟨rfl,uh HB y⟩
structure Ag where
 f:Int
 r:Int
 e:Ex
def Ag.cs (a:Ag) (b:Option Addr) (cap:Nat):Array Value:=#[.int .i64 a.f,.int .i64 a.r,.int .i64 a.e.k,.int .i64 a.e.n,.string a.e.s,.slice b a.e.l.length cap]
structure Ln where
 k:Int
 s:ByteArray
 op:Int
 src:Ag
 dst:Ag
 n:Int
 l:List Ex
structure La where
 b1:Option Addr
 c1:Nat
 b2:Option Addr
 c2:Nat
 b3:Option Addr
 c3:Nat
def Ln.cs (x:Ln) (p:La):Array Value:=#[.int .i64 x.k,.string x.s,.int .i64 x.op,.int .i64 x.src.f,.int .i64 x.src.r,.int .i64 x.src.e.k,.int .i64 x.src.e.n,.string x.src.e.s,.slice p.b1 x.src.e.l.length p.c1,.int .i64 x.dst.f,.int .i64 x.dst.r,.int .i64 x.dst.e.k,.int .i64 x.dst.e.n,.string x.dst.e.s,.slice p.b2 x.dst.e.l.length p.c2,.int .i64 x.n,.slice p.b3 x.l.length p.c3]
def zroV (k n:Int) (s:ByteArray) (ll:Nat):Bool:=k == 0&&(n == 0&&(eqS s E0&&ll == 0))
def zroX (e:Ex):Bool:=zroV e.k e.n e.s e.l.length
def nonX (a:Ag):Bool:=a.f == 0&&(a.r == 0&&zroX a.e)
def agX (a:Ag):Bool:=if inB a.f 0 5=true then inB a.r 0 7&&zroX a.e else if a.f == 6 || a.f == 7 then inB a.r 0 7&&okF 6 true a.e else if inB a.f 8 11=true then a.r == 0&&okF 6 true a.e else false
theorem zroS (k n:Int) (s:ByteArray) (ll:Nat) (hs:s.size≤1099511627776) (hl:ll≤1099511627776) (b:Option Addr) (cap:Nat) (w:World):Calls Tryz.prog 62 #[.agg #[.int .i64 k,.int .i64 n,.string s,.slice b ll cap]] w fun r w'=>r = .returned (.bool (zroV k n s ll))∧Below w.heap.size w w':=by
 by_cases h1:k=0
 ·
  subst h1
  by_cases h2:n=0
  ·
   subst h2
   by_cases h3:s=⟨#[]⟩
   ·
    subst h3
    by_cases h4:ll=0
    ·
     subst h4
     have B0:=hide (below_new w (.cells #[.int .i64 0,.int .i64 0,.string ⟨#[]⟩,.slice b 0 cap] 26))
     have V:zroV 0 0 ⟨#[]⟩ 0=true:=by simp [zroV,eqE,eqE1, *]
     rw [V]
     clear V
     go_enter Tryz.func62,Tryz.ntmps62
     go_wp2
     go_ret
     exact ⟨rfl,uh B0⟩
    have h4f:(ll == 0)=false:=beq_eq_false_iff_ne.2 h4
    have h4g:((ll:Int) == 0)=false:=beq_eq_false_iff_ne.2 (by omega)
    have B0:=hide (below_new w (.cells #[.int .i64 0,.int .i64 0,.string ⟨#[]⟩,.slice b ll cap] 26))
    have V:zroV 0 0 ⟨#[]⟩ ll=false:=by simp [zroV,eqE,eqE1, *]
    rw [V]
    clear V
    go_enter Tryz.func62,Tryz.ntmps62
    go_wp2
    go_ret
    exact ⟨rfl,uh B0⟩
   obtain ⟨h3a,h3b⟩:=emp_E s h3
   have B0:=hide (below_new w (.cells #[.int .i64 0,.int .i64 0,.string s,.slice b ll cap] 26))
   have V:zroV 0 0 s ll=false:=by simp [zroV,eqE,eqE1, *]
   rw [V]
   clear V
   go_enter Tryz.func62,Tryz.ntmps62
   go_wp2
   go_ret
   exact ⟨rfl,uh B0⟩
  have h2f:(n == 0)=false:=beq_eq_false_iff_ne.2 h2
  have B0:=hide (below_new w (.cells #[.int .i64 0,.int .i64 n,.string s,.slice b ll cap] 26))
  have V:zroV 0 n s ll=false:=by simp [zroV,eqE,eqE1, *]
  rw [V]
  clear V
  go_enter Tryz.func62,Tryz.ntmps62
  go_wp2
  go_ret
  exact ⟨rfl,uh B0⟩
 have h1f:(k == 0)=false:=beq_eq_false_iff_ne.2 h1
 have B0:=hide (below_new w (.cells #[.int .i64 k,.int .i64 n,.string s,.slice b ll cap] 26))
 have V:zroV k n s ll=false:=by simp [zroV,eqE,eqE1, *]
 rw [V]
 clear V
 go_enter Tryz.func62,Tryz.ntmps62
 go_wp2
 go_ret
 exact ⟨rfl,uh B0⟩
def nonV (f r:Int) (q:Bool):Bool:=f == 0&&(r == 0&&q)
theorem nonS_any (a:Ag) (hs:a.e.s.size≤1099511627776) (hl:a.e.l.length≤1099511627776) (b:Option Addr) (cap:Nat) (w:World):Calls Tryz.prog 73 #[.agg (a.cs b cap)] w fun r w'=>r = .returned (.bool (nonX a))∧Below w.heap.size w w':=by
 have Q:=hide (fun w=>zroS a.e.k a.e.n a.e.s a.e.l.length hs hl b cap w)
 unfold Ag.cs
 rw [show nonX a=nonV a.f a.r (zroX a.e) from rfl]
 rw [show zroX a.e=zroV a.e.k a.e.n a.e.s a.e.l.length from rfl]
 generalize zroV a.e.k a.e.n a.e.s a.e.l.length=q at *
 generalize a.f=f at *
 generalize a.r=r at *
 generalize a.e.k=k at *
 generalize a.e.n=n at *
 generalize a.e.s=s at *
 generalize a.e.l.length=ll at *
 by_cases h15:f=0
 ·
  subst h15
  by_cases h16:r=0
  ·
   subst h16
   have B0:=hide (below_new w (.cells #[.int .i64 0,.int .i64 0,.int .i64 k,.int .i64 n,.string s,.slice b ll cap] 28))
   have V:nonV 0 0 q=q:=by simp [nonV, *]
   rw [V]
   clear V
   go_enter Tryz.func73,Tryz.ntmps73
   go_wp2_with (go_at_call 62;refine (uh Q _).mono ?_;rintro e w1 ⟨rfl,hb1⟩)
   go_ret
   exact ⟨rfl,(uh B0).trans (hb1.mono (uh B0).size)⟩
  have h16f:(r == 0)=false:=beq_eq_false_iff_ne.2 h16
  have B0:=hide (below_new w (.cells #[.int .i64 0,.int .i64 r,.int .i64 k,.int .i64 n,.string s,.slice b ll cap] 28))
  have V:nonV 0 r q=false:=by simp [nonV, *]
  rw [V]
  clear V
  go_enter Tryz.func73,Tryz.ntmps73
  go_wp2_with (go_at_call 62;refine (uh Q _).mono ?_;rintro e w1 ⟨rfl,hb1⟩)
  go_ret
  exact ⟨rfl,uh B0⟩
 have h15f:(f == 0)=false:=beq_eq_false_iff_ne.2 h15
 have B0:=hide (below_new w (.cells #[.int .i64 f,.int .i64 r,.int .i64 k,.int .i64 n,.string s,.slice b ll cap] 28))
 have V:nonV f r q=false:=by simp [nonV, *]
 rw [V]
 clear V
 go_enter Tryz.func73,Tryz.ntmps73
 go_wp2_with (go_at_call 62;refine (uh Q _).mono ?_;rintro e w1 ⟨rfl,hb1⟩)
 go_ret
 exact ⟨rfl,uh B0⟩
def agV (f r:Int) (q p:Bool):Bool:=if inB f 0 5=true then inB r 0 7&&q else if f == 6 || f == 7 then inB r 0 7&&p else if inB f 8 11=true then r == 0&&p else false
theorem agS_any (a:Ag) (b:Option Addr) (cap:Nat) (w:World) (hr:RdX w 0 a.e b) (hz:a.e.sz≤1048576):Calls Tryz.prog 18 #[.agg (a.cs b cap)] w fun r w'=>r = .returned (.bool (agX a))∧Below w.heap.size w w':=by
 have hsz:=sz_is a.e
 have Q:=hide (fun w=>zroS a.e.k a.e.n a.e.s a.e.l.length (by omega) (by omega) b cap w)
 have P:=hide (fun w' (h:Below w.heap.size w w')=>plainS_any a.e b cap w' (hr.later h) hz)
 unfold Ex.cs at P
 unfold Ag.cs
 rw [show agX a=agV a.f a.r (zroX a.e) (okF 6 true a.e) from rfl]
 rw [show zroX a.e=zroV a.e.k a.e.n a.e.s a.e.l.length from rfl]
 generalize zroV a.e.k a.e.n a.e.s a.e.l.length=q at *
 generalize okF 6 true a.e=p at *
 generalize a.f=f at *
 generalize a.r=r at *
 generalize a.e.k=k at *
 generalize a.e.n=n at *
 generalize a.e.s=s at *
 generalize a.e.l.length=ll at *
 clear hsz hr hz
 cases h23:inB f 0 5 with
 | true =>
  cases h24:inB r 0 7 with
  | true =>
   have B0:=hide (below_new w (.cells #[.int .i64 f,.int .i64 r,.int .i64 k,.int .i64 n,.string s,.slice b ll cap] 28))
   have V:agV f r q p=q:=by simp [agV, *]
   rw [V]
   clear V
   go_enter Tryz.func18,Tryz.ntmps18
   go_wp2_with (first|(go_at_call 61;refine (in_any _ _ _ _).mono ?_;rintro e w' ⟨rfl,hw'⟩;rw [hw'];clear hw' w')|(go_at_call 62;refine (uh Q _).mono ?_;rintro e w1 ⟨rfl,hb1⟩))
   go_ret
   exact ⟨rfl,(uh B0).trans (hb1.mono (uh B0).size)⟩
  | false =>
   have B0:=hide (below_new w (.cells #[.int .i64 f,.int .i64 r,.int .i64 k,.int .i64 n,.string s,.slice b ll cap] 28))
   have V:agV f r q p=false:=by simp [agV, *]
   rw [V]
   clear V
   go_enter Tryz.func18,Tryz.ntmps18
   go_wp2_with (go_at_call 61;refine (in_any _ _ _ _).mono ?_;rintro e w' ⟨rfl,hw'⟩;rw [hw'];clear hw' w')
   go_ret
   exact ⟨rfl,uh B0⟩
 | false =>
  by_cases h29:f=6
  ·
   subst h29
   cases h30:inB r 0 7 with
   | true =>
    have B0:=hide (below_new w (.cells #[.int .i64 6,.int .i64 r,.int .i64 k,.int .i64 n,.string s,.slice b ll cap] 28))
    have V:agV 6 r q p=p:=by simp [agV, *]
    rw [V]
    clear V
    have P1:=hide (uh P _ (uh B0))
    go_enter Tryz.func18,Tryz.ntmps18
    go_wp2_with (first|(go_at_call 61;refine (in_any _ _ _ _).mono ?_;rintro e w' ⟨rfl,hw'⟩;rw [hw'];clear hw' w')|(go_at_call 63;refine (uh P1).mono ?_;rintro e w1 ⟨rfl,hb1⟩))
    go_ret
    exact ⟨rfl,(uh B0).trans (hb1.mono (uh B0).size)⟩
   | false =>
    have B0:=hide (below_new w (.cells #[.int .i64 6,.int .i64 r,.int .i64 k,.int .i64 n,.string s,.slice b ll cap] 28))
    have V:agV 6 r q p=false:=by simp [agV, *]
    rw [V]
    clear V
    go_enter Tryz.func18,Tryz.ntmps18
    go_wp2_with (go_at_call 61;refine (in_any _ _ _ _).mono ?_;rintro e w' ⟨rfl,hw'⟩;rw [hw'];clear hw' w')
    go_ret
    exact ⟨rfl,uh B0⟩
  have h29f:(f == 6)=false:=beq_eq_false_iff_ne.2 h29
  by_cases h35:f=7
  ·
   subst h35
   cases h36:inB r 0 7 with
   | true =>
    have B0:=hide (below_new w (.cells #[.int .i64 7,.int .i64 r,.int .i64 k,.int .i64 n,.string s,.slice b ll cap] 28))
    have V:agV 7 r q p=p:=by simp [agV, *]
    rw [V]
    clear V
    have P1:=hide (uh P _ (uh B0))
    go_enter Tryz.func18,Tryz.ntmps18
    go_wp2_with (first|(go_at_call 61;refine (in_any _ _ _ _).mono ?_;rintro e w' ⟨rfl,hw'⟩;rw [hw'];clear hw' w')|(go_at_call 63;refine (uh P1).mono ?_;rintro e w1 ⟨rfl,hb1⟩))
    go_ret
    exact ⟨rfl,(uh B0).trans (hb1.mono (uh B0).size)⟩
   | false =>
    have B0:=hide (below_new w (.cells #[.int .i64 7,.int .i64 r,.int .i64 k,.int .i64 n,.string s,.slice b ll cap] 28))
    have V:agV 7 r q p=false:=by simp [agV, *]
    rw [V]
    clear V
    go_enter Tryz.func18,Tryz.ntmps18
    go_wp2_with (go_at_call 61;refine (in_any _ _ _ _).mono ?_;rintro e w' ⟨rfl,hw'⟩;rw [hw'];clear hw' w')
    go_ret
    exact ⟨rfl,uh B0⟩
  have h35f:(f == 7)=false:=beq_eq_false_iff_ne.2 h35
  cases h41:inB f 8 11 with
  | true =>
   by_cases h42:r=0
   ·
    subst h42
    have B0:=hide (below_new w (.cells #[.int .i64 f,.int .i64 0,.int .i64 k,.int .i64 n,.string s,.slice b ll cap] 28))
    have V:agV f 0 q p=p:=by simp [agV, *]
    rw [V]
    clear V
    have P1:=hide (uh P _ (uh B0))
    go_enter Tryz.func18,Tryz.ntmps18
    go_wp2_with (first|(go_at_call 61;refine (in_any _ _ _ _).mono ?_;rintro e w' ⟨rfl,hw'⟩;rw [hw'];clear hw' w')|(go_at_call 63;refine (uh P1).mono ?_;rintro e w1 ⟨rfl,hb1⟩))
    go_ret
    exact ⟨rfl,(uh B0).trans (hb1.mono (uh B0).size)⟩
   have h42f:(r == 0)=false:=beq_eq_false_iff_ne.2 h42
   have B0:=hide (below_new w (.cells #[.int .i64 f,.int .i64 r,.int .i64 k,.int .i64 n,.string s,.slice b ll cap] 28))
   have V:agV f r q p=false:=by simp [agV, *]
   rw [V]
   clear V
   go_enter Tryz.func18,Tryz.ntmps18
   go_wp2_with (go_at_call 61;refine (in_any _ _ _ _).mono ?_;rintro e w' ⟨rfl,hw'⟩;rw [hw'];clear hw' w')
   go_ret
   exact ⟨rfl,uh B0⟩
  | false =>
   have B0:=hide (below_new w (.cells #[.int .i64 f,.int .i64 r,.int .i64 k,.int .i64 n,.string s,.slice b ll cap] 28))
   have V:agV f r q p=false:=by simp [agV, *]
   rw [V]
   clear V
   go_enter Tryz.func18,Tryz.ntmps18
   go_wp2_with (go_at_call 61;refine (in_any _ _ _ _).mono ?_;rintro e w' ⟨rfl,hw'⟩;rw [hw'];clear hw' w')
   go_ret
   exact ⟨rfl,uh B0⟩
theorem plnS_any (l:List Ex) (b:Option Addr) (cap:Nat) (w:World) (hr:RdX w 0 ⟨0,0,E0,l⟩ b) (hz:l.length≤1048576) (hp:∀ i,i<l.length→(xAt l i).sz≤1048576):Calls Tryz.prog 75 #[.slice b l.length cap] w fun r w'=>r = .returned (.bool (l.all (okF 6 true)))∧Below w.heap.size w w':=by
 rw [RdX_eq] at hr
 obtain ⟨len,hl⟩:∃ len,l.length=len:=⟨_,rfl⟩
 rw [hl] at hz hp ⊢
 have ne:=Sub.ne w.heap.size w
 have HZ:=hide (Nat.le_refl w.heap.size)
 have HB:=hide (fun y:Sub w.heap.size w=>y.h)
 obtain ⟨T,hT⟩:∃ T,(l.all (okF 6 true))=T:=⟨_,rfl⟩
 have HT:=hide hT
 rw [hT]
 clear hT
 go_enter Tryz.func75,Tryz.ntmps75
 go_wp2
 go_loopw [3] (fun i wr=>∃ (j:Nat) (z:Sub w.heap.size w),j≤len∧i = .int .i64 j∧(l.take j).all (okF 6 true)=true∧wr=z.w) (fun i _=>len-(intOf i).toNat)
 case atStart=>exact ⟨0,⟨w,Below.refl _ _⟩,Nat.zero_le _,rfl,rfl,rfl⟩
 case round =>
  obtain ⟨j,z,hj,rfl,hdone,rfl⟩:=hrel
  have HD:=hide hdone
  clear hdone
  by_cases hlt:j<len
  ·
   rcases hr with h0|⟨p1,po,hb1,_,hp1,hpc⟩
   ·
    have h0:l = []:=h0
    rw [h0] at hl;simp at hl;omega
   subst hb1
   obtain ⟨e0,e1,e2,pc,pp,e3,e4⟩:=hpc j (show j<l.length by omega)
   have d0:∀ y:Sub w.heap.size w,y.w.cell? ⟨p1,po+j*4,none⟩=some (.int .i64 (xAt l j).k):=fun y=>(y.h.cell (p:=⟨p1,_,none⟩) hp1).trans e0
   have d1:∀ y:Sub w.heap.size w,y.w.cell? ⟨p1,po+j*4+1,none⟩=some (.int .i64 (xAt l j).n):=fun y=>(y.h.cell (p:=⟨p1,_,none⟩) hp1).trans e1
   have d2:∀ y:Sub w.heap.size w,y.w.cell? ⟨p1,po+j*4+2,none⟩=some (.string (xAt l j).s):=fun y=>(y.h.cell (p:=⟨p1,_,none⟩) hp1).trans e2
   have d3:∀ y:Sub w.heap.size w,y.w.cell? ⟨p1,po+j*4+3,none⟩=some (.slice pc (xAt l j).l.length pp):=fun y=>(y.h.cell (p:=⟨p1,_,none⟩) hp1).trans e3
   have HE:=hide (fun y:Sub w.heap.size w=>plainS_any (xAt l j) pc pp y.w ((show RdX w 0 (xAt l j) pc from e4).later y.h) (hp j hlt))
   have AT:=hide (all_take l (okF 6 true) j (by omega))
   have AP:=hide (fun h=>all_part (f:=(okF 6 true)) (show j<l.length by omega) h)
   clear e0 e1 e2 e3 e4 hpc hp
   unfold Ex.cs at HE
   generalize okF 6 true (xAt l j)=q at *
   generalize (xAt l j).s=ss at *
   generalize (xAt l j).k=kk at *
   generalize (xAt l j).n=nn at *
   generalize (xAt l j).l.length=ll at *
   cases q with
   | false =>
    have EF:=hide ((uh HT).symm.trans (uh AP rfl))
    go_wp2_with (go_at_call 63;refine (Sub.call (uh HZ) (uh HE _)).mono ?_;rintro r _ ⟨rfl,z2,rfl⟩)
    go_ret
    exact ⟨by rw [uh EF];rfl,uh HB _⟩
   | true =>
    go_wp2_with (go_at_call 63;refine (Sub.call (uh HZ) (uh HE _)).mono ?_;rintro r _ ⟨rfl,z2,rfl⟩)
    go_roundw
    case rel=>exact ⟨j+1,z2,by omega,by go_num,by rw [uh AT,uh HD];rfl,rfl⟩
    case measure=>simp [intOf];omega
  ·
   obtain rfl:j=len:=by omega
   have EF:=hide ((show l.all (okF 6 true)=(l.take j).all (okF 6 true) by rw [←hl,List.take_length]).trans (uh HD))
   have EF:=hide ((uh HT).symm.trans (uh EF))
   go_wp2
   go_ret
   exact ⟨by rw [uh EF];rfl,uh HB _⟩
def nmF (e:Ex):Bool:=okF 6 true e&&e.k == 2
theorem nmF_is (e:Ex):nmF e=(okF 6 true e&&e.k == 2):=rfl
def nmsX (l:List Ex):Bool:=l.all nmF&&inB l.length 1 6
theorem nmsS_any (l:List Ex) (b:Option Addr) (cap:Nat) (w:World) (hr:RdX w 0 ⟨0,0,E0,l⟩ b) (hz:l.length≤1048576) (hp:∀ i,i<l.length→(xAt l i).sz≤1048576):Calls Tryz.prog 76 #[.slice b l.length cap] w fun r w'=>r = .returned (.bool (nmsX l))∧Below w.heap.size w w':=by
 rw [RdX_eq] at hr
 obtain ⟨len,hl⟩:∃ len,l.length=len:=⟨_,rfl⟩
 unfold nmsX
 rw [hl] at hz hp ⊢
 have ne:=Sub.ne w.heap.size w
 have HZ:=hide (Nat.le_refl w.heap.size)
 have HB:=hide (fun y:Sub w.heap.size w=>y.h)
 obtain ⟨T,hT⟩:∃ T,(l.all nmF&&inB len 1 6)=T:=⟨_,rfl⟩
 have HT:=hide hT
 rw [hT]
 clear hT
 go_enter Tryz.func76,Tryz.ntmps76
 go_wp2
 go_loopw [3] (fun i wr=>∃ (j:Nat) (z:Sub w.heap.size w),j≤len∧i = .int .i64 j∧(l.take j).all nmF=true∧wr=z.w) (fun i _=>len-(intOf i).toNat)
 case atStart=>exact ⟨0,⟨w,Below.refl _ _⟩,Nat.zero_le _,rfl,rfl,rfl⟩
 case round =>
  obtain ⟨j,z,hj,rfl,hdone,rfl⟩:=hrel
  have HD:=hide hdone
  clear hdone
  by_cases hlt:j<len
  ·
   rcases hr with h0|⟨p1,po,hb1,_,hp1,hpc⟩
   ·
    have h0:l = []:=h0
    rw [h0] at hl;simp at hl;omega
   subst hb1
   obtain ⟨e0,e1,e2,pc,pp,e3,e4⟩:=hpc j (show j<l.length by omega)
   have d0:∀ y:Sub w.heap.size w,y.w.cell? ⟨p1,po+j*4,none⟩=some (.int .i64 (xAt l j).k):=fun y=>(y.h.cell (p:=⟨p1,_,none⟩) hp1).trans e0
   have d1:∀ y:Sub w.heap.size w,y.w.cell? ⟨p1,po+j*4+1,none⟩=some (.int .i64 (xAt l j).n):=fun y=>(y.h.cell (p:=⟨p1,_,none⟩) hp1).trans e1
   have d2:∀ y:Sub w.heap.size w,y.w.cell? ⟨p1,po+j*4+2,none⟩=some (.string (xAt l j).s):=fun y=>(y.h.cell (p:=⟨p1,_,none⟩) hp1).trans e2
   have d3:∀ y:Sub w.heap.size w,y.w.cell? ⟨p1,po+j*4+3,none⟩=some (.slice pc (xAt l j).l.length pp):=fun y=>(y.h.cell (p:=⟨p1,_,none⟩) hp1).trans e3
   have HE:=hide (fun y:Sub w.heap.size w=>plainS_any (xAt l j) pc pp y.w ((show RdX w 0 (xAt l j) pc from e4).later y.h) (hp j hlt))
   have AT:=hide (all_take l nmF j (by omega))
   have AP:=hide (fun h=>all_part (f:=nmF) (show j<l.length by omega) h)
   clear e0 e1 e2 e3 e4 hpc hp
   unfold Ex.cs at HE
   rw [nmF_is] at AT AP
   generalize okF 6 true (xAt l j)=q at *
   generalize (xAt l j).s=ss at *
   generalize (xAt l j).k=kk at *
   generalize (xAt l j).n=nn at *
   generalize (xAt l j).l.length=ll at *
   cases q with
   | false =>
    have EF:=hide ((uh HT).symm.trans (show (l.all nmF&&inB len 1 6)=false by rw [uh AP rfl];rfl))
    go_wp2_with (go_at_call 63;refine (Sub.call (uh HZ) (uh HE _)).mono ?_;rintro r _ ⟨rfl,z2,rfl⟩)
    go_ret
    exact ⟨by rw [uh EF];rfl,uh HB _⟩
   | true =>
    by_cases hk:kk=2
    ·
     subst hk
     go_wp2_with (go_at_call 63;refine (Sub.call (uh HZ) (uh HE _)).mono ?_;rintro r _ ⟨rfl,z2,rfl⟩)
     go_roundw
     case rel=>exact ⟨j+1,z2,by omega,by go_num,by rw [uh AT,uh HD];rfl,rfl⟩
     case measure=>simp [intOf];omega
    have hkf:(kk == 2)=false:=beq_eq_false_iff_ne.2 hk
    have EF:=hide ((uh HT).symm.trans (show (l.all nmF&&inB len 1 6)=false by rw [uh AP (by rw [hkf];rfl)];rfl))
    go_wp2_with (go_at_call 63;refine (Sub.call (uh HZ) (uh HE _)).mono ?_;rintro r _ ⟨rfl,z2,rfl⟩)
    go_ret
    exact ⟨by rw [uh EF];rfl,uh HB _⟩
  ·
   obtain rfl:j=len:=by omega
   have EF:=hide ((show l.all nmF=(l.take j).all nmF by rw [←hl,List.take_length]).trans (uh HD))
   have EF:=hide ((uh HT).symm.trans (show (l.all nmF&&inB j 1 6)=inB j 1 6 by rw [uh EF];rfl))
   go_wp2_with (go_at_call 61;refine (in_any _ _ _ _).mono ?_;rintro e w' ⟨rfl,hw'⟩;rw [hw'];clear hw' w')
   go_ret
   exact ⟨by rw [uh EF];rfl,uh HB _⟩
structure RdL (w:World) (x:Ln) (p:La):Prop where
 a:RdX w 0 x.src.e p.b1
 b:RdX w 0 x.dst.e p.b2
 l:RdX w 0 ⟨0,0,E0,x.l⟩ p.b3
theorem RdL.later {w w':World} {x:Ln} {p:La} (h:RdL w x p) (hb:Below w.heap.size w w'):RdL w' x p:=⟨h.a.later hb,h.b.later hb,h.l.later hb⟩
structure SzL (x:Ln):Prop where
 s:x.s.size≤1048576
 a:x.src.e.sz≤1048576
 b:x.dst.e.sz≤1048576
 l:x.l.length≤1048576
 p:∀ i,i<x.l.length→(xAt x.l i).sz≤1048576
theorem box17 (w:World) (cs:Array Value) (ty:TypeId) (i:Nat) (v:Value) (h:cs[i]?=some v):(w.alloc (.cells cs ty)).cell? ⟨w.heap.size,i,none⟩=some v:=by
 have h0:(w.alloc (.cells cs ty)).heap[w.heap.size]?=some (.cells cs ty (0,0)):=Array.getElem?_push_size
 rw [Lib.cell_of_heap h0]
 exact h
def insV (op:Int) (n1 n2 a1 a2:Bool) (n:Int) (ll:Nat) (pl:Bool):Bool :=
 if inB op 1 6=true then a1&&(a2&&(n == 0&&ll == 0))
 else if inB op 7 14=true then n1&&(a2&&(n == 0&&ll == 0))
 else if op == 15 then n1&&(a2&&(inB n 0 7&&ll == 0))
 else if !n1 || !n2 then false
 else if op == 16 then inB n 0 7&&ll == 0
 else if op == 22 then n == 0&&ll == 0
 else if inB op 17 21 || op == 23 then n == 0&&(ll == 1&&pl)
 else false
def insX (x:Ln):Bool:=insV x.op (nonX x.src) (nonX x.dst) (agX x.src) (agX x.dst) x.n x.l.length (x.l.all (okF 6 true))
theorem insS_any (x:Ln) (p:La) (w:World) (hr:RdL w x p) (hz:SzL x):Calls Tryz.prog 72 #[.agg (x.cs p)] w fun r w'=>r = .returned (.bool (insX x))∧Below w.heap.size w w':=by
 obtain ⟨hza,hzb,hzc,hzd,hze⟩:=hz
 have s1:=sz_is x.src.e
 have s2:=sz_is x.dst.e
 have hbW:=below_new w (.cells (x.cs p) 30)
 obtain ⟨W,hW⟩:∃ W,w.alloc (.cells (x.cs p) 30)=W:=⟨_,rfl⟩
 have hrW:=hr.later hbW
 have xl:w.heap.size<W.heap.size:=by rw [←hW];simp
 have xc:∀ (i:Nat) (v:Value),(x.cs p)[i]?=some v→∀ y:Sub W.heap.size W,y.w.cell? ⟨w.heap.size,i,none⟩=some v:=fun i v h y=>(y.h.cell (p:=⟨w.heap.size,i,none⟩) xl).trans (by rw [←hW];exact box17 w _ _ i v h)
 rw [hW] at hbW hrW
 obtain ⟨z,hz0⟩:∃ z:Sub W.heap.size W,w.alloc (.cells (x.cs p) 30)=z.w:=⟨⟨W,Below.refl _ _⟩,hW⟩
 have ne:=Sub.ne W.heap.size W
 have HZ:=hide (Nat.le_refl W.heap.size)
 have HB:=hide (fun y:Sub W.heap.size W=>hbW.trans (y.h.mono hbW.size))
 have N1:=hide (fun y:Sub W.heap.size W=>nonS_any x.src (by omega) (by omega) p.b1 p.c1 y.w)
 have N2:=hide (fun y:Sub W.heap.size W=>nonS_any x.dst (by omega) (by omega) p.b2 p.c2 y.w)
 have PL:=hide (fun y:Sub W.heap.size W=>plnS_any x.l p.b3 p.c3 y.w (hrW.l.later y.h) hzd hze)
 have A1:=hide (fun y:Sub W.heap.size W=>agS_any x.src p.b1 p.c1 y.w (hrW.a.later y.h) hzb)
 have A2:=hide (fun y:Sub W.heap.size W=>agS_any x.dst p.b2 p.c2 y.w (hrW.b.later y.h) hzc)
 rw [show insX x=insV x.op (nonX x.src) (nonX x.dst) (agX x.src) (agX x.dst) x.n x.l.length (x.l.all (okF 6 true)) from rfl]
 unfold Ln.cs at hz0 xc ⊢
 unfold Ag.cs at N1 N2 A1 A2
 generalize nonX x.src=n1 at *
 generalize nonX x.dst=n2 at *
 generalize agX x.src=a1 at *
 generalize agX x.dst=a2 at *
 generalize x.l.all (okF 6 true)=pl at *
 clear hr hrW hza hzb hzc hzd hze s1 s2 xl hW
 generalize x.src.f=sf at *
 generalize x.src.r=sr at *
 generalize x.src.e.k=sk at *
 generalize x.src.e.n=sn at *
 generalize x.src.e.s=ss at *
 generalize x.src.e.l.length=sl at *
 generalize x.dst.f=df at *
 generalize x.dst.r=dr at *
 generalize x.dst.e.k=dk at *
 generalize x.dst.e.n=dn at *
 generalize x.dst.e.s=ds at *
 generalize x.dst.e.l.length=dl at *
 generalize x.k=k at *
 generalize x.s=s at *
 generalize x.op=op at *
 generalize x.n=n at *
 generalize x.l.length=ll at *
 generalize p.b1=b1 at *
 generalize p.c1=c1 at *
 generalize p.b2=b2 at *
 generalize p.c2=c2 at *
 generalize p.b3=b3 at *
 generalize p.c3=c3 at *
 cases h1:inB op 1 6 with
 | true =>
  cases a1 with
  | true =>
   cases a2 with
   | true =>
    by_cases h4:n=0
    ·
     subst h4
     by_cases h5:ll=0
     ·
      subst h5
      have V:insV op n1 n2 true true 0 0 pl=true:=by simp [insV, *]
      rw [V]
      clear V
      have E0:=xc 0 (.int .i64 k) rfl
      have E1:=xc 1 (.string s) rfl
      have E2:=xc 2 (.int .i64 op) rfl
      have E3:=xc 3 (.int .i64 sf) rfl
      have E4:=xc 4 (.int .i64 sr) rfl
      have E5:=xc 5 (.int .i64 sk) rfl
      have E6:=xc 6 (.int .i64 sn) rfl
      have E7:=xc 7 (.string ss) rfl
      have E8:=xc 8 (.slice b1 sl c1) rfl
      have E9:=xc 9 (.int .i64 df) rfl
      have E10:=xc 10 (.int .i64 dr) rfl
      have E11:=xc 11 (.int .i64 dk) rfl
      have E12:=xc 12 (.int .i64 dn) rfl
      have E13:=xc 13 (.string ds) rfl
      have E14:=xc 14 (.slice b2 dl c2) rfl
      have E15:=xc 15 (.int .i64 0) rfl
      have E16:=xc 16 (.slice b3 0 c3) rfl
      clear xc
      go_enter Tryz.func72,Tryz.ntmps72
      go_wp2_with (first|(go_at_call 61;refine (in_any _ _ _ _).mono ?_;rintro e w' ⟨rfl,hw'⟩;rw [hw'];clear hw' w')|(go_at_call_of 73 sf;refine (Sub.call (uh HZ) (uh N1 _)).mono ?_;rintro r _ ⟨rfl,z2,rfl⟩)|(go_at_call_of 73 df;refine (Sub.call (uh HZ) (uh N2 _)).mono ?_;rintro r _ ⟨rfl,z2,rfl⟩)|(go_at_call_of 18 sf;refine (Sub.call (uh HZ) (uh A1 _)).mono ?_;rintro r _ ⟨rfl,z2,rfl⟩)|(go_at_call_of 18 df;refine (Sub.call (uh HZ) (uh A2 _)).mono ?_;rintro r _ ⟨rfl,z2,rfl⟩)|(go_at_call 75;refine (Sub.call (uh HZ) (uh PL _)).mono ?_;rintro r _ ⟨rfl,z2,rfl⟩))
      go_ret
      exact ⟨rfl,uh HB _⟩
     have h5f:(ll == 0)=false:=beq_eq_false_iff_ne.2 h5
     have h5g:((ll:Int) == 0)=false:=beq_eq_false_iff_ne.2 (by omega)
     have V:insV op n1 n2 true true 0 ll pl=false:=by simp [insV, *]
     rw [V]
     clear V
     have E0:=xc 0 (.int .i64 k) rfl
     have E1:=xc 1 (.string s) rfl
     have E2:=xc 2 (.int .i64 op) rfl
     have E3:=xc 3 (.int .i64 sf) rfl
     have E4:=xc 4 (.int .i64 sr) rfl
     have E5:=xc 5 (.int .i64 sk) rfl
     have E6:=xc 6 (.int .i64 sn) rfl
     have E7:=xc 7 (.string ss) rfl
     have E8:=xc 8 (.slice b1 sl c1) rfl
     have E9:=xc 9 (.int .i64 df) rfl
     have E10:=xc 10 (.int .i64 dr) rfl
     have E11:=xc 11 (.int .i64 dk) rfl
     have E12:=xc 12 (.int .i64 dn) rfl
     have E13:=xc 13 (.string ds) rfl
     have E14:=xc 14 (.slice b2 dl c2) rfl
     have E15:=xc 15 (.int .i64 0) rfl
     have E16:=xc 16 (.slice b3 ll c3) rfl
     clear xc
     go_enter Tryz.func72,Tryz.ntmps72
     go_wp2_with (first|(go_at_call 61;refine (in_any _ _ _ _).mono ?_;rintro e w' ⟨rfl,hw'⟩;rw [hw'];clear hw' w')|(go_at_call_of 73 sf;refine (Sub.call (uh HZ) (uh N1 _)).mono ?_;rintro r _ ⟨rfl,z2,rfl⟩)|(go_at_call_of 73 df;refine (Sub.call (uh HZ) (uh N2 _)).mono ?_;rintro r _ ⟨rfl,z2,rfl⟩)|(go_at_call_of 18 sf;refine (Sub.call (uh HZ) (uh A1 _)).mono ?_;rintro r _ ⟨rfl,z2,rfl⟩)|(go_at_call_of 18 df;refine (Sub.call (uh HZ) (uh A2 _)).mono ?_;rintro r _ ⟨rfl,z2,rfl⟩)|(go_at_call 75;refine (Sub.call (uh HZ) (uh PL _)).mono ?_;rintro r _ ⟨rfl,z2,rfl⟩))
     go_ret
     exact ⟨rfl,uh HB _⟩
    have h4f:(n == 0)=false:=beq_eq_false_iff_ne.2 h4
    have V:insV op n1 n2 true true n ll pl=false:=by simp [insV, *]
    rw [V]
    clear V
    have E0:=xc 0 (.int .i64 k) rfl
    have E1:=xc 1 (.string s) rfl
    have E2:=xc 2 (.int .i64 op) rfl
    have E3:=xc 3 (.int .i64 sf) rfl
    have E4:=xc 4 (.int .i64 sr) rfl
    have E5:=xc 5 (.int .i64 sk) rfl
    have E6:=xc 6 (.int .i64 sn) rfl
    have E7:=xc 7 (.string ss) rfl
    have E8:=xc 8 (.slice b1 sl c1) rfl
    have E9:=xc 9 (.int .i64 df) rfl
    have E10:=xc 10 (.int .i64 dr) rfl
    have E11:=xc 11 (.int .i64 dk) rfl
    have E12:=xc 12 (.int .i64 dn) rfl
    have E13:=xc 13 (.string ds) rfl
    have E14:=xc 14 (.slice b2 dl c2) rfl
    have E15:=xc 15 (.int .i64 n) rfl
    have E16:=xc 16 (.slice b3 ll c3) rfl
    clear xc
    go_enter Tryz.func72,Tryz.ntmps72
    go_wp2_with (first|(go_at_call 61;refine (in_any _ _ _ _).mono ?_;rintro e w' ⟨rfl,hw'⟩;rw [hw'];clear hw' w')|(go_at_call_of 73 sf;refine (Sub.call (uh HZ) (uh N1 _)).mono ?_;rintro r _ ⟨rfl,z2,rfl⟩)|(go_at_call_of 73 df;refine (Sub.call (uh HZ) (uh N2 _)).mono ?_;rintro r _ ⟨rfl,z2,rfl⟩)|(go_at_call_of 18 sf;refine (Sub.call (uh HZ) (uh A1 _)).mono ?_;rintro r _ ⟨rfl,z2,rfl⟩)|(go_at_call_of 18 df;refine (Sub.call (uh HZ) (uh A2 _)).mono ?_;rintro r _ ⟨rfl,z2,rfl⟩)|(go_at_call 75;refine (Sub.call (uh HZ) (uh PL _)).mono ?_;rintro r _ ⟨rfl,z2,rfl⟩))
    go_ret
    exact ⟨rfl,uh HB _⟩
   | false =>
    have V:insV op n1 n2 true false n ll pl=false:=by simp [insV, *]
    rw [V]
    clear V
    have E0:=xc 0 (.int .i64 k) rfl
    have E1:=xc 1 (.string s) rfl
    have E2:=xc 2 (.int .i64 op) rfl
    have E3:=xc 3 (.int .i64 sf) rfl
    have E4:=xc 4 (.int .i64 sr) rfl
    have E5:=xc 5 (.int .i64 sk) rfl
    have E6:=xc 6 (.int .i64 sn) rfl
    have E7:=xc 7 (.string ss) rfl
    have E8:=xc 8 (.slice b1 sl c1) rfl
    have E9:=xc 9 (.int .i64 df) rfl
    have E10:=xc 10 (.int .i64 dr) rfl
    have E11:=xc 11 (.int .i64 dk) rfl
    have E12:=xc 12 (.int .i64 dn) rfl
    have E13:=xc 13 (.string ds) rfl
    have E14:=xc 14 (.slice b2 dl c2) rfl
    have E15:=xc 15 (.int .i64 n) rfl
    have E16:=xc 16 (.slice b3 ll c3) rfl
    clear xc
    go_enter Tryz.func72,Tryz.ntmps72
    go_wp2_with (first|(go_at_call 61;refine (in_any _ _ _ _).mono ?_;rintro e w' ⟨rfl,hw'⟩;rw [hw'];clear hw' w')|(go_at_call_of 73 sf;refine (Sub.call (uh HZ) (uh N1 _)).mono ?_;rintro r _ ⟨rfl,z2,rfl⟩)|(go_at_call_of 73 df;refine (Sub.call (uh HZ) (uh N2 _)).mono ?_;rintro r _ ⟨rfl,z2,rfl⟩)|(go_at_call_of 18 sf;refine (Sub.call (uh HZ) (uh A1 _)).mono ?_;rintro r _ ⟨rfl,z2,rfl⟩)|(go_at_call_of 18 df;refine (Sub.call (uh HZ) (uh A2 _)).mono ?_;rintro r _ ⟨rfl,z2,rfl⟩)|(go_at_call 75;refine (Sub.call (uh HZ) (uh PL _)).mono ?_;rintro r _ ⟨rfl,z2,rfl⟩))
    go_ret
    exact ⟨rfl,uh HB _⟩
  | false =>
   have V:insV op n1 n2 false a2 n ll pl=false:=by simp [insV, *]
   rw [V]
   clear V
   have E0:=xc 0 (.int .i64 k) rfl
   have E1:=xc 1 (.string s) rfl
   have E2:=xc 2 (.int .i64 op) rfl
   have E3:=xc 3 (.int .i64 sf) rfl
   have E4:=xc 4 (.int .i64 sr) rfl
   have E5:=xc 5 (.int .i64 sk) rfl
   have E6:=xc 6 (.int .i64 sn) rfl
   have E7:=xc 7 (.string ss) rfl
   have E8:=xc 8 (.slice b1 sl c1) rfl
   have E9:=xc 9 (.int .i64 df) rfl
   have E10:=xc 10 (.int .i64 dr) rfl
   have E11:=xc 11 (.int .i64 dk) rfl
   have E12:=xc 12 (.int .i64 dn) rfl
   have E13:=xc 13 (.string ds) rfl
   have E14:=xc 14 (.slice b2 dl c2) rfl
   have E15:=xc 15 (.int .i64 n) rfl
   have E16:=xc 16 (.slice b3 ll c3) rfl
   clear xc
   go_enter Tryz.func72,Tryz.ntmps72
   go_wp2_with (first|(go_at_call 61;refine (in_any _ _ _ _).mono ?_;rintro e w' ⟨rfl,hw'⟩;rw [hw'];clear hw' w')|(go_at_call_of 73 sf;refine (Sub.call (uh HZ) (uh N1 _)).mono ?_;rintro r _ ⟨rfl,z2,rfl⟩)|(go_at_call_of 73 df;refine (Sub.call (uh HZ) (uh N2 _)).mono ?_;rintro r _ ⟨rfl,z2,rfl⟩)|(go_at_call_of 18 sf;refine (Sub.call (uh HZ) (uh A1 _)).mono ?_;rintro r _ ⟨rfl,z2,rfl⟩)|(go_at_call_of 18 df;refine (Sub.call (uh HZ) (uh A2 _)).mono ?_;rintro r _ ⟨rfl,z2,rfl⟩)|(go_at_call 75;refine (Sub.call (uh HZ) (uh PL _)).mono ?_;rintro r _ ⟨rfl,z2,rfl⟩))
   go_ret
   exact ⟨rfl,uh HB _⟩
 | false =>
  cases h16:inB op 7 14 with
  | true =>
   cases n1 with
   | true =>
    cases a2 with
    | true =>
     by_cases h19:n=0
     ·
      subst h19
      by_cases h20:ll=0
      ·
       subst h20
       have V:insV op true n2 a1 true 0 0 pl=true:=by simp [insV, *]
       rw [V]
       clear V
       have E0:=xc 0 (.int .i64 k) rfl
       have E1:=xc 1 (.string s) rfl
       have E2:=xc 2 (.int .i64 op) rfl
       have E3:=xc 3 (.int .i64 sf) rfl
       have E4:=xc 4 (.int .i64 sr) rfl
       have E5:=xc 5 (.int .i64 sk) rfl
       have E6:=xc 6 (.int .i64 sn) rfl
       have E7:=xc 7 (.string ss) rfl
       have E8:=xc 8 (.slice b1 sl c1) rfl
       have E9:=xc 9 (.int .i64 df) rfl
       have E10:=xc 10 (.int .i64 dr) rfl
       have E11:=xc 11 (.int .i64 dk) rfl
       have E12:=xc 12 (.int .i64 dn) rfl
       have E13:=xc 13 (.string ds) rfl
       have E14:=xc 14 (.slice b2 dl c2) rfl
       have E15:=xc 15 (.int .i64 0) rfl
       have E16:=xc 16 (.slice b3 0 c3) rfl
       clear xc
       go_enter Tryz.func72,Tryz.ntmps72
       go_wp2_with (first|(go_at_call 61;refine (in_any _ _ _ _).mono ?_;rintro e w' ⟨rfl,hw'⟩;rw [hw'];clear hw' w')|(go_at_call_of 73 sf;refine (Sub.call (uh HZ) (uh N1 _)).mono ?_;rintro r _ ⟨rfl,z2,rfl⟩)|(go_at_call_of 73 df;refine (Sub.call (uh HZ) (uh N2 _)).mono ?_;rintro r _ ⟨rfl,z2,rfl⟩)|(go_at_call_of 18 sf;refine (Sub.call (uh HZ) (uh A1 _)).mono ?_;rintro r _ ⟨rfl,z2,rfl⟩)|(go_at_call_of 18 df;refine (Sub.call (uh HZ) (uh A2 _)).mono ?_;rintro r _ ⟨rfl,z2,rfl⟩)|(go_at_call 75;refine (Sub.call (uh HZ) (uh PL _)).mono ?_;rintro r _ ⟨rfl,z2,rfl⟩))
       go_ret
       exact ⟨rfl,uh HB _⟩
      have h20f:(ll == 0)=false:=beq_eq_false_iff_ne.2 h20
      have h20g:((ll:Int) == 0)=false:=beq_eq_false_iff_ne.2 (by omega)
      have V:insV op true n2 a1 true 0 ll pl=false:=by simp [insV, *]
      rw [V]
      clear V
      have E0:=xc 0 (.int .i64 k) rfl
      have E1:=xc 1 (.string s) rfl
      have E2:=xc 2 (.int .i64 op) rfl
      have E3:=xc 3 (.int .i64 sf) rfl
      have E4:=xc 4 (.int .i64 sr) rfl
      have E5:=xc 5 (.int .i64 sk) rfl
      have E6:=xc 6 (.int .i64 sn) rfl
      have E7:=xc 7 (.string ss) rfl
      have E8:=xc 8 (.slice b1 sl c1) rfl
      have E9:=xc 9 (.int .i64 df) rfl
      have E10:=xc 10 (.int .i64 dr) rfl
      have E11:=xc 11 (.int .i64 dk) rfl
      have E12:=xc 12 (.int .i64 dn) rfl
      have E13:=xc 13 (.string ds) rfl
      have E14:=xc 14 (.slice b2 dl c2) rfl
      have E15:=xc 15 (.int .i64 0) rfl
      have E16:=xc 16 (.slice b3 ll c3) rfl
      clear xc
      go_enter Tryz.func72,Tryz.ntmps72
      go_wp2_with (first|(go_at_call 61;refine (in_any _ _ _ _).mono ?_;rintro e w' ⟨rfl,hw'⟩;rw [hw'];clear hw' w')|(go_at_call_of 73 sf;refine (Sub.call (uh HZ) (uh N1 _)).mono ?_;rintro r _ ⟨rfl,z2,rfl⟩)|(go_at_call_of 73 df;refine (Sub.call (uh HZ) (uh N2 _)).mono ?_;rintro r _ ⟨rfl,z2,rfl⟩)|(go_at_call_of 18 sf;refine (Sub.call (uh HZ) (uh A1 _)).mono ?_;rintro r _ ⟨rfl,z2,rfl⟩)|(go_at_call_of 18 df;refine (Sub.call (uh HZ) (uh A2 _)).mono ?_;rintro r _ ⟨rfl,z2,rfl⟩)|(go_at_call 75;refine (Sub.call (uh HZ) (uh PL _)).mono ?_;rintro r _ ⟨rfl,z2,rfl⟩))
      go_ret
      exact ⟨rfl,uh HB _⟩
     have h19f:(n == 0)=false:=beq_eq_false_iff_ne.2 h19
     have V:insV op true n2 a1 true n ll pl=false:=by simp [insV, *]
     rw [V]
     clear V
     have E0:=xc 0 (.int .i64 k) rfl
     have E1:=xc 1 (.string s) rfl
     have E2:=xc 2 (.int .i64 op) rfl
     have E3:=xc 3 (.int .i64 sf) rfl
     have E4:=xc 4 (.int .i64 sr) rfl
     have E5:=xc 5 (.int .i64 sk) rfl
     have E6:=xc 6 (.int .i64 sn) rfl
     have E7:=xc 7 (.string ss) rfl
     have E8:=xc 8 (.slice b1 sl c1) rfl
     have E9:=xc 9 (.int .i64 df) rfl
     have E10:=xc 10 (.int .i64 dr) rfl
     have E11:=xc 11 (.int .i64 dk) rfl
     have E12:=xc 12 (.int .i64 dn) rfl
     have E13:=xc 13 (.string ds) rfl
     have E14:=xc 14 (.slice b2 dl c2) rfl
     have E15:=xc 15 (.int .i64 n) rfl
     have E16:=xc 16 (.slice b3 ll c3) rfl
     clear xc
     go_enter Tryz.func72,Tryz.ntmps72
     go_wp2_with (first|(go_at_call 61;refine (in_any _ _ _ _).mono ?_;rintro e w' ⟨rfl,hw'⟩;rw [hw'];clear hw' w')|(go_at_call_of 73 sf;refine (Sub.call (uh HZ) (uh N1 _)).mono ?_;rintro r _ ⟨rfl,z2,rfl⟩)|(go_at_call_of 73 df;refine (Sub.call (uh HZ) (uh N2 _)).mono ?_;rintro r _ ⟨rfl,z2,rfl⟩)|(go_at_call_of 18 sf;refine (Sub.call (uh HZ) (uh A1 _)).mono ?_;rintro r _ ⟨rfl,z2,rfl⟩)|(go_at_call_of 18 df;refine (Sub.call (uh HZ) (uh A2 _)).mono ?_;rintro r _ ⟨rfl,z2,rfl⟩)|(go_at_call 75;refine (Sub.call (uh HZ) (uh PL _)).mono ?_;rintro r _ ⟨rfl,z2,rfl⟩))
     go_ret
     exact ⟨rfl,uh HB _⟩
    | false =>
     have V:insV op true n2 a1 false n ll pl=false:=by simp [insV, *]
     rw [V]
     clear V
     have E0:=xc 0 (.int .i64 k) rfl
     have E1:=xc 1 (.string s) rfl
     have E2:=xc 2 (.int .i64 op) rfl
     have E3:=xc 3 (.int .i64 sf) rfl
     have E4:=xc 4 (.int .i64 sr) rfl
     have E5:=xc 5 (.int .i64 sk) rfl
     have E6:=xc 6 (.int .i64 sn) rfl
     have E7:=xc 7 (.string ss) rfl
     have E8:=xc 8 (.slice b1 sl c1) rfl
     have E9:=xc 9 (.int .i64 df) rfl
     have E10:=xc 10 (.int .i64 dr) rfl
     have E11:=xc 11 (.int .i64 dk) rfl
     have E12:=xc 12 (.int .i64 dn) rfl
     have E13:=xc 13 (.string ds) rfl
     have E14:=xc 14 (.slice b2 dl c2) rfl
     have E15:=xc 15 (.int .i64 n) rfl
     have E16:=xc 16 (.slice b3 ll c3) rfl
     clear xc
     go_enter Tryz.func72,Tryz.ntmps72
     go_wp2_with (first|(go_at_call 61;refine (in_any _ _ _ _).mono ?_;rintro e w' ⟨rfl,hw'⟩;rw [hw'];clear hw' w')|(go_at_call_of 73 sf;refine (Sub.call (uh HZ) (uh N1 _)).mono ?_;rintro r _ ⟨rfl,z2,rfl⟩)|(go_at_call_of 73 df;refine (Sub.call (uh HZ) (uh N2 _)).mono ?_;rintro r _ ⟨rfl,z2,rfl⟩)|(go_at_call_of 18 sf;refine (Sub.call (uh HZ) (uh A1 _)).mono ?_;rintro r _ ⟨rfl,z2,rfl⟩)|(go_at_call_of 18 df;refine (Sub.call (uh HZ) (uh A2 _)).mono ?_;rintro r _ ⟨rfl,z2,rfl⟩)|(go_at_call 75;refine (Sub.call (uh HZ) (uh PL _)).mono ?_;rintro r _ ⟨rfl,z2,rfl⟩))
     go_ret
     exact ⟨rfl,uh HB _⟩
   | false =>
    have V:insV op false n2 a1 a2 n ll pl=false:=by simp [insV, *]
    rw [V]
    clear V
    have E0:=xc 0 (.int .i64 k) rfl
    have E1:=xc 1 (.string s) rfl
    have E2:=xc 2 (.int .i64 op) rfl
    have E3:=xc 3 (.int .i64 sf) rfl
    have E4:=xc 4 (.int .i64 sr) rfl
    have E5:=xc 5 (.int .i64 sk) rfl
    have E6:=xc 6 (.int .i64 sn) rfl
    have E7:=xc 7 (.string ss) rfl
    have E8:=xc 8 (.slice b1 sl c1) rfl
    have E9:=xc 9 (.int .i64 df) rfl
    have E10:=xc 10 (.int .i64 dr) rfl
    have E11:=xc 11 (.int .i64 dk) rfl
    have E12:=xc 12 (.int .i64 dn) rfl
    have E13:=xc 13 (.string ds) rfl
    have E14:=xc 14 (.slice b2 dl c2) rfl
    have E15:=xc 15 (.int .i64 n) rfl
    have E16:=xc 16 (.slice b3 ll c3) rfl
    clear xc
    go_enter Tryz.func72,Tryz.ntmps72
    go_wp2_with (first|(go_at_call 61;refine (in_any _ _ _ _).mono ?_;rintro e w' ⟨rfl,hw'⟩;rw [hw'];clear hw' w')|(go_at_call_of 73 sf;refine (Sub.call (uh HZ) (uh N1 _)).mono ?_;rintro r _ ⟨rfl,z2,rfl⟩)|(go_at_call_of 73 df;refine (Sub.call (uh HZ) (uh N2 _)).mono ?_;rintro r _ ⟨rfl,z2,rfl⟩)|(go_at_call_of 18 sf;refine (Sub.call (uh HZ) (uh A1 _)).mono ?_;rintro r _ ⟨rfl,z2,rfl⟩)|(go_at_call_of 18 df;refine (Sub.call (uh HZ) (uh A2 _)).mono ?_;rintro r _ ⟨rfl,z2,rfl⟩)|(go_at_call 75;refine (Sub.call (uh HZ) (uh PL _)).mono ?_;rintro r _ ⟨rfl,z2,rfl⟩))
    go_ret
    exact ⟨rfl,uh HB _⟩
  | false =>
   by_cases h31:op=15
   ·
    subst h31
    cases n1 with
    | true =>
     cases a2 with
     | true =>
      cases h34:inB n 0 7 with
      | true =>
       by_cases h35:ll=0
       ·
        subst h35
        have V:insV 15 true n2 a1 true n 0 pl=true:=by simp [insV, *]
        rw [V]
        clear V
        have E0:=xc 0 (.int .i64 k) rfl
        have E1:=xc 1 (.string s) rfl
        have E2:=xc 2 (.int .i64 15) rfl
        have E3:=xc 3 (.int .i64 sf) rfl
        have E4:=xc 4 (.int .i64 sr) rfl
        have E5:=xc 5 (.int .i64 sk) rfl
        have E6:=xc 6 (.int .i64 sn) rfl
        have E7:=xc 7 (.string ss) rfl
        have E8:=xc 8 (.slice b1 sl c1) rfl
        have E9:=xc 9 (.int .i64 df) rfl
        have E10:=xc 10 (.int .i64 dr) rfl
        have E11:=xc 11 (.int .i64 dk) rfl
        have E12:=xc 12 (.int .i64 dn) rfl
        have E13:=xc 13 (.string ds) rfl
        have E14:=xc 14 (.slice b2 dl c2) rfl
        have E15:=xc 15 (.int .i64 n) rfl
        have E16:=xc 16 (.slice b3 0 c3) rfl
        clear xc
        go_enter Tryz.func72,Tryz.ntmps72
        go_wp2_with (first|(go_at_call 61;refine (in_any _ _ _ _).mono ?_;rintro e w' ⟨rfl,hw'⟩;rw [hw'];clear hw' w')|(go_at_call_of 73 sf;refine (Sub.call (uh HZ) (uh N1 _)).mono ?_;rintro r _ ⟨rfl,z2,rfl⟩)|(go_at_call_of 73 df;refine (Sub.call (uh HZ) (uh N2 _)).mono ?_;rintro r _ ⟨rfl,z2,rfl⟩)|(go_at_call_of 18 sf;refine (Sub.call (uh HZ) (uh A1 _)).mono ?_;rintro r _ ⟨rfl,z2,rfl⟩)|(go_at_call_of 18 df;refine (Sub.call (uh HZ) (uh A2 _)).mono ?_;rintro r _ ⟨rfl,z2,rfl⟩)|(go_at_call 75;refine (Sub.call (uh HZ) (uh PL _)).mono ?_;rintro r _ ⟨rfl,z2,rfl⟩))
        go_ret
        exact ⟨rfl,uh HB _⟩
       have h35f:(ll == 0)=false:=beq_eq_false_iff_ne.2 h35
       have h35g:((ll:Int) == 0)=false:=beq_eq_false_iff_ne.2 (by omega)
       have V:insV 15 true n2 a1 true n ll pl=false:=by simp [insV, *]
       rw [V]
       clear V
       have E0:=xc 0 (.int .i64 k) rfl
       have E1:=xc 1 (.string s) rfl
       have E2:=xc 2 (.int .i64 15) rfl
       have E3:=xc 3 (.int .i64 sf) rfl
       have E4:=xc 4 (.int .i64 sr) rfl
       have E5:=xc 5 (.int .i64 sk) rfl
       have E6:=xc 6 (.int .i64 sn) rfl
       have E7:=xc 7 (.string ss) rfl
       have E8:=xc 8 (.slice b1 sl c1) rfl
       have E9:=xc 9 (.int .i64 df) rfl
       have E10:=xc 10 (.int .i64 dr) rfl
       have E11:=xc 11 (.int .i64 dk) rfl
       have E12:=xc 12 (.int .i64 dn) rfl
       have E13:=xc 13 (.string ds) rfl
       have E14:=xc 14 (.slice b2 dl c2) rfl
       have E15:=xc 15 (.int .i64 n) rfl
       have E16:=xc 16 (.slice b3 ll c3) rfl
       clear xc
       go_enter Tryz.func72,Tryz.ntmps72
       go_wp2_with (first|(go_at_call 61;refine (in_any _ _ _ _).mono ?_;rintro e w' ⟨rfl,hw'⟩;rw [hw'];clear hw' w')|(go_at_call_of 73 sf;refine (Sub.call (uh HZ) (uh N1 _)).mono ?_;rintro r _ ⟨rfl,z2,rfl⟩)|(go_at_call_of 73 df;refine (Sub.call (uh HZ) (uh N2 _)).mono ?_;rintro r _ ⟨rfl,z2,rfl⟩)|(go_at_call_of 18 sf;refine (Sub.call (uh HZ) (uh A1 _)).mono ?_;rintro r _ ⟨rfl,z2,rfl⟩)|(go_at_call_of 18 df;refine (Sub.call (uh HZ) (uh A2 _)).mono ?_;rintro r _ ⟨rfl,z2,rfl⟩)|(go_at_call 75;refine (Sub.call (uh HZ) (uh PL _)).mono ?_;rintro r _ ⟨rfl,z2,rfl⟩))
       go_ret
       exact ⟨rfl,uh HB _⟩
      | false =>
       have V:insV 15 true n2 a1 true n ll pl=false:=by simp [insV, *]
       rw [V]
       clear V
       have E0:=xc 0 (.int .i64 k) rfl
       have E1:=xc 1 (.string s) rfl
       have E2:=xc 2 (.int .i64 15) rfl
       have E3:=xc 3 (.int .i64 sf) rfl
       have E4:=xc 4 (.int .i64 sr) rfl
       have E5:=xc 5 (.int .i64 sk) rfl
       have E6:=xc 6 (.int .i64 sn) rfl
       have E7:=xc 7 (.string ss) rfl
       have E8:=xc 8 (.slice b1 sl c1) rfl
       have E9:=xc 9 (.int .i64 df) rfl
       have E10:=xc 10 (.int .i64 dr) rfl
       have E11:=xc 11 (.int .i64 dk) rfl
       have E12:=xc 12 (.int .i64 dn) rfl
       have E13:=xc 13 (.string ds) rfl
       have E14:=xc 14 (.slice b2 dl c2) rfl
       have E15:=xc 15 (.int .i64 n) rfl
       have E16:=xc 16 (.slice b3 ll c3) rfl
       clear xc
       go_enter Tryz.func72,Tryz.ntmps72
       go_wp2_with (first|(go_at_call 61;refine (in_any _ _ _ _).mono ?_;rintro e w' ⟨rfl,hw'⟩;rw [hw'];clear hw' w')|(go_at_call_of 73 sf;refine (Sub.call (uh HZ) (uh N1 _)).mono ?_;rintro r _ ⟨rfl,z2,rfl⟩)|(go_at_call_of 73 df;refine (Sub.call (uh HZ) (uh N2 _)).mono ?_;rintro r _ ⟨rfl,z2,rfl⟩)|(go_at_call_of 18 sf;refine (Sub.call (uh HZ) (uh A1 _)).mono ?_;rintro r _ ⟨rfl,z2,rfl⟩)|(go_at_call_of 18 df;refine (Sub.call (uh HZ) (uh A2 _)).mono ?_;rintro r _ ⟨rfl,z2,rfl⟩)|(go_at_call 75;refine (Sub.call (uh HZ) (uh PL _)).mono ?_;rintro r _ ⟨rfl,z2,rfl⟩))
       go_ret
       exact ⟨rfl,uh HB _⟩
     | false =>
      have V:insV 15 true n2 a1 false n ll pl=false:=by simp [insV, *]
      rw [V]
      clear V
      have E0:=xc 0 (.int .i64 k) rfl
      have E1:=xc 1 (.string s) rfl
      have E2:=xc 2 (.int .i64 15) rfl
      have E3:=xc 3 (.int .i64 sf) rfl
      have E4:=xc 4 (.int .i64 sr) rfl
      have E5:=xc 5 (.int .i64 sk) rfl
      have E6:=xc 6 (.int .i64 sn) rfl
      have E7:=xc 7 (.string ss) rfl
      have E8:=xc 8 (.slice b1 sl c1) rfl
      have E9:=xc 9 (.int .i64 df) rfl
      have E10:=xc 10 (.int .i64 dr) rfl
      have E11:=xc 11 (.int .i64 dk) rfl
      have E12:=xc 12 (.int .i64 dn) rfl
      have E13:=xc 13 (.string ds) rfl
      have E14:=xc 14 (.slice b2 dl c2) rfl
      have E15:=xc 15 (.int .i64 n) rfl
      have E16:=xc 16 (.slice b3 ll c3) rfl
      clear xc
      go_enter Tryz.func72,Tryz.ntmps72
      go_wp2_with (first|(go_at_call 61;refine (in_any _ _ _ _).mono ?_;rintro e w' ⟨rfl,hw'⟩;rw [hw'];clear hw' w')|(go_at_call_of 73 sf;refine (Sub.call (uh HZ) (uh N1 _)).mono ?_;rintro r _ ⟨rfl,z2,rfl⟩)|(go_at_call_of 73 df;refine (Sub.call (uh HZ) (uh N2 _)).mono ?_;rintro r _ ⟨rfl,z2,rfl⟩)|(go_at_call_of 18 sf;refine (Sub.call (uh HZ) (uh A1 _)).mono ?_;rintro r _ ⟨rfl,z2,rfl⟩)|(go_at_call_of 18 df;refine (Sub.call (uh HZ) (uh A2 _)).mono ?_;rintro r _ ⟨rfl,z2,rfl⟩)|(go_at_call 75;refine (Sub.call (uh HZ) (uh PL _)).mono ?_;rintro r _ ⟨rfl,z2,rfl⟩))
      go_ret
      exact ⟨rfl,uh HB _⟩
    | false =>
     have V:insV 15 false n2 a1 a2 n ll pl=false:=by simp [insV, *]
     rw [V]
     clear V
     have E0:=xc 0 (.int .i64 k) rfl
     have E1:=xc 1 (.string s) rfl
     have E2:=xc 2 (.int .i64 15) rfl
     have E3:=xc 3 (.int .i64 sf) rfl
     have E4:=xc 4 (.int .i64 sr) rfl
     have E5:=xc 5 (.int .i64 sk) rfl
     have E6:=xc 6 (.int .i64 sn) rfl
     have E7:=xc 7 (.string ss) rfl
     have E8:=xc 8 (.slice b1 sl c1) rfl
     have E9:=xc 9 (.int .i64 df) rfl
     have E10:=xc 10 (.int .i64 dr) rfl
     have E11:=xc 11 (.int .i64 dk) rfl
     have E12:=xc 12 (.int .i64 dn) rfl
     have E13:=xc 13 (.string ds) rfl
     have E14:=xc 14 (.slice b2 dl c2) rfl
     have E15:=xc 15 (.int .i64 n) rfl
     have E16:=xc 16 (.slice b3 ll c3) rfl
     clear xc
     go_enter Tryz.func72,Tryz.ntmps72
     go_wp2_with (first|(go_at_call 61;refine (in_any _ _ _ _).mono ?_;rintro e w' ⟨rfl,hw'⟩;rw [hw'];clear hw' w')|(go_at_call_of 73 sf;refine (Sub.call (uh HZ) (uh N1 _)).mono ?_;rintro r _ ⟨rfl,z2,rfl⟩)|(go_at_call_of 73 df;refine (Sub.call (uh HZ) (uh N2 _)).mono ?_;rintro r _ ⟨rfl,z2,rfl⟩)|(go_at_call_of 18 sf;refine (Sub.call (uh HZ) (uh A1 _)).mono ?_;rintro r _ ⟨rfl,z2,rfl⟩)|(go_at_call_of 18 df;refine (Sub.call (uh HZ) (uh A2 _)).mono ?_;rintro r _ ⟨rfl,z2,rfl⟩)|(go_at_call 75;refine (Sub.call (uh HZ) (uh PL _)).mono ?_;rintro r _ ⟨rfl,z2,rfl⟩))
     go_ret
     exact ⟨rfl,uh HB _⟩
   have h31f:(op == 15)=false:=beq_eq_false_iff_ne.2 h31
   cases n1 with
   | true =>
    cases n2 with
    | true =>
     by_cases h48:op=16
     ·
      subst h48
      cases h49:inB n 0 7 with
      | true =>
       by_cases h50:ll=0
       ·
        subst h50
        have V:insV 16 true true a1 a2 n 0 pl=true:=by simp [insV, *]
        rw [V]
        clear V
        have E0:=xc 0 (.int .i64 k) rfl
        have E1:=xc 1 (.string s) rfl
        have E2:=xc 2 (.int .i64 16) rfl
        have E3:=xc 3 (.int .i64 sf) rfl
        have E4:=xc 4 (.int .i64 sr) rfl
        have E5:=xc 5 (.int .i64 sk) rfl
        have E6:=xc 6 (.int .i64 sn) rfl
        have E7:=xc 7 (.string ss) rfl
        have E8:=xc 8 (.slice b1 sl c1) rfl
        have E9:=xc 9 (.int .i64 df) rfl
        have E10:=xc 10 (.int .i64 dr) rfl
        have E11:=xc 11 (.int .i64 dk) rfl
        have E12:=xc 12 (.int .i64 dn) rfl
        have E13:=xc 13 (.string ds) rfl
        have E14:=xc 14 (.slice b2 dl c2) rfl
        have E15:=xc 15 (.int .i64 n) rfl
        have E16:=xc 16 (.slice b3 0 c3) rfl
        clear xc
        go_enter Tryz.func72,Tryz.ntmps72
        go_wp2_with (first|(go_at_call 61;refine (in_any _ _ _ _).mono ?_;rintro e w' ⟨rfl,hw'⟩;rw [hw'];clear hw' w')|(go_at_call_of 73 sf;refine (Sub.call (uh HZ) (uh N1 _)).mono ?_;rintro r _ ⟨rfl,z2,rfl⟩)|(go_at_call_of 73 df;refine (Sub.call (uh HZ) (uh N2 _)).mono ?_;rintro r _ ⟨rfl,z2,rfl⟩)|(go_at_call_of 18 sf;refine (Sub.call (uh HZ) (uh A1 _)).mono ?_;rintro r _ ⟨rfl,z2,rfl⟩)|(go_at_call_of 18 df;refine (Sub.call (uh HZ) (uh A2 _)).mono ?_;rintro r _ ⟨rfl,z2,rfl⟩)|(go_at_call 75;refine (Sub.call (uh HZ) (uh PL _)).mono ?_;rintro r _ ⟨rfl,z2,rfl⟩))
        go_ret
        exact ⟨rfl,uh HB _⟩
       have h50f:(ll == 0)=false:=beq_eq_false_iff_ne.2 h50
       have h50g:((ll:Int) == 0)=false:=beq_eq_false_iff_ne.2 (by omega)
       have V:insV 16 true true a1 a2 n ll pl=false:=by simp [insV, *]
       rw [V]
       clear V
       have E0:=xc 0 (.int .i64 k) rfl
       have E1:=xc 1 (.string s) rfl
       have E2:=xc 2 (.int .i64 16) rfl
       have E3:=xc 3 (.int .i64 sf) rfl
       have E4:=xc 4 (.int .i64 sr) rfl
       have E5:=xc 5 (.int .i64 sk) rfl
       have E6:=xc 6 (.int .i64 sn) rfl
       have E7:=xc 7 (.string ss) rfl
       have E8:=xc 8 (.slice b1 sl c1) rfl
       have E9:=xc 9 (.int .i64 df) rfl
       have E10:=xc 10 (.int .i64 dr) rfl
       have E11:=xc 11 (.int .i64 dk) rfl
       have E12:=xc 12 (.int .i64 dn) rfl
       have E13:=xc 13 (.string ds) rfl
       have E14:=xc 14 (.slice b2 dl c2) rfl
       have E15:=xc 15 (.int .i64 n) rfl
       have E16:=xc 16 (.slice b3 ll c3) rfl
       clear xc
       go_enter Tryz.func72,Tryz.ntmps72
       go_wp2_with (first|(go_at_call 61;refine (in_any _ _ _ _).mono ?_;rintro e w' ⟨rfl,hw'⟩;rw [hw'];clear hw' w')|(go_at_call_of 73 sf;refine (Sub.call (uh HZ) (uh N1 _)).mono ?_;rintro r _ ⟨rfl,z2,rfl⟩)|(go_at_call_of 73 df;refine (Sub.call (uh HZ) (uh N2 _)).mono ?_;rintro r _ ⟨rfl,z2,rfl⟩)|(go_at_call_of 18 sf;refine (Sub.call (uh HZ) (uh A1 _)).mono ?_;rintro r _ ⟨rfl,z2,rfl⟩)|(go_at_call_of 18 df;refine (Sub.call (uh HZ) (uh A2 _)).mono ?_;rintro r _ ⟨rfl,z2,rfl⟩)|(go_at_call 75;refine (Sub.call (uh HZ) (uh PL _)).mono ?_;rintro r _ ⟨rfl,z2,rfl⟩))
       go_ret
       exact ⟨rfl,uh HB _⟩
      | false =>
       have V:insV 16 true true a1 a2 n ll pl=false:=by simp [insV, *]
       rw [V]
       clear V
       have E0:=xc 0 (.int .i64 k) rfl
       have E1:=xc 1 (.string s) rfl
       have E2:=xc 2 (.int .i64 16) rfl
       have E3:=xc 3 (.int .i64 sf) rfl
       have E4:=xc 4 (.int .i64 sr) rfl
       have E5:=xc 5 (.int .i64 sk) rfl
       have E6:=xc 6 (.int .i64 sn) rfl
       have E7:=xc 7 (.string ss) rfl
       have E8:=xc 8 (.slice b1 sl c1) rfl
       have E9:=xc 9 (.int .i64 df) rfl
       have E10:=xc 10 (.int .i64 dr) rfl
       have E11:=xc 11 (.int .i64 dk) rfl
       have E12:=xc 12 (.int .i64 dn) rfl
       have E13:=xc 13 (.string ds) rfl
       have E14:=xc 14 (.slice b2 dl c2) rfl
       have E15:=xc 15 (.int .i64 n) rfl
       have E16:=xc 16 (.slice b3 ll c3) rfl
       clear xc
       go_enter Tryz.func72,Tryz.ntmps72
       go_wp2_with (first|(go_at_call 61;refine (in_any _ _ _ _).mono ?_;rintro e w' ⟨rfl,hw'⟩;rw [hw'];clear hw' w')|(go_at_call_of 73 sf;refine (Sub.call (uh HZ) (uh N1 _)).mono ?_;rintro r _ ⟨rfl,z2,rfl⟩)|(go_at_call_of 73 df;refine (Sub.call (uh HZ) (uh N2 _)).mono ?_;rintro r _ ⟨rfl,z2,rfl⟩)|(go_at_call_of 18 sf;refine (Sub.call (uh HZ) (uh A1 _)).mono ?_;rintro r _ ⟨rfl,z2,rfl⟩)|(go_at_call_of 18 df;refine (Sub.call (uh HZ) (uh A2 _)).mono ?_;rintro r _ ⟨rfl,z2,rfl⟩)|(go_at_call 75;refine (Sub.call (uh HZ) (uh PL _)).mono ?_;rintro r _ ⟨rfl,z2,rfl⟩))
       go_ret
       exact ⟨rfl,uh HB _⟩
     have h48f:(op == 16)=false:=beq_eq_false_iff_ne.2 h48
     by_cases h57:op=22
     ·
      subst h57
      by_cases h58:n=0
      ·
       subst h58
       by_cases h59:ll=0
       ·
        subst h59
        have V:insV 22 true true a1 a2 0 0 pl=true:=by simp [insV, *]
        rw [V]
        clear V
        have E0:=xc 0 (.int .i64 k) rfl
        have E1:=xc 1 (.string s) rfl
        have E2:=xc 2 (.int .i64 22) rfl
        have E3:=xc 3 (.int .i64 sf) rfl
        have E4:=xc 4 (.int .i64 sr) rfl
        have E5:=xc 5 (.int .i64 sk) rfl
        have E6:=xc 6 (.int .i64 sn) rfl
        have E7:=xc 7 (.string ss) rfl
        have E8:=xc 8 (.slice b1 sl c1) rfl
        have E9:=xc 9 (.int .i64 df) rfl
        have E10:=xc 10 (.int .i64 dr) rfl
        have E11:=xc 11 (.int .i64 dk) rfl
        have E12:=xc 12 (.int .i64 dn) rfl
        have E13:=xc 13 (.string ds) rfl
        have E14:=xc 14 (.slice b2 dl c2) rfl
        have E15:=xc 15 (.int .i64 0) rfl
        have E16:=xc 16 (.slice b3 0 c3) rfl
        clear xc
        go_enter Tryz.func72,Tryz.ntmps72
        go_wp2_with (first|(go_at_call 61;refine (in_any _ _ _ _).mono ?_;rintro e w' ⟨rfl,hw'⟩;rw [hw'];clear hw' w')|(go_at_call_of 73 sf;refine (Sub.call (uh HZ) (uh N1 _)).mono ?_;rintro r _ ⟨rfl,z2,rfl⟩)|(go_at_call_of 73 df;refine (Sub.call (uh HZ) (uh N2 _)).mono ?_;rintro r _ ⟨rfl,z2,rfl⟩)|(go_at_call_of 18 sf;refine (Sub.call (uh HZ) (uh A1 _)).mono ?_;rintro r _ ⟨rfl,z2,rfl⟩)|(go_at_call_of 18 df;refine (Sub.call (uh HZ) (uh A2 _)).mono ?_;rintro r _ ⟨rfl,z2,rfl⟩)|(go_at_call 75;refine (Sub.call (uh HZ) (uh PL _)).mono ?_;rintro r _ ⟨rfl,z2,rfl⟩))
        go_ret
        exact ⟨rfl,uh HB _⟩
       have h59f:(ll == 0)=false:=beq_eq_false_iff_ne.2 h59
       have h59g:((ll:Int) == 0)=false:=beq_eq_false_iff_ne.2 (by omega)
       have V:insV 22 true true a1 a2 0 ll pl=false:=by simp [insV, *]
       rw [V]
       clear V
       have E0:=xc 0 (.int .i64 k) rfl
       have E1:=xc 1 (.string s) rfl
       have E2:=xc 2 (.int .i64 22) rfl
       have E3:=xc 3 (.int .i64 sf) rfl
       have E4:=xc 4 (.int .i64 sr) rfl
       have E5:=xc 5 (.int .i64 sk) rfl
       have E6:=xc 6 (.int .i64 sn) rfl
       have E7:=xc 7 (.string ss) rfl
       have E8:=xc 8 (.slice b1 sl c1) rfl
       have E9:=xc 9 (.int .i64 df) rfl
       have E10:=xc 10 (.int .i64 dr) rfl
       have E11:=xc 11 (.int .i64 dk) rfl
       have E12:=xc 12 (.int .i64 dn) rfl
       have E13:=xc 13 (.string ds) rfl
       have E14:=xc 14 (.slice b2 dl c2) rfl
       have E15:=xc 15 (.int .i64 0) rfl
       have E16:=xc 16 (.slice b3 ll c3) rfl
       clear xc
       go_enter Tryz.func72,Tryz.ntmps72
       go_wp2_with (first|(go_at_call 61;refine (in_any _ _ _ _).mono ?_;rintro e w' ⟨rfl,hw'⟩;rw [hw'];clear hw' w')|(go_at_call_of 73 sf;refine (Sub.call (uh HZ) (uh N1 _)).mono ?_;rintro r _ ⟨rfl,z2,rfl⟩)|(go_at_call_of 73 df;refine (Sub.call (uh HZ) (uh N2 _)).mono ?_;rintro r _ ⟨rfl,z2,rfl⟩)|(go_at_call_of 18 sf;refine (Sub.call (uh HZ) (uh A1 _)).mono ?_;rintro r _ ⟨rfl,z2,rfl⟩)|(go_at_call_of 18 df;refine (Sub.call (uh HZ) (uh A2 _)).mono ?_;rintro r _ ⟨rfl,z2,rfl⟩)|(go_at_call 75;refine (Sub.call (uh HZ) (uh PL _)).mono ?_;rintro r _ ⟨rfl,z2,rfl⟩))
       go_ret
       exact ⟨rfl,uh HB _⟩
      have h58f:(n == 0)=false:=beq_eq_false_iff_ne.2 h58
      have V:insV 22 true true a1 a2 n ll pl=false:=by simp [insV, *]
      rw [V]
      clear V
      have E0:=xc 0 (.int .i64 k) rfl
      have E1:=xc 1 (.string s) rfl
      have E2:=xc 2 (.int .i64 22) rfl
      have E3:=xc 3 (.int .i64 sf) rfl
      have E4:=xc 4 (.int .i64 sr) rfl
      have E5:=xc 5 (.int .i64 sk) rfl
      have E6:=xc 6 (.int .i64 sn) rfl
      have E7:=xc 7 (.string ss) rfl
      have E8:=xc 8 (.slice b1 sl c1) rfl
      have E9:=xc 9 (.int .i64 df) rfl
      have E10:=xc 10 (.int .i64 dr) rfl
      have E11:=xc 11 (.int .i64 dk) rfl
      have E12:=xc 12 (.int .i64 dn) rfl
      have E13:=xc 13 (.string ds) rfl
      have E14:=xc 14 (.slice b2 dl c2) rfl
      have E15:=xc 15 (.int .i64 n) rfl
      have E16:=xc 16 (.slice b3 ll c3) rfl
      clear xc
      go_enter Tryz.func72,Tryz.ntmps72
      go_wp2_with (first|(go_at_call 61;refine (in_any _ _ _ _).mono ?_;rintro e w' ⟨rfl,hw'⟩;rw [hw'];clear hw' w')|(go_at_call_of 73 sf;refine (Sub.call (uh HZ) (uh N1 _)).mono ?_;rintro r _ ⟨rfl,z2,rfl⟩)|(go_at_call_of 73 df;refine (Sub.call (uh HZ) (uh N2 _)).mono ?_;rintro r _ ⟨rfl,z2,rfl⟩)|(go_at_call_of 18 sf;refine (Sub.call (uh HZ) (uh A1 _)).mono ?_;rintro r _ ⟨rfl,z2,rfl⟩)|(go_at_call_of 18 df;refine (Sub.call (uh HZ) (uh A2 _)).mono ?_;rintro r _ ⟨rfl,z2,rfl⟩)|(go_at_call 75;refine (Sub.call (uh HZ) (uh PL _)).mono ?_;rintro r _ ⟨rfl,z2,rfl⟩))
      go_ret
      exact ⟨rfl,uh HB _⟩
     have h57f:(op == 22)=false:=beq_eq_false_iff_ne.2 h57
     cases h66:inB op 17 21 with
     | true =>
      by_cases h67:n=0
      ·
       subst h67
       by_cases h68:ll=1
       ·
        subst h68
        have V:insV op true true a1 a2 0 1 pl=pl:=by simp [insV, *]
        rw [V]
        clear V
        have E0:=xc 0 (.int .i64 k) rfl
        have E1:=xc 1 (.string s) rfl
        have E2:=xc 2 (.int .i64 op) rfl
        have E3:=xc 3 (.int .i64 sf) rfl
        have E4:=xc 4 (.int .i64 sr) rfl
        have E5:=xc 5 (.int .i64 sk) rfl
        have E6:=xc 6 (.int .i64 sn) rfl
        have E7:=xc 7 (.string ss) rfl
        have E8:=xc 8 (.slice b1 sl c1) rfl
        have E9:=xc 9 (.int .i64 df) rfl
        have E10:=xc 10 (.int .i64 dr) rfl
        have E11:=xc 11 (.int .i64 dk) rfl
        have E12:=xc 12 (.int .i64 dn) rfl
        have E13:=xc 13 (.string ds) rfl
        have E14:=xc 14 (.slice b2 dl c2) rfl
        have E15:=xc 15 (.int .i64 0) rfl
        have E16:=xc 16 (.slice b3 1 c3) rfl
        clear xc
        go_enter Tryz.func72,Tryz.ntmps72
        go_wp2_with (first|(go_at_call 61;refine (in_any _ _ _ _).mono ?_;rintro e w' ⟨rfl,hw'⟩;rw [hw'];clear hw' w')|(go_at_call_of 73 sf;refine (Sub.call (uh HZ) (uh N1 _)).mono ?_;rintro r _ ⟨rfl,z2,rfl⟩)|(go_at_call_of 73 df;refine (Sub.call (uh HZ) (uh N2 _)).mono ?_;rintro r _ ⟨rfl,z2,rfl⟩)|(go_at_call_of 18 sf;refine (Sub.call (uh HZ) (uh A1 _)).mono ?_;rintro r _ ⟨rfl,z2,rfl⟩)|(go_at_call_of 18 df;refine (Sub.call (uh HZ) (uh A2 _)).mono ?_;rintro r _ ⟨rfl,z2,rfl⟩)|(go_at_call 75;refine (Sub.call (uh HZ) (uh PL _)).mono ?_;rintro r _ ⟨rfl,z2,rfl⟩))
        go_ret
        exact ⟨rfl,uh HB _⟩
       have h68f:(ll == 1)=false:=beq_eq_false_iff_ne.2 h68
       have h68g:((ll:Int) == 1)=false:=beq_eq_false_iff_ne.2 (by omega)
       have V:insV op true true a1 a2 0 ll pl=false:=by simp [insV, *]
       rw [V]
       clear V
       have E0:=xc 0 (.int .i64 k) rfl
       have E1:=xc 1 (.string s) rfl
       have E2:=xc 2 (.int .i64 op) rfl
       have E3:=xc 3 (.int .i64 sf) rfl
       have E4:=xc 4 (.int .i64 sr) rfl
       have E5:=xc 5 (.int .i64 sk) rfl
       have E6:=xc 6 (.int .i64 sn) rfl
       have E7:=xc 7 (.string ss) rfl
       have E8:=xc 8 (.slice b1 sl c1) rfl
       have E9:=xc 9 (.int .i64 df) rfl
       have E10:=xc 10 (.int .i64 dr) rfl
       have E11:=xc 11 (.int .i64 dk) rfl
       have E12:=xc 12 (.int .i64 dn) rfl
       have E13:=xc 13 (.string ds) rfl
       have E14:=xc 14 (.slice b2 dl c2) rfl
       have E15:=xc 15 (.int .i64 0) rfl
       have E16:=xc 16 (.slice b3 ll c3) rfl
       clear xc
       go_enter Tryz.func72,Tryz.ntmps72
       go_wp2_with (first|(go_at_call 61;refine (in_any _ _ _ _).mono ?_;rintro e w' ⟨rfl,hw'⟩;rw [hw'];clear hw' w')|(go_at_call_of 73 sf;refine (Sub.call (uh HZ) (uh N1 _)).mono ?_;rintro r _ ⟨rfl,z2,rfl⟩)|(go_at_call_of 73 df;refine (Sub.call (uh HZ) (uh N2 _)).mono ?_;rintro r _ ⟨rfl,z2,rfl⟩)|(go_at_call_of 18 sf;refine (Sub.call (uh HZ) (uh A1 _)).mono ?_;rintro r _ ⟨rfl,z2,rfl⟩)|(go_at_call_of 18 df;refine (Sub.call (uh HZ) (uh A2 _)).mono ?_;rintro r _ ⟨rfl,z2,rfl⟩)|(go_at_call 75;refine (Sub.call (uh HZ) (uh PL _)).mono ?_;rintro r _ ⟨rfl,z2,rfl⟩))
       go_ret
       exact ⟨rfl,uh HB _⟩
      have h67f:(n == 0)=false:=beq_eq_false_iff_ne.2 h67
      have V:insV op true true a1 a2 n ll pl=false:=by simp [insV, *]
      rw [V]
      clear V
      have E0:=xc 0 (.int .i64 k) rfl
      have E1:=xc 1 (.string s) rfl
      have E2:=xc 2 (.int .i64 op) rfl
      have E3:=xc 3 (.int .i64 sf) rfl
      have E4:=xc 4 (.int .i64 sr) rfl
      have E5:=xc 5 (.int .i64 sk) rfl
      have E6:=xc 6 (.int .i64 sn) rfl
      have E7:=xc 7 (.string ss) rfl
      have E8:=xc 8 (.slice b1 sl c1) rfl
      have E9:=xc 9 (.int .i64 df) rfl
      have E10:=xc 10 (.int .i64 dr) rfl
      have E11:=xc 11 (.int .i64 dk) rfl
      have E12:=xc 12 (.int .i64 dn) rfl
      have E13:=xc 13 (.string ds) rfl
      have E14:=xc 14 (.slice b2 dl c2) rfl
      have E15:=xc 15 (.int .i64 n) rfl
      have E16:=xc 16 (.slice b3 ll c3) rfl
      clear xc
      go_enter Tryz.func72,Tryz.ntmps72
      go_wp2_with (first|(go_at_call 61;refine (in_any _ _ _ _).mono ?_;rintro e w' ⟨rfl,hw'⟩;rw [hw'];clear hw' w')|(go_at_call_of 73 sf;refine (Sub.call (uh HZ) (uh N1 _)).mono ?_;rintro r _ ⟨rfl,z2,rfl⟩)|(go_at_call_of 73 df;refine (Sub.call (uh HZ) (uh N2 _)).mono ?_;rintro r _ ⟨rfl,z2,rfl⟩)|(go_at_call_of 18 sf;refine (Sub.call (uh HZ) (uh A1 _)).mono ?_;rintro r _ ⟨rfl,z2,rfl⟩)|(go_at_call_of 18 df;refine (Sub.call (uh HZ) (uh A2 _)).mono ?_;rintro r _ ⟨rfl,z2,rfl⟩)|(go_at_call 75;refine (Sub.call (uh HZ) (uh PL _)).mono ?_;rintro r _ ⟨rfl,z2,rfl⟩))
      go_ret
      exact ⟨rfl,uh HB _⟩
     | false =>
      by_cases h75:op=23
      ·
       subst h75
       by_cases h76:n=0
       ·
        subst h76
        by_cases h77:ll=1
        ·
         subst h77
         have V:insV 23 true true a1 a2 0 1 pl=pl:=by simp [insV, *]
         rw [V]
         clear V
         have E0:=xc 0 (.int .i64 k) rfl
         have E1:=xc 1 (.string s) rfl
         have E2:=xc 2 (.int .i64 23) rfl
         have E3:=xc 3 (.int .i64 sf) rfl
         have E4:=xc 4 (.int .i64 sr) rfl
         have E5:=xc 5 (.int .i64 sk) rfl
         have E6:=xc 6 (.int .i64 sn) rfl
         have E7:=xc 7 (.string ss) rfl
         have E8:=xc 8 (.slice b1 sl c1) rfl
         have E9:=xc 9 (.int .i64 df) rfl
         have E10:=xc 10 (.int .i64 dr) rfl
         have E11:=xc 11 (.int .i64 dk) rfl
         have E12:=xc 12 (.int .i64 dn) rfl
         have E13:=xc 13 (.string ds) rfl
         have E14:=xc 14 (.slice b2 dl c2) rfl
         have E15:=xc 15 (.int .i64 0) rfl
         have E16:=xc 16 (.slice b3 1 c3) rfl
         clear xc
         go_enter Tryz.func72,Tryz.ntmps72
         go_wp2_with (first|(go_at_call 61;refine (in_any _ _ _ _).mono ?_;rintro e w' ⟨rfl,hw'⟩;rw [hw'];clear hw' w')|(go_at_call_of 73 sf;refine (Sub.call (uh HZ) (uh N1 _)).mono ?_;rintro r _ ⟨rfl,z2,rfl⟩)|(go_at_call_of 73 df;refine (Sub.call (uh HZ) (uh N2 _)).mono ?_;rintro r _ ⟨rfl,z2,rfl⟩)|(go_at_call_of 18 sf;refine (Sub.call (uh HZ) (uh A1 _)).mono ?_;rintro r _ ⟨rfl,z2,rfl⟩)|(go_at_call_of 18 df;refine (Sub.call (uh HZ) (uh A2 _)).mono ?_;rintro r _ ⟨rfl,z2,rfl⟩)|(go_at_call 75;refine (Sub.call (uh HZ) (uh PL _)).mono ?_;rintro r _ ⟨rfl,z2,rfl⟩))
         go_ret
         exact ⟨rfl,uh HB _⟩
        have h77f:(ll == 1)=false:=beq_eq_false_iff_ne.2 h77
        have h77g:((ll:Int) == 1)=false:=beq_eq_false_iff_ne.2 (by omega)
        have V:insV 23 true true a1 a2 0 ll pl=false:=by simp [insV, *]
        rw [V]
        clear V
        have E0:=xc 0 (.int .i64 k) rfl
        have E1:=xc 1 (.string s) rfl
        have E2:=xc 2 (.int .i64 23) rfl
        have E3:=xc 3 (.int .i64 sf) rfl
        have E4:=xc 4 (.int .i64 sr) rfl
        have E5:=xc 5 (.int .i64 sk) rfl
        have E6:=xc 6 (.int .i64 sn) rfl
        have E7:=xc 7 (.string ss) rfl
        have E8:=xc 8 (.slice b1 sl c1) rfl
        have E9:=xc 9 (.int .i64 df) rfl
        have E10:=xc 10 (.int .i64 dr) rfl
        have E11:=xc 11 (.int .i64 dk) rfl
        have E12:=xc 12 (.int .i64 dn) rfl
        have E13:=xc 13 (.string ds) rfl
        have E14:=xc 14 (.slice b2 dl c2) rfl
        have E15:=xc 15 (.int .i64 0) rfl
        have E16:=xc 16 (.slice b3 ll c3) rfl
        clear xc
        go_enter Tryz.func72,Tryz.ntmps72
        go_wp2_with (first|(go_at_call 61;refine (in_any _ _ _ _).mono ?_;rintro e w' ⟨rfl,hw'⟩;rw [hw'];clear hw' w')|(go_at_call_of 73 sf;refine (Sub.call (uh HZ) (uh N1 _)).mono ?_;rintro r _ ⟨rfl,z2,rfl⟩)|(go_at_call_of 73 df;refine (Sub.call (uh HZ) (uh N2 _)).mono ?_;rintro r _ ⟨rfl,z2,rfl⟩)|(go_at_call_of 18 sf;refine (Sub.call (uh HZ) (uh A1 _)).mono ?_;rintro r _ ⟨rfl,z2,rfl⟩)|(go_at_call_of 18 df;refine (Sub.call (uh HZ) (uh A2 _)).mono ?_;rintro r _ ⟨rfl,z2,rfl⟩)|(go_at_call 75;refine (Sub.call (uh HZ) (uh PL _)).mono ?_;rintro r _ ⟨rfl,z2,rfl⟩))
        go_ret
        exact ⟨rfl,uh HB _⟩
       have h76f:(n == 0)=false:=beq_eq_false_iff_ne.2 h76
       have V:insV 23 true true a1 a2 n ll pl=false:=by simp [insV, *]
       rw [V]
       clear V
       have E0:=xc 0 (.int .i64 k) rfl
       have E1:=xc 1 (.string s) rfl
       have E2:=xc 2 (.int .i64 23) rfl
       have E3:=xc 3 (.int .i64 sf) rfl
       have E4:=xc 4 (.int .i64 sr) rfl
       have E5:=xc 5 (.int .i64 sk) rfl
       have E6:=xc 6 (.int .i64 sn) rfl
       have E7:=xc 7 (.string ss) rfl
       have E8:=xc 8 (.slice b1 sl c1) rfl
       have E9:=xc 9 (.int .i64 df) rfl
       have E10:=xc 10 (.int .i64 dr) rfl
       have E11:=xc 11 (.int .i64 dk) rfl
       have E12:=xc 12 (.int .i64 dn) rfl
       have E13:=xc 13 (.string ds) rfl
       have E14:=xc 14 (.slice b2 dl c2) rfl
       have E15:=xc 15 (.int .i64 n) rfl
       have E16:=xc 16 (.slice b3 ll c3) rfl
       clear xc
       go_enter Tryz.func72,Tryz.ntmps72
       go_wp2_with (first|(go_at_call 61;refine (in_any _ _ _ _).mono ?_;rintro e w' ⟨rfl,hw'⟩;rw [hw'];clear hw' w')|(go_at_call_of 73 sf;refine (Sub.call (uh HZ) (uh N1 _)).mono ?_;rintro r _ ⟨rfl,z2,rfl⟩)|(go_at_call_of 73 df;refine (Sub.call (uh HZ) (uh N2 _)).mono ?_;rintro r _ ⟨rfl,z2,rfl⟩)|(go_at_call_of 18 sf;refine (Sub.call (uh HZ) (uh A1 _)).mono ?_;rintro r _ ⟨rfl,z2,rfl⟩)|(go_at_call_of 18 df;refine (Sub.call (uh HZ) (uh A2 _)).mono ?_;rintro r _ ⟨rfl,z2,rfl⟩)|(go_at_call 75;refine (Sub.call (uh HZ) (uh PL _)).mono ?_;rintro r _ ⟨rfl,z2,rfl⟩))
       go_ret
       exact ⟨rfl,uh HB _⟩
      have h75f:(op == 23)=false:=beq_eq_false_iff_ne.2 h75
      have V:insV op true true a1 a2 n ll pl=false:=by simp [insV, *]
      rw [V]
      clear V
      have E0:=xc 0 (.int .i64 k) rfl
      have E1:=xc 1 (.string s) rfl
      have E2:=xc 2 (.int .i64 op) rfl
      have E3:=xc 3 (.int .i64 sf) rfl
      have E4:=xc 4 (.int .i64 sr) rfl
      have E5:=xc 5 (.int .i64 sk) rfl
      have E6:=xc 6 (.int .i64 sn) rfl
      have E7:=xc 7 (.string ss) rfl
      have E8:=xc 8 (.slice b1 sl c1) rfl
      have E9:=xc 9 (.int .i64 df) rfl
      have E10:=xc 10 (.int .i64 dr) rfl
      have E11:=xc 11 (.int .i64 dk) rfl
      have E12:=xc 12 (.int .i64 dn) rfl
      have E13:=xc 13 (.string ds) rfl
      have E14:=xc 14 (.slice b2 dl c2) rfl
      have E15:=xc 15 (.int .i64 n) rfl
      have E16:=xc 16 (.slice b3 ll c3) rfl
      clear xc
      go_enter Tryz.func72,Tryz.ntmps72
      go_wp2_with (first|(go_at_call 61;refine (in_any _ _ _ _).mono ?_;rintro e w' ⟨rfl,hw'⟩;rw [hw'];clear hw' w')|(go_at_call_of 73 sf;refine (Sub.call (uh HZ) (uh N1 _)).mono ?_;rintro r _ ⟨rfl,z2,rfl⟩)|(go_at_call_of 73 df;refine (Sub.call (uh HZ) (uh N2 _)).mono ?_;rintro r _ ⟨rfl,z2,rfl⟩)|(go_at_call_of 18 sf;refine (Sub.call (uh HZ) (uh A1 _)).mono ?_;rintro r _ ⟨rfl,z2,rfl⟩)|(go_at_call_of 18 df;refine (Sub.call (uh HZ) (uh A2 _)).mono ?_;rintro r _ ⟨rfl,z2,rfl⟩)|(go_at_call 75;refine (Sub.call (uh HZ) (uh PL _)).mono ?_;rintro r _ ⟨rfl,z2,rfl⟩))
      go_ret
      exact ⟨rfl,uh HB _⟩
    | false =>
     have V:insV op true false a1 a2 n ll pl=false:=by simp [insV, *]
     rw [V]
     clear V
     have E0:=xc 0 (.int .i64 k) rfl
     have E1:=xc 1 (.string s) rfl
     have E2:=xc 2 (.int .i64 op) rfl
     have E3:=xc 3 (.int .i64 sf) rfl
     have E4:=xc 4 (.int .i64 sr) rfl
     have E5:=xc 5 (.int .i64 sk) rfl
     have E6:=xc 6 (.int .i64 sn) rfl
     have E7:=xc 7 (.string ss) rfl
     have E8:=xc 8 (.slice b1 sl c1) rfl
     have E9:=xc 9 (.int .i64 df) rfl
     have E10:=xc 10 (.int .i64 dr) rfl
     have E11:=xc 11 (.int .i64 dk) rfl
     have E12:=xc 12 (.int .i64 dn) rfl
     have E13:=xc 13 (.string ds) rfl
     have E14:=xc 14 (.slice b2 dl c2) rfl
     have E15:=xc 15 (.int .i64 n) rfl
     have E16:=xc 16 (.slice b3 ll c3) rfl
     clear xc
     go_enter Tryz.func72,Tryz.ntmps72
     go_wp2_with (first|(go_at_call 61;refine (in_any _ _ _ _).mono ?_;rintro e w' ⟨rfl,hw'⟩;rw [hw'];clear hw' w')|(go_at_call_of 73 sf;refine (Sub.call (uh HZ) (uh N1 _)).mono ?_;rintro r _ ⟨rfl,z2,rfl⟩)|(go_at_call_of 73 df;refine (Sub.call (uh HZ) (uh N2 _)).mono ?_;rintro r _ ⟨rfl,z2,rfl⟩)|(go_at_call_of 18 sf;refine (Sub.call (uh HZ) (uh A1 _)).mono ?_;rintro r _ ⟨rfl,z2,rfl⟩)|(go_at_call_of 18 df;refine (Sub.call (uh HZ) (uh A2 _)).mono ?_;rintro r _ ⟨rfl,z2,rfl⟩)|(go_at_call 75;refine (Sub.call (uh HZ) (uh PL _)).mono ?_;rintro r _ ⟨rfl,z2,rfl⟩))
     go_ret
     exact ⟨rfl,uh HB _⟩
   | false =>
    have V:insV op false n2 a1 a2 n ll pl=false:=by simp [insV, *]
    rw [V]
    clear V
    have E0:=xc 0 (.int .i64 k) rfl
    have E1:=xc 1 (.string s) rfl
    have E2:=xc 2 (.int .i64 op) rfl
    have E3:=xc 3 (.int .i64 sf) rfl
    have E4:=xc 4 (.int .i64 sr) rfl
    have E5:=xc 5 (.int .i64 sk) rfl
    have E6:=xc 6 (.int .i64 sn) rfl
    have E7:=xc 7 (.string ss) rfl
    have E8:=xc 8 (.slice b1 sl c1) rfl
    have E9:=xc 9 (.int .i64 df) rfl
    have E10:=xc 10 (.int .i64 dr) rfl
    have E11:=xc 11 (.int .i64 dk) rfl
    have E12:=xc 12 (.int .i64 dn) rfl
    have E13:=xc 13 (.string ds) rfl
    have E14:=xc 14 (.slice b2 dl c2) rfl
    have E15:=xc 15 (.int .i64 n) rfl
    have E16:=xc 16 (.slice b3 ll c3) rfl
    clear xc
    go_enter Tryz.func72,Tryz.ntmps72
    go_wp2_with (first|(go_at_call 61;refine (in_any _ _ _ _).mono ?_;rintro e w' ⟨rfl,hw'⟩;rw [hw'];clear hw' w')|(go_at_call_of 73 sf;refine (Sub.call (uh HZ) (uh N1 _)).mono ?_;rintro r _ ⟨rfl,z2,rfl⟩)|(go_at_call_of 73 df;refine (Sub.call (uh HZ) (uh N2 _)).mono ?_;rintro r _ ⟨rfl,z2,rfl⟩)|(go_at_call_of 18 sf;refine (Sub.call (uh HZ) (uh A1 _)).mono ?_;rintro r _ ⟨rfl,z2,rfl⟩)|(go_at_call_of 18 df;refine (Sub.call (uh HZ) (uh A2 _)).mono ?_;rintro r _ ⟨rfl,z2,rfl⟩)|(go_at_call 75;refine (Sub.call (uh HZ) (uh PL _)).mono ?_;rintro r _ ⟨rfl,z2,rfl⟩))
    go_ret
    exact ⟨rfl,uh HB _⟩
def lnV (k:Int) (s:ByteArray) (op:Int) (n1 n2:Bool) (n:Int) (ll:Nat) (nm pl nms ins:Bool):Bool :=
 if k == 3 then eqS s E0&&ins
 else if !(op == 0) || (!n1 || !n2) then false
 else if k == 0 || k == 8 then eqS s E0&&(n == 0&&ll == 0)
 else if k == 1 then nm&&(n == 0&&ll == 0)
 else if k == 2 then nm&&(n == 0&&(ll == 1&&pl))
 else if k == 4 then eqS s E0&&(n == 0&&(inB ll 1 6&&pl))
 else if k == 5 then eqS s E0&&(n == 0&&(ll == 1&&pl))
 else if k == 6 then nm&&(inB n 0 1&&ll == 0)
 else if k == 7 then eqS s E0&&(n == 0&&nms)
 else false
def lnX (x:Ln):Bool:=lnV x.k x.s x.op (nonX x.src) (nonX x.dst) x.n x.l.length (nameB x.s) (x.l.all (okF 6 true)) (nmsX x.l) (insX x)
theorem lnS_any (x:Ln) (p:La) (w:World) (hr:RdL w x p) (hz:SzL x):Calls Tryz.prog 22 #[.agg (x.cs p)] w fun r w'=>r = .returned (.bool (lnX x))∧Below w.heap.size w w':=by
 obtain ⟨hza,hzb,hzc,hzd,hze⟩:=hz
 have s1:=sz_is x.src.e
 have s2:=sz_is x.dst.e
 have hbW:=below_new w (.cells (x.cs p) 30)
 obtain ⟨W,hW⟩:∃ W,w.alloc (.cells (x.cs p) 30)=W:=⟨_,rfl⟩
 have hrW:=hr.later hbW
 have xl:w.heap.size<W.heap.size:=by rw [←hW];simp
 have xc:∀ (i:Nat) (v:Value),(x.cs p)[i]?=some v→∀ y:Sub W.heap.size W,y.w.cell? ⟨w.heap.size,i,none⟩=some v:=fun i v h y=>(y.h.cell (p:=⟨w.heap.size,i,none⟩) xl).trans (by rw [←hW];exact box17 w _ _ i v h)
 rw [hW] at hbW hrW
 obtain ⟨z,hz0⟩:∃ z:Sub W.heap.size W,w.alloc (.cells (x.cs p) 30)=z.w:=⟨⟨W,Below.refl _ _⟩,hW⟩
 have ne:=Sub.ne W.heap.size W
 have HZ:=hide (Nat.le_refl W.heap.size)
 have HB:=hide (fun y:Sub W.heap.size W=>hbW.trans (y.h.mono hbW.size))
 have N1:=hide (fun y:Sub W.heap.size W=>nonS_any x.src (by omega) (by omega) p.b1 p.c1 y.w)
 have N2:=hide (fun y:Sub W.heap.size W=>nonS_any x.dst (by omega) (by omega) p.b2 p.c2 y.w)
 have PL:=hide (fun y:Sub W.heap.size W=>plnS_any x.l p.b3 p.c3 y.w (hrW.l.later y.h) hzd hze)
 have NM:=hide (fun y:Sub W.heap.size W=>nameS_any x.s y.w (by omega))
 have NS:=hide (fun y:Sub W.heap.size W=>nmsS_any x.l p.b3 p.c3 y.w (hrW.l.later y.h) hzd hze)
 have IN:=hide (fun y:Sub W.heap.size W=>insS_any x p y.w (hrW.later y.h) ⟨hza,hzb,hzc,hzd,hze⟩)
 rw [show lnX x=lnV x.k x.s x.op (nonX x.src) (nonX x.dst) x.n x.l.length (nameB x.s) (x.l.all (okF 6 true)) (nmsX x.l) (insX x) from rfl]
 unfold Ln.cs at hz0 xc ⊢
 unfold Ag.cs at N1 N2
 unfold Ln.cs at IN
 generalize nonX x.src=n1 at *
 generalize nonX x.dst=n2 at *
 generalize x.l.all (okF 6 true)=pl at *
 generalize nmsX x.l=nms at *
 generalize insX x=ins at *
 generalize nameB x.s=nm at *
 clear hr hrW hza hzb hzc hzd hze s1 s2 xl hW
 generalize x.src.f=sf at *
 generalize x.src.r=sr at *
 generalize x.src.e.k=sk at *
 generalize x.src.e.n=sn at *
 generalize x.src.e.s=ss at *
 generalize x.src.e.l.length=sl at *
 generalize x.dst.f=df at *
 generalize x.dst.r=dr at *
 generalize x.dst.e.k=dk at *
 generalize x.dst.e.n=dn at *
 generalize x.dst.e.s=ds at *
 generalize x.dst.e.l.length=dl at *
 generalize x.k=k at *
 generalize x.s=s at *
 generalize x.op=op at *
 generalize x.n=n at *
 generalize x.l.length=ll at *
 generalize p.b1=b1 at *
 generalize p.c1=c1 at *
 generalize p.b2=b2 at *
 generalize p.c2=c2 at *
 generalize p.b3=b3 at *
 generalize p.c3=c3 at *
 by_cases h90:k=3
 ·
  subst h90
  by_cases h91:s=⟨#[]⟩
  ·
   subst h91
   have V:lnV 3 ⟨#[]⟩ op n1 n2 n ll nm pl nms ins=ins:=by simp [lnV,eqE,eqE1, *]
   rw [V]
   clear V
   have E0:=xc 0 (.int .i64 3) rfl
   have E1:=xc 1 (.string ⟨#[]⟩) rfl
   have E2:=xc 2 (.int .i64 op) rfl
   have E3:=xc 3 (.int .i64 sf) rfl
   have E4:=xc 4 (.int .i64 sr) rfl
   have E5:=xc 5 (.int .i64 sk) rfl
   have E6:=xc 6 (.int .i64 sn) rfl
   have E7:=xc 7 (.string ss) rfl
   have E8:=xc 8 (.slice b1 sl c1) rfl
   have E9:=xc 9 (.int .i64 df) rfl
   have E10:=xc 10 (.int .i64 dr) rfl
   have E11:=xc 11 (.int .i64 dk) rfl
   have E12:=xc 12 (.int .i64 dn) rfl
   have E13:=xc 13 (.string ds) rfl
   have E14:=xc 14 (.slice b2 dl c2) rfl
   have E15:=xc 15 (.int .i64 n) rfl
   have E16:=xc 16 (.slice b3 ll c3) rfl
   clear xc
   go_enter Tryz.func22,Tryz.ntmps22
   go_wp2_with (first|(go_at_call 61;refine (in_any _ _ _ _).mono ?_;rintro e w' ⟨rfl,hw'⟩;rw [hw'];clear hw' w')|(go_at_call_of 73 sf;refine (Sub.call (uh HZ) (uh N1 _)).mono ?_;rintro r _ ⟨rfl,z2,rfl⟩)|(go_at_call_of 73 df;refine (Sub.call (uh HZ) (uh N2 _)).mono ?_;rintro r _ ⟨rfl,z2,rfl⟩)|(go_at_call 75;refine (Sub.call (uh HZ) (uh PL _)).mono ?_;rintro r _ ⟨rfl,z2,rfl⟩)|(go_at_call 74;refine (Sub.call (uh HZ) (uh NM _)).mono ?_;rintro r _ ⟨rfl,z2,rfl⟩)|(go_at_call 76;refine (Sub.call (uh HZ) (uh NS _)).mono ?_;rintro r _ ⟨rfl,z2,rfl⟩)|(go_at_call 72;refine (Sub.call (uh HZ) (uh IN _)).mono ?_;rintro r _ ⟨rfl,z2,rfl⟩))
   go_ret
   exact ⟨rfl,uh HB _⟩
  obtain ⟨h91a,h91b⟩:=emp_E s h91
  have V:lnV 3 s op n1 n2 n ll nm pl nms ins=false:=by simp [lnV,eqE,eqE1, *]
  rw [V]
  clear V
  have E0:=xc 0 (.int .i64 3) rfl
  have E1:=xc 1 (.string s) rfl
  have E2:=xc 2 (.int .i64 op) rfl
  have E3:=xc 3 (.int .i64 sf) rfl
  have E4:=xc 4 (.int .i64 sr) rfl
  have E5:=xc 5 (.int .i64 sk) rfl
  have E6:=xc 6 (.int .i64 sn) rfl
  have E7:=xc 7 (.string ss) rfl
  have E8:=xc 8 (.slice b1 sl c1) rfl
  have E9:=xc 9 (.int .i64 df) rfl
  have E10:=xc 10 (.int .i64 dr) rfl
  have E11:=xc 11 (.int .i64 dk) rfl
  have E12:=xc 12 (.int .i64 dn) rfl
  have E13:=xc 13 (.string ds) rfl
  have E14:=xc 14 (.slice b2 dl c2) rfl
  have E15:=xc 15 (.int .i64 n) rfl
  have E16:=xc 16 (.slice b3 ll c3) rfl
  clear xc
  go_enter Tryz.func22,Tryz.ntmps22
  go_wp2_with (first|(go_at_call 61;refine (in_any _ _ _ _).mono ?_;rintro e w' ⟨rfl,hw'⟩;rw [hw'];clear hw' w')|(go_at_call_of 73 sf;refine (Sub.call (uh HZ) (uh N1 _)).mono ?_;rintro r _ ⟨rfl,z2,rfl⟩)|(go_at_call_of 73 df;refine (Sub.call (uh HZ) (uh N2 _)).mono ?_;rintro r _ ⟨rfl,z2,rfl⟩)|(go_at_call 75;refine (Sub.call (uh HZ) (uh PL _)).mono ?_;rintro r _ ⟨rfl,z2,rfl⟩)|(go_at_call 74;refine (Sub.call (uh HZ) (uh NM _)).mono ?_;rintro r _ ⟨rfl,z2,rfl⟩)|(go_at_call 76;refine (Sub.call (uh HZ) (uh NS _)).mono ?_;rintro r _ ⟨rfl,z2,rfl⟩)|(go_at_call 72;refine (Sub.call (uh HZ) (uh IN _)).mono ?_;rintro r _ ⟨rfl,z2,rfl⟩))
  go_ret
  exact ⟨rfl,uh HB _⟩
 have h90f:(k == 3)=false:=beq_eq_false_iff_ne.2 h90
 by_cases h96:op=0
 ·
  subst h96
  cases n1 with
  | true =>
   cases n2 with
   | true =>
    by_cases h99:k=0
    ·
     subst h99
     by_cases h100:s=⟨#[]⟩
     ·
      subst h100
      by_cases h101:n=0
      ·
       subst h101
       by_cases h102:ll=0
       ·
        subst h102
        have V:lnV 0 ⟨#[]⟩ 0 true true 0 0 nm pl nms ins=true:=by simp [lnV,eqE,eqE1, *]
        rw [V]
        clear V
        have E0:=xc 0 (.int .i64 0) rfl
        have E1:=xc 1 (.string ⟨#[]⟩) rfl
        have E2:=xc 2 (.int .i64 0) rfl
        have E3:=xc 3 (.int .i64 sf) rfl
        have E4:=xc 4 (.int .i64 sr) rfl
        have E5:=xc 5 (.int .i64 sk) rfl
        have E6:=xc 6 (.int .i64 sn) rfl
        have E7:=xc 7 (.string ss) rfl
        have E8:=xc 8 (.slice b1 sl c1) rfl
        have E9:=xc 9 (.int .i64 df) rfl
        have E10:=xc 10 (.int .i64 dr) rfl
        have E11:=xc 11 (.int .i64 dk) rfl
        have E12:=xc 12 (.int .i64 dn) rfl
        have E13:=xc 13 (.string ds) rfl
        have E14:=xc 14 (.slice b2 dl c2) rfl
        have E15:=xc 15 (.int .i64 0) rfl
        have E16:=xc 16 (.slice b3 0 c3) rfl
        clear xc
        go_enter Tryz.func22,Tryz.ntmps22
        go_wp2_with (first|(go_at_call 61;refine (in_any _ _ _ _).mono ?_;rintro e w' ⟨rfl,hw'⟩;rw [hw'];clear hw' w')|(go_at_call_of 73 sf;refine (Sub.call (uh HZ) (uh N1 _)).mono ?_;rintro r _ ⟨rfl,z2,rfl⟩)|(go_at_call_of 73 df;refine (Sub.call (uh HZ) (uh N2 _)).mono ?_;rintro r _ ⟨rfl,z2,rfl⟩)|(go_at_call 75;refine (Sub.call (uh HZ) (uh PL _)).mono ?_;rintro r _ ⟨rfl,z2,rfl⟩)|(go_at_call 74;refine (Sub.call (uh HZ) (uh NM _)).mono ?_;rintro r _ ⟨rfl,z2,rfl⟩)|(go_at_call 76;refine (Sub.call (uh HZ) (uh NS _)).mono ?_;rintro r _ ⟨rfl,z2,rfl⟩)|(go_at_call 72;refine (Sub.call (uh HZ) (uh IN _)).mono ?_;rintro r _ ⟨rfl,z2,rfl⟩))
        go_ret
        exact ⟨rfl,uh HB _⟩
       have h102f:(ll == 0)=false:=beq_eq_false_iff_ne.2 h102
       have h102g:((ll:Int) == 0)=false:=beq_eq_false_iff_ne.2 (by omega)
       have V:lnV 0 ⟨#[]⟩ 0 true true 0 ll nm pl nms ins=false:=by simp [lnV,eqE,eqE1, *]
       rw [V]
       clear V
       have E0:=xc 0 (.int .i64 0) rfl
       have E1:=xc 1 (.string ⟨#[]⟩) rfl
       have E2:=xc 2 (.int .i64 0) rfl
       have E3:=xc 3 (.int .i64 sf) rfl
       have E4:=xc 4 (.int .i64 sr) rfl
       have E5:=xc 5 (.int .i64 sk) rfl
       have E6:=xc 6 (.int .i64 sn) rfl
       have E7:=xc 7 (.string ss) rfl
       have E8:=xc 8 (.slice b1 sl c1) rfl
       have E9:=xc 9 (.int .i64 df) rfl
       have E10:=xc 10 (.int .i64 dr) rfl
       have E11:=xc 11 (.int .i64 dk) rfl
       have E12:=xc 12 (.int .i64 dn) rfl
       have E13:=xc 13 (.string ds) rfl
       have E14:=xc 14 (.slice b2 dl c2) rfl
       have E15:=xc 15 (.int .i64 0) rfl
       have E16:=xc 16 (.slice b3 ll c3) rfl
       clear xc
       go_enter Tryz.func22,Tryz.ntmps22
       go_wp2_with (first|(go_at_call 61;refine (in_any _ _ _ _).mono ?_;rintro e w' ⟨rfl,hw'⟩;rw [hw'];clear hw' w')|(go_at_call_of 73 sf;refine (Sub.call (uh HZ) (uh N1 _)).mono ?_;rintro r _ ⟨rfl,z2,rfl⟩)|(go_at_call_of 73 df;refine (Sub.call (uh HZ) (uh N2 _)).mono ?_;rintro r _ ⟨rfl,z2,rfl⟩)|(go_at_call 75;refine (Sub.call (uh HZ) (uh PL _)).mono ?_;rintro r _ ⟨rfl,z2,rfl⟩)|(go_at_call 74;refine (Sub.call (uh HZ) (uh NM _)).mono ?_;rintro r _ ⟨rfl,z2,rfl⟩)|(go_at_call 76;refine (Sub.call (uh HZ) (uh NS _)).mono ?_;rintro r _ ⟨rfl,z2,rfl⟩)|(go_at_call 72;refine (Sub.call (uh HZ) (uh IN _)).mono ?_;rintro r _ ⟨rfl,z2,rfl⟩))
       go_ret
       exact ⟨rfl,uh HB _⟩
      have h101f:(n == 0)=false:=beq_eq_false_iff_ne.2 h101
      have V:lnV 0 ⟨#[]⟩ 0 true true n ll nm pl nms ins=false:=by simp [lnV,eqE,eqE1, *]
      rw [V]
      clear V
      have E0:=xc 0 (.int .i64 0) rfl
      have E1:=xc 1 (.string ⟨#[]⟩) rfl
      have E2:=xc 2 (.int .i64 0) rfl
      have E3:=xc 3 (.int .i64 sf) rfl
      have E4:=xc 4 (.int .i64 sr) rfl
      have E5:=xc 5 (.int .i64 sk) rfl
      have E6:=xc 6 (.int .i64 sn) rfl
      have E7:=xc 7 (.string ss) rfl
      have E8:=xc 8 (.slice b1 sl c1) rfl
      have E9:=xc 9 (.int .i64 df) rfl
      have E10:=xc 10 (.int .i64 dr) rfl
      have E11:=xc 11 (.int .i64 dk) rfl
      have E12:=xc 12 (.int .i64 dn) rfl
      have E13:=xc 13 (.string ds) rfl
      have E14:=xc 14 (.slice b2 dl c2) rfl
      have E15:=xc 15 (.int .i64 n) rfl
      have E16:=xc 16 (.slice b3 ll c3) rfl
      clear xc
      go_enter Tryz.func22,Tryz.ntmps22
      go_wp2_with (first|(go_at_call 61;refine (in_any _ _ _ _).mono ?_;rintro e w' ⟨rfl,hw'⟩;rw [hw'];clear hw' w')|(go_at_call_of 73 sf;refine (Sub.call (uh HZ) (uh N1 _)).mono ?_;rintro r _ ⟨rfl,z2,rfl⟩)|(go_at_call_of 73 df;refine (Sub.call (uh HZ) (uh N2 _)).mono ?_;rintro r _ ⟨rfl,z2,rfl⟩)|(go_at_call 75;refine (Sub.call (uh HZ) (uh PL _)).mono ?_;rintro r _ ⟨rfl,z2,rfl⟩)|(go_at_call 74;refine (Sub.call (uh HZ) (uh NM _)).mono ?_;rintro r _ ⟨rfl,z2,rfl⟩)|(go_at_call 76;refine (Sub.call (uh HZ) (uh NS _)).mono ?_;rintro r _ ⟨rfl,z2,rfl⟩)|(go_at_call 72;refine (Sub.call (uh HZ) (uh IN _)).mono ?_;rintro r _ ⟨rfl,z2,rfl⟩))
      go_ret
      exact ⟨rfl,uh HB _⟩
     obtain ⟨h100a,h100b⟩:=emp_E s h100
     have V:lnV 0 s 0 true true n ll nm pl nms ins=false:=by simp [lnV,eqE,eqE1, *]
     rw [V]
     clear V
     have E0:=xc 0 (.int .i64 0) rfl
     have E1:=xc 1 (.string s) rfl
     have E2:=xc 2 (.int .i64 0) rfl
     have E3:=xc 3 (.int .i64 sf) rfl
     have E4:=xc 4 (.int .i64 sr) rfl
     have E5:=xc 5 (.int .i64 sk) rfl
     have E6:=xc 6 (.int .i64 sn) rfl
     have E7:=xc 7 (.string ss) rfl
     have E8:=xc 8 (.slice b1 sl c1) rfl
     have E9:=xc 9 (.int .i64 df) rfl
     have E10:=xc 10 (.int .i64 dr) rfl
     have E11:=xc 11 (.int .i64 dk) rfl
     have E12:=xc 12 (.int .i64 dn) rfl
     have E13:=xc 13 (.string ds) rfl
     have E14:=xc 14 (.slice b2 dl c2) rfl
     have E15:=xc 15 (.int .i64 n) rfl
     have E16:=xc 16 (.slice b3 ll c3) rfl
     clear xc
     go_enter Tryz.func22,Tryz.ntmps22
     go_wp2_with (first|(go_at_call 61;refine (in_any _ _ _ _).mono ?_;rintro e w' ⟨rfl,hw'⟩;rw [hw'];clear hw' w')|(go_at_call_of 73 sf;refine (Sub.call (uh HZ) (uh N1 _)).mono ?_;rintro r _ ⟨rfl,z2,rfl⟩)|(go_at_call_of 73 df;refine (Sub.call (uh HZ) (uh N2 _)).mono ?_;rintro r _ ⟨rfl,z2,rfl⟩)|(go_at_call 75;refine (Sub.call (uh HZ) (uh PL _)).mono ?_;rintro r _ ⟨rfl,z2,rfl⟩)|(go_at_call 74;refine (Sub.call (uh HZ) (uh NM _)).mono ?_;rintro r _ ⟨rfl,z2,rfl⟩)|(go_at_call 76;refine (Sub.call (uh HZ) (uh NS _)).mono ?_;rintro r _ ⟨rfl,z2,rfl⟩)|(go_at_call 72;refine (Sub.call (uh HZ) (uh IN _)).mono ?_;rintro r _ ⟨rfl,z2,rfl⟩))
     go_ret
     exact ⟨rfl,uh HB _⟩
    have h99f:(k == 0)=false:=beq_eq_false_iff_ne.2 h99
    by_cases h111:k=8
    ·
     subst h111
     by_cases h112:s=⟨#[]⟩
     ·
      subst h112
      by_cases h113:n=0
      ·
       subst h113
       by_cases h114:ll=0
       ·
        subst h114
        have V:lnV 8 ⟨#[]⟩ 0 true true 0 0 nm pl nms ins=true:=by simp [lnV,eqE,eqE1, *]
        rw [V]
        clear V
        have E0:=xc 0 (.int .i64 8) rfl
        have E1:=xc 1 (.string ⟨#[]⟩) rfl
        have E2:=xc 2 (.int .i64 0) rfl
        have E3:=xc 3 (.int .i64 sf) rfl
        have E4:=xc 4 (.int .i64 sr) rfl
        have E5:=xc 5 (.int .i64 sk) rfl
        have E6:=xc 6 (.int .i64 sn) rfl
        have E7:=xc 7 (.string ss) rfl
        have E8:=xc 8 (.slice b1 sl c1) rfl
        have E9:=xc 9 (.int .i64 df) rfl
        have E10:=xc 10 (.int .i64 dr) rfl
        have E11:=xc 11 (.int .i64 dk) rfl
        have E12:=xc 12 (.int .i64 dn) rfl
        have E13:=xc 13 (.string ds) rfl
        have E14:=xc 14 (.slice b2 dl c2) rfl
        have E15:=xc 15 (.int .i64 0) rfl
        have E16:=xc 16 (.slice b3 0 c3) rfl
        clear xc
        go_enter Tryz.func22,Tryz.ntmps22
        go_wp2_with (first|(go_at_call 61;refine (in_any _ _ _ _).mono ?_;rintro e w' ⟨rfl,hw'⟩;rw [hw'];clear hw' w')|(go_at_call_of 73 sf;refine (Sub.call (uh HZ) (uh N1 _)).mono ?_;rintro r _ ⟨rfl,z2,rfl⟩)|(go_at_call_of 73 df;refine (Sub.call (uh HZ) (uh N2 _)).mono ?_;rintro r _ ⟨rfl,z2,rfl⟩)|(go_at_call 75;refine (Sub.call (uh HZ) (uh PL _)).mono ?_;rintro r _ ⟨rfl,z2,rfl⟩)|(go_at_call 74;refine (Sub.call (uh HZ) (uh NM _)).mono ?_;rintro r _ ⟨rfl,z2,rfl⟩)|(go_at_call 76;refine (Sub.call (uh HZ) (uh NS _)).mono ?_;rintro r _ ⟨rfl,z2,rfl⟩)|(go_at_call 72;refine (Sub.call (uh HZ) (uh IN _)).mono ?_;rintro r _ ⟨rfl,z2,rfl⟩))
        go_ret
        exact ⟨rfl,uh HB _⟩
       have h114f:(ll == 0)=false:=beq_eq_false_iff_ne.2 h114
       have h114g:((ll:Int) == 0)=false:=beq_eq_false_iff_ne.2 (by omega)
       have V:lnV 8 ⟨#[]⟩ 0 true true 0 ll nm pl nms ins=false:=by simp [lnV,eqE,eqE1, *]
       rw [V]
       clear V
       have E0:=xc 0 (.int .i64 8) rfl
       have E1:=xc 1 (.string ⟨#[]⟩) rfl
       have E2:=xc 2 (.int .i64 0) rfl
       have E3:=xc 3 (.int .i64 sf) rfl
       have E4:=xc 4 (.int .i64 sr) rfl
       have E5:=xc 5 (.int .i64 sk) rfl
       have E6:=xc 6 (.int .i64 sn) rfl
       have E7:=xc 7 (.string ss) rfl
       have E8:=xc 8 (.slice b1 sl c1) rfl
       have E9:=xc 9 (.int .i64 df) rfl
       have E10:=xc 10 (.int .i64 dr) rfl
       have E11:=xc 11 (.int .i64 dk) rfl
       have E12:=xc 12 (.int .i64 dn) rfl
       have E13:=xc 13 (.string ds) rfl
       have E14:=xc 14 (.slice b2 dl c2) rfl
       have E15:=xc 15 (.int .i64 0) rfl
       have E16:=xc 16 (.slice b3 ll c3) rfl
       clear xc
       go_enter Tryz.func22,Tryz.ntmps22
       go_wp2_with (first|(go_at_call 61;refine (in_any _ _ _ _).mono ?_;rintro e w' ⟨rfl,hw'⟩;rw [hw'];clear hw' w')|(go_at_call_of 73 sf;refine (Sub.call (uh HZ) (uh N1 _)).mono ?_;rintro r _ ⟨rfl,z2,rfl⟩)|(go_at_call_of 73 df;refine (Sub.call (uh HZ) (uh N2 _)).mono ?_;rintro r _ ⟨rfl,z2,rfl⟩)|(go_at_call 75;refine (Sub.call (uh HZ) (uh PL _)).mono ?_;rintro r _ ⟨rfl,z2,rfl⟩)|(go_at_call 74;refine (Sub.call (uh HZ) (uh NM _)).mono ?_;rintro r _ ⟨rfl,z2,rfl⟩)|(go_at_call 76;refine (Sub.call (uh HZ) (uh NS _)).mono ?_;rintro r _ ⟨rfl,z2,rfl⟩)|(go_at_call 72;refine (Sub.call (uh HZ) (uh IN _)).mono ?_;rintro r _ ⟨rfl,z2,rfl⟩))
       go_ret
       exact ⟨rfl,uh HB _⟩
      have h113f:(n == 0)=false:=beq_eq_false_iff_ne.2 h113
      have V:lnV 8 ⟨#[]⟩ 0 true true n ll nm pl nms ins=false:=by simp [lnV,eqE,eqE1, *]
      rw [V]
      clear V
      have E0:=xc 0 (.int .i64 8) rfl
      have E1:=xc 1 (.string ⟨#[]⟩) rfl
      have E2:=xc 2 (.int .i64 0) rfl
      have E3:=xc 3 (.int .i64 sf) rfl
      have E4:=xc 4 (.int .i64 sr) rfl
      have E5:=xc 5 (.int .i64 sk) rfl
      have E6:=xc 6 (.int .i64 sn) rfl
      have E7:=xc 7 (.string ss) rfl
      have E8:=xc 8 (.slice b1 sl c1) rfl
      have E9:=xc 9 (.int .i64 df) rfl
      have E10:=xc 10 (.int .i64 dr) rfl
      have E11:=xc 11 (.int .i64 dk) rfl
      have E12:=xc 12 (.int .i64 dn) rfl
      have E13:=xc 13 (.string ds) rfl
      have E14:=xc 14 (.slice b2 dl c2) rfl
      have E15:=xc 15 (.int .i64 n) rfl
      have E16:=xc 16 (.slice b3 ll c3) rfl
      clear xc
      go_enter Tryz.func22,Tryz.ntmps22
      go_wp2_with (first|(go_at_call 61;refine (in_any _ _ _ _).mono ?_;rintro e w' ⟨rfl,hw'⟩;rw [hw'];clear hw' w')|(go_at_call_of 73 sf;refine (Sub.call (uh HZ) (uh N1 _)).mono ?_;rintro r _ ⟨rfl,z2,rfl⟩)|(go_at_call_of 73 df;refine (Sub.call (uh HZ) (uh N2 _)).mono ?_;rintro r _ ⟨rfl,z2,rfl⟩)|(go_at_call 75;refine (Sub.call (uh HZ) (uh PL _)).mono ?_;rintro r _ ⟨rfl,z2,rfl⟩)|(go_at_call 74;refine (Sub.call (uh HZ) (uh NM _)).mono ?_;rintro r _ ⟨rfl,z2,rfl⟩)|(go_at_call 76;refine (Sub.call (uh HZ) (uh NS _)).mono ?_;rintro r _ ⟨rfl,z2,rfl⟩)|(go_at_call 72;refine (Sub.call (uh HZ) (uh IN _)).mono ?_;rintro r _ ⟨rfl,z2,rfl⟩))
      go_ret
      exact ⟨rfl,uh HB _⟩
     obtain ⟨h112a,h112b⟩:=emp_E s h112
     have V:lnV 8 s 0 true true n ll nm pl nms ins=false:=by simp [lnV,eqE,eqE1, *]
     rw [V]
     clear V
     have E0:=xc 0 (.int .i64 8) rfl
     have E1:=xc 1 (.string s) rfl
     have E2:=xc 2 (.int .i64 0) rfl
     have E3:=xc 3 (.int .i64 sf) rfl
     have E4:=xc 4 (.int .i64 sr) rfl
     have E5:=xc 5 (.int .i64 sk) rfl
     have E6:=xc 6 (.int .i64 sn) rfl
     have E7:=xc 7 (.string ss) rfl
     have E8:=xc 8 (.slice b1 sl c1) rfl
     have E9:=xc 9 (.int .i64 df) rfl
     have E10:=xc 10 (.int .i64 dr) rfl
     have E11:=xc 11 (.int .i64 dk) rfl
     have E12:=xc 12 (.int .i64 dn) rfl
     have E13:=xc 13 (.string ds) rfl
     have E14:=xc 14 (.slice b2 dl c2) rfl
     have E15:=xc 15 (.int .i64 n) rfl
     have E16:=xc 16 (.slice b3 ll c3) rfl
     clear xc
     go_enter Tryz.func22,Tryz.ntmps22
     go_wp2_with (first|(go_at_call 61;refine (in_any _ _ _ _).mono ?_;rintro e w' ⟨rfl,hw'⟩;rw [hw'];clear hw' w')|(go_at_call_of 73 sf;refine (Sub.call (uh HZ) (uh N1 _)).mono ?_;rintro r _ ⟨rfl,z2,rfl⟩)|(go_at_call_of 73 df;refine (Sub.call (uh HZ) (uh N2 _)).mono ?_;rintro r _ ⟨rfl,z2,rfl⟩)|(go_at_call 75;refine (Sub.call (uh HZ) (uh PL _)).mono ?_;rintro r _ ⟨rfl,z2,rfl⟩)|(go_at_call 74;refine (Sub.call (uh HZ) (uh NM _)).mono ?_;rintro r _ ⟨rfl,z2,rfl⟩)|(go_at_call 76;refine (Sub.call (uh HZ) (uh NS _)).mono ?_;rintro r _ ⟨rfl,z2,rfl⟩)|(go_at_call 72;refine (Sub.call (uh HZ) (uh IN _)).mono ?_;rintro r _ ⟨rfl,z2,rfl⟩))
     go_ret
     exact ⟨rfl,uh HB _⟩
    have h111f:(k == 8)=false:=beq_eq_false_iff_ne.2 h111
    by_cases h123:k=1
    ·
     subst h123
     cases nm with
     | true =>
      by_cases h125:n=0
      ·
       subst h125
       by_cases h126:ll=0
       ·
        subst h126
        have V:lnV 1 s 0 true true 0 0 true pl nms ins=true:=by simp [lnV,eqE,eqE1, *]
        rw [V]
        clear V
        have E0:=xc 0 (.int .i64 1) rfl
        have E1:=xc 1 (.string s) rfl
        have E2:=xc 2 (.int .i64 0) rfl
        have E3:=xc 3 (.int .i64 sf) rfl
        have E4:=xc 4 (.int .i64 sr) rfl
        have E5:=xc 5 (.int .i64 sk) rfl
        have E6:=xc 6 (.int .i64 sn) rfl
        have E7:=xc 7 (.string ss) rfl
        have E8:=xc 8 (.slice b1 sl c1) rfl
        have E9:=xc 9 (.int .i64 df) rfl
        have E10:=xc 10 (.int .i64 dr) rfl
        have E11:=xc 11 (.int .i64 dk) rfl
        have E12:=xc 12 (.int .i64 dn) rfl
        have E13:=xc 13 (.string ds) rfl
        have E14:=xc 14 (.slice b2 dl c2) rfl
        have E15:=xc 15 (.int .i64 0) rfl
        have E16:=xc 16 (.slice b3 0 c3) rfl
        clear xc
        go_enter Tryz.func22,Tryz.ntmps22
        go_wp2_with (first|(go_at_call 61;refine (in_any _ _ _ _).mono ?_;rintro e w' ⟨rfl,hw'⟩;rw [hw'];clear hw' w')|(go_at_call_of 73 sf;refine (Sub.call (uh HZ) (uh N1 _)).mono ?_;rintro r _ ⟨rfl,z2,rfl⟩)|(go_at_call_of 73 df;refine (Sub.call (uh HZ) (uh N2 _)).mono ?_;rintro r _ ⟨rfl,z2,rfl⟩)|(go_at_call 75;refine (Sub.call (uh HZ) (uh PL _)).mono ?_;rintro r _ ⟨rfl,z2,rfl⟩)|(go_at_call 74;refine (Sub.call (uh HZ) (uh NM _)).mono ?_;rintro r _ ⟨rfl,z2,rfl⟩)|(go_at_call 76;refine (Sub.call (uh HZ) (uh NS _)).mono ?_;rintro r _ ⟨rfl,z2,rfl⟩)|(go_at_call 72;refine (Sub.call (uh HZ) (uh IN _)).mono ?_;rintro r _ ⟨rfl,z2,rfl⟩))
        go_ret
        exact ⟨rfl,uh HB _⟩
       have h126f:(ll == 0)=false:=beq_eq_false_iff_ne.2 h126
       have h126g:((ll:Int) == 0)=false:=beq_eq_false_iff_ne.2 (by omega)
       have V:lnV 1 s 0 true true 0 ll true pl nms ins=false:=by simp [lnV,eqE,eqE1, *]
       rw [V]
       clear V
       have E0:=xc 0 (.int .i64 1) rfl
       have E1:=xc 1 (.string s) rfl
       have E2:=xc 2 (.int .i64 0) rfl
       have E3:=xc 3 (.int .i64 sf) rfl
       have E4:=xc 4 (.int .i64 sr) rfl
       have E5:=xc 5 (.int .i64 sk) rfl
       have E6:=xc 6 (.int .i64 sn) rfl
       have E7:=xc 7 (.string ss) rfl
       have E8:=xc 8 (.slice b1 sl c1) rfl
       have E9:=xc 9 (.int .i64 df) rfl
       have E10:=xc 10 (.int .i64 dr) rfl
       have E11:=xc 11 (.int .i64 dk) rfl
       have E12:=xc 12 (.int .i64 dn) rfl
       have E13:=xc 13 (.string ds) rfl
       have E14:=xc 14 (.slice b2 dl c2) rfl
       have E15:=xc 15 (.int .i64 0) rfl
       have E16:=xc 16 (.slice b3 ll c3) rfl
       clear xc
       go_enter Tryz.func22,Tryz.ntmps22
       go_wp2_with (first|(go_at_call 61;refine (in_any _ _ _ _).mono ?_;rintro e w' ⟨rfl,hw'⟩;rw [hw'];clear hw' w')|(go_at_call_of 73 sf;refine (Sub.call (uh HZ) (uh N1 _)).mono ?_;rintro r _ ⟨rfl,z2,rfl⟩)|(go_at_call_of 73 df;refine (Sub.call (uh HZ) (uh N2 _)).mono ?_;rintro r _ ⟨rfl,z2,rfl⟩)|(go_at_call 75;refine (Sub.call (uh HZ) (uh PL _)).mono ?_;rintro r _ ⟨rfl,z2,rfl⟩)|(go_at_call 74;refine (Sub.call (uh HZ) (uh NM _)).mono ?_;rintro r _ ⟨rfl,z2,rfl⟩)|(go_at_call 76;refine (Sub.call (uh HZ) (uh NS _)).mono ?_;rintro r _ ⟨rfl,z2,rfl⟩)|(go_at_call 72;refine (Sub.call (uh HZ) (uh IN _)).mono ?_;rintro r _ ⟨rfl,z2,rfl⟩))
       go_ret
       exact ⟨rfl,uh HB _⟩
      have h125f:(n == 0)=false:=beq_eq_false_iff_ne.2 h125
      have V:lnV 1 s 0 true true n ll true pl nms ins=false:=by simp [lnV,eqE,eqE1, *]
      rw [V]
      clear V
      have E0:=xc 0 (.int .i64 1) rfl
      have E1:=xc 1 (.string s) rfl
      have E2:=xc 2 (.int .i64 0) rfl
      have E3:=xc 3 (.int .i64 sf) rfl
      have E4:=xc 4 (.int .i64 sr) rfl
      have E5:=xc 5 (.int .i64 sk) rfl
      have E6:=xc 6 (.int .i64 sn) rfl
      have E7:=xc 7 (.string ss) rfl
      have E8:=xc 8 (.slice b1 sl c1) rfl
      have E9:=xc 9 (.int .i64 df) rfl
      have E10:=xc 10 (.int .i64 dr) rfl
      have E11:=xc 11 (.int .i64 dk) rfl
      have E12:=xc 12 (.int .i64 dn) rfl
      have E13:=xc 13 (.string ds) rfl
      have E14:=xc 14 (.slice b2 dl c2) rfl
      have E15:=xc 15 (.int .i64 n) rfl
      have E16:=xc 16 (.slice b3 ll c3) rfl
      clear xc
      go_enter Tryz.func22,Tryz.ntmps22
      go_wp2_with (first|(go_at_call 61;refine (in_any _ _ _ _).mono ?_;rintro e w' ⟨rfl,hw'⟩;rw [hw'];clear hw' w')|(go_at_call_of 73 sf;refine (Sub.call (uh HZ) (uh N1 _)).mono ?_;rintro r _ ⟨rfl,z2,rfl⟩)|(go_at_call_of 73 df;refine (Sub.call (uh HZ) (uh N2 _)).mono ?_;rintro r _ ⟨rfl,z2,rfl⟩)|(go_at_call 75;refine (Sub.call (uh HZ) (uh PL _)).mono ?_;rintro r _ ⟨rfl,z2,rfl⟩)|(go_at_call 74;refine (Sub.call (uh HZ) (uh NM _)).mono ?_;rintro r _ ⟨rfl,z2,rfl⟩)|(go_at_call 76;refine (Sub.call (uh HZ) (uh NS _)).mono ?_;rintro r _ ⟨rfl,z2,rfl⟩)|(go_at_call 72;refine (Sub.call (uh HZ) (uh IN _)).mono ?_;rintro r _ ⟨rfl,z2,rfl⟩))
      go_ret
      exact ⟨rfl,uh HB _⟩
     | false =>
      have V:lnV 1 s 0 true true n ll false pl nms ins=false:=by simp [lnV,eqE,eqE1, *]
      rw [V]
      clear V
      have E0:=xc 0 (.int .i64 1) rfl
      have E1:=xc 1 (.string s) rfl
      have E2:=xc 2 (.int .i64 0) rfl
      have E3:=xc 3 (.int .i64 sf) rfl
      have E4:=xc 4 (.int .i64 sr) rfl
      have E5:=xc 5 (.int .i64 sk) rfl
      have E6:=xc 6 (.int .i64 sn) rfl
      have E7:=xc 7 (.string ss) rfl
      have E8:=xc 8 (.slice b1 sl c1) rfl
      have E9:=xc 9 (.int .i64 df) rfl
      have E10:=xc 10 (.int .i64 dr) rfl
      have E11:=xc 11 (.int .i64 dk) rfl
      have E12:=xc 12 (.int .i64 dn) rfl
      have E13:=xc 13 (.string ds) rfl
      have E14:=xc 14 (.slice b2 dl c2) rfl
      have E15:=xc 15 (.int .i64 n) rfl
      have E16:=xc 16 (.slice b3 ll c3) rfl
      clear xc
      go_enter Tryz.func22,Tryz.ntmps22
      go_wp2_with (first|(go_at_call 61;refine (in_any _ _ _ _).mono ?_;rintro e w' ⟨rfl,hw'⟩;rw [hw'];clear hw' w')|(go_at_call_of 73 sf;refine (Sub.call (uh HZ) (uh N1 _)).mono ?_;rintro r _ ⟨rfl,z2,rfl⟩)|(go_at_call_of 73 df;refine (Sub.call (uh HZ) (uh N2 _)).mono ?_;rintro r _ ⟨rfl,z2,rfl⟩)|(go_at_call 75;refine (Sub.call (uh HZ) (uh PL _)).mono ?_;rintro r _ ⟨rfl,z2,rfl⟩)|(go_at_call 74;refine (Sub.call (uh HZ) (uh NM _)).mono ?_;rintro r _ ⟨rfl,z2,rfl⟩)|(go_at_call 76;refine (Sub.call (uh HZ) (uh NS _)).mono ?_;rintro r _ ⟨rfl,z2,rfl⟩)|(go_at_call 72;refine (Sub.call (uh HZ) (uh IN _)).mono ?_;rintro r _ ⟨rfl,z2,rfl⟩))
      go_ret
      exact ⟨rfl,uh HB _⟩
    have h123f:(k == 1)=false:=beq_eq_false_iff_ne.2 h123
    by_cases h135:k=2
    ·
     subst h135
     cases nm with
     | true =>
      by_cases h137:n=0
      ·
       subst h137
       by_cases h138:ll=1
       ·
        subst h138
        have V:lnV 2 s 0 true true 0 1 true pl nms ins=pl:=by simp [lnV,eqE,eqE1, *]
        rw [V]
        clear V
        have E0:=xc 0 (.int .i64 2) rfl
        have E1:=xc 1 (.string s) rfl
        have E2:=xc 2 (.int .i64 0) rfl
        have E3:=xc 3 (.int .i64 sf) rfl
        have E4:=xc 4 (.int .i64 sr) rfl
        have E5:=xc 5 (.int .i64 sk) rfl
        have E6:=xc 6 (.int .i64 sn) rfl
        have E7:=xc 7 (.string ss) rfl
        have E8:=xc 8 (.slice b1 sl c1) rfl
        have E9:=xc 9 (.int .i64 df) rfl
        have E10:=xc 10 (.int .i64 dr) rfl
        have E11:=xc 11 (.int .i64 dk) rfl
        have E12:=xc 12 (.int .i64 dn) rfl
        have E13:=xc 13 (.string ds) rfl
        have E14:=xc 14 (.slice b2 dl c2) rfl
        have E15:=xc 15 (.int .i64 0) rfl
        have E16:=xc 16 (.slice b3 1 c3) rfl
        clear xc
        go_enter Tryz.func22,Tryz.ntmps22
        go_wp2_with (first|(go_at_call 61;refine (in_any _ _ _ _).mono ?_;rintro e w' ⟨rfl,hw'⟩;rw [hw'];clear hw' w')|(go_at_call_of 73 sf;refine (Sub.call (uh HZ) (uh N1 _)).mono ?_;rintro r _ ⟨rfl,z2,rfl⟩)|(go_at_call_of 73 df;refine (Sub.call (uh HZ) (uh N2 _)).mono ?_;rintro r _ ⟨rfl,z2,rfl⟩)|(go_at_call 75;refine (Sub.call (uh HZ) (uh PL _)).mono ?_;rintro r _ ⟨rfl,z2,rfl⟩)|(go_at_call 74;refine (Sub.call (uh HZ) (uh NM _)).mono ?_;rintro r _ ⟨rfl,z2,rfl⟩)|(go_at_call 76;refine (Sub.call (uh HZ) (uh NS _)).mono ?_;rintro r _ ⟨rfl,z2,rfl⟩)|(go_at_call 72;refine (Sub.call (uh HZ) (uh IN _)).mono ?_;rintro r _ ⟨rfl,z2,rfl⟩))
        go_ret
        exact ⟨rfl,uh HB _⟩
       have h138f:(ll == 1)=false:=beq_eq_false_iff_ne.2 h138
       have h138g:((ll:Int) == 1)=false:=beq_eq_false_iff_ne.2 (by omega)
       have V:lnV 2 s 0 true true 0 ll true pl nms ins=false:=by simp [lnV,eqE,eqE1, *]
       rw [V]
       clear V
       have E0:=xc 0 (.int .i64 2) rfl
       have E1:=xc 1 (.string s) rfl
       have E2:=xc 2 (.int .i64 0) rfl
       have E3:=xc 3 (.int .i64 sf) rfl
       have E4:=xc 4 (.int .i64 sr) rfl
       have E5:=xc 5 (.int .i64 sk) rfl
       have E6:=xc 6 (.int .i64 sn) rfl
       have E7:=xc 7 (.string ss) rfl
       have E8:=xc 8 (.slice b1 sl c1) rfl
       have E9:=xc 9 (.int .i64 df) rfl
       have E10:=xc 10 (.int .i64 dr) rfl
       have E11:=xc 11 (.int .i64 dk) rfl
       have E12:=xc 12 (.int .i64 dn) rfl
       have E13:=xc 13 (.string ds) rfl
       have E14:=xc 14 (.slice b2 dl c2) rfl
       have E15:=xc 15 (.int .i64 0) rfl
       have E16:=xc 16 (.slice b3 ll c3) rfl
       clear xc
       go_enter Tryz.func22,Tryz.ntmps22
       go_wp2_with (first|(go_at_call 61;refine (in_any _ _ _ _).mono ?_;rintro e w' ⟨rfl,hw'⟩;rw [hw'];clear hw' w')|(go_at_call_of 73 sf;refine (Sub.call (uh HZ) (uh N1 _)).mono ?_;rintro r _ ⟨rfl,z2,rfl⟩)|(go_at_call_of 73 df;refine (Sub.call (uh HZ) (uh N2 _)).mono ?_;rintro r _ ⟨rfl,z2,rfl⟩)|(go_at_call 75;refine (Sub.call (uh HZ) (uh PL _)).mono ?_;rintro r _ ⟨rfl,z2,rfl⟩)|(go_at_call 74;refine (Sub.call (uh HZ) (uh NM _)).mono ?_;rintro r _ ⟨rfl,z2,rfl⟩)|(go_at_call 76;refine (Sub.call (uh HZ) (uh NS _)).mono ?_;rintro r _ ⟨rfl,z2,rfl⟩)|(go_at_call 72;refine (Sub.call (uh HZ) (uh IN _)).mono ?_;rintro r _ ⟨rfl,z2,rfl⟩))
       go_ret
       exact ⟨rfl,uh HB _⟩
      have h137f:(n == 0)=false:=beq_eq_false_iff_ne.2 h137
      have V:lnV 2 s 0 true true n ll true pl nms ins=false:=by simp [lnV,eqE,eqE1, *]
      rw [V]
      clear V
      have E0:=xc 0 (.int .i64 2) rfl
      have E1:=xc 1 (.string s) rfl
      have E2:=xc 2 (.int .i64 0) rfl
      have E3:=xc 3 (.int .i64 sf) rfl
      have E4:=xc 4 (.int .i64 sr) rfl
      have E5:=xc 5 (.int .i64 sk) rfl
      have E6:=xc 6 (.int .i64 sn) rfl
      have E7:=xc 7 (.string ss) rfl
      have E8:=xc 8 (.slice b1 sl c1) rfl
      have E9:=xc 9 (.int .i64 df) rfl
      have E10:=xc 10 (.int .i64 dr) rfl
      have E11:=xc 11 (.int .i64 dk) rfl
      have E12:=xc 12 (.int .i64 dn) rfl
      have E13:=xc 13 (.string ds) rfl
      have E14:=xc 14 (.slice b2 dl c2) rfl
      have E15:=xc 15 (.int .i64 n) rfl
      have E16:=xc 16 (.slice b3 ll c3) rfl
      clear xc
      go_enter Tryz.func22,Tryz.ntmps22
      go_wp2_with (first|(go_at_call 61;refine (in_any _ _ _ _).mono ?_;rintro e w' ⟨rfl,hw'⟩;rw [hw'];clear hw' w')|(go_at_call_of 73 sf;refine (Sub.call (uh HZ) (uh N1 _)).mono ?_;rintro r _ ⟨rfl,z2,rfl⟩)|(go_at_call_of 73 df;refine (Sub.call (uh HZ) (uh N2 _)).mono ?_;rintro r _ ⟨rfl,z2,rfl⟩)|(go_at_call 75;refine (Sub.call (uh HZ) (uh PL _)).mono ?_;rintro r _ ⟨rfl,z2,rfl⟩)|(go_at_call 74;refine (Sub.call (uh HZ) (uh NM _)).mono ?_;rintro r _ ⟨rfl,z2,rfl⟩)|(go_at_call 76;refine (Sub.call (uh HZ) (uh NS _)).mono ?_;rintro r _ ⟨rfl,z2,rfl⟩)|(go_at_call 72;refine (Sub.call (uh HZ) (uh IN _)).mono ?_;rintro r _ ⟨rfl,z2,rfl⟩))
      go_ret
      exact ⟨rfl,uh HB _⟩
     | false =>
      have V:lnV 2 s 0 true true n ll false pl nms ins=false:=by simp [lnV,eqE,eqE1, *]
      rw [V]
      clear V
      have E0:=xc 0 (.int .i64 2) rfl
      have E1:=xc 1 (.string s) rfl
      have E2:=xc 2 (.int .i64 0) rfl
      have E3:=xc 3 (.int .i64 sf) rfl
      have E4:=xc 4 (.int .i64 sr) rfl
      have E5:=xc 5 (.int .i64 sk) rfl
      have E6:=xc 6 (.int .i64 sn) rfl
      have E7:=xc 7 (.string ss) rfl
      have E8:=xc 8 (.slice b1 sl c1) rfl
      have E9:=xc 9 (.int .i64 df) rfl
      have E10:=xc 10 (.int .i64 dr) rfl
      have E11:=xc 11 (.int .i64 dk) rfl
      have E12:=xc 12 (.int .i64 dn) rfl
      have E13:=xc 13 (.string ds) rfl
      have E14:=xc 14 (.slice b2 dl c2) rfl
      have E15:=xc 15 (.int .i64 n) rfl
      have E16:=xc 16 (.slice b3 ll c3) rfl
      clear xc
      go_enter Tryz.func22,Tryz.ntmps22
      go_wp2_with (first|(go_at_call 61;refine (in_any _ _ _ _).mono ?_;rintro e w' ⟨rfl,hw'⟩;rw [hw'];clear hw' w')|(go_at_call_of 73 sf;refine (Sub.call (uh HZ) (uh N1 _)).mono ?_;rintro r _ ⟨rfl,z2,rfl⟩)|(go_at_call_of 73 df;refine (Sub.call (uh HZ) (uh N2 _)).mono ?_;rintro r _ ⟨rfl,z2,rfl⟩)|(go_at_call 75;refine (Sub.call (uh HZ) (uh PL _)).mono ?_;rintro r _ ⟨rfl,z2,rfl⟩)|(go_at_call 74;refine (Sub.call (uh HZ) (uh NM _)).mono ?_;rintro r _ ⟨rfl,z2,rfl⟩)|(go_at_call 76;refine (Sub.call (uh HZ) (uh NS _)).mono ?_;rintro r _ ⟨rfl,z2,rfl⟩)|(go_at_call 72;refine (Sub.call (uh HZ) (uh IN _)).mono ?_;rintro r _ ⟨rfl,z2,rfl⟩))
      go_ret
      exact ⟨rfl,uh HB _⟩
    have h135f:(k == 2)=false:=beq_eq_false_iff_ne.2 h135
    by_cases h147:k=4
    ·
     subst h147
     by_cases h148:s=⟨#[]⟩
     ·
      subst h148
      by_cases h149:n=0
      ·
       subst h149
       cases h150:inB ll 1 6 with
       | true =>
        have V:lnV 4 ⟨#[]⟩ 0 true true 0 ll nm pl nms ins=pl:=by simp [lnV,eqE,eqE1, *]
        rw [V]
        clear V
        have E0:=xc 0 (.int .i64 4) rfl
        have E1:=xc 1 (.string ⟨#[]⟩) rfl
        have E2:=xc 2 (.int .i64 0) rfl
        have E3:=xc 3 (.int .i64 sf) rfl
        have E4:=xc 4 (.int .i64 sr) rfl
        have E5:=xc 5 (.int .i64 sk) rfl
        have E6:=xc 6 (.int .i64 sn) rfl
        have E7:=xc 7 (.string ss) rfl
        have E8:=xc 8 (.slice b1 sl c1) rfl
        have E9:=xc 9 (.int .i64 df) rfl
        have E10:=xc 10 (.int .i64 dr) rfl
        have E11:=xc 11 (.int .i64 dk) rfl
        have E12:=xc 12 (.int .i64 dn) rfl
        have E13:=xc 13 (.string ds) rfl
        have E14:=xc 14 (.slice b2 dl c2) rfl
        have E15:=xc 15 (.int .i64 0) rfl
        have E16:=xc 16 (.slice b3 ll c3) rfl
        clear xc
        go_enter Tryz.func22,Tryz.ntmps22
        go_wp2_with (first|(go_at_call 61;refine (in_any _ _ _ _).mono ?_;rintro e w' ⟨rfl,hw'⟩;rw [hw'];clear hw' w')|(go_at_call_of 73 sf;refine (Sub.call (uh HZ) (uh N1 _)).mono ?_;rintro r _ ⟨rfl,z2,rfl⟩)|(go_at_call_of 73 df;refine (Sub.call (uh HZ) (uh N2 _)).mono ?_;rintro r _ ⟨rfl,z2,rfl⟩)|(go_at_call 75;refine (Sub.call (uh HZ) (uh PL _)).mono ?_;rintro r _ ⟨rfl,z2,rfl⟩)|(go_at_call 74;refine (Sub.call (uh HZ) (uh NM _)).mono ?_;rintro r _ ⟨rfl,z2,rfl⟩)|(go_at_call 76;refine (Sub.call (uh HZ) (uh NS _)).mono ?_;rintro r _ ⟨rfl,z2,rfl⟩)|(go_at_call 72;refine (Sub.call (uh HZ) (uh IN _)).mono ?_;rintro r _ ⟨rfl,z2,rfl⟩))
        go_ret
        exact ⟨rfl,uh HB _⟩
       | false =>
        have V:lnV 4 ⟨#[]⟩ 0 true true 0 ll nm pl nms ins=false:=by simp [lnV,eqE,eqE1, *]
        rw [V]
        clear V
        have E0:=xc 0 (.int .i64 4) rfl
        have E1:=xc 1 (.string ⟨#[]⟩) rfl
        have E2:=xc 2 (.int .i64 0) rfl
        have E3:=xc 3 (.int .i64 sf) rfl
        have E4:=xc 4 (.int .i64 sr) rfl
        have E5:=xc 5 (.int .i64 sk) rfl
        have E6:=xc 6 (.int .i64 sn) rfl
        have E7:=xc 7 (.string ss) rfl
        have E8:=xc 8 (.slice b1 sl c1) rfl
        have E9:=xc 9 (.int .i64 df) rfl
        have E10:=xc 10 (.int .i64 dr) rfl
        have E11:=xc 11 (.int .i64 dk) rfl
        have E12:=xc 12 (.int .i64 dn) rfl
        have E13:=xc 13 (.string ds) rfl
        have E14:=xc 14 (.slice b2 dl c2) rfl
        have E15:=xc 15 (.int .i64 0) rfl
        have E16:=xc 16 (.slice b3 ll c3) rfl
        clear xc
        go_enter Tryz.func22,Tryz.ntmps22
        go_wp2_with (first|(go_at_call 61;refine (in_any _ _ _ _).mono ?_;rintro e w' ⟨rfl,hw'⟩;rw [hw'];clear hw' w')|(go_at_call_of 73 sf;refine (Sub.call (uh HZ) (uh N1 _)).mono ?_;rintro r _ ⟨rfl,z2,rfl⟩)|(go_at_call_of 73 df;refine (Sub.call (uh HZ) (uh N2 _)).mono ?_;rintro r _ ⟨rfl,z2,rfl⟩)|(go_at_call 75;refine (Sub.call (uh HZ) (uh PL _)).mono ?_;rintro r _ ⟨rfl,z2,rfl⟩)|(go_at_call 74;refine (Sub.call (uh HZ) (uh NM _)).mono ?_;rintro r _ ⟨rfl,z2,rfl⟩)|(go_at_call 76;refine (Sub.call (uh HZ) (uh NS _)).mono ?_;rintro r _ ⟨rfl,z2,rfl⟩)|(go_at_call 72;refine (Sub.call (uh HZ) (uh IN _)).mono ?_;rintro r _ ⟨rfl,z2,rfl⟩))
        go_ret
        exact ⟨rfl,uh HB _⟩
      have h149f:(n == 0)=false:=beq_eq_false_iff_ne.2 h149
      have V:lnV 4 ⟨#[]⟩ 0 true true n ll nm pl nms ins=false:=by simp [lnV,eqE,eqE1, *]
      rw [V]
      clear V
      have E0:=xc 0 (.int .i64 4) rfl
      have E1:=xc 1 (.string ⟨#[]⟩) rfl
      have E2:=xc 2 (.int .i64 0) rfl
      have E3:=xc 3 (.int .i64 sf) rfl
      have E4:=xc 4 (.int .i64 sr) rfl
      have E5:=xc 5 (.int .i64 sk) rfl
      have E6:=xc 6 (.int .i64 sn) rfl
      have E7:=xc 7 (.string ss) rfl
      have E8:=xc 8 (.slice b1 sl c1) rfl
      have E9:=xc 9 (.int .i64 df) rfl
      have E10:=xc 10 (.int .i64 dr) rfl
      have E11:=xc 11 (.int .i64 dk) rfl
      have E12:=xc 12 (.int .i64 dn) rfl
      have E13:=xc 13 (.string ds) rfl
      have E14:=xc 14 (.slice b2 dl c2) rfl
      have E15:=xc 15 (.int .i64 n) rfl
      have E16:=xc 16 (.slice b3 ll c3) rfl
      clear xc
      go_enter Tryz.func22,Tryz.ntmps22
      go_wp2_with (first|(go_at_call 61;refine (in_any _ _ _ _).mono ?_;rintro e w' ⟨rfl,hw'⟩;rw [hw'];clear hw' w')|(go_at_call_of 73 sf;refine (Sub.call (uh HZ) (uh N1 _)).mono ?_;rintro r _ ⟨rfl,z2,rfl⟩)|(go_at_call_of 73 df;refine (Sub.call (uh HZ) (uh N2 _)).mono ?_;rintro r _ ⟨rfl,z2,rfl⟩)|(go_at_call 75;refine (Sub.call (uh HZ) (uh PL _)).mono ?_;rintro r _ ⟨rfl,z2,rfl⟩)|(go_at_call 74;refine (Sub.call (uh HZ) (uh NM _)).mono ?_;rintro r _ ⟨rfl,z2,rfl⟩)|(go_at_call 76;refine (Sub.call (uh HZ) (uh NS _)).mono ?_;rintro r _ ⟨rfl,z2,rfl⟩)|(go_at_call 72;refine (Sub.call (uh HZ) (uh IN _)).mono ?_;rintro r _ ⟨rfl,z2,rfl⟩))
      go_ret
      exact ⟨rfl,uh HB _⟩
     obtain ⟨h148a,h148b⟩:=emp_E s h148
     have V:lnV 4 s 0 true true n ll nm pl nms ins=false:=by simp [lnV,eqE,eqE1, *]
     rw [V]
     clear V
     have E0:=xc 0 (.int .i64 4) rfl
     have E1:=xc 1 (.string s) rfl
     have E2:=xc 2 (.int .i64 0) rfl
     have E3:=xc 3 (.int .i64 sf) rfl
     have E4:=xc 4 (.int .i64 sr) rfl
     have E5:=xc 5 (.int .i64 sk) rfl
     have E6:=xc 6 (.int .i64 sn) rfl
     have E7:=xc 7 (.string ss) rfl
     have E8:=xc 8 (.slice b1 sl c1) rfl
     have E9:=xc 9 (.int .i64 df) rfl
     have E10:=xc 10 (.int .i64 dr) rfl
     have E11:=xc 11 (.int .i64 dk) rfl
     have E12:=xc 12 (.int .i64 dn) rfl
     have E13:=xc 13 (.string ds) rfl
     have E14:=xc 14 (.slice b2 dl c2) rfl
     have E15:=xc 15 (.int .i64 n) rfl
     have E16:=xc 16 (.slice b3 ll c3) rfl
     clear xc
     go_enter Tryz.func22,Tryz.ntmps22
     go_wp2_with (first|(go_at_call 61;refine (in_any _ _ _ _).mono ?_;rintro e w' ⟨rfl,hw'⟩;rw [hw'];clear hw' w')|(go_at_call_of 73 sf;refine (Sub.call (uh HZ) (uh N1 _)).mono ?_;rintro r _ ⟨rfl,z2,rfl⟩)|(go_at_call_of 73 df;refine (Sub.call (uh HZ) (uh N2 _)).mono ?_;rintro r _ ⟨rfl,z2,rfl⟩)|(go_at_call 75;refine (Sub.call (uh HZ) (uh PL _)).mono ?_;rintro r _ ⟨rfl,z2,rfl⟩)|(go_at_call 74;refine (Sub.call (uh HZ) (uh NM _)).mono ?_;rintro r _ ⟨rfl,z2,rfl⟩)|(go_at_call 76;refine (Sub.call (uh HZ) (uh NS _)).mono ?_;rintro r _ ⟨rfl,z2,rfl⟩)|(go_at_call 72;refine (Sub.call (uh HZ) (uh IN _)).mono ?_;rintro r _ ⟨rfl,z2,rfl⟩))
     go_ret
     exact ⟨rfl,uh HB _⟩
    have h147f:(k == 4)=false:=beq_eq_false_iff_ne.2 h147
    by_cases h159:k=5
    ·
     subst h159
     by_cases h160:s=⟨#[]⟩
     ·
      subst h160
      by_cases h161:n=0
      ·
       subst h161
       by_cases h162:ll=1
       ·
        subst h162
        have V:lnV 5 ⟨#[]⟩ 0 true true 0 1 nm pl nms ins=pl:=by simp [lnV,eqE,eqE1, *]
        rw [V]
        clear V
        have E0:=xc 0 (.int .i64 5) rfl
        have E1:=xc 1 (.string ⟨#[]⟩) rfl
        have E2:=xc 2 (.int .i64 0) rfl
        have E3:=xc 3 (.int .i64 sf) rfl
        have E4:=xc 4 (.int .i64 sr) rfl
        have E5:=xc 5 (.int .i64 sk) rfl
        have E6:=xc 6 (.int .i64 sn) rfl
        have E7:=xc 7 (.string ss) rfl
        have E8:=xc 8 (.slice b1 sl c1) rfl
        have E9:=xc 9 (.int .i64 df) rfl
        have E10:=xc 10 (.int .i64 dr) rfl
        have E11:=xc 11 (.int .i64 dk) rfl
        have E12:=xc 12 (.int .i64 dn) rfl
        have E13:=xc 13 (.string ds) rfl
        have E14:=xc 14 (.slice b2 dl c2) rfl
        have E15:=xc 15 (.int .i64 0) rfl
        have E16:=xc 16 (.slice b3 1 c3) rfl
        clear xc
        go_enter Tryz.func22,Tryz.ntmps22
        go_wp2_with (first|(go_at_call 61;refine (in_any _ _ _ _).mono ?_;rintro e w' ⟨rfl,hw'⟩;rw [hw'];clear hw' w')|(go_at_call_of 73 sf;refine (Sub.call (uh HZ) (uh N1 _)).mono ?_;rintro r _ ⟨rfl,z2,rfl⟩)|(go_at_call_of 73 df;refine (Sub.call (uh HZ) (uh N2 _)).mono ?_;rintro r _ ⟨rfl,z2,rfl⟩)|(go_at_call 75;refine (Sub.call (uh HZ) (uh PL _)).mono ?_;rintro r _ ⟨rfl,z2,rfl⟩)|(go_at_call 74;refine (Sub.call (uh HZ) (uh NM _)).mono ?_;rintro r _ ⟨rfl,z2,rfl⟩)|(go_at_call 76;refine (Sub.call (uh HZ) (uh NS _)).mono ?_;rintro r _ ⟨rfl,z2,rfl⟩)|(go_at_call 72;refine (Sub.call (uh HZ) (uh IN _)).mono ?_;rintro r _ ⟨rfl,z2,rfl⟩))
        go_ret
        exact ⟨rfl,uh HB _⟩
       have h162f:(ll == 1)=false:=beq_eq_false_iff_ne.2 h162
       have h162g:((ll:Int) == 1)=false:=beq_eq_false_iff_ne.2 (by omega)
       have V:lnV 5 ⟨#[]⟩ 0 true true 0 ll nm pl nms ins=false:=by simp [lnV,eqE,eqE1, *]
       rw [V]
       clear V
       have E0:=xc 0 (.int .i64 5) rfl
       have E1:=xc 1 (.string ⟨#[]⟩) rfl
       have E2:=xc 2 (.int .i64 0) rfl
       have E3:=xc 3 (.int .i64 sf) rfl
       have E4:=xc 4 (.int .i64 sr) rfl
       have E5:=xc 5 (.int .i64 sk) rfl
       have E6:=xc 6 (.int .i64 sn) rfl
       have E7:=xc 7 (.string ss) rfl
       have E8:=xc 8 (.slice b1 sl c1) rfl
       have E9:=xc 9 (.int .i64 df) rfl
       have E10:=xc 10 (.int .i64 dr) rfl
       have E11:=xc 11 (.int .i64 dk) rfl
       have E12:=xc 12 (.int .i64 dn) rfl
       have E13:=xc 13 (.string ds) rfl
       have E14:=xc 14 (.slice b2 dl c2) rfl
       have E15:=xc 15 (.int .i64 0) rfl
       have E16:=xc 16 (.slice b3 ll c3) rfl
       clear xc
       go_enter Tryz.func22,Tryz.ntmps22
       go_wp2_with (first|(go_at_call 61;refine (in_any _ _ _ _).mono ?_;rintro e w' ⟨rfl,hw'⟩;rw [hw'];clear hw' w')|(go_at_call_of 73 sf;refine (Sub.call (uh HZ) (uh N1 _)).mono ?_;rintro r _ ⟨rfl,z2,rfl⟩)|(go_at_call_of 73 df;refine (Sub.call (uh HZ) (uh N2 _)).mono ?_;rintro r _ ⟨rfl,z2,rfl⟩)|(go_at_call 75;refine (Sub.call (uh HZ) (uh PL _)).mono ?_;rintro r _ ⟨rfl,z2,rfl⟩)|(go_at_call 74;refine (Sub.call (uh HZ) (uh NM _)).mono ?_;rintro r _ ⟨rfl,z2,rfl⟩)|(go_at_call 76;refine (Sub.call (uh HZ) (uh NS _)).mono ?_;rintro r _ ⟨rfl,z2,rfl⟩)|(go_at_call 72;refine (Sub.call (uh HZ) (uh IN _)).mono ?_;rintro r _ ⟨rfl,z2,rfl⟩))
       go_ret
       exact ⟨rfl,uh HB _⟩
      have h161f:(n == 0)=false:=beq_eq_false_iff_ne.2 h161
      have V:lnV 5 ⟨#[]⟩ 0 true true n ll nm pl nms ins=false:=by simp [lnV,eqE,eqE1, *]
      rw [V]
      clear V
      have E0:=xc 0 (.int .i64 5) rfl
      have E1:=xc 1 (.string ⟨#[]⟩) rfl
      have E2:=xc 2 (.int .i64 0) rfl
      have E3:=xc 3 (.int .i64 sf) rfl
      have E4:=xc 4 (.int .i64 sr) rfl
      have E5:=xc 5 (.int .i64 sk) rfl
      have E6:=xc 6 (.int .i64 sn) rfl
      have E7:=xc 7 (.string ss) rfl
      have E8:=xc 8 (.slice b1 sl c1) rfl
      have E9:=xc 9 (.int .i64 df) rfl
      have E10:=xc 10 (.int .i64 dr) rfl
      have E11:=xc 11 (.int .i64 dk) rfl
      have E12:=xc 12 (.int .i64 dn) rfl
      have E13:=xc 13 (.string ds) rfl
      have E14:=xc 14 (.slice b2 dl c2) rfl
      have E15:=xc 15 (.int .i64 n) rfl
      have E16:=xc 16 (.slice b3 ll c3) rfl
      clear xc
      go_enter Tryz.func22,Tryz.ntmps22
      go_wp2_with (first|(go_at_call 61;refine (in_any _ _ _ _).mono ?_;rintro e w' ⟨rfl,hw'⟩;rw [hw'];clear hw' w')|(go_at_call_of 73 sf;refine (Sub.call (uh HZ) (uh N1 _)).mono ?_;rintro r _ ⟨rfl,z2,rfl⟩)|(go_at_call_of 73 df;refine (Sub.call (uh HZ) (uh N2 _)).mono ?_;rintro r _ ⟨rfl,z2,rfl⟩)|(go_at_call 75;refine (Sub.call (uh HZ) (uh PL _)).mono ?_;rintro r _ ⟨rfl,z2,rfl⟩)|(go_at_call 74;refine (Sub.call (uh HZ) (uh NM _)).mono ?_;rintro r _ ⟨rfl,z2,rfl⟩)|(go_at_call 76;refine (Sub.call (uh HZ) (uh NS _)).mono ?_;rintro r _ ⟨rfl,z2,rfl⟩)|(go_at_call 72;refine (Sub.call (uh HZ) (uh IN _)).mono ?_;rintro r _ ⟨rfl,z2,rfl⟩))
      go_ret
      exact ⟨rfl,uh HB _⟩
     obtain ⟨h160a,h160b⟩:=emp_E s h160
     have V:lnV 5 s 0 true true n ll nm pl nms ins=false:=by simp [lnV,eqE,eqE1, *]
     rw [V]
     clear V
     have E0:=xc 0 (.int .i64 5) rfl
     have E1:=xc 1 (.string s) rfl
     have E2:=xc 2 (.int .i64 0) rfl
     have E3:=xc 3 (.int .i64 sf) rfl
     have E4:=xc 4 (.int .i64 sr) rfl
     have E5:=xc 5 (.int .i64 sk) rfl
     have E6:=xc 6 (.int .i64 sn) rfl
     have E7:=xc 7 (.string ss) rfl
     have E8:=xc 8 (.slice b1 sl c1) rfl
     have E9:=xc 9 (.int .i64 df) rfl
     have E10:=xc 10 (.int .i64 dr) rfl
     have E11:=xc 11 (.int .i64 dk) rfl
     have E12:=xc 12 (.int .i64 dn) rfl
     have E13:=xc 13 (.string ds) rfl
     have E14:=xc 14 (.slice b2 dl c2) rfl
     have E15:=xc 15 (.int .i64 n) rfl
     have E16:=xc 16 (.slice b3 ll c3) rfl
     clear xc
     go_enter Tryz.func22,Tryz.ntmps22
     go_wp2_with (first|(go_at_call 61;refine (in_any _ _ _ _).mono ?_;rintro e w' ⟨rfl,hw'⟩;rw [hw'];clear hw' w')|(go_at_call_of 73 sf;refine (Sub.call (uh HZ) (uh N1 _)).mono ?_;rintro r _ ⟨rfl,z2,rfl⟩)|(go_at_call_of 73 df;refine (Sub.call (uh HZ) (uh N2 _)).mono ?_;rintro r _ ⟨rfl,z2,rfl⟩)|(go_at_call 75;refine (Sub.call (uh HZ) (uh PL _)).mono ?_;rintro r _ ⟨rfl,z2,rfl⟩)|(go_at_call 74;refine (Sub.call (uh HZ) (uh NM _)).mono ?_;rintro r _ ⟨rfl,z2,rfl⟩)|(go_at_call 76;refine (Sub.call (uh HZ) (uh NS _)).mono ?_;rintro r _ ⟨rfl,z2,rfl⟩)|(go_at_call 72;refine (Sub.call (uh HZ) (uh IN _)).mono ?_;rintro r _ ⟨rfl,z2,rfl⟩))
     go_ret
     exact ⟨rfl,uh HB _⟩
    have h159f:(k == 5)=false:=beq_eq_false_iff_ne.2 h159
    by_cases h171:k=6
    ·
     subst h171
     cases nm with
     | true =>
      cases h173:inB n 0 1 with
      | true =>
       by_cases h174:ll=0
       ·
        subst h174
        have V:lnV 6 s 0 true true n 0 true pl nms ins=true:=by simp [lnV,eqE,eqE1, *]
        rw [V]
        clear V
        have E0:=xc 0 (.int .i64 6) rfl
        have E1:=xc 1 (.string s) rfl
        have E2:=xc 2 (.int .i64 0) rfl
        have E3:=xc 3 (.int .i64 sf) rfl
        have E4:=xc 4 (.int .i64 sr) rfl
        have E5:=xc 5 (.int .i64 sk) rfl
        have E6:=xc 6 (.int .i64 sn) rfl
        have E7:=xc 7 (.string ss) rfl
        have E8:=xc 8 (.slice b1 sl c1) rfl
        have E9:=xc 9 (.int .i64 df) rfl
        have E10:=xc 10 (.int .i64 dr) rfl
        have E11:=xc 11 (.int .i64 dk) rfl
        have E12:=xc 12 (.int .i64 dn) rfl
        have E13:=xc 13 (.string ds) rfl
        have E14:=xc 14 (.slice b2 dl c2) rfl
        have E15:=xc 15 (.int .i64 n) rfl
        have E16:=xc 16 (.slice b3 0 c3) rfl
        clear xc
        go_enter Tryz.func22,Tryz.ntmps22
        go_wp2_with (first|(go_at_call 61;refine (in_any _ _ _ _).mono ?_;rintro e w' ⟨rfl,hw'⟩;rw [hw'];clear hw' w')|(go_at_call_of 73 sf;refine (Sub.call (uh HZ) (uh N1 _)).mono ?_;rintro r _ ⟨rfl,z2,rfl⟩)|(go_at_call_of 73 df;refine (Sub.call (uh HZ) (uh N2 _)).mono ?_;rintro r _ ⟨rfl,z2,rfl⟩)|(go_at_call 75;refine (Sub.call (uh HZ) (uh PL _)).mono ?_;rintro r _ ⟨rfl,z2,rfl⟩)|(go_at_call 74;refine (Sub.call (uh HZ) (uh NM _)).mono ?_;rintro r _ ⟨rfl,z2,rfl⟩)|(go_at_call 76;refine (Sub.call (uh HZ) (uh NS _)).mono ?_;rintro r _ ⟨rfl,z2,rfl⟩)|(go_at_call 72;refine (Sub.call (uh HZ) (uh IN _)).mono ?_;rintro r _ ⟨rfl,z2,rfl⟩))
        go_ret
        exact ⟨rfl,uh HB _⟩
       have h174f:(ll == 0)=false:=beq_eq_false_iff_ne.2 h174
       have h174g:((ll:Int) == 0)=false:=beq_eq_false_iff_ne.2 (by omega)
       have V:lnV 6 s 0 true true n ll true pl nms ins=false:=by simp [lnV,eqE,eqE1, *]
       rw [V]
       clear V
       have E0:=xc 0 (.int .i64 6) rfl
       have E1:=xc 1 (.string s) rfl
       have E2:=xc 2 (.int .i64 0) rfl
       have E3:=xc 3 (.int .i64 sf) rfl
       have E4:=xc 4 (.int .i64 sr) rfl
       have E5:=xc 5 (.int .i64 sk) rfl
       have E6:=xc 6 (.int .i64 sn) rfl
       have E7:=xc 7 (.string ss) rfl
       have E8:=xc 8 (.slice b1 sl c1) rfl
       have E9:=xc 9 (.int .i64 df) rfl
       have E10:=xc 10 (.int .i64 dr) rfl
       have E11:=xc 11 (.int .i64 dk) rfl
       have E12:=xc 12 (.int .i64 dn) rfl
       have E13:=xc 13 (.string ds) rfl
       have E14:=xc 14 (.slice b2 dl c2) rfl
       have E15:=xc 15 (.int .i64 n) rfl
       have E16:=xc 16 (.slice b3 ll c3) rfl
       clear xc
       go_enter Tryz.func22,Tryz.ntmps22
       go_wp2_with (first|(go_at_call 61;refine (in_any _ _ _ _).mono ?_;rintro e w' ⟨rfl,hw'⟩;rw [hw'];clear hw' w')|(go_at_call_of 73 sf;refine (Sub.call (uh HZ) (uh N1 _)).mono ?_;rintro r _ ⟨rfl,z2,rfl⟩)|(go_at_call_of 73 df;refine (Sub.call (uh HZ) (uh N2 _)).mono ?_;rintro r _ ⟨rfl,z2,rfl⟩)|(go_at_call 75;refine (Sub.call (uh HZ) (uh PL _)).mono ?_;rintro r _ ⟨rfl,z2,rfl⟩)|(go_at_call 74;refine (Sub.call (uh HZ) (uh NM _)).mono ?_;rintro r _ ⟨rfl,z2,rfl⟩)|(go_at_call 76;refine (Sub.call (uh HZ) (uh NS _)).mono ?_;rintro r _ ⟨rfl,z2,rfl⟩)|(go_at_call 72;refine (Sub.call (uh HZ) (uh IN _)).mono ?_;rintro r _ ⟨rfl,z2,rfl⟩))
       go_ret
       exact ⟨rfl,uh HB _⟩
      | false =>
       have V:lnV 6 s 0 true true n ll true pl nms ins=false:=by simp [lnV,eqE,eqE1, *]
       rw [V]
       clear V
       have E0:=xc 0 (.int .i64 6) rfl
       have E1:=xc 1 (.string s) rfl
       have E2:=xc 2 (.int .i64 0) rfl
       have E3:=xc 3 (.int .i64 sf) rfl
       have E4:=xc 4 (.int .i64 sr) rfl
       have E5:=xc 5 (.int .i64 sk) rfl
       have E6:=xc 6 (.int .i64 sn) rfl
       have E7:=xc 7 (.string ss) rfl
       have E8:=xc 8 (.slice b1 sl c1) rfl
       have E9:=xc 9 (.int .i64 df) rfl
       have E10:=xc 10 (.int .i64 dr) rfl
       have E11:=xc 11 (.int .i64 dk) rfl
       have E12:=xc 12 (.int .i64 dn) rfl
       have E13:=xc 13 (.string ds) rfl
       have E14:=xc 14 (.slice b2 dl c2) rfl
       have E15:=xc 15 (.int .i64 n) rfl
       have E16:=xc 16 (.slice b3 ll c3) rfl
       clear xc
       go_enter Tryz.func22,Tryz.ntmps22
       go_wp2_with (first|(go_at_call 61;refine (in_any _ _ _ _).mono ?_;rintro e w' ⟨rfl,hw'⟩;rw [hw'];clear hw' w')|(go_at_call_of 73 sf;refine (Sub.call (uh HZ) (uh N1 _)).mono ?_;rintro r _ ⟨rfl,z2,rfl⟩)|(go_at_call_of 73 df;refine (Sub.call (uh HZ) (uh N2 _)).mono ?_;rintro r _ ⟨rfl,z2,rfl⟩)|(go_at_call 75;refine (Sub.call (uh HZ) (uh PL _)).mono ?_;rintro r _ ⟨rfl,z2,rfl⟩)|(go_at_call 74;refine (Sub.call (uh HZ) (uh NM _)).mono ?_;rintro r _ ⟨rfl,z2,rfl⟩)|(go_at_call 76;refine (Sub.call (uh HZ) (uh NS _)).mono ?_;rintro r _ ⟨rfl,z2,rfl⟩)|(go_at_call 72;refine (Sub.call (uh HZ) (uh IN _)).mono ?_;rintro r _ ⟨rfl,z2,rfl⟩))
       go_ret
       exact ⟨rfl,uh HB _⟩
     | false =>
      have V:lnV 6 s 0 true true n ll false pl nms ins=false:=by simp [lnV,eqE,eqE1, *]
      rw [V]
      clear V
      have E0:=xc 0 (.int .i64 6) rfl
      have E1:=xc 1 (.string s) rfl
      have E2:=xc 2 (.int .i64 0) rfl
      have E3:=xc 3 (.int .i64 sf) rfl
      have E4:=xc 4 (.int .i64 sr) rfl
      have E5:=xc 5 (.int .i64 sk) rfl
      have E6:=xc 6 (.int .i64 sn) rfl
      have E7:=xc 7 (.string ss) rfl
      have E8:=xc 8 (.slice b1 sl c1) rfl
      have E9:=xc 9 (.int .i64 df) rfl
      have E10:=xc 10 (.int .i64 dr) rfl
      have E11:=xc 11 (.int .i64 dk) rfl
      have E12:=xc 12 (.int .i64 dn) rfl
      have E13:=xc 13 (.string ds) rfl
      have E14:=xc 14 (.slice b2 dl c2) rfl
      have E15:=xc 15 (.int .i64 n) rfl
      have E16:=xc 16 (.slice b3 ll c3) rfl
      clear xc
      go_enter Tryz.func22,Tryz.ntmps22
      go_wp2_with (first|(go_at_call 61;refine (in_any _ _ _ _).mono ?_;rintro e w' ⟨rfl,hw'⟩;rw [hw'];clear hw' w')|(go_at_call_of 73 sf;refine (Sub.call (uh HZ) (uh N1 _)).mono ?_;rintro r _ ⟨rfl,z2,rfl⟩)|(go_at_call_of 73 df;refine (Sub.call (uh HZ) (uh N2 _)).mono ?_;rintro r _ ⟨rfl,z2,rfl⟩)|(go_at_call 75;refine (Sub.call (uh HZ) (uh PL _)).mono ?_;rintro r _ ⟨rfl,z2,rfl⟩)|(go_at_call 74;refine (Sub.call (uh HZ) (uh NM _)).mono ?_;rintro r _ ⟨rfl,z2,rfl⟩)|(go_at_call 76;refine (Sub.call (uh HZ) (uh NS _)).mono ?_;rintro r _ ⟨rfl,z2,rfl⟩)|(go_at_call 72;refine (Sub.call (uh HZ) (uh IN _)).mono ?_;rintro r _ ⟨rfl,z2,rfl⟩))
      go_ret
      exact ⟨rfl,uh HB _⟩
    have h171f:(k == 6)=false:=beq_eq_false_iff_ne.2 h171
    by_cases h183:k=7
    ·
     subst h183
     by_cases h184:s=⟨#[]⟩
     ·
      subst h184
      by_cases h185:n=0
      ·
       subst h185
       have V:lnV 7 ⟨#[]⟩ 0 true true 0 ll nm pl nms ins=nms:=by simp [lnV,eqE,eqE1, *]
       rw [V]
       clear V
       have E0:=xc 0 (.int .i64 7) rfl
       have E1:=xc 1 (.string ⟨#[]⟩) rfl
       have E2:=xc 2 (.int .i64 0) rfl
       have E3:=xc 3 (.int .i64 sf) rfl
       have E4:=xc 4 (.int .i64 sr) rfl
       have E5:=xc 5 (.int .i64 sk) rfl
       have E6:=xc 6 (.int .i64 sn) rfl
       have E7:=xc 7 (.string ss) rfl
       have E8:=xc 8 (.slice b1 sl c1) rfl
       have E9:=xc 9 (.int .i64 df) rfl
       have E10:=xc 10 (.int .i64 dr) rfl
       have E11:=xc 11 (.int .i64 dk) rfl
       have E12:=xc 12 (.int .i64 dn) rfl
       have E13:=xc 13 (.string ds) rfl
       have E14:=xc 14 (.slice b2 dl c2) rfl
       have E15:=xc 15 (.int .i64 0) rfl
       have E16:=xc 16 (.slice b3 ll c3) rfl
       clear xc
       go_enter Tryz.func22,Tryz.ntmps22
       go_wp2_with (first|(go_at_call 61;refine (in_any _ _ _ _).mono ?_;rintro e w' ⟨rfl,hw'⟩;rw [hw'];clear hw' w')|(go_at_call_of 73 sf;refine (Sub.call (uh HZ) (uh N1 _)).mono ?_;rintro r _ ⟨rfl,z2,rfl⟩)|(go_at_call_of 73 df;refine (Sub.call (uh HZ) (uh N2 _)).mono ?_;rintro r _ ⟨rfl,z2,rfl⟩)|(go_at_call 75;refine (Sub.call (uh HZ) (uh PL _)).mono ?_;rintro r _ ⟨rfl,z2,rfl⟩)|(go_at_call 74;refine (Sub.call (uh HZ) (uh NM _)).mono ?_;rintro r _ ⟨rfl,z2,rfl⟩)|(go_at_call 76;refine (Sub.call (uh HZ) (uh NS _)).mono ?_;rintro r _ ⟨rfl,z2,rfl⟩)|(go_at_call 72;refine (Sub.call (uh HZ) (uh IN _)).mono ?_;rintro r _ ⟨rfl,z2,rfl⟩))
       go_ret
       exact ⟨rfl,uh HB _⟩
      have h185f:(n == 0)=false:=beq_eq_false_iff_ne.2 h185
      have V:lnV 7 ⟨#[]⟩ 0 true true n ll nm pl nms ins=false:=by simp [lnV,eqE,eqE1, *]
      rw [V]
      clear V
      have E0:=xc 0 (.int .i64 7) rfl
      have E1:=xc 1 (.string ⟨#[]⟩) rfl
      have E2:=xc 2 (.int .i64 0) rfl
      have E3:=xc 3 (.int .i64 sf) rfl
      have E4:=xc 4 (.int .i64 sr) rfl
      have E5:=xc 5 (.int .i64 sk) rfl
      have E6:=xc 6 (.int .i64 sn) rfl
      have E7:=xc 7 (.string ss) rfl
      have E8:=xc 8 (.slice b1 sl c1) rfl
      have E9:=xc 9 (.int .i64 df) rfl
      have E10:=xc 10 (.int .i64 dr) rfl
      have E11:=xc 11 (.int .i64 dk) rfl
      have E12:=xc 12 (.int .i64 dn) rfl
      have E13:=xc 13 (.string ds) rfl
      have E14:=xc 14 (.slice b2 dl c2) rfl
      have E15:=xc 15 (.int .i64 n) rfl
      have E16:=xc 16 (.slice b3 ll c3) rfl
      clear xc
      go_enter Tryz.func22,Tryz.ntmps22
      go_wp2_with (first|(go_at_call 61;refine (in_any _ _ _ _).mono ?_;rintro e w' ⟨rfl,hw'⟩;rw [hw'];clear hw' w')|(go_at_call_of 73 sf;refine (Sub.call (uh HZ) (uh N1 _)).mono ?_;rintro r _ ⟨rfl,z2,rfl⟩)|(go_at_call_of 73 df;refine (Sub.call (uh HZ) (uh N2 _)).mono ?_;rintro r _ ⟨rfl,z2,rfl⟩)|(go_at_call 75;refine (Sub.call (uh HZ) (uh PL _)).mono ?_;rintro r _ ⟨rfl,z2,rfl⟩)|(go_at_call 74;refine (Sub.call (uh HZ) (uh NM _)).mono ?_;rintro r _ ⟨rfl,z2,rfl⟩)|(go_at_call 76;refine (Sub.call (uh HZ) (uh NS _)).mono ?_;rintro r _ ⟨rfl,z2,rfl⟩)|(go_at_call 72;refine (Sub.call (uh HZ) (uh IN _)).mono ?_;rintro r _ ⟨rfl,z2,rfl⟩))
      go_ret
      exact ⟨rfl,uh HB _⟩
     obtain ⟨h184a,h184b⟩:=emp_E s h184
     have V:lnV 7 s 0 true true n ll nm pl nms ins=false:=by simp [lnV,eqE,eqE1, *]
     rw [V]
     clear V
     have E0:=xc 0 (.int .i64 7) rfl
     have E1:=xc 1 (.string s) rfl
     have E2:=xc 2 (.int .i64 0) rfl
     have E3:=xc 3 (.int .i64 sf) rfl
     have E4:=xc 4 (.int .i64 sr) rfl
     have E5:=xc 5 (.int .i64 sk) rfl
     have E6:=xc 6 (.int .i64 sn) rfl
     have E7:=xc 7 (.string ss) rfl
     have E8:=xc 8 (.slice b1 sl c1) rfl
     have E9:=xc 9 (.int .i64 df) rfl
     have E10:=xc 10 (.int .i64 dr) rfl
     have E11:=xc 11 (.int .i64 dk) rfl
     have E12:=xc 12 (.int .i64 dn) rfl
     have E13:=xc 13 (.string ds) rfl
     have E14:=xc 14 (.slice b2 dl c2) rfl
     have E15:=xc 15 (.int .i64 n) rfl
     have E16:=xc 16 (.slice b3 ll c3) rfl
     clear xc
     go_enter Tryz.func22,Tryz.ntmps22
     go_wp2_with (first|(go_at_call 61;refine (in_any _ _ _ _).mono ?_;rintro e w' ⟨rfl,hw'⟩;rw [hw'];clear hw' w')|(go_at_call_of 73 sf;refine (Sub.call (uh HZ) (uh N1 _)).mono ?_;rintro r _ ⟨rfl,z2,rfl⟩)|(go_at_call_of 73 df;refine (Sub.call (uh HZ) (uh N2 _)).mono ?_;rintro r _ ⟨rfl,z2,rfl⟩)|(go_at_call 75;refine (Sub.call (uh HZ) (uh PL _)).mono ?_;rintro r _ ⟨rfl,z2,rfl⟩)|(go_at_call 74;refine (Sub.call (uh HZ) (uh NM _)).mono ?_;rintro r _ ⟨rfl,z2,rfl⟩)|(go_at_call 76;refine (Sub.call (uh HZ) (uh NS _)).mono ?_;rintro r _ ⟨rfl,z2,rfl⟩)|(go_at_call 72;refine (Sub.call (uh HZ) (uh IN _)).mono ?_;rintro r _ ⟨rfl,z2,rfl⟩))
     go_ret
     exact ⟨rfl,uh HB _⟩
    have h183f:(k == 7)=false:=beq_eq_false_iff_ne.2 h183
    have V:lnV k s 0 true true n ll nm pl nms ins=false:=by simp [lnV,eqE,eqE1, *]
    rw [V]
    clear V
    have E0:=xc 0 (.int .i64 k) rfl
    have E1:=xc 1 (.string s) rfl
    have E2:=xc 2 (.int .i64 0) rfl
    have E3:=xc 3 (.int .i64 sf) rfl
    have E4:=xc 4 (.int .i64 sr) rfl
    have E5:=xc 5 (.int .i64 sk) rfl
    have E6:=xc 6 (.int .i64 sn) rfl
    have E7:=xc 7 (.string ss) rfl
    have E8:=xc 8 (.slice b1 sl c1) rfl
    have E9:=xc 9 (.int .i64 df) rfl
    have E10:=xc 10 (.int .i64 dr) rfl
    have E11:=xc 11 (.int .i64 dk) rfl
    have E12:=xc 12 (.int .i64 dn) rfl
    have E13:=xc 13 (.string ds) rfl
    have E14:=xc 14 (.slice b2 dl c2) rfl
    have E15:=xc 15 (.int .i64 n) rfl
    have E16:=xc 16 (.slice b3 ll c3) rfl
    clear xc
    go_enter Tryz.func22,Tryz.ntmps22
    go_wp2_with (first|(go_at_call 61;refine (in_any _ _ _ _).mono ?_;rintro e w' ⟨rfl,hw'⟩;rw [hw'];clear hw' w')|(go_at_call_of 73 sf;refine (Sub.call (uh HZ) (uh N1 _)).mono ?_;rintro r _ ⟨rfl,z2,rfl⟩)|(go_at_call_of 73 df;refine (Sub.call (uh HZ) (uh N2 _)).mono ?_;rintro r _ ⟨rfl,z2,rfl⟩)|(go_at_call 75;refine (Sub.call (uh HZ) (uh PL _)).mono ?_;rintro r _ ⟨rfl,z2,rfl⟩)|(go_at_call 74;refine (Sub.call (uh HZ) (uh NM _)).mono ?_;rintro r _ ⟨rfl,z2,rfl⟩)|(go_at_call 76;refine (Sub.call (uh HZ) (uh NS _)).mono ?_;rintro r _ ⟨rfl,z2,rfl⟩)|(go_at_call 72;refine (Sub.call (uh HZ) (uh IN _)).mono ?_;rintro r _ ⟨rfl,z2,rfl⟩))
    go_ret
    exact ⟨rfl,uh HB _⟩
   | false =>
    have V:lnV k s 0 true false n ll nm pl nms ins=false:=by simp [lnV,eqE,eqE1, *]
    rw [V]
    clear V
    have E0:=xc 0 (.int .i64 k) rfl
    have E1:=xc 1 (.string s) rfl
    have E2:=xc 2 (.int .i64 0) rfl
    have E3:=xc 3 (.int .i64 sf) rfl
    have E4:=xc 4 (.int .i64 sr) rfl
    have E5:=xc 5 (.int .i64 sk) rfl
    have E6:=xc 6 (.int .i64 sn) rfl
    have E7:=xc 7 (.string ss) rfl
    have E8:=xc 8 (.slice b1 sl c1) rfl
    have E9:=xc 9 (.int .i64 df) rfl
    have E10:=xc 10 (.int .i64 dr) rfl
    have E11:=xc 11 (.int .i64 dk) rfl
    have E12:=xc 12 (.int .i64 dn) rfl
    have E13:=xc 13 (.string ds) rfl
    have E14:=xc 14 (.slice b2 dl c2) rfl
    have E15:=xc 15 (.int .i64 n) rfl
    have E16:=xc 16 (.slice b3 ll c3) rfl
    clear xc
    go_enter Tryz.func22,Tryz.ntmps22
    go_wp2_with (first|(go_at_call 61;refine (in_any _ _ _ _).mono ?_;rintro e w' ⟨rfl,hw'⟩;rw [hw'];clear hw' w')|(go_at_call_of 73 sf;refine (Sub.call (uh HZ) (uh N1 _)).mono ?_;rintro r _ ⟨rfl,z2,rfl⟩)|(go_at_call_of 73 df;refine (Sub.call (uh HZ) (uh N2 _)).mono ?_;rintro r _ ⟨rfl,z2,rfl⟩)|(go_at_call 75;refine (Sub.call (uh HZ) (uh PL _)).mono ?_;rintro r _ ⟨rfl,z2,rfl⟩)|(go_at_call 74;refine (Sub.call (uh HZ) (uh NM _)).mono ?_;rintro r _ ⟨rfl,z2,rfl⟩)|(go_at_call 76;refine (Sub.call (uh HZ) (uh NS _)).mono ?_;rintro r _ ⟨rfl,z2,rfl⟩)|(go_at_call 72;refine (Sub.call (uh HZ) (uh IN _)).mono ?_;rintro r _ ⟨rfl,z2,rfl⟩))
    go_ret
    exact ⟨rfl,uh HB _⟩
  | false =>
   have V:lnV k s 0 false n2 n ll nm pl nms ins=false:=by simp [lnV,eqE,eqE1, *]
   rw [V]
   clear V
   have E0:=xc 0 (.int .i64 k) rfl
   have E1:=xc 1 (.string s) rfl
   have E2:=xc 2 (.int .i64 0) rfl
   have E3:=xc 3 (.int .i64 sf) rfl
   have E4:=xc 4 (.int .i64 sr) rfl
   have E5:=xc 5 (.int .i64 sk) rfl
   have E6:=xc 6 (.int .i64 sn) rfl
   have E7:=xc 7 (.string ss) rfl
   have E8:=xc 8 (.slice b1 sl c1) rfl
   have E9:=xc 9 (.int .i64 df) rfl
   have E10:=xc 10 (.int .i64 dr) rfl
   have E11:=xc 11 (.int .i64 dk) rfl
   have E12:=xc 12 (.int .i64 dn) rfl
   have E13:=xc 13 (.string ds) rfl
   have E14:=xc 14 (.slice b2 dl c2) rfl
   have E15:=xc 15 (.int .i64 n) rfl
   have E16:=xc 16 (.slice b3 ll c3) rfl
   clear xc
   go_enter Tryz.func22,Tryz.ntmps22
   go_wp2_with (first|(go_at_call 61;refine (in_any _ _ _ _).mono ?_;rintro e w' ⟨rfl,hw'⟩;rw [hw'];clear hw' w')|(go_at_call_of 73 sf;refine (Sub.call (uh HZ) (uh N1 _)).mono ?_;rintro r _ ⟨rfl,z2,rfl⟩)|(go_at_call_of 73 df;refine (Sub.call (uh HZ) (uh N2 _)).mono ?_;rintro r _ ⟨rfl,z2,rfl⟩)|(go_at_call 75;refine (Sub.call (uh HZ) (uh PL _)).mono ?_;rintro r _ ⟨rfl,z2,rfl⟩)|(go_at_call 74;refine (Sub.call (uh HZ) (uh NM _)).mono ?_;rintro r _ ⟨rfl,z2,rfl⟩)|(go_at_call 76;refine (Sub.call (uh HZ) (uh NS _)).mono ?_;rintro r _ ⟨rfl,z2,rfl⟩)|(go_at_call 72;refine (Sub.call (uh HZ) (uh IN _)).mono ?_;rintro r _ ⟨rfl,z2,rfl⟩))
   go_ret
   exact ⟨rfl,uh HB _⟩
 have h96f:(op == 0)=false:=beq_eq_false_iff_ne.2 h96
 have V:lnV k s op n1 n2 n ll nm pl nms ins=false:=by simp [lnV,eqE,eqE1, *]
 rw [V]
 clear V
 have E0:=xc 0 (.int .i64 k) rfl
 have E1:=xc 1 (.string s) rfl
 have E2:=xc 2 (.int .i64 op) rfl
 have E3:=xc 3 (.int .i64 sf) rfl
 have E4:=xc 4 (.int .i64 sr) rfl
 have E5:=xc 5 (.int .i64 sk) rfl
 have E6:=xc 6 (.int .i64 sn) rfl
 have E7:=xc 7 (.string ss) rfl
 have E8:=xc 8 (.slice b1 sl c1) rfl
 have E9:=xc 9 (.int .i64 df) rfl
 have E10:=xc 10 (.int .i64 dr) rfl
 have E11:=xc 11 (.int .i64 dk) rfl
 have E12:=xc 12 (.int .i64 dn) rfl
 have E13:=xc 13 (.string ds) rfl
 have E14:=xc 14 (.slice b2 dl c2) rfl
 have E15:=xc 15 (.int .i64 n) rfl
 have E16:=xc 16 (.slice b3 ll c3) rfl
 clear xc
 go_enter Tryz.func22,Tryz.ntmps22
 go_wp2_with (first|(go_at_call 61;refine (in_any _ _ _ _).mono ?_;rintro e w' ⟨rfl,hw'⟩;rw [hw'];clear hw' w')|(go_at_call_of 73 sf;refine (Sub.call (uh HZ) (uh N1 _)).mono ?_;rintro r _ ⟨rfl,z2,rfl⟩)|(go_at_call_of 73 df;refine (Sub.call (uh HZ) (uh N2 _)).mono ?_;rintro r _ ⟨rfl,z2,rfl⟩)|(go_at_call 75;refine (Sub.call (uh HZ) (uh PL _)).mono ?_;rintro r _ ⟨rfl,z2,rfl⟩)|(go_at_call 74;refine (Sub.call (uh HZ) (uh NM _)).mono ?_;rintro r _ ⟨rfl,z2,rfl⟩)|(go_at_call 76;refine (Sub.call (uh HZ) (uh NS _)).mono ?_;rintro r _ ⟨rfl,z2,rfl⟩)|(go_at_call 72;refine (Sub.call (uh HZ) (uh IN _)).mono ?_;rintro r _ ⟨rfl,z2,rfl⟩))
 go_ret
 exact ⟨rfl,uh HB _⟩
theorem toks_ne {d:Nat} {e:Ex} (h:okF d true e=true):toksF d e≠[]:=by
 cases d with
 | zero => cases h
 | succ d =>
  rcases plain_cases h with ⟨n,hn,rfl⟩|⟨s,hs,rfl⟩|rfl|⟨a,ha,rfl⟩|⟨k,a,b,hk,ha,hb,rfl⟩
  · rw [toks_num];simp
  · rw [toks_sym];simp
  · rw [toks_here];simp
  · rw [toks_neg];simp
  · rw [toks_two d hk];simp
section
section
variable {ops:Array Oper} {rest:List Oper} {o:Oper} {a:Act} {Q:Exit→Act→World→Prop} {w w0:World} {B B2:Nat} {K:Act→World→Prop}
end
def kpT (k:Nat):Tk:=⟨5,0,keptL.getD k E0⟩
def rgT (n:Nat):Tk:=kpT (23+n)
def rnT (n:Nat):List Tk:=[mkT 40,rgT n,mkT 41]
theorem keptL_len:keptL.length=31:=by decide
end
def agT (a:Ag):List Tk :=
 if a.f=0 then [rgT a.r.toNat] else if a.f=1 then rnT a.r.toNat else if a.f=2 then rnT a.r.toNat++[mkT 43] else if a.f=3 then mkT 64::(rnT a.r.toNat++[mkT 43])
 else if a.f=4 then mkT 45::rnT a.r.toNat else if a.f=5 then mkT 64::mkT 45::rnT a.r.toNat else if a.f=6 then toksF 6 a.e++rnT a.r.toNat else if a.f=7 then mkT 64::(toksF 6 a.e++rnT a.r.toNat)
 else if a.f=8 then mkT 35::toksF 6 a.e else if a.f=9 then mkT 64::mkT 35::toksF 6 a.e else if a.f=10 then toksF 6 a.e else mkT 64::toksF 6 a.e
theorem inB_of {x a b:Int} (h:inB x a b=true):a≤x∧x≤b:=by
 unfold inB at h
 simpa using h
theorem agX_e {a:Ag} (ok:agX a=true) (h:6≤a.f):okF 6 true a.e=true:=by
 unfold agX at ok
 by_cases h1:inB a.f 0 5=true
 · have:=inB_of h1;omega
 rw [if_neg h1] at ok
 by_cases h2:(a.f == 6 || a.f == 7)=true
 · rw [if_pos h2] at ok;exact (Bool.and_eq_true_iff.1 ok).2
 rw [if_neg h2] at ok
 by_cases h3:inB a.f 8 11=true
 · rw [if_pos h3] at ok;exact (Bool.and_eq_true_iff.1 ok).2
 rw [if_neg h3] at ok
 cases ok
theorem agX_f {a:Ag} (ok:agX a=true):0≤a.f∧a.f≤11:=by
 unfold agX at ok
 by_cases h1:inB a.f 0 5=true
 · have:=inB_of h1;omega
 rw [if_neg h1] at ok
 by_cases h2:(a.f == 6 || a.f == 7)=true
 ·
  have:a.f=6∨a.f=7:=by simpa using h2
  omega
 rw [if_neg h2] at ok
 by_cases h3:inB a.f 8 11=true
 · have:=inB_of h3;omega
 rw [if_neg h3] at ok
 cases ok
def cmT:List Ex→List Tk
 | [] => []
 | e :: r => toksF 6 e ++ (r.map fun x => mkT 44 :: toksF 6 x).flatten
structure Env (w:World):Prop where
 tab:TabK w
 db:w.cell? ⟨11,7,none⟩=some (.int .u8 3)
 es:∃ t p,w.cell? ⟨8,0,none⟩=some (.iface t p)
 er:∃ t p,w.cell? ⟨9,0,none⟩=some (.iface t p)
theorem Env.later {w w':World} (h:Env w) (hb:Below w.heap.size w w'):Env w':=by
 obtain ⟨h1,h2,⟨t,p,h3⟩,⟨t',p',h4⟩⟩:=h
 exact ⟨h1.next hb,(hb.cell (p:=⟨11,7,none⟩) (World.block_lt_of_cell? w _ h2)).trans h2,⟨t,p,(hb.cell (p:=⟨8,0,none⟩) (World.block_lt_of_cell? w _ h3)).trans h3⟩,⟨t',p',(hb.cell (p:=⟨9,0,none⟩) (World.block_lt_of_cell? w _ h4)).trans h4⟩⟩
theorem cloneI_any (s:ByteArray) (w:World) (hlim:s.size≤1099511627776):Calls Tryz.prog 71 #[.string s] w fun e w'=>e = .returned (.string s)∧Below w.heap.size w w':=by
 have H:=hide (clone_any s w (by omega))
 go_enter Tryz.func71,Tryz.ntmps71
 go_wp2_with fail
 refine (uh H).mono ?_
 rintro e w1 ⟨rfl,hb1⟩
 go_wp2
 go_ret
 exact ⟨rfl,hb1⟩
theorem wordI_any (x:ByteArray) (w:World) (ht:TabK w):Calls Tryz.prog 68 #[.string x] w fun e w'=>e = .returned (wordT x).v∧Below w.heap.size w w':=by
 have WT:=hide (wordT_v x)
 have B0:=hide (below_new w (.cells T0c 71))
 have R0:=hide (heap_alloc_new w (.cells T0c 71))
 have HK:=hide (keptI_any x (w.alloc (.cells T0c 71)) (ht.next (uh B0)))
 unfold T0c at B0 R0 HK
 generalize keptB x=q at *
 clear ht
 cases q
 ·
  have W1:=hide ((uh WT).2 rfl)
  rw [uh W1]
  unfold Tk.v Tk.cs
  simp only
  clear WT
  go_enter Tryz.func68,Tryz.ntmps68
  go_wp2_with (first|(go_at_call 128;refine (uh HK).mono ?_;rintro e w' ⟨rfl,hw'⟩;rw [hw'];clear hw' w')|(refine wpList_store_row rfl 71 _ _ rfl w.heap.size #[.int .i64 1,.int .i64 0,.string x] rfl rfl 71 _ (uh R0) szK rfl (tk_one _ _ _) ?_))
  refine bodyPost_ret (results_cell_row (P:=Tryz.prog) rfl _ _ w.heap.size 71 #[.int .i64 1,.int .i64 0,.string x] (0,0) _ rfl (setRow_heap _ _ _ _ _ _ (uh R0)) Tryz.underlying71 rfl szK) rfl ?_
  exact ⟨rfl,below_row (uh B0)⟩
 ·
  have W1:=hide ((uh WT).1 rfl)
  rw [uh W1]
  unfold Tk.v Tk.cs
  simp only
  clear WT
  go_enter Tryz.func68,Tryz.ntmps68
  go_wp2_with (first|(go_at_call 128;refine (uh HK).mono ?_;rintro e w' ⟨rfl,hw'⟩;rw [hw'];clear hw' w')|(refine wpList_store_row rfl 71 _ _ rfl w.heap.size #[.int .i64 5,.int .i64 0,.string x] rfl rfl 71 _ (uh R0) szK rfl (tk_one _ _ _) ?_))
  refine bodyPost_ret (results_cell_row (P:=Tryz.prog) rfl _ _ w.heap.size 71 #[.int .i64 5,.int .i64 0,.string x] (0,0) _ rfl (setRow_heap _ _ _ _ _ _ (uh R0)) Tryz.underlying71 rfl szK) rfl ?_
  exact ⟨rfl,below_row (uh B0)⟩
theorem num_dec (x:ByteArray):(∃ m,m<65536∧x=strOf (octD m))∨∀ m,m<65536→x≠strOf (octD m):=by
 cases h:numV x with
 | some m => exact .inl ⟨m, numV_bd h⟩
 | none => exact .inr fun m hm e => by rw [numV_yes hm e] at h; cases h
theorem numI_any (x:ByteArray) (w:World) (hx:x.size≤1099511627776) (he:Env w):Calls Tryz.prog 69 #[.string x] w fun e w'=>e = .returned (numT badI x).v∧Below w.heap.size w w':=by
 have B0:=hide (below_new w (.cells T0c 71))
 have R0:=hide (heap_alloc_new w (.cells T0c 71))
 have Z0:=hide (show w.heap.size≤(w.alloc (.cells T0c 71)).heap.size by simp)
 obtain ⟨_,db,⟨t1,p1,e1⟩,⟨t2,p2,e2⟩⟩:=he.later (uh B0)
 rcases num_dec x with ⟨m,hm,hxm⟩|hno
 ·
  have PO:=hide (poI_yes m hm t1 t2 p1 p2 _ e1 e2 db)
  have ET:=hide (numT_some (bad:=badI) hm hxm)
  rw [←hxm] at PO
  unfold T0c at B0 R0 Z0 PO
  generalize numT badI x=T at *
  clear hxm e1 e2 db
  go_enter Tryz.func69,Tryz.ntmps69
  go_wp2_with fail
  generalize w.alloc (Obj.cells #[.int .i64 0,.int .i64 0,.string ⟨#[]⟩] 71)=W at *
  refine (uh PO).mono ?_
  rintro e w1 ⟨rfl,hb1⟩
  have R1:=hide ((hb1.block _ (Array.getElem?_eq_some_iff.1 (uh R0)).1).trans (uh R0))
  have B1:=hide ((uh B0).trans (hb1.mono (uh Z0)))
  clear hb1 PO R0
  go_wp2_with (first|(refine wpList_store_row rfl 71 _ _ rfl w.heap.size #[.int .i64 2,.int .i64 m,.string ⟨#[]⟩] rfl rfl 71 _ (uh R1) szK rfl (tk_one _ _ _) ?_))
  refine bodyPost_ret (results_cell_row (P:=Tryz.prog) rfl _ _ w.heap.size 71 #[.int .i64 2,.int .i64 m,.string ⟨#[]⟩] (0,0) _ rfl (setRow_heap _ _ _ _ _ _ (uh R1)) Tryz.underlying71 rfl szK) rfl ?_
  exact ⟨by rw [uh ET];rfl,below_row (uh B1)⟩
 ·
  have PO:=hide (poI_no x hno hx t1 t2 p1 p2 _ e1 e2 db)
  have ET:=hide (numT_none (bad:=badI) hno)
  unfold T0c at B0 R0 Z0 PO
  generalize numT badI x=T at *
  clear hno e1 e2 db
  go_enter Tryz.func69,Tryz.ntmps69
  go_wp2_with fail
  generalize w.alloc (Obj.cells #[.int .i64 0,.int .i64 0,.string ⟨#[]⟩] 71)=W at *
  refine (uh PO).mono ?_
  rintro e w1 ⟨rfl,hb1⟩
  have R1:=hide ((hb1.block _ (Array.getElem?_eq_some_iff.1 (uh R0)).1).trans (uh R0))
  have B1:=hide ((uh B0).trans (hb1.mono (uh Z0)))
  clear hb1 PO R0
  go_wp2_with (first|(refine wpList_store_row rfl 71 _ _ rfl w.heap.size #[.int .i64 0,.int .i64 0,.string ⟨#[]⟩] rfl rfl 71 _ (uh R1) szK rfl (tk_one _ _ _) ?_))
  refine bodyPost_ret (results_cell_row (P:=Tryz.prog) rfl _ _ w.heap.size 71 #[.int .i64 0,.int .i64 0,.string ⟨#[]⟩] (0,0) _ rfl (setRow_heap _ _ _ _ _ _ (uh R1)) Tryz.underlying71 rfl szK) rfl ?_
  exact ⟨by rw [uh ET];rfl,below_row (uh B1)⟩
def pairT (k:Int):TypeId:=if k=5 then 228 else if k=6 then 229 else if k=7 then 230 else if k=8 then 231 else if k=9 then 232 else 233
def tvC (k n:Int) (s:ByteArray) (vs:List Value):Value :=
 if k=1 then .iface 182 (.agg #[.int .i64 n]) else if k=2 then .iface 184 (.agg #[.string s]) else if k=3 then .iface 186 (.agg #[])
 else if k=4 then .iface 188 (.agg vs.toArray) else if k=11 then .iface 234 (.agg #[.int .i64 n]) else if k=12 then .iface 235 (.agg #[.string s]) else .iface (pairT k) (.agg vs.toArray)
def tv:Ex→Value
 | ⟨k, n, s, l⟩ => tvC k n s (l.map tv)
theorem tv_num (n:Int) (s:ByteArray):tv ⟨1,n,s,[]⟩ = .iface 182 (.agg #[.int .i64 n]):=by rw [tv];rfl
theorem tv_sym (n:Int) (s:ByteArray):tv ⟨2,n,s,[]⟩ = .iface 184 (.agg #[.string s]):=by rw [tv];rfl
theorem tv_here (n:Int) (s:ByteArray):tv ⟨3,n,s,[]⟩ = .iface 186 (.agg #[]):=by rw [tv];rfl
theorem tv_neg (n:Int) (s:ByteArray) (a:Ex):tv ⟨4,n,s,[a]⟩ = .iface 188 (.agg #[tv a]):=by rw [tv];rfl
theorem tv_sect (n:Int) (s:ByteArray):tv ⟨11,n,s,[]⟩ = .iface 234 (.agg #[.int .i64 n]):=by rw [tv];rfl
theorem tv_glob (n:Int) (s:ByteArray):tv ⟨12,n,s,[]⟩ = .iface 235 (.agg #[.string s]):=by rw [tv];rfl
theorem tv_two {k:Int} (hk:5≤k∧k≤10) (n:Int) (s:ByteArray) (a b:Ex):tv ⟨k,n,s,[a,b]⟩ = .iface (pairT k) (.agg #[tv a,tv b]):=by
 rw [tv]
 unfold tvC
 rw [if_neg (by omega),if_neg (by omega),if_neg (by omega),if_neg (by omega),if_neg (by omega),if_neg (by omega)]
 rfl
def IfV (v:Value):Prop:=v = .nilIface∨∃ t x,v = .iface t x
theorem IfV.of {v:Value} {p:Prop} (h:v = .nilIface∨∃ t x,v = .iface t x) (hp:p):IfV v∧p:=⟨h,hp⟩
theorem pair_any (k:Int) (u v:Value) (w:World):Calls Tryz.prog 210 #[.int .i64 k,.agg #[u,v]] w fun r w'=>∃ x,r = .returned (.tuple #[x,.bool (inB k 5 10)])∧(IfV x∧(inB k 5 10=true→x = .iface (pairT k) (.agg #[u,v])))∧Below w.heap.size w w':=by
 have B0:=hide (below_new w (.cells #[u,v] 226))
 by_cases h5:k=5
 ·
  subst h5
  rw [show inB 5 5 10=true by decide]
  go_enter Tryz.func210,Tryz.ntmps210
  go_wp2
  go_ret2
  exact ⟨_,rfl,IfV.of (.inr ⟨_,_,rfl⟩) (fun _=>rfl),uh B0⟩
 by_cases h6:k=6
 ·
  subst h6
  rw [show inB 6 5 10=true by decide]
  go_enter Tryz.func210,Tryz.ntmps210
  go_wp2
  go_ret2
  exact ⟨_,rfl,IfV.of (.inr ⟨_,_,rfl⟩) (fun _=>rfl),uh B0⟩
 by_cases h7:k=7
 ·
  subst h7
  rw [show inB 7 5 10=true by decide]
  go_enter Tryz.func210,Tryz.ntmps210
  go_wp2
  go_ret2
  exact ⟨_,rfl,IfV.of (.inr ⟨_,_,rfl⟩) (fun _=>rfl),uh B0⟩
 by_cases h8:k=8
 ·
  subst h8
  rw [show inB 8 5 10=true by decide]
  go_enter Tryz.func210,Tryz.ntmps210
  go_wp2
  go_ret2
  exact ⟨_,rfl,IfV.of (.inr ⟨_,_,rfl⟩) (fun _=>rfl),uh B0⟩
 by_cases h9:k=9
 ·
  subst h9
  rw [show inB 9 5 10=true by decide]
  go_enter Tryz.func210,Tryz.ntmps210
  go_wp2
  go_ret2
  exact ⟨_,rfl,IfV.of (.inr ⟨_,_,rfl⟩) (fun _=>rfl),uh B0⟩
 by_cases h10:k=10
 ·
  subst h10
  rw [show inB 10 5 10=true by decide]
  go_enter Tryz.func210,Tryz.ntmps210
  go_wp2
  go_ret2
  exact ⟨_,rfl,IfV.of (.inr ⟨_,_,rfl⟩) (fun _=>rfl),uh B0⟩
 have g5:(k == 5)=false:=beq_eq_false_iff_ne.2 h5
 have g6:(k == 6)=false:=beq_eq_false_iff_ne.2 h6
 have g7:(k == 7)=false:=beq_eq_false_iff_ne.2 h7
 have g8:(k == 8)=false:=beq_eq_false_iff_ne.2 h8
 have g9:(k == 9)=false:=beq_eq_false_iff_ne.2 h9
 have g10:(k == 10)=false:=beq_eq_false_iff_ne.2 h10
 rw [show inB k 5 10=false by unfold inB;simp;omega]
 go_enter Tryz.func210,Tryz.ntmps210
 go_wp2
 go_ret2
 exact ⟨_,rfl,IfV.of (.inl rfl) (fun h=>by cases h),uh B0⟩
theorem here_one (k:Int):hereV k 0 ⟨#[]⟩ 1=(k == 4):=by
 unfold hereV Ex.here
 simp only [List.length_replicate,eqE1]
 by_cases h1:k=1
 · subst h1;rfl
 by_cases h2:k=2
 · subst h2;simp
 by_cases h12:k=12
 · subst h12;simp
 by_cases h11:k=11
 · subst h11;simp
 by_cases h3:k=3
 · subst h3;rfl
 by_cases h4:k=4
 · subst h4;rfl
 rw [if_neg (by simp),if_neg h1,if_neg (by omega),if_neg h3,if_neg h4,show (k == 4)=false from beq_eq_false_iff_ne.2 h4]
 split
 · rfl
 · rfl
theorem here_two (k:Int):hereV k 0 ⟨#[]⟩ 2=inB k 5 10:=by
 unfold hereV Ex.here
 simp only [List.length_replicate,eqE1]
 by_cases h1:k=1
 · subst h1;rfl
 by_cases h2:k=2
 · subst h2;simp [inB]
 by_cases h12:k=12
 · subst h12;simp [inB]
 by_cases h11:k=11
 · subst h11;simp [inB]
 by_cases h3:k=3
 · subst h3;rfl
 by_cases h4:k=4
 · subst h4;rfl
 rw [if_neg (by simp),if_neg h1,if_neg (by omega),if_neg h3,if_neg h4]
 split
 · rename_i h;rw [inB_t _ _ _ h.1 h.2];rfl
 · rename_i h;rw [inB_f _ _ _ h]
theorem here_more (k n:Int) (s:ByteArray) (ll:Nat) (h:3≤ll):hereV k n s ll=false:=by
 have e0:(ll == 0)=false:=beq_eq_false_iff_ne.2 (by omega)
 have e1:(ll == 1)=false:=beq_eq_false_iff_ne.2 (by omega)
 have e2:(ll == 2)=false:=beq_eq_false_iff_ne.2 (by omega)
 unfold hereV Ex.here
 simp only [List.length_replicate,e0,e1,e2,Bool.and_false]
 repeat' split
 all_goals rfl
theorem hereV_n (k n:Int) (s:ByteArray) (ll:Nat) (h:1≤ll) (hn:n≠0):hereV k n s ll=false:=by
 have e0:(ll == 0)=false:=beq_eq_false_iff_ne.2 (by omega)
 have en:(n != 0)=true:=by simp [hn]
 unfold hereV Ex.here
 simp only [List.length_replicate,e0,Bool.and_false,en,Bool.and_true]
 by_cases h1:k=1
 ·
  subst h1;repeat' split
  all_goals first|rfl|omega
 by_cases h11:k=11
 ·
  subst h11;repeat' split
  all_goals first|rfl|omega
 rw [if_pos (by simp [h1,h11])]
theorem hereV_s (k n:Int) (s:ByteArray) (ll:Nat) (h:1≤ll) (hs:s≠E0):hereV k n s ll=false:=by
 have e0:(ll == 0)=false:=beq_eq_false_iff_ne.2 (by omega)
 have es:=(emp_E s hs).2
 unfold hereV Ex.here
 simp only [List.length_replicate,e0,Bool.and_false,es,Bool.not_false,Bool.and_true]
 by_cases h1:k=2
 ·
  subst h1;repeat' split
  all_goals first|rfl|omega
 by_cases h11:k=12
 ·
  subst h11;repeat' split
  all_goals first|rfl|omega
 rw [if_pos (by simp [h1,h11])]
theorem okf_v (d:Nat) (k n:Int) (s:ByteArray) (l:List Ex):okF (d+1) false ⟨k,n,s,l⟩=(hereV k n s l.length&&l.all (okF d false)):=by
 rw [okF_s,here_is]
 rfl
theorem tv_if (e:Ex):∃ t x,tv e = .iface t x:=by
 obtain ⟨k,n,s,l⟩:=e
 rw [tv]
 unfold tvC
 repeat' split
 all_goals exact ⟨_,_,rfl⟩
theorem ok_cases {d:Nat} {e:Ex} (h:okF (d+1) false e=true):(∃ n:Int,(0≤n∧n≤65535)∧e=⟨1,n,E0,[]⟩)∨(∃ s,nameB s=true∧e=⟨2,0,s,[]⟩)∨e=⟨3,0,E0,[]⟩∨(∃ a,okF d false a=true∧e=⟨4,0,E0,[a]⟩)∨(∃ k a b,(5≤k∧k≤10)∧okF d false a=true∧okF d false b=true∧e=⟨k,0,E0,[a,b]⟩)∨(∃ n:Int,(0≤n∧n≤9)∧e=⟨11,n,E0,[]⟩)∨(∃ s,nameB s=true∧e=⟨12,0,s,[]⟩):=by
 obtain ⟨k,n,s,l⟩:=e
 rw [okf_v,Bool.and_eq_true] at h
 obtain ⟨h1,h2⟩:=h
 match l,h1,h2 with
 | [], h1, _ =>
  have hn:k≠1→k≠11→n=0:=fun g1 g2=>Classical.byContradiction fun hn=>by
   unfold hereV Ex.here at h1
   rw [if_pos (by simp [g1,g2,hn])] at h1
   cases h1
  have hs:k≠2→k≠12→s=E0:=fun g1 g2=>Classical.byContradiction fun hn=>by
   have es:=(emp_E s hn).2
   unfold hereV Ex.here at h1
   rw [if_pos (by simp [g1,g2,es])] at h1
   cases h1
  by_cases k1:k=1
  ·
   subst k1
   obtain rfl:=hs (by decide) (by decide)
   rw [show hereV 1 n E0 ([]:List Ex).length=inB n 0 65535 by simp [hereV,Ex.here,eqE]] at h1
   exact .inl ⟨n,(inB_iff _ _ _).1 h1,rfl⟩
  by_cases k2:k=2
  ·
   subst k2
   obtain rfl:=hn (by decide) (by decide)
   rw [show hereV 2 0 s ([]:List Ex).length=nameB s by simp [hereV,Ex.here]] at h1
   exact .inr (.inl ⟨s,h1,rfl⟩)
  by_cases k11:k=11
  ·
   subst k11
   obtain rfl:=hs (by decide) (by decide)
   rw [show hereV 11 n E0 ([]:List Ex).length=inB n 0 9 by simp [hereV,Ex.here,eqE]] at h1
   exact .inr (.inr (.inr (.inr (.inr (.inl ⟨n,(inB_iff _ _ _).1 h1,rfl⟩)))))
  by_cases k12:k=12
  ·
   subst k12
   obtain rfl:=hn (by decide) (by decide)
   rw [show hereV 12 0 s ([]:List Ex).length=nameB s by simp [hereV,Ex.here]] at h1
   exact .inr (.inr (.inr (.inr (.inr (.inr ⟨s,h1,rfl⟩)))))
  obtain rfl:=hn k1 k11
  obtain rfl:=hs k2 k12
  by_cases k3:k=3
  · subst k3;exact .inr (.inr (.inl rfl))
  exfalso
  unfold hereV Ex.here at h1
  simp only [List.length_replicate,List.length_nil] at h1
  rw [if_neg (by simp [eqE]),if_neg k1,if_neg (by omega),if_neg k3] at h1
  repeat' (split at h1)
  all_goals first|cases h1|exact absurd h1 (by decide)|omega
 | [a], h1, h2 =>
  have hn:n=0:=Classical.byContradiction fun hn=>by rw [hereV_n k n s _ (by simp) hn] at h1;cases h1
  have hs:s=E0:=Classical.byContradiction fun hn=>by rw [hereV_s k n s _ (by simp) hn] at h1;cases h1
  subst hn hs
  have h3:hereV k 0 ⟨#[]⟩ 1=true:=h1
  rw [here_one,beq_iff_eq] at h3
  subst h3
  exact .inr (.inr (.inr (.inl ⟨a,by simpa using h2,rfl⟩)))
 | [a, b], h1, h2 =>
  have hn:n=0:=Classical.byContradiction fun hn=>by rw [hereV_n k n s _ (by simp) hn] at h1;cases h1
  have hs:s=E0:=Classical.byContradiction fun hn=>by rw [hereV_s k n s _ (by simp) hn] at h1;cases h1
  subst hn hs
  have h3:hereV k 0 ⟨#[]⟩ 2=true:=h1
  rw [here_two] at h3
  have h4:okF d false a=true∧okF d false b=true:=by simpa using h2
  exact .inr (.inr (.inr (.inr (.inl ⟨k,a,b,(inB_iff _ _ _).1 h3,h4.1,h4.2,rfl⟩))))
 | a :: b :: c :: r, h1, _ => rw [here_more k n s _ (by simp)] at h1; cases h1
theorem ta_no {P:Program} {T u it:TypeId} {x z:Value} {fs:Array Field} (w:World) (hu:P.underlying u=some (.struct fs)) (hz:(zeroValue u).run P w = .ok z w) (h:T≠u):(Instr.typeAssert (.iface T x) it u true).run P w = .ok (.tuple #[z,.bool false]) w:=by
 simp [Instr.typeAssert,run_underlying hu,h,hz]
theorem taN_num (T:TypeId) (x:Value) (h:T≠182) (w:World):(Instr.typeAssert (.iface T x) 83 182 true).run Tryz.prog w = .ok (.tuple #[.agg #[.int .i64 0],.bool false]) w:=ta_no w Tryz.underlying182 (by kernel_rfl) h
theorem taY_num (x:Value) (w:World):(Instr.typeAssert (.iface 182 x) 83 182 true).run Tryz.prog w = .ok (.tuple #[x,.bool true]) w:=by kernel_rfl
theorem taN_sym (T:TypeId) (x:Value) (h:T≠184) (w:World):(Instr.typeAssert (.iface T x) 83 184 true).run Tryz.prog w = .ok (.tuple #[.agg #[.string ⟨#[]⟩],.bool false]) w:=ta_no w Tryz.underlying184 (by kernel_rfl) h
theorem taY_sym (x:Value) (w:World):(Instr.typeAssert (.iface 184 x) 83 184 true).run Tryz.prog w = .ok (.tuple #[x,.bool true]) w:=by kernel_rfl
theorem taN_here (T:TypeId) (x:Value) (h:T≠186) (w:World):(Instr.typeAssert (.iface T x) 83 186 true).run Tryz.prog w = .ok (.tuple #[.agg #[],.bool false]) w:=ta_no w Tryz.underlying186 (by kernel_rfl) h
theorem taY_here (x:Value) (w:World):(Instr.typeAssert (.iface 186 x) 83 186 true).run Tryz.prog w = .ok (.tuple #[x,.bool true]) w:=by kernel_rfl
theorem taN_neg (T:TypeId) (x:Value) (h:T≠188) (w:World):(Instr.typeAssert (.iface T x) 83 188 true).run Tryz.prog w = .ok (.tuple #[.agg #[.nilIface],.bool false]) w:=ta_no w Tryz.underlying188 (by kernel_rfl) h
theorem taY_neg (x:Value) (w:World):(Instr.typeAssert (.iface 188 x) 83 188 true).run Tryz.prog w = .ok (.tuple #[x,.bool true]) w:=by kernel_rfl
theorem taN_add (T:TypeId) (x:Value) (h:T≠228) (w:World):(Instr.typeAssert (.iface T x) 83 228 true).run Tryz.prog w = .ok (.tuple #[.agg #[.nilIface,.nilIface],.bool false]) w:=ta_no w Tryz.underlying228 (by kernel_rfl) h
theorem taY_add (x:Value) (w:World):(Instr.typeAssert (.iface 228 x) 83 228 true).run Tryz.prog w = .ok (.tuple #[x,.bool true]) w:=by kernel_rfl
theorem taN_sub (T:TypeId) (x:Value) (h:T≠229) (w:World):(Instr.typeAssert (.iface T x) 83 229 true).run Tryz.prog w = .ok (.tuple #[.agg #[.nilIface,.nilIface],.bool false]) w:=ta_no w Tryz.underlying229 (by kernel_rfl) h
theorem taY_sub (x:Value) (w:World):(Instr.typeAssert (.iface 229 x) 83 229 true).run Tryz.prog w = .ok (.tuple #[x,.bool true]) w:=by kernel_rfl
theorem taN_mul (T:TypeId) (x:Value) (h:T≠230) (w:World):(Instr.typeAssert (.iface T x) 83 230 true).run Tryz.prog w = .ok (.tuple #[.agg #[.nilIface,.nilIface],.bool false]) w:=ta_no w Tryz.underlying230 (by kernel_rfl) h
theorem taY_mul (x:Value) (w:World):(Instr.typeAssert (.iface 230 x) 83 230 true).run Tryz.prog w = .ok (.tuple #[x,.bool true]) w:=by kernel_rfl
theorem taN_div (T:TypeId) (x:Value) (h:T≠231) (w:World):(Instr.typeAssert (.iface T x) 83 231 true).run Tryz.prog w = .ok (.tuple #[.agg #[.nilIface,.nilIface],.bool false]) w:=ta_no w Tryz.underlying231 (by kernel_rfl) h
theorem taY_div (x:Value) (w:World):(Instr.typeAssert (.iface 231 x) 83 231 true).run Tryz.prog w = .ok (.tuple #[x,.bool true]) w:=by kernel_rfl
theorem taN_and (T:TypeId) (x:Value) (h:T≠232) (w:World):(Instr.typeAssert (.iface T x) 83 232 true).run Tryz.prog w = .ok (.tuple #[.agg #[.nilIface,.nilIface],.bool false]) w:=ta_no w Tryz.underlying232 (by kernel_rfl) h
theorem taY_and (x:Value) (w:World):(Instr.typeAssert (.iface 232 x) 83 232 true).run Tryz.prog w = .ok (.tuple #[x,.bool true]) w:=by kernel_rfl
theorem taN_or (T:TypeId) (x:Value) (h:T≠233) (w:World):(Instr.typeAssert (.iface T x) 83 233 true).run Tryz.prog w = .ok (.tuple #[.agg #[.nilIface,.nilIface],.bool false]) w:=ta_no w Tryz.underlying233 (by kernel_rfl) h
theorem taY_or (x:Value) (w:World):(Instr.typeAssert (.iface 233 x) 83 233 true).run Tryz.prog w = .ok (.tuple #[x,.bool true]) w:=by kernel_rfl
theorem taN_sect (T:TypeId) (x:Value) (h:T≠234) (w:World):(Instr.typeAssert (.iface T x) 83 234 true).run Tryz.prog w = .ok (.tuple #[.agg #[.int .i64 0],.bool false]) w:=ta_no w Tryz.underlying234 (by kernel_rfl) h
theorem taY_sect (x:Value) (w:World):(Instr.typeAssert (.iface 234 x) 83 234 true).run Tryz.prog w = .ok (.tuple #[x,.bool true]) w:=by kernel_rfl
theorem taN_glob (T:TypeId) (x:Value) (h:T≠235) (w:World):(Instr.typeAssert (.iface T x) 83 235 true).run Tryz.prog w = .ok (.tuple #[.agg #[.string ⟨#[]⟩],.bool false]) w:=ta_no w Tryz.underlying235 (by kernel_rfl) h
theorem taY_glob (x:Value) (w:World):(Instr.typeAssert (.iface 235 x) 83 235 true).run Tryz.prog w = .ok (.tuple #[x,.bool true]) w:=by kernel_rfl
theorem me_num (c : Value) (w : World) : (method 389 182 (.agg #[c]) "loop.example/g00329/impl.parts").run Tryz.prog w = .ok (263, .agg #[]) w := by kernel_rfl
theorem me_sym (c : Value) (w : World) : (method 389 184 (.agg #[c]) "loop.example/g00329/impl.parts").run Tryz.prog w = .ok (263, .agg #[]) w := by kernel_rfl
theorem me_sect (c : Value) (w : World) : (method 389 234 (.agg #[c]) "loop.example/g00329/impl.parts").run Tryz.prog w = .ok (263, .agg #[]) w := by kernel_rfl
theorem me_glob (c : Value) (w : World) : (method 389 235 (.agg #[c]) "loop.example/g00329/impl.parts").run Tryz.prog w = .ok (263, .agg #[]) w := by kernel_rfl
theorem me_here (w : World) : (method 389 186 (.agg #[]) "loop.example/g00329/impl.parts").run Tryz.prog w = .ok (263, .agg #[]) w := by kernel_rfl
theorem me_neg (c : Value) (w : World) : (method 389 188 (.agg #[c]) "loop.example/g00329/impl.parts").run Tryz.prog w = .ok (264, .agg #[c]) w := by kernel_rfl
theorem me_add (c d : Value) (w : World) : (method 389 228 (.agg #[c, d]) "loop.example/g00329/impl.parts").run Tryz.prog w = .ok (265, .agg #[c, d]) w := by kernel_rfl
theorem me_sub (c d : Value) (w : World) : (method 389 229 (.agg #[c, d]) "loop.example/g00329/impl.parts").run Tryz.prog w = .ok (265, .agg #[c, d]) w := by kernel_rfl
theorem me_mul (c d : Value) (w : World) : (method 389 230 (.agg #[c, d]) "loop.example/g00329/impl.parts").run Tryz.prog w = .ok (265, .agg #[c, d]) w := by kernel_rfl
theorem me_div (c d : Value) (w : World) : (method 389 231 (.agg #[c, d]) "loop.example/g00329/impl.parts").run Tryz.prog w = .ok (265, .agg #[c, d]) w := by kernel_rfl
theorem me_and (c d : Value) (w : World) : (method 389 232 (.agg #[c, d]) "loop.example/g00329/impl.parts").run Tryz.prog w = .ok (265, .agg #[c, d]) w := by kernel_rfl
theorem me_or (c d : Value) (w : World) : (method 389 233 (.agg #[c, d]) "loop.example/g00329/impl.parts").run Tryz.prog w = .ok (265, .agg #[c, d]) w := by kernel_rfl
theorem parts0 (w:World):Calls Tryz.prog 263 #[.agg #[]] w fun r w'=>r = .returned (.slice none 0 0)∧Below w.heap.size w w':=by
 go_enter Tryz.func263,Tryz.ntmps263
 go_wp2
 go_ret
 exact ⟨rfl,by first|exact Below.refl _ _|exact below_new w _⟩
theorem two_new (w:World) (o1 o2:Obj):((w.alloc o1).alloc o2).heap[w.heap.size+1]?=some o2∧Below w.heap.size w ((w.alloc o1).alloc o2):=by
 have h1:(w.alloc o1).heap.size=w.heap.size+1:=by simp
 refine ⟨?_,((Below.refl _ _).alloc (Nat.le_refl _) _).alloc (by simp) _⟩
 rw [←h1]
 exact Array.getElem?_push_size
theorem parts1 (t:TypeId) (x:Value) (w:World):Calls Tryz.prog 264 #[.agg #[.iface t x]] w fun r w'=>∃ g,r = .returned (.slice (some ⟨g,0,none⟩) 1 1)∧w'.heap[g]?=some (.cells #[.iface t x] 83 (0,0))∧Below w.heap.size w w':=by
 have T:=hide (two_new w (.cells #[.iface t x] 188) (.cells #[.iface t x] 83))
 go_enter Tryz.func264,Tryz.ntmps264
 go_wp2
 go_ret
 exact ⟨_,rfl,(uh T).1,(uh T).2⟩
theorem parts2 (t u:TypeId) (x y:Value) (w:World):Calls Tryz.prog 265 #[.agg #[.iface t x,.iface u y]] w fun r w'=>∃ g,r = .returned (.slice (some ⟨g,0,none⟩) 2 2)∧w'.heap[g]?=some (.cells #[.iface t x,.iface u y] 83 (0,0))∧Below w.heap.size w w':=by
 have T:=hide (two_new w (.cells #[.iface t x,.iface u y] 226) (.cells #[.iface t x,.iface u y] 83))
 go_enter Tryz.func265,Tryz.ntmps265
 go_wp2
 go_ret
 exact ⟨_,rfl,(uh T).1,(uh T).2⟩
theorem plain_ok:∀ (d:Nat) (e:Ex),okF d true e=true→okF d false e=true:=by
 intro d
 induction d with
 | zero => intro e h; cases h
 | succ d ih =>
  intro e h
  rw [okF_s,Bool.and_eq_true,Bool.and_eq_true] at h
  rw [okF_s,h.1]
  have h3:=h.2.2
  rw [List.all_eq_true] at h3
  have:e.l.all (okF d false)=true:=List.all_eq_true.2 fun x hx=>ih x (h3 x hx)
  rw [this]
  rfl
theorem kind_num (n:Int) (s:ByteArray) (t u:TypeId) (x y:Value) (w:World):Calls Tryz.prog 151 #[.iface 182 (.agg #[.int .i64 n])] w fun r w'=>r = .returned (.int .i64 1)∧w'=w:=by
 have tt:=taY_num (.agg #[.int .i64 n])
 go_enter Tryz.func151,Tryz.ntmps151
 go_wp2
 go_ret
 exact ⟨rfl,rfl⟩
theorem kind_sym (n:Int) (s:ByteArray) (t u:TypeId) (x y:Value) (w:World):Calls Tryz.prog 151 #[.iface 184 (.agg #[.string s])] w fun r w'=>r = .returned (.int .i64 2)∧w'=w:=by
 have t0:=taN_num 184 (.agg #[.string s]) (by decide)
 have tt:=taY_sym (.agg #[.string s])
 go_enter Tryz.func151,Tryz.ntmps151
 go_wp2
 go_ret
 exact ⟨rfl,rfl⟩
theorem kind_here (n:Int) (s:ByteArray) (t u:TypeId) (x y:Value) (w:World):Calls Tryz.prog 151 #[.iface 186 (.agg #[])] w fun r w'=>r = .returned (.int .i64 3)∧w'=w:=by
 have t0:=taN_num 186 (.agg #[]) (by decide)
 have t1:=taN_sym 186 (.agg #[]) (by decide)
 have tt:=taY_here (.agg #[])
 go_enter Tryz.func151,Tryz.ntmps151
 go_wp2
 go_ret
 exact ⟨rfl,rfl⟩
theorem kind_neg (n:Int) (s:ByteArray) (t u:TypeId) (x y:Value) (w:World):Calls Tryz.prog 151 #[.iface 188 (.agg #[.iface t x])] w fun r w'=>r = .returned (.int .i64 4)∧w'=w:=by
 have t0:=taN_num 188 (.agg #[.iface t x]) (by decide)
 have t1:=taN_sym 188 (.agg #[.iface t x]) (by decide)
 have t2:=taN_here 188 (.agg #[.iface t x]) (by decide)
 have tt:=taY_neg (.agg #[.iface t x])
 go_enter Tryz.func151,Tryz.ntmps151
 go_wp2
 go_ret
 exact ⟨rfl,rfl⟩
theorem kind_add (n:Int) (s:ByteArray) (t u:TypeId) (x y:Value) (w:World):Calls Tryz.prog 151 #[.iface 228 (.agg #[.iface t x,.iface u y])] w fun r w'=>r = .returned (.int .i64 5)∧w'=w:=by
 have t0:=taN_num 228 (.agg #[.iface t x,.iface u y]) (by decide)
 have t1:=taN_sym 228 (.agg #[.iface t x,.iface u y]) (by decide)
 have t2:=taN_here 228 (.agg #[.iface t x,.iface u y]) (by decide)
 have t3:=taN_neg 228 (.agg #[.iface t x,.iface u y]) (by decide)
 have tt:=taY_add (.agg #[.iface t x,.iface u y])
 go_enter Tryz.func151,Tryz.ntmps151
 go_wp2
 go_ret
 exact ⟨rfl,rfl⟩
theorem kind_sub (n:Int) (s:ByteArray) (t u:TypeId) (x y:Value) (w:World):Calls Tryz.prog 151 #[.iface 229 (.agg #[.iface t x,.iface u y])] w fun r w'=>r = .returned (.int .i64 6)∧w'=w:=by
 have t0:=taN_num 229 (.agg #[.iface t x,.iface u y]) (by decide)
 have t1:=taN_sym 229 (.agg #[.iface t x,.iface u y]) (by decide)
 have t2:=taN_here 229 (.agg #[.iface t x,.iface u y]) (by decide)
 have t3:=taN_neg 229 (.agg #[.iface t x,.iface u y]) (by decide)
 have t4:=taN_add 229 (.agg #[.iface t x,.iface u y]) (by decide)
 have tt:=taY_sub (.agg #[.iface t x,.iface u y])
 go_enter Tryz.func151,Tryz.ntmps151
 go_wp2
 go_ret
 exact ⟨rfl,rfl⟩
theorem kind_mul (n:Int) (s:ByteArray) (t u:TypeId) (x y:Value) (w:World):Calls Tryz.prog 151 #[.iface 230 (.agg #[.iface t x,.iface u y])] w fun r w'=>r = .returned (.int .i64 7)∧w'=w:=by
 have t0:=taN_num 230 (.agg #[.iface t x,.iface u y]) (by decide)
 have t1:=taN_sym 230 (.agg #[.iface t x,.iface u y]) (by decide)
 have t2:=taN_here 230 (.agg #[.iface t x,.iface u y]) (by decide)
 have t3:=taN_neg 230 (.agg #[.iface t x,.iface u y]) (by decide)
 have t4:=taN_add 230 (.agg #[.iface t x,.iface u y]) (by decide)
 have t5:=taN_sub 230 (.agg #[.iface t x,.iface u y]) (by decide)
 have tt:=taY_mul (.agg #[.iface t x,.iface u y])
 go_enter Tryz.func151,Tryz.ntmps151
 go_wp2
 go_ret
 exact ⟨rfl,rfl⟩
theorem kind_div (n:Int) (s:ByteArray) (t u:TypeId) (x y:Value) (w:World):Calls Tryz.prog 151 #[.iface 231 (.agg #[.iface t x,.iface u y])] w fun r w'=>r = .returned (.int .i64 8)∧w'=w:=by
 have t0:=taN_num 231 (.agg #[.iface t x,.iface u y]) (by decide)
 have t1:=taN_sym 231 (.agg #[.iface t x,.iface u y]) (by decide)
 have t2:=taN_here 231 (.agg #[.iface t x,.iface u y]) (by decide)
 have t3:=taN_neg 231 (.agg #[.iface t x,.iface u y]) (by decide)
 have t4:=taN_add 231 (.agg #[.iface t x,.iface u y]) (by decide)
 have t5:=taN_sub 231 (.agg #[.iface t x,.iface u y]) (by decide)
 have t6:=taN_mul 231 (.agg #[.iface t x,.iface u y]) (by decide)
 have tt:=taY_div (.agg #[.iface t x,.iface u y])
 go_enter Tryz.func151,Tryz.ntmps151
 go_wp2
 go_ret
 exact ⟨rfl,rfl⟩
theorem kind_and (n:Int) (s:ByteArray) (t u:TypeId) (x y:Value) (w:World):Calls Tryz.prog 151 #[.iface 232 (.agg #[.iface t x,.iface u y])] w fun r w'=>r = .returned (.int .i64 9)∧w'=w:=by
 have t0:=taN_num 232 (.agg #[.iface t x,.iface u y]) (by decide)
 have t1:=taN_sym 232 (.agg #[.iface t x,.iface u y]) (by decide)
 have t2:=taN_here 232 (.agg #[.iface t x,.iface u y]) (by decide)
 have t3:=taN_neg 232 (.agg #[.iface t x,.iface u y]) (by decide)
 have t4:=taN_add 232 (.agg #[.iface t x,.iface u y]) (by decide)
 have t5:=taN_sub 232 (.agg #[.iface t x,.iface u y]) (by decide)
 have t6:=taN_mul 232 (.agg #[.iface t x,.iface u y]) (by decide)
 have t7:=taN_div 232 (.agg #[.iface t x,.iface u y]) (by decide)
 have tt:=taY_and (.agg #[.iface t x,.iface u y])
 go_enter Tryz.func151,Tryz.ntmps151
 go_wp2
 go_ret
 exact ⟨rfl,rfl⟩
theorem kind_or (n:Int) (s:ByteArray) (t u:TypeId) (x y:Value) (w:World):Calls Tryz.prog 151 #[.iface 233 (.agg #[.iface t x,.iface u y])] w fun r w'=>r = .returned (.int .i64 10)∧w'=w:=by
 have t0:=taN_num 233 (.agg #[.iface t x,.iface u y]) (by decide)
 have t1:=taN_sym 233 (.agg #[.iface t x,.iface u y]) (by decide)
 have t2:=taN_here 233 (.agg #[.iface t x,.iface u y]) (by decide)
 have t3:=taN_neg 233 (.agg #[.iface t x,.iface u y]) (by decide)
 have t4:=taN_add 233 (.agg #[.iface t x,.iface u y]) (by decide)
 have t5:=taN_sub 233 (.agg #[.iface t x,.iface u y]) (by decide)
 have t6:=taN_mul 233 (.agg #[.iface t x,.iface u y]) (by decide)
 have t7:=taN_div 233 (.agg #[.iface t x,.iface u y]) (by decide)
 have t8:=taN_and 233 (.agg #[.iface t x,.iface u y]) (by decide)
 have tt:=taY_or (.agg #[.iface t x,.iface u y])
 go_enter Tryz.func151,Tryz.ntmps151
 go_wp2
 go_ret
 exact ⟨rfl,rfl⟩
theorem kind_sect (n:Int) (s:ByteArray) (t u:TypeId) (x y:Value) (w:World):Calls Tryz.prog 151 #[.iface 234 (.agg #[.int .i64 n])] w fun r w'=>r = .returned (.int .i64 11)∧w'=w:=by
 have t0:=taN_num 234 (.agg #[.int .i64 n]) (by decide)
 have t1:=taN_sym 234 (.agg #[.int .i64 n]) (by decide)
 have t2:=taN_here 234 (.agg #[.int .i64 n]) (by decide)
 have t3:=taN_neg 234 (.agg #[.int .i64 n]) (by decide)
 have t4:=taN_add 234 (.agg #[.int .i64 n]) (by decide)
 have t5:=taN_sub 234 (.agg #[.int .i64 n]) (by decide)
 have t6:=taN_mul 234 (.agg #[.int .i64 n]) (by decide)
 have t7:=taN_div 234 (.agg #[.int .i64 n]) (by decide)
 have t8:=taN_and 234 (.agg #[.int .i64 n]) (by decide)
 have t9:=taN_or 234 (.agg #[.int .i64 n]) (by decide)
 have tt:=taY_sect (.agg #[.int .i64 n])
 go_enter Tryz.func151,Tryz.ntmps151
 go_wp2
 go_ret
 exact ⟨rfl,rfl⟩
theorem kind_glob (n:Int) (s:ByteArray) (t u:TypeId) (x y:Value) (w:World):Calls Tryz.prog 151 #[.iface 235 (.agg #[.string s])] w fun r w'=>r = .returned (.int .i64 12)∧w'=w:=by
 have t0:=taN_num 235 (.agg #[.string s]) (by decide)
 have t1:=taN_sym 235 (.agg #[.string s]) (by decide)
 have t2:=taN_here 235 (.agg #[.string s]) (by decide)
 have t3:=taN_neg 235 (.agg #[.string s]) (by decide)
 have t4:=taN_add 235 (.agg #[.string s]) (by decide)
 have t5:=taN_sub 235 (.agg #[.string s]) (by decide)
 have t6:=taN_mul 235 (.agg #[.string s]) (by decide)
 have t7:=taN_div 235 (.agg #[.string s]) (by decide)
 have t8:=taN_and 235 (.agg #[.string s]) (by decide)
 have t9:=taN_or 235 (.agg #[.string s]) (by decide)
 have t10:=taN_sect 235 (.agg #[.string s]) (by decide)
 have tt:=taY_glob (.agg #[.string s])
 go_enter Tryz.func151,Tryz.ntmps151
 go_wp2
 go_ret
 exact ⟨rfl,rfl⟩
theorem agX_r {a:Ag} (ok:agX a=true):0≤a.r∧a.r≤7:=by
 unfold agX at ok
 by_cases h1:inB a.f 0 5=true
 · rw [if_pos h1] at ok;exact inB_of (Bool.and_eq_true_iff.1 ok).1
 rw [if_neg h1] at ok
 by_cases h2:(a.f == 6 || a.f == 7)=true
 · rw [if_pos h2] at ok;exact inB_of (Bool.and_eq_true_iff.1 ok).1
 rw [if_neg h2] at ok
 by_cases h3:inB a.f 8 11=true
 ·
  rw [if_pos h3] at ok
  have:a.r=0:=by simpa using (Bool.and_eq_true_iff.1 ok).1
  omega
 rw [if_neg h3] at ok
 cases ok
def pPln:List Tk→Option (Ag × List Tk)
 | [] => none
 | t :: r =>
  match pReg t with
  | some n => some (⟨0, n, X0⟩, r)
  | none =>
   if isM t 45=true∧seeM r 40=true then (match pRnd r with|none=>none|some (n,q)=>some (⟨4,n,X0⟩,q))
   else if isM t 40=true then (match pRnd (t::r) with|none=>none|some (n,q)=>if seeM q 43=true then some (⟨2,n,X0⟩,q.tail) else some (⟨1,n,X0⟩,q))
   else if isM t 35=true then (match readF 6 r with|none=>none|some (e,q)=>some (⟨8,0,e⟩,q))
   else match readF 6 (t::r) with
    | none => none
    | some (e, q) => if seeM q 40 = true then (match pRnd q with | none => none | some (n, q2) => some (⟨6, n, e⟩, q2)) else some (⟨10, 0, e⟩, q)
def upF (f:Int):Option Int:=if f=2∨f=4∨f=6∨f=8∨f=10 then some (f+1) else none
def pArg (ts:List Tk):Option (Ag × List Tk) :=
 if seeM ts 64=true then (match pPln ts.tail with|none=>none|some (a,q)=>match upF a.f with|none=>none|some f=>some (⟨f,a.r,a.e⟩,q))
 else pPln ts
theorem pPln_reg {t:Tk} {n:Nat} (h:pReg t=some n) (r:List Tk):pPln (t::r)=some (⟨0,n,X0⟩,r):=by
 show (match pReg t with|some n=>some ((⟨0,n,X0⟩:Ag),r)|none=>_)=_
 rw [h]
theorem pPln_no {t : Tk} (h : pReg t = none) (r : List Tk) : pPln (t :: r) = if isM t 45 = true ∧ seeM r 40 = true then (match pRnd r with | none => none | some (n, q) => some (⟨4, n, X0⟩, q))
   else if isM t 40=true then (match pRnd (t::r) with|none=>none|some (n,q)=>if seeM q 43=true then some (⟨2,n,X0⟩,q.tail) else some (⟨1,n,X0⟩,q))
   else if isM t 35=true then (match readF 6 r with|none=>none|some (e,q)=>some (⟨8,0,e⟩,q))
   else match readF 6 (t::r) with
    | none => none
    | some (e, q) => if seeM q 40 = true then (match pRnd q with | none => none | some (n, q2) => some (⟨6, n, e⟩, q2)) else some (⟨10, 0, e⟩, q) := by
 show (match pReg t with|some n=>some ((⟨0,n,X0⟩:Ag),r)|none=>_)=_
 rw [h]
theorem pArg_no {ts:List Tk} (h:seeM ts 64=false):pArg ts=pPln ts:=by unfold pArg;rw [if_neg (by rw [h];decide)]
theorem eqS_no {a b:ByteArray} (h:a≠b):eqS a b=false:=by
 cases he:eqS a b with
 | false => rfl
 | true => exact absurd ((eqS_iff _ _).1 he) h
theorem eqS_self (a:ByteArray):eqS a a=true:=(eqS_iff _ _).2 rfl
theorem isM_self (c:UInt8):isM (mkT c) c=true:=eqS_self _
theorem mkS_inj {c d:UInt8} (h:mkS c=mkS d):c=d:=by
 unfold mkS at h
 injection h with h
 simpa using h
theorem pArg_at (q:List Tk):pArg (mkT 64::q)=(match pPln q with|none=>none|some (a,q)=>match upF a.f with|none=>none|some f=>some (⟨f,a.r,a.e⟩,q)):=by
 unfold pArg
 rw [if_pos (show seeM (mkT 64::q) 64=true from isM_self _)]
 rfl
theorem isM_no {c d:UInt8} (h:c≠d):isM (mkT c) d=false:=eqS_no (fun e=>h (mkS_inj e))
theorem name_mark {s:ByteArray} (h:nameB s=true) {c:UInt8} (hc:smB (c.toNat:Int)=false):eqS s (mkS c)=false:=by
 apply eqS_no
 rintro rfl
 have h1:=(Bool.and_eq_true_iff.1 h).1
 obtain ⟨c',r,e,h2,_⟩:=form_open h1
 have e' : [c]=c'::r:=e
 injection e' with e1 _
 rw [e1] at hc
 rw [hc] at h2
 cases h2
theorem kept_mark {s:ByteArray} (h:keptB s=true) (c:UInt8):eqS s (mkS c)=false:=by
 apply eqS_no
 rintro rfl
 have:mkS c∈keptL:=hasS_iff.1 h
 have hsz:∀ x∈keptL,x.size≠1:=by decide +kernel
 exact hsz _ this rfl
theorem ok_mark {t:Tk} (h:t.ok=true) {c:UInt8} (hc:smB (c.toNat:Int)=false) (he:isM t c=true):t=mkT c:=by
 obtain ⟨k,n,s⟩:=t
 have hs:s=mkS c:=(eqS_iff _ _).1 he
 subst hs
 unfold Tk.ok at h
 simp only at h
 split at h
 ·
  have:=(Bool.and_eq_true_iff.1 h).2
  have h2:(mkS c).size=0:=by simpa using this
  cases h2
 split at h
 · cases h
 rename_i hn
 have hn:n=0:=by simpa using hn
 subst hn
 split at h
 ·
  have:=name_mark h hc
  rw [eqS_self] at this
  cases this
 split at h
 ·
  have h3:dotB [c]=true:=h
  unfold dotB at h3
  split at h3
  ·
   rename_i e
   injection e with e1 e2
   rw [←e2,form_nil] at h3
   cases h3
  · cases h3
 split at h
 ·
  rename_i hk
  have hk:k=4:=by simpa using hk
  subst hk
  rfl
 split at h
 ·
  have:=kept_mark h c
  rw [eqS_self] at this
  cases this
 · cases h
theorem at_getD {L:List ByteArray} {s:ByteArray} (h:0≤atV L s):(atV L s).toNat<L.length∧L.getD (atV L s).toNat E0=s:=by
 unfold atV at h ⊢
 split at h
 ·
  rename_i hs
  rw [if_pos hs]
  have hx:L.findIdx (fun t=>eqS t s)<L.length:=List.findIdx_lt_length_of_exists (by
   obtain ⟨x,hx,he⟩:=List.any_eq_true.1 hs
   exact ⟨x,hx,he⟩)
  refine ⟨by simpa using hx,?_⟩
  have:=List.findIdx_getElem (w:=hx)
  have e:=(eqS_iff _ _).1 this
  simp only [Int.toNat_natCast]
  rw [List.getD_eq_getElem?_getD,List.getElem?_eq_getElem hx]
  exact e
 · omega
theorem pReg_some {t:Tk} (h:t.ok=true) {n:Nat} (hp:pReg t=some n):n<8∧t=rgT n:=by
 unfold pReg at hp
 split at hp
 ·
  rename_i hc
  injection hp with hp
  obtain ⟨h1,h2⟩:=at_getD (L:=keptL) (s:=t.s) (by omega)
  rw [keptL_len] at h1
  refine ⟨by omega,?_⟩
  obtain ⟨k,m,s⟩:=t
  simp only at hc hp h1 h2
  have hm:m=0:=by
   have hk:=hc.1
   subst hk
   unfold Tk.ok at h
   simp only at h
   split at h
   ·
    rename_i h5
    exact absurd h5 (by decide)
   split at h
   · cases h
   rename_i hn
   simpa using hn
  unfold rgT kpT
  rw [show 23+n=(atV keptL s).toNat by omega,h2,hc.1,hm]
 · cases hp
theorem pRnd_some {ts:List Tk} (h:AllOk ts) {n:Nat} {r:List Tk} (hp:pRnd ts=some (n,r)):n<8∧ts=rnT n++r:=by
 unfold pRnd at hp
 split at hp
 ·
  rename_i t0 t1 t2 q
  obtain ⟨h0,h⟩:=h.head
  obtain ⟨h1,h⟩:=h.head
  obtain ⟨h2,h⟩:=h.head
  split at hp
  ·
   rename_i hc
   split at hp
   · cases hp
   ·
    rename_i m hm
    injection hp with hp
    injection hp with e1 e2
    subst e1 e2
    obtain ⟨q1,q2⟩:=pReg_some h1 hm
    refine ⟨q1,?_⟩
    rw [ok_mark h0 (by decide) hc.1,ok_mark h2 (by decide) hc.2,q2]
    rfl
  · cases hp
 · cases hp
theorem zro_is {e:Ex} (h:zroX e=true):e=X0:=by
 obtain ⟨k,n,s,l⟩:=e
 unfold zroX zroV at h
 simp only [Bool.and_eq_true,beq_iff_eq] at h
 obtain ⟨h1,h2,h3,h4⟩:=h
 have h3:=(eqS_iff _ _).1 h3
 have h4:=List.eq_nil_of_length_eq_zero h4
 subst h1 h2 h3 h4
 rfl
end Go.Proofs.YtjnblcgekpgkoaaGreatDoor
