/- Contracts over this seat's translation, laid together; conditions stand as hypotheses of each. -/
import Derived.Test.YtjnblcgekpgkoaaGreatDoorTrF
import Derived.OpenVars
import Derived.Deep.MidRow
namespace Go.Proofs.YtjnblcgekpgkoaaGreatDoor
open Go.ChangeShapes Go.WideShapes Go.ChangeAt Go.RowKit
set_option maxHeartbeats 16000000
set_option linter.unusedVariables false
set_option maxRecDepth 8000
set_option linter.unusedSimpArgs false
section
def OwnS (w:World) (B:Nat) (v:Value) (l:List Value):Prop:=w.ownsRow B 9 1 v l.length l
theorem OwnS.later {w w':World} {B:Nat} {v:Value} {l:List Value} (h:OwnS w B v l) (hb:Below w.heap.size w w'):OwnS w' B v l:=by
 obtain ⟨h1,h2|⟨g,cap,cur,e,hg,hh,r⟩⟩:=h
 · exact ⟨h1,.inl h2⟩
 · exact ⟨h1,.inr ⟨g,cap,cur,e,hg,(hb.block g (Array.getElem?_eq_some_iff.1 hh).1).trans hh,r⟩⟩
theorem ownS_empty (w:World):OwnS (w.alloc (Obj.cells #[] 9)) w.heap.size (.slice (some ⟨w.heap.size,0,none⟩) 0 0) [] :=
 ⟨rfl,.inr ⟨w.heap.size,0,#[],rfl,Nat.le_refl _,Array.getElem?_push_size,by simp⟩⟩
theorem infoS:(Tryz.prog.info? 9).map (fun i=>(i.zero,i.size,i.bytes))=some (some (.string ⟨#[]⟩),1,16):=by kernel_rfl
section
variable {ops:Array Oper} {rest:List Oper} {o:Oper} {a:Act} {Q:Exit→Act→World→Prop} {w w0:World} {B:Nat} {K:Act→World→Prop}
theorem wp_appS (s x:Operand) (ho:o.op = .call { callee:=.builtin .append,args:=#[s,x],argTypes:=#[77,77] }) (hB:B≤w0.heap.size) (hD:Below B w0 w) {v:Value} {l:List Value} (hs:a.eval s=v) (hown:OwnS w B v l) (g:Nat) (p:ByteArray) (hx:a.eval x = .slice (some ⟨g,0,none⟩) 1 1) (hg:w.heap[g]?=some (.cells #[.string p] 9 (0,0))) (hl:l.length≤2000000)
  (h:∀ (v':Value) (y:Sub B w0),OwnS y.w B v' (l++[.string p])→K (a.put o.dst v') y.w):o.wp Tryz.prog a w K Q:=by
 obtain ⟨i0,hi0,hz0,hz1,hz2⟩:=info_parts infoS
 have hsz:=hD.size
 refine wp_append_own w s x 77 ho B 9 i0 (.string ⟨#[]⟩) 1 16 Tryz.underlying77 hi0 hz0 hz1 hz2 rfl (by decide) v l.length l hs hown ⟨g,0,none⟩ 1 1 [.string p] hx rfl (fun j u hj=>by
  have hc:=Lib.cell_of_heap hg j
  have e:(#[.string p]:Array Value)[j]?=some u:=by rw [←hj];simp
  have ha:(⟨g,0,none⟩:Addr).add j=⟨g,j,none⟩:=by simp [Addr.add];exact fun h=>h.symm
  rw [ha]
  exact hc.trans e) (fun u hu=>by rw [List.mem_singleton.1 hu];rfl) (by unfold maxLen;omega) (by omega) (by omega) ?_
 intro v' w' h1 h2 _
 refine h v' ⟨w',hD.grown h2 (Nat.le_trans hB hD.size) (fun g hg=>(World.ownsRow.lt hown g hg).1)⟩ ?_
 unfold OwnS
 rw [List.length_append]
 exact h1
theorem appS (hgd:o.guard=none) (s x:Operand) (ho:o.op = .call { callee:=.builtin .append,args:=#[s,x],argTypes:=#[77,77] }) (hB:B≤w0.heap.size) (hD:Below B w0 w) {v:Value} {l:List Value} (hs:a.eval s=v) (hown:OwnS w B v l) (g:Nat) (p:ByteArray) (hx:a.eval x = .slice (some ⟨g,0,none⟩) 1 1) (hg:w.heap[g]?=some (.cells #[.string p] 9 (0,0))) (hl:l.length≤2000000)
  (h:∀ (v':Value) (y:Sub B w0),OwnS y.w B v' (l++[.string p])→wpList Tryz.prog ops Q rest (a.put o.dst v') y.w):wpList Tryz.prog ops Q (o::rest) a w :=
 wpList_plain hgd fun _ hK=>wp_appS s x ho hB hD hs hown g p hx hg hl fun v' y h1=>hK _ _ (h v' y h1)
end
def txV (l:List (List UInt8)):List Value:=l.map fun s=>.string (bA s)
theorem txV_app (l:List (List UInt8)) (s:List UInt8):txV (l++[s])=txV l++[.string (bA s)]:=by simp [txV]
theorem spl_end {O:List (List UInt8)} {l:List UInt8} {acc:List (List UInt8)} {i fr:Nat} (h:O=acc++splA ((l.take i).drop fr) (l.drop i)) (hi:i=l.length) (hf:fr=i):O=acc:=by
 subst hf hi
 rw [h]
 simp [splA]
theorem spl_last {O:List (List UInt8)} {l:List UInt8} {acc:List (List UInt8)} {i fr:Nat} (h:O=acc++splA ((l.take i).drop fr) (l.drop i)) (hi:i=l.length) (hf:fr<i):O=acc++[(l.take i).drop fr]:=by
 rw [h,List.drop_eq_nil_of_le (Nat.le_of_eq hi.symm),splA,if_neg]
 intro e
 have:=congrArg List.length e
 simp at this
 omega
theorem spl_nl {O:List (List UInt8)} {l:List UInt8} {acc:List (List UInt8)} {i fr:Nat} (h:O=acc++splA ((l.take i).drop fr) (l.drop i)) (hi:i<l.length) (hc:l[i]=10):O=(acc++[(l.take i).drop fr])++splA ((l.take (i+1)).drop (i+1)) (l.drop (i+1)):=by
 rw [h,List.drop_eq_getElem_cons hi,splA,if_pos hc,show (l.take (i+1)).drop (i+1) = [] from List.drop_eq_nil_of_le (by simp;omega)]
 simp
theorem spl_on {O:List (List UInt8)} {l:List UInt8} {acc:List (List UInt8)} {i fr:Nat} (h:O=acc++splA ((l.take i).drop fr) (l.drop i)) (hi:i<l.length) (hc:l[i]≠10) (hf:fr≤i):O=acc++splA ((l.take (i+1)).drop fr) (l.drop (i+1)):=by
 rw [h,List.drop_eq_getElem_cons hi,splA,if_neg hc,List.take_succ_eq_append_getElem hi,List.drop_append_of_le_length (by simp;omega)]
theorem splS (l:List UInt8) (w:World) (hz:l.length≤1048576):Calls Tryz.prog 85 #[.string (bA l)] w fun r w'=>∃ v,r = .returned v∧OwnS w' w.heap.size v (txV (splA [] l))∧Below w.heap.size w w':=by
 have E0:=hide (show splA [] l = []++splA ((l.take 0).drop 0) (l.drop 0) by simp)
 have hs:=bA_size l
 generalize splA [] l=O at *
 go_enter Tryz.func85,Tryz.ntmps85
 go_wp2
 go_loopw [3,4,5] (fun v fv iv wr=>∃ (acc:List (List UInt8)) (fr i:Nat),fv = .int .i64 fr∧iv = .int .i64 i∧fr≤i∧acc.length≤i∧Hid ((i≤l.length∧O=acc++splA ((l.take i).drop fr) (l.drop i))∨(i=l.length+1∧O=acc))∧OwnS wr w.heap.size v (txV acc)∧Below w.heap.size w wr) (fun _ _ iv _=>l.length+1-(intOf iv).toNat)
 case atStart=>exact ⟨[],0,0,rfl,rfl,Nat.le_refl _,Nat.le_refl _,.inl ⟨Nat.zero_le _,uh E0⟩,ownS_empty _,below_new _ _⟩
 case round =>
  clear E0
  obtain ⟨acc,fr,i,rfl,rfl,hf,ha,ho,own,hb⟩:=hrel
  have OW:=hide own
  have BW:=hide hb
  clear own hb
  rcases ho.out with ⟨hi,ho⟩|⟨hi,ho⟩
  ·
   have c1:(i:Int)≤(l.length:Int):=by omega
   by_cases h1:i=l.length
   ·
    by_cases h2:fr=i
    ·
     have FO:=hide (show OwnS wr w.heap.size u3 (txV O) by rw [spl_end ho h1 h2];exact uh OW)
     clear ho OW
     subst h2 h1
     go_wp2
     go_ret
     exact ⟨_,rfl,uh FO,uh BW⟩
    ·
     have HO:=hide (spl_last ho h1 (by omega))
     have XT:=hide (bA_extract l fr i)
     have hb4:=below_new wr (.cells #[.string (bA ((l.take i).drop fr))] 9)
     have G4:=hide (show (wr.alloc (.cells #[.string (bA ((l.take i).drop fr))] 9)).heap[wr.heap.size]?=some (.cells #[.string (bA ((l.take i).drop fr))] 9 (0,0)) from Array.getElem?_push_size)
     have B4:=hide ((uh BW).trans (hb4.mono (uh BW).size))
     have O4:=hide ((uh OW).later hb4)
     have HL:=hide (show (txV acc).length≤2000000 by simp [txV];omega)
     have TX:=hide (txV_app acc ((l.take i).drop fr))
     clear ho OW hb4
     generalize bA ((l.take i).drop fr)=s1 at *
     have c2:(fr:Int)≤(i:Int):=by omega
     have c3:fr≤i:=by omega
     have c4:i≤l.length:=by omega
     have c5:(fr == i)=false:=by simp;omega
     have c6:¬ (i:Int)=(fr:Int):=by omega
     subst h1
     go_wp2_with (at_builtin;go_must (rw [uh XT];refine appS rfl _ _ rfl (Nat.le_refl _) (uh B4) rfl (uh O4) wr.heap.size s1 rfl (uh G4) (uh HL) ?_;intro v5 z5 hO;have O5:=hide hO;clear hO))
     go_roundw
     case rel=>exact ⟨acc++[(l.take l.length).drop fr],l.length+1,l.length+1,by go_num,by go_num,Nat.le_refl _,by simp;omega,.inr ⟨rfl,uh HO⟩,by rw [uh TX];exact uh O5,z5.h⟩
     case measure=>simp [intOf]
   ·
    have hlt:i<l.length:=by omega
    have hlb:i<(bA l).size:=by rw [hs];exact hlt
    have gt:(bA l)[i]=l[i]:=by simp [bA,ByteArray.getElem_eq_getElem_data];rfl
    have c2:(fr:Int)≤(i:Int):=by omega
    have c6:((i:Int) == (l.length:Int))=false:=beq_eq_false_iff_ne.2 (by omega)
    by_cases h10:l[i]=10
    ·
     have HO:=hide (spl_nl ho hlt h10)
     have c7:(((bA l)[i].toNat:Int) == 10)=true:=by rw [gt,h10];rfl
     have XT:=hide (bA_extract l fr i)
     have hb4:=below_new wr (.cells #[.string (bA ((l.take i).drop fr))] 9)
     have G4:=hide (show (wr.alloc (.cells #[.string (bA ((l.take i).drop fr))] 9)).heap[wr.heap.size]?=some (.cells #[.string (bA ((l.take i).drop fr))] 9 (0,0)) from Array.getElem?_push_size)
     have B4:=hide ((uh BW).trans (hb4.mono (uh BW).size))
     have O4:=hide ((uh OW).later hb4)
     have HL:=hide (show (txV acc).length≤2000000 by simp [txV];omega)
     have TX:=hide (txV_app acc ((l.take i).drop fr))
     clear ho OW hb4 h10 gt
     generalize bA ((l.take i).drop fr)=s1 at *
     have c3:fr≤i:=by omega
     have c4:i≤l.length:=by omega
     go_wp2_with (at_builtin;go_must (rw [uh XT];refine appS rfl _ _ rfl (Nat.le_refl _) (uh B4) rfl (uh O4) wr.heap.size s1 rfl (uh G4) (uh HL) ?_;intro v5 z5 hO;have O5:=hide hO;clear hO))
     go_roundw
     case rel=>exact ⟨acc++[(l.take i).drop fr],i+1,i+1,by go_num,by go_num,Nat.le_refl _,by simp;omega,.inl ⟨hlt,uh HO⟩,by rw [uh TX];exact uh O5,z5.h⟩
     case measure=>simp [intOf];omega
    ·
     have HO:=hide (spl_on ho hlt h10 hf)
     have c7:(((bA l)[i].toNat:Int) == 10)=false:=by
      rw [gt]
      refine beq_eq_false_iff_ne.2 fun e=>h10 ?_
      have e2:l[i].toNat=10:=by omega
      exact UInt8.toNat_inj.1 e2
     clear ho h10 gt
     go_wp2
     go_roundw
     case rel=>exact ⟨acc,fr,i+1,rfl,by go_num,by omega,by omega,.inl ⟨hlt,uh HO⟩,uh OW,uh BW⟩
     case measure=>simp [intOf];omega
  ·
   have c1:¬ (i:Int)≤(l.length:Int):=by omega
   have FO:=hide (show OwnS wr w.heap.size u3 (txV O) by rw [ho];exact uh OW)
   clear ho OW hi
   go_wp2
   go_ret
   exact ⟨_,rfl,uh FO,uh BW⟩
end
section
theorem NwL.own {w:World} {B:Nat} {x:Ln} {p:La} (h:NwL w B x p):∃ F,LnO w x p F∧∀ b∈F,B≤b:=by
 obtain ⟨⟨F1,a1,_,a3⟩,⟨F2,b1,_,b3⟩,⟨F3,c1,_,c3⟩⟩:=h
 refine ⟨_,⟨F1,F2,F3,rfl,a1,b1,c1⟩,fun b hb=>?_⟩
 simp only [List.mem_append] at hb
 rcases hb with hb|hb|hb
 · exact a3 b hb
 · exact b3 b hb
 · exact c3 b hb
structure OwnQ (w:World) (B:Nat) (v:Value) (l:List Ln) (ps:List La) (Fs:List (List Nat)):Prop where
 n1:ps.length=l.length
 n2:Fs.length=l.length
 row:w.ownsRow B 30 17 v l.length (cellsP l ps)
 own:∀ i,i<l.length→LnO w (l.getD i ln0) (ps.getD i la0) (Fs.getD i [])
 ge:∀ b∈Fs.flatten,B≤b
 out:∀ g,v.ownBlock=some g→g∉Fs.flatten
section
variable {w w':World} {B:Nat} {v:Value} {l:List Ln} {ps:List La} {Fs:List (List Nat)}
theorem OwnQ.lt (h:OwnQ w B v l ps Fs):∀ b∈Fs.flatten,b<w.heap.size:=by
 intro b hb
 obtain ⟨i,hi,hm⟩:=mem_flat hb
 exact (h.own i (by rw [←h.n2];exact hi)).lt b hm
theorem OwnQ.at (h:OwnQ w B v l ps Fs):∀ g,v.ownBlock=some g→B≤g∧g<w.heap.size:=by
 intro g hg
 obtain ⟨h1,cur,h2⟩:=own_ty h.row hg
 exact ⟨h1,(Array.getElem?_eq_some_iff.1 h2).1⟩
theorem OwnQ.later (h:OwnQ w B v l ps Fs) (hb:Below w.heap.size w w'):OwnQ w' B v l ps Fs :=
 { h with
   row:=by
    obtain ⟨k1,k2|⟨g,cap,cur,e,hg,hh,r⟩⟩:=h.row
    · exact ⟨k1,.inl k2⟩
    · exact ⟨k1,.inr ⟨g,cap,cur,e,hg,(hb.block g (Array.getElem?_eq_some_iff.1 hh).1).trans hh,r⟩⟩
   own:=fun i hi=>(h.own i hi).later hb }
end
section
variable {ops:Array Oper} {rest:List Oper} {o:Oper} {a:Act} {Q:Exit→Act→World→Prop} {w w0:World} {B:Nat} {K:Act→World→Prop}
theorem wp_appQ (s x:Operand) (ho:o.op = .call { callee:=.builtin .append,args:=#[s,x],argTypes:=#[45,45] }) (hB:B≤w0.heap.size) (hD:Below B w0 w) {v:Value} {l:List Ln} {ps:List La} {Fs:List (List Nat)} (hs:a.eval s=v) (hown:OwnQ w B v l ps Fs) (g C:Nat) (y:Ln) (p:La) (F:List Nat) (hx:a.eval x = .slice (some ⟨g,0,none⟩) 1 1) (hg:w.heap[g]?=some (.cells (y.cs p) 30 (0,0))) (hp:LnO w y p F) (hC:∀ b∈F,C≤b) (hCB:B≤C) (h1:∀ b∈Fs.flatten,b<C) (h2:∀ g,v.ownBlock=some g→g<C) (hl:l.length≤1000)
  (h:∀ (v':Value) (z:Sub B w0),OwnQ z.w B v' (l++[y]) (ps++[p]) (Fs++[F])→(∀ b,b<w.heap.size→v.ownBlock≠some b→z.w.heap[b]?=w.heap[b]?)→K (a.put o.dst v') z.w):o.wp Tryz.prog a w K Q:=by
 obtain ⟨i0,hi0,hz0,hz1,hz2⟩:=info_parts infoP
 have hsz:=hD.size
 refine wp_append_to s x 45 ho B 30 i0 _ 17 208 Tryz.underlying45 hi0 hz0 hz1 hz2 rfl (by decide) v l.length (cellsP l ps) hs hown.row ⟨g,0,none⟩ 1 1 (y.cs p).toList hx rfl (fun j u hj=>by
  have hc:=Lib.cell_of_heap hg j
  have e:(y.cs p)[j]?=some u:=by rw [←hj];simp
  have ha:(⟨g,0,none⟩:Addr).add j=⟨g,j,none⟩:=by simp [Addr.add];exact fun h=>h.symm
  rw [ha]
  exact hc.trans e) (csP_one y p) (by unfold maxLen;omega) (by omega) (by omega) (by decide) ?_
 intro g' cap w' k1 k2 k3
 have kp:∀ b,b<w.heap.size→v.ownBlock≠some b→w'.heap[b]?=w.heap[b]?:=fun b hb hne=>k2.block b hb (fun e=>hne e.symm)
 have fl:(Fs++[F]).flatten=Fs.flatten++F:=by simp
 refine h _ ⟨w',hD.grown k2 (Nat.le_trans hB hD.size) (fun k hk=>(hown.at k hk).1)⟩ ⟨by simp [hown.n1],by simp [hown.n2],by rw [List.length_append,cellsP_app _ _ _ _ hown.n1];exact k1,fun i hi=>?_,?_,?_⟩ kp
 ·
  rw [List.length_append,List.length_singleton] at hi
  by_cases hlt:i<l.length
  ·
   rw [show (l++[y]).getD i ln0=l.getD i ln0 by simp [List.getD_eq_getElem?_getD,List.getElem?_append,hlt],show (ps++[p]).getD i la0=ps.getD i la0 by simp [List.getD_eq_getElem?_getD,List.getElem?_append,show i<ps.length by rw [hown.n1];exact hlt],show (Fs++[F]).getD i []=Fs.getD i [] by simp [List.getD_eq_getElem?_getD,List.getElem?_append,show i<Fs.length by rw [hown.n2];exact hlt]]
   refine (hown.own i hlt).keep fun b hb=>kp b ((hown.own i hlt).lt b hb) fun e=>hown.out b e ?_
   refine List.mem_flatten.2 ⟨_,?_,hb⟩
   have hi2:i<Fs.length:=by rw [hown.n2];exact hlt
   simp [List.getD_eq_getElem?_getD,hi2]
  ·
   obtain rfl:i=l.length:=by omega
   rw [show (l++[y]).getD l.length ln0=y by simp [List.getD_eq_getElem?_getD],show (ps++[p]).getD l.length la0=p by rw [←hown.n1];simp [List.getD_eq_getElem?_getD],show (Fs++[F]).getD l.length []=F by rw [←hown.n2];simp [List.getD_eq_getElem?_getD]]
   exact hp.keep fun b hb=>kp b (hp.lt b hb) fun e=>by have:=h2 b e;have:=hC b hb;omega
 ·
  intro b hb
  rw [fl,List.mem_append] at hb
  rcases hb with hb|hb
  · exact hown.ge b hb
  · exact Nat.le_trans hCB (hC b hb)
 ·
  intro k hk hm
  rw [fl,List.mem_append] at hm
  obtain rfl:g'=k:=by simpa [Value.ownBlock] using hk
  rcases k3 with e|e
  ·
   rcases hm with hm|hm
   · exact hown.out _ e hm
   · have:=h2 _ e;have:=hC _ hm;omega
  ·
   rcases hm with hm|hm
   · have:=hown.lt _ hm;omega
   · have:=hp.lt _ hm;omega
theorem appQ (hgd:o.guard=none) (s x:Operand) (ho:o.op = .call { callee:=.builtin .append,args:=#[s,x],argTypes:=#[45,45] }) (hB:B≤w0.heap.size) (hD:Below B w0 w) {v:Value} {l:List Ln} {ps:List La} {Fs:List (List Nat)} (hs:a.eval s=v) (hown:OwnQ w B v l ps Fs) (g C:Nat) (y:Ln) (p:La) (F:List Nat) (hx:a.eval x = .slice (some ⟨g,0,none⟩) 1 1) (hg:w.heap[g]?=some (.cells (y.cs p) 30 (0,0))) (hp:LnO w y p F) (hC:∀ b∈F,C≤b) (hCB:B≤C) (h1:∀ b∈Fs.flatten,b<C) (h2:∀ g,v.ownBlock=some g→g<C) (hl:l.length≤1000)
  (h:∀ (v':Value) (z:Sub B w0),OwnQ z.w B v' (l++[y]) (ps++[p]) (Fs++[F])→(∀ b,b<w.heap.size→v.ownBlock≠some b→z.w.heap[b]?=w.heap[b]?)→wpList Tryz.prog ops Q rest (a.put o.dst v') z.w):wpList Tryz.prog ops Q (o::rest) a w :=
 wpList_plain hgd fun _ hK=>wp_appQ s x ho hB hD hs hown g C y p F hx hg hp hC hCB h1 h2 hl fun v' z k k'=>hK _ _ (h v' z k k')
end
theorem ownQ_empty (w:World) (B:Nat) (hB:B≤w.heap.size):OwnQ (w.alloc (Obj.cells #[] 30)) B (.slice (some ⟨w.heap.size,0,none⟩) 0 0) [] [] []:=⟨rfl,rfl,World.ownsRow_lit w #[] 0 hB (by decide) rfl,fun i h=>by simp at h,fun b h=>by simp at h,fun g h=>by simp⟩
theorem OwnQ.form {w:World} {B:Nat} {v:Value} {l:List Ln} {ps:List La} {Fs:List (List Nat)} (h:OwnQ w B v l ps Fs):∃ a c,v = .slice a l.length c:=by
 obtain ⟨h1,⟨rfl,h2⟩|⟨g,cap,cur,e,r⟩⟩:=h.row
 · exact ⟨none,0,by rw [h2]⟩
 · exact ⟨some ⟨g,0,none⟩,cap,e⟩
theorem OwnP.q {w:World} {B:Nat} {v:Value} {l:List Ln} {ps:List La} {Fs:List (List Nat)} (h:OwnP w B v l ps Fs):OwnQ w B v l ps Fs:=⟨h.n1,h.n2,h.row,h.own,h.ge,h.out⟩
end
def PtQ (s:ByteArray) (w:World) (r:Ending) (w':World):Prop:=∃ v ps Fs,r = .returned (.tuple #[v,.int .i64 (ptX s).2])∧OwnQ w' w.heap.size v (ptX s).1 ps Fs∧Below w.heap.size w w'
theorem OfR.new {s:ByteArray} {w:World} {r:Ending} {w':World} (h:OfR (parseN s) w r w'):∃ p:La,r = .returned (.tuple #[.agg ((pnX s).cs p),.bool (pnB s)])∧NwL w' w.heap.size (pnX s) p∧Below w.heap.size w w':=by
 obtain ⟨hb,⟨hn,rfl⟩|⟨x,p,hx,rfl,hn⟩⟩:=h
 ·
  obtain ⟨e1,e2⟩:=pnX_none hn
  rw [e1,e2]
  exact ⟨⟨none,0,none,0,none,0⟩,rfl,NwL.nil _ _ _ _ _ _ _,hb⟩
 ·
  obtain ⟨e1,e2⟩:=pnX_some hx
  rw [e1,e2]
  exact ⟨p,rfl,hn,hb⟩
theorem OwnS.form {w:World} {B:Nat} {v:Value} {l:List Value} (h:OwnS w B v l):∃ a c,v = .slice a l.length c:=by
 obtain ⟨h1,⟨rfl,h2⟩|⟨g,cap,cur,e,r⟩⟩:=h
 · exact ⟨none,0,by rw [h2]⟩
 · exact ⟨some ⟨g,0,none⟩,cap,e⟩
theorem OwnS.get {w:World} {B:Nat} {a:Option Addr} {c:Nat} {l:List Value} (h:OwnS w B (.slice a l.length c) l) {i:Nat} (hi:i<l.length):∃ g,a=some ⟨g,0,none⟩∧w.cell? ⟨g,i,none⟩=l[i]?:=by
 obtain ⟨h1,⟨e,h2⟩|⟨g,cap,cur,e,r⟩⟩:=id h
 · omega
 ·
  injection e with e1 e2 e3
  subst e1
  exact ⟨g,rfl,World.ownsRow.cellAt h i (by omega)⟩
theorem splA_len (l:List (List UInt8)):(txV l).length=l.length:=by simp [txV]
theorem spl_small:∀ (l cur:List UInt8),∀ p∈splA cur l,p.length≤cur.length+l.length
 | [], cur, p, hp => by
  unfold splA at hp
  split at hp
  · cases hp
  · simp at hp;subst hp;simp
 | c :: r, cur, p, hp => by
  unfold splA at hp
  split at hp
  ·
   rcases List.mem_cons.1 hp with rfl|hp
   · simp
   · have:=spl_small r [] p hp;simp at this ⊢;omega
  · have:=spl_small r (cur++[c]) p hp;simp at this ⊢;omega
theorem OwnS.with {w w':World} {B B':Nat} {v v':Value} {l:List Value} {x:List Ln} {ps:List La} {Fs:List (List Nat)} (h:OwnS w B v l) (h':OwnQ w B' v' x ps Fs) (hk:∀ b,b<w.heap.size→v'.ownBlock≠some b→w'.heap[b]?=w.heap[b]?):OwnS w' B v l :=
 ownsRow_keepL h fun g hg=>hk g (World.ownsRow.lt h g hg).2 fun e=>own_two h h'.row (by decide) hg e
theorem ptS (s:ByteArray) (w:World) (hz:s.size≤1048576):Calls Tryz.prog 28 #[.string s] w (PtQ s w):=by
 have FN:=hide (fun v ps Fs w' x n (e:ptX s=(x,n)) (ho:OwnQ w' w.heap.size v x ps Fs) (hb:Below w.heap.size w w')=>(show PtQ s w (.returned (.tuple #[v,.int .i64 n])) w' from ⟨v,ps,Fs,by rw [e],by rw [e];exact ho,hb⟩))
 have E0:=hide (show ptX s=ptA [] (splA [] s.data.toList) from rfl)
 have hs:s=bA s.data.toList:=(bA_of s).symm
 have hl:s.data.toList.length≤1048576:=by rw [←bA_size,←hs];exact hz
 generalize PtQ s w=R at *
 generalize ptX s=O at *
 generalize s.data.toList=r0 at *
 subst hs
 have B0:=hide (below_new w (.cells #[] 30))
 have Q0:=hide (ownQ_empty w w.heap.size (Nat.le_refl _))
 have S0:=hide (splS r0 (w.alloc (.cells #[] 30)) hl)
 have hl0:=hl
 clear hz hl
 go_enter Tryz.func28,Tryz.ntmps28
 go_wp2_with fail
 refine (uh S0).mono ?_
 rintro r w1 ⟨sv,rfl,hsv,hb1⟩
 have B1:=hide ((uh B0).trans (hb1.mono (uh B0).size))
 have Q1:=hide ((uh Q0).later hb1)
 have PS:=hide (fun p hp=>spl_small r0 [] p hp)
 have L0:=hide hl0
 clear hl0
 generalize splA [] r0=PP at *
 obtain ⟨sa,sc,rfl⟩:=hsv.form
 rw [splA_len] at hsv
 have V1:=hide hsv
 rw [splA_len]
 generalize (w.alloc (.cells #[] 30)).heap.size=BS at *
 clear hsv hb1 B0 Q0 S0
 go_wp2
 go_loopw [4,6] (fun v iv wr=>∃ (acc:List Ln) (ps:List La) (Fs:List (List Nat)) (i:Nat),iv = .int .i64 i∧i≤PP.length∧acc.length=i∧i≤100∧Hid (O=ptA acc (PP.drop i))∧OwnQ wr w.heap.size v acc ps Fs∧OwnS wr BS (.slice sa PP.length sc) (txV PP)∧Below w.heap.size w wr) (fun _ iv _=>PP.length-(intOf iv).toNat)
 case atStart=>exact ⟨[],[],[],0,rfl,Nat.zero_le _,rfl,by decide,uh E0,uh Q1,uh V1,uh B1⟩
 case round =>
  clear E0 Q1 V1 B1
  obtain ⟨acc,ps,Fs,i,rfl,hi,ha,h1,ho,own,hsv,hb⟩:=hrel
  by_cases hlt:i<PP.length
  ·
   have c1:(i:Int)<(PP.length:Int):=by omega
   have HO:=hide (show O=ptA acc (PP[i]::PP.drop (i+1)) by rw [←List.drop_eq_getElem_cons hlt];exact ho.out)
   obtain ⟨g,rfl,gc0⟩:=(show ∃ g,sa=some ⟨g,0,none⟩∧wr.cell? ⟨g,i,none⟩=(txV PP)[i]? from OwnS.get (by rw [splA_len];exact hsv) (by rw [splA_len];exact hlt))
   have gc:wr.cell? ⟨g,i,none⟩=some (.string (bA PP[i])):=by rw [gc0];simp [txV,hlt]
   clear gc0
   have L1:(bA PP[i]).size≤1048576:=by
    have:=uh PS PP[i] (List.getElem_mem hlt)
    have:=uh L0
    rw [bA_size]
    simp at *
    omega
   have PL:=hide (plS (bA PP[i]) wr L1)
   have OW:=hide own
   have SW0:=hide hsv
   have BW:=hide hb
   clear ho own hsv hb L1 PS L0
   generalize PP[i]=t1 at *
   go_wp2_with fail
   refine (uh PL).mono ?_
   rintro r w2 hr
   obtain ⟨p,rfl,hn,hb2⟩:=hr.new
   obtain ⟨F,hF,hFg⟩:=hn.own
   have hb3:=below_new w2 (.cells ((pnX (bA t1)).cs p) 30)
   have G3:=hide (show (w2.alloc (.cells ((pnX (bA t1)).cs p) 30)).heap[w2.heap.size]?=some (.cells ((pnX (bA t1)).cs p) 30 (0,0)) from Array.getElem?_push_size)
   obtain ⟨w3,hw3⟩:∃ X,w2.alloc (.cells ((pnX (bA t1)).cs p) 30)=X:=⟨_,rfl⟩
   rw [hw3] at hb3 G3
   have B2:=hide ((uh BW).trans (hb2.mono (uh BW).size))
   have B3:=hide ((uh B2).trans (hb3.mono (uh B2).size))
   have CO:=hide (fun p=>cs_one (pnX (bA t1)) p)
   have SO:=hide (szLc (pnX (bA t1)) p)
   have SH:=hide (show (#[.int .i64 0,.string ⟨#[]⟩,.int .i64 0,.int .i64 0,.int .i64 0,.int .i64 0,.int .i64 0,.string ⟨#[]⟩,.slice none 0 0,.int .i64 0,.int .i64 0,.int .i64 0,.int .i64 0,.string ⟨#[]⟩,.slice none 0 0,.int .i64 0,.slice none 0 0]:Array Value).size=((pnX (bA t1)).cs p).size from rfl)
   have FO:=hide (fun (h:pnB (bA t1)=false∨acc.length=100)=>uh FN (.slice (some ⟨w3.heap.size,0,none⟩) 0 0) [] [] (w3.alloc (.cells #[] 30)) [] acc.length ((uh HO).trans (ptA_stop h)) (ownQ_empty w3 w.heap.size (uh B3).size) ((uh B3).trans ((below_new w3 _).mono (uh B3).size)))
   have PG:=hide (fun h h'=>(uh HO).trans (ptA_go (acc:=acc) (s:=t1) (r:=PP.drop (i+1)) h h'))
   have SM:=hide (fun b hb=>(uh OW).lt b hb)
   have SW:=hide (fun g hg=>((uh OW).at g hg).2)
   have O3:=hide ((((uh OW).later hb2).later hb3))
   have V3:=hide ((((uh SW0).later hb2).later hb3))
   have F3:=hide (hF.later hb3)
   have FG:=hide hFg
   have BB:=hide (uh BW).size
   have HA:=hide ha
   have W3:=hide hw3
   rw [ha] at FO
   clear hF hFg hn hb2 hb3 hr hw3 ha B2 BW OW SW0 PL HO FN
   obtain ⟨v4a,v4c,rfl⟩:=(uh O3).form
   generalize hok:pnB (bA t1)=ok at *
   have OK:=hide hok
   clear hok
   cases ok with
   | false =>
    have F1:=hide (uh FO (.inl rfl))
    clear FO HA SM SW O3 V3 F3 FG BB G3 PG OK
    by_cases h100:i=100
    ·
     subst h100
     go_wp2_with ((with_reducible show wpList _ _ _ (⟨_,.store _ _ _,_,_,_,_⟩::_) _ _);refine storeM rfl 30 _ _ rfl ((pnX (bA t1)).cs p) rfl rfl _ (uh SO) (uh SH) (uh CO p) ?_;rw [uh W3])
     (try go_ret2)
     exact uh F1
    ·
     have h9:((i:Int) == 100)=false:=beq_eq_false_iff_ne.2 (by omega)
     go_wp2_with ((with_reducible show wpList _ _ _ (⟨_,.store _ _ _,_,_,_,_⟩::_) _ _);refine storeM rfl 30 _ _ rfl ((pnX (bA t1)).cs p) rfl rfl _ (uh SO) (uh SH) (uh CO p) ?_;rw [uh W3])
     (try go_ret2)
     exact uh F1
   | true =>
    by_cases h100:i=100
    ·
     have F1:=hide (uh FO (.inr h100))
     clear FO HA SM SW O3 V3 F3 FG BB G3 PG OK
     subst h100
     go_wp2_with ((with_reducible show wpList _ _ _ (⟨_,.store _ _ _,_,_,_,_⟩::_) _ _);refine storeM rfl 30 _ _ rfl ((pnX (bA t1)).cs p) rfl rfl _ (uh SO) (uh SH) (uh CO p) ?_;rw [uh W3])
     (try go_ret2)
     exact uh F1
    ·
     have h9:¬ (i:Int)=100:=by omega
     have s17:((pnX (bA t1)).cs p).size=17:=rfl
     have hb4:=below_new w3 (.cells ((pnX (bA t1)).cs p) 30)
     have G4:=hide (show (w3.alloc (.cells ((pnX (bA t1)).cs p) 30)).heap[w3.heap.size]?=some (.cells ((pnX (bA t1)).cs p) 30 (0,0)) from Array.getElem?_push_size)
     obtain ⟨w4,hw4⟩:∃ X,w3.alloc (.cells ((pnX (bA t1)).cs p) 30)=X:=⟨_,rfl⟩
     rw [hw4] at hb4 G4
     have B4:=hide ((uh B3).trans (hb4.mono (uh B3).size))
     have O4:=hide ((uh O3).later hb4)
     have V4:=hide ((uh V3).later hb4)
     have SK:=hide (fun w' hk=>OwnS.with (w':=w') (uh V4) (uh O4) hk)
     have F4:=hide ((uh F3).later hb4)
     have HO5:=hide (uh PG rfl (by rw [uh HA];exact h100))
     have HL:=hide (show acc.length≤1000 by rw [uh HA];omega)
     have HL5:=hide (show (acc++[pnX (bA t1)]).length=i+1 by have:=uh HA;simp;omega)
     have W4:=hide hw4
     clear hb4 hw4 FO O3 F3 V3 V4 PG HA OK B3
     go_wp2_with (first|((with_reducible show wpList _ _ _ (⟨_,.store _ _ _,_,_,_,_⟩::_) _ _);refine storeM rfl 30 _ _ rfl ((pnX (bA t1)).cs p) rfl rfl _ (uh SO) (uh SH) (uh CO p) ?_;rw [uh W3])|((with_reducible show wpList _ _ _ (⟨_,.load _ _,_,_,_,_⟩::_) _ _);refine wpList_load_row rfl 30 _ rfl w2.heap.size rfl 30 ((pnX (bA t1)).cs p) (0,0) _ (uh G3) Tryz.underlying30 rfl (uh SO) ?_)|(at_builtin;go_must ((first|rw [foldP]|rw [foldQ]);rw [uh W4];refine appQ rfl _ _ rfl (Nat.le_refl _) (uh B4) rfl (uh O4) w3.heap.size wr.heap.size (pnX (bA t1)) p F rfl (uh G4) (uh F4) (uh FG) (uh BB) (uh SM) (uh SW) (uh HL) ?_;intro v5 z5 hO hK;have O5:=hide hO;have S5:=hide (uh SK z5.w hK);clear hO hK)))
     go_roundw
     case rel=>exact ⟨_,_,_,i+1,by go_num,by omega,uh HL5,by omega,uh HO5,uh O5,uh S5,z5.h⟩
     case measure=>simp [intOf];omega
  ·
   have c1:¬ (i:Int)<(PP.length:Int):=by omega
   have FO:=hide (uh FN _ ps Fs wr acc (-1) (ho.out.trans (by rw [List.drop_eq_nil_of_le (by omega)];rfl)) own hb)
   clear ho own hsv hb PS L0 FN ha
   go_wp2
   (try go_ret2)
   exact uh FO
theorem cs_len (x:Ln) (p:La):(x.cs p).toList.length=17:=rfl
theorem cellsP_at:∀ (l:List Ln) (ps:List La) (i j:Nat),ps.length=l.length→i<l.length→j<17→(cellsP l ps)[i*17+j]?=((l.getD i ln0).cs (ps.getD i la0)).toList[j]?
 | [], _, i, j, _, h, _ => by simp at h
 | _ :: _, [], _, _, h, _, _ => by simp at h
 | y :: l, q :: ps, 0, j, _, _, hj => by
  rw [cellsP,List.getElem?_append_left (by rw [cs_len];omega),Nat.zero_mul,Nat.zero_add]
  rfl
 | y :: l, q :: ps, i + 1, j, h, hi, hj => by
  rw [cellsP,List.getElem?_append_right (by rw [cs_len];omega),cs_len,show (i+1)*17+j-17=i*17+j by omega]
  exact cellsP_at l ps i j (by simpa using h) (by simpa using hi) hj
structure RdLs (w:World) (v:Value) (l:List Ln) (ps:List La):Prop where
 at_:∃ a c,v = .slice a l.length c∧∀ i,i<l.length→∃ g,a=some ⟨g,0,none⟩∧w.rangeAt g (i*17) ((l.getD i ln0).cs (ps.getD i la0)).toList
 rd:∀ i,i<l.length→RdL w (l.getD i ln0) (ps.getD i la0)
theorem OwnQ.rdp {w:World} {B:Nat} {v:Value} {l:List Ln} {ps:List La} {Fs:List (List Nat)} (h:OwnQ w B v l ps Fs):RdLs w v l ps:=by
 refine ⟨?_,fun i hi=>(h.own i hi).rd⟩
 obtain ⟨h1,⟨e,h2⟩|⟨g,cap,cur,e,r⟩⟩:=h.row
 · exact ⟨none,0,by rw [e,h2],fun i hi=>by omega⟩
 ·
  refine ⟨some ⟨g,0,none⟩,cap,e,fun i hi=>⟨g,rfl,fun j u hj=>?_⟩⟩
  have hj17:j<17:=by
   have:=(List.getElem?_eq_some_iff.1 hj).1
   rwa [cs_len] at this
  have hr:=h.row
  rw [e] at hr
  rw [World.ownsRow.cellAt hr (i*17+j) (by omega),cellsP_at l ps i j h.n1 hi hj17]
  exact hj
theorem RdLs.later {w w':World} {v:Value} {l:List Ln} {ps:List La} (h:RdLs w v l ps) (hb:Below w.heap.size w w'):RdLs w' v l ps:=by
 obtain ⟨⟨a,c,e,h1⟩,h2⟩:=h
 refine ⟨⟨a,c,e,fun i hi=>?_⟩,fun i hi=>(h2 i hi).later hb⟩
 obtain ⟨g,e2,h3⟩:=h1 i hi
 refine ⟨g,e2,fun j u hj=>?_⟩
 exact cell_later hb (h3 j u hj)
theorem eqP_same (l:List Ln) (ps qs:List La) (va vb:Value) (w:World) (ha:RdLs w va l ps) (hb:RdLs w vb l qs) (hz:∀ i,i<l.length→SzL (l.getD i ln0)∧(Ex.mk 0 0 E0 (l.getD i ln0).l).sz≤1048576) (hl:l.length≤1048576):Calls Tryz.prog 34 #[va,vb] w fun r w'=>r = .returned (.bool true)∧Below w.heap.size w w':=by
 obtain ⟨⟨a,c,rfl,h1⟩,h2⟩:=id ha
 obtain ⟨⟨b,d,rfl,k1⟩,k2⟩:=id hb
 clear h1 h2 k1 k2
 have HA:=hide ha
 have HB:=hide hb
 have HZ:=hide hz
 clear ha hb hz
 obtain ⟨n,hn⟩:∃ n,l.length=n:=⟨_,rfl⟩
 rw [hn] at hl ⊢
 go_enter Tryz.func34,Tryz.ntmps34
 go_wp2
 go_loopw [5] (fun iv wr=>∃ (i:Nat) (y:Sub w.heap.size w),i≤n∧iv = .int .i64 i∧wr=y.w) (fun iv _=>n-(intOf iv).toNat)
 case atStart=>exact ⟨0,⟨w,Below.refl _ _⟩,Nat.zero_le _,rfl,rfl⟩
 case round =>
  obtain ⟨i,x,hi,rfl,rfl⟩:=hrel
  by_cases hln:i<n
  ·
   have hlt:i<l.length:=by omega
   have c1:(i:Int)<(n:Int):=by omega
   obtain ⟨⟨a',c',e1,h1⟩,h2⟩:=id (uh HA)
   obtain ⟨⟨b',d',e2,k1⟩,k2⟩:=id (uh HB)
   injection e1 with e1 _ e1c
   injection e2 with e2 _ e2c
   clear e1c e2c
   subst e1 e2
   obtain ⟨ga,rfl,ra⟩:=h1 i hlt
   obtain ⟨gb,rfl,rb⟩:=k1 i hlt
   have RA:∀ (y:Sub w.heap.size w) (j:Nat) (v:Value),((l.getD i ln0).cs (ps.getD i la0)).toList[j]?=some v→y.w.cell? ⟨ga,i*17+j,none⟩=some v:=fun y j v hv=>cell_later y.h (ra j v hv)
   have RB:∀ (y:Sub w.heap.size w) (j:Nat) (v:Value),((l.getD i ln0).cs (qs.getD i la0)).toList[j]?=some v→y.w.cell? ⟨gb,i*17+j,none⟩=some v:=fun y j v hv=>cell_later y.h (rb j v hv)
   have d0:∀ y:Sub w.heap.size w,y.w.cell? ⟨ga,i*17,none⟩=_:=fun y=>RA y 0 _ rfl
   have d1:∀ y:Sub w.heap.size w,y.w.cell? ⟨ga,i*17+1,none⟩=_:=fun y=>RA y 1 _ rfl
   have d2:∀ y:Sub w.heap.size w,y.w.cell? ⟨ga,i*17+2,none⟩=_:=fun y=>RA y 2 _ rfl
   have d3:∀ y:Sub w.heap.size w,y.w.cell? ⟨ga,i*17+3,none⟩=_:=fun y=>RA y 3 _ rfl
   have d4:∀ y:Sub w.heap.size w,y.w.cell? ⟨ga,i*17+4,none⟩=_:=fun y=>RA y 4 _ rfl
   have d5:∀ y:Sub w.heap.size w,y.w.cell? ⟨ga,i*17+5,none⟩=_:=fun y=>RA y 5 _ rfl
   have d6:∀ y:Sub w.heap.size w,y.w.cell? ⟨ga,i*17+6,none⟩=_:=fun y=>RA y 6 _ rfl
   have d7:∀ y:Sub w.heap.size w,y.w.cell? ⟨ga,i*17+7,none⟩=_:=fun y=>RA y 7 _ rfl
   have d8:∀ y:Sub w.heap.size w,y.w.cell? ⟨ga,i*17+8,none⟩=_:=fun y=>RA y 8 _ rfl
   have d9:∀ y:Sub w.heap.size w,y.w.cell? ⟨ga,i*17+9,none⟩=_:=fun y=>RA y 9 _ rfl
   have d10:∀ y:Sub w.heap.size w,y.w.cell? ⟨ga,i*17+10,none⟩=_:=fun y=>RA y 10 _ rfl
   have d11:∀ y:Sub w.heap.size w,y.w.cell? ⟨ga,i*17+11,none⟩=_:=fun y=>RA y 11 _ rfl
   have d12:∀ y:Sub w.heap.size w,y.w.cell? ⟨ga,i*17+12,none⟩=_:=fun y=>RA y 12 _ rfl
   have d13:∀ y:Sub w.heap.size w,y.w.cell? ⟨ga,i*17+13,none⟩=_:=fun y=>RA y 13 _ rfl
   have d14:∀ y:Sub w.heap.size w,y.w.cell? ⟨ga,i*17+14,none⟩=_:=fun y=>RA y 14 _ rfl
   have d15:∀ y:Sub w.heap.size w,y.w.cell? ⟨ga,i*17+15,none⟩=_:=fun y=>RA y 15 _ rfl
   have d16:∀ y:Sub w.heap.size w,y.w.cell? ⟨ga,i*17+16,none⟩=_:=fun y=>RA y 16 _ rfl
   have f0:∀ y:Sub w.heap.size w,y.w.cell? ⟨gb,i*17,none⟩=_:=fun y=>RB y 0 _ rfl
   have f1:∀ y:Sub w.heap.size w,y.w.cell? ⟨gb,i*17+1,none⟩=_:=fun y=>RB y 1 _ rfl
   have f2:∀ y:Sub w.heap.size w,y.w.cell? ⟨gb,i*17+2,none⟩=_:=fun y=>RB y 2 _ rfl
   have f3:∀ y:Sub w.heap.size w,y.w.cell? ⟨gb,i*17+3,none⟩=_:=fun y=>RB y 3 _ rfl
   have f4:∀ y:Sub w.heap.size w,y.w.cell? ⟨gb,i*17+4,none⟩=_:=fun y=>RB y 4 _ rfl
   have f5:∀ y:Sub w.heap.size w,y.w.cell? ⟨gb,i*17+5,none⟩=_:=fun y=>RB y 5 _ rfl
   have f6:∀ y:Sub w.heap.size w,y.w.cell? ⟨gb,i*17+6,none⟩=_:=fun y=>RB y 6 _ rfl
   have f7:∀ y:Sub w.heap.size w,y.w.cell? ⟨gb,i*17+7,none⟩=_:=fun y=>RB y 7 _ rfl
   have f8:∀ y:Sub w.heap.size w,y.w.cell? ⟨gb,i*17+8,none⟩=_:=fun y=>RB y 8 _ rfl
   have f9:∀ y:Sub w.heap.size w,y.w.cell? ⟨gb,i*17+9,none⟩=_:=fun y=>RB y 9 _ rfl
   have f10:∀ y:Sub w.heap.size w,y.w.cell? ⟨gb,i*17+10,none⟩=_:=fun y=>RB y 10 _ rfl
   have f11:∀ y:Sub w.heap.size w,y.w.cell? ⟨gb,i*17+11,none⟩=_:=fun y=>RB y 11 _ rfl
   have f12:∀ y:Sub w.heap.size w,y.w.cell? ⟨gb,i*17+12,none⟩=_:=fun y=>RB y 12 _ rfl
   have f13:∀ y:Sub w.heap.size w,y.w.cell? ⟨gb,i*17+13,none⟩=_:=fun y=>RB y 13 _ rfl
   have f14:∀ y:Sub w.heap.size w,y.w.cell? ⟨gb,i*17+14,none⟩=_:=fun y=>RB y 14 _ rfl
   have f15:∀ y:Sub w.heap.size w,y.w.cell? ⟨gb,i*17+15,none⟩=_:=fun y=>RB y 15 _ rfl
   have f16:∀ y:Sub w.heap.size w,y.w.cell? ⟨gb,i*17+16,none⟩=_:=fun y=>RB y 16 _ rfl
   have HE:=hide (fun y:Sub w.heap.size w=>eqL_same _ _ _ y.w ((h2 i hlt).later y.h) ((k2 i hlt).later y.h) (uh HZ i hlt).1 (uh HZ i hlt).2)
   have ne:=Sub.ne w.heap.size w
   have HQ:=hide (Nat.le_refl w.heap.size)
   clear h1 h2 k1 k2 ra rb HA HB HZ RA RB hlt hn
   unfold Ln.cs at HE
   generalize l.getD i ln0=X at *
   generalize ps.getD i la0=p at *
   generalize qs.getD i la0=q at *
   go_wp2_with fail
   refine wp_region_sub x (by kernel_rfl) (by kernel_rfl) ?_
   repeat (go_big_quiet_step (first|(go_at_call 31;exact Sub.call (uh HQ) (uh HE _))))
   refine wpQuiet_nil ?_
   intro y
   go_wp2
   go_roundw
   case rel=>exact ⟨i+1,y,by omega,by go_num,rfl⟩
   case measure=>simp [intOf];omega
  ·
   have c1:¬ (i:Int)<(n:Int):=by omega
   go_wp2
   go_ret
   exact ⟨rfl,x.h⟩
theorem ct_toks:∀ (d:Nat) (e:Ex),okF d true e=true→1+e.ct≤(toksF d e).length:=by
 intro d
 induction d with
 | zero => intro e h; cases h
 | succ d ih =>
  intro e h
  rcases plain_cases h with ⟨n,hn,rfl⟩|⟨s,hs,rfl⟩|rfl|⟨a,ha,rfl⟩|⟨k,a,b,hk,ha,hb,rfl⟩
  · rw [toks_num];simp [Ex.ct]
  · rw [toks_sym];simp [Ex.ct]
  · rw [toks_here];simp [Ex.ct]
  ·
   have:=ih a ha
   rw [toks_neg];simp [Ex.ct];omega
  ·
   have:=ih a ha
   have:=ih b hb
   rw [toks_two d hk];simp [Ex.ct];omega
theorem ctX_cons (e:Ex) (l:List Ex):ctX (e::l)=1+e.ct+ctX l:=by
 simp [ctX];omega
theorem ct_rest:∀ l:List Ex,l.all (okF 6 true)=true→ctX l≤((l.map fun x=>mkT 44::toksF 6 x).flatten).length:=by
 intro l
 induction l with
 | nil => intro _; exact Nat.le_refl 0
 | cons e r ih =>
  intro ok
  obtain ⟨oke,okl⟩:=Bool.and_eq_true_iff.1 (show (okF 6 true e&&r.all (okF 6 true))=true from ok)
  have h1:=ct_toks 6 e oke
  have h2:=ih okl
  rw [ctX_cons]
  simp only [List.map_cons,List.flatten_cons,List.length_append,List.length_cons]
  omega
theorem ct_list (l:List Ex) (ok:l.all (okF 6 true)=true):ctX l≤(cmT l).length:=by
 cases l with
 | nil => exact Nat.le_refl 0
 | cons e r =>
  obtain ⟨oke,okl⟩:=Bool.and_eq_true_iff.1 (show (okF 6 true e&&r.all (okF 6 true))=true from ok)
  have h1:=ct_toks 6 e oke
  have h2:=ct_rest r okl
  rw [ctX_cons]
  show _≤(toksF 6 e++(r.map fun x=>mkT 44::toksF 6 x).flatten).length
  rw [List.length_append]
  omega
theorem ct_nil:ctX []≤0:=Nat.le_refl 0
theorem ct_sing {e:Ex} (h:okF 6 true e=true):ctX [e]≤505:=by
 have h1:=plain_small h
 have h2:=ct_szB e
 rw [ctX_cons]
 have:=ct_nil
 omega
theorem tms_ct {k:Int} {ts q:List Tk} {x:Ln} (h:AllOk ts) (hp:pTms k ts=some (x,q)):ctX x.l≤ts.length:=by
 unfold pTms at hp
 split at hp
 · cases hp
 ·
  rename_i l q hl'
  obtain ⟨_,ho,e⟩:=pLst_some _ _ _ _ h hl'
  cases hp
  have:=ct_list l ho
  have:(cmT l).length≤ts.length:=by rw [e];simp
  show ctX l≤_
  omega
theorem ln_ct {ts q:List Tk} {x:Ln} (h:AllOk ts) (hp:pLn ts=some (x,q)):ctX x.l≤ts.length+505:=by
 have n0:ctX []≤0:=Nat.le_refl 0
 cases ts with
 | nil => cases hp
 | cons t r =>
  obtain ⟨ht,hr⟩:=h.head
  have hll:(t::r).length=r.length+1:=rfl
  rw [pLn_eq] at hp
  split at hp
  ·
   split at hp
   ·
    unfold pIns at hp
    split at hp
    ·
     split at hp
     · cases hp
     ·
      rename_i a q1 ha
      split at hp
      ·
       split at hp
       · cases hp
       ·
        rename_i b q2 hb
        cases hp
        show ctX []≤_
        omega
      · cases hp
    split at hp
    ·
     split at hp
     · cases hp
     ·
      rename_i b q1 hb
      cases hp
      show ctX []≤_
      omega
    split at hp
    ·
     split at hp
     · cases hp
     ·
      rename_i t1 q1
      split at hp
      ·
       split at hp
       · cases hp
       ·
        rename_i b q2 hb
        cases hp
        show ctX []≤_
        omega
      · cases hp
    split at hp
    ·
     split at hp
     · cases hp
     ·
      cases hp
      show ctX []≤_
      omega
    split at hp
    ·
     cases hp
     show ctX []≤_
     omega
    ·
     split at hp
     · cases hp
     ·
      rename_i e q1 he
      obtain ⟨ok,_⟩:=toks_read 6 _ _ _ hr he
      cases hp
      have:=ct_sing ok
      show ctX [e]≤_
      omega
   · cases hp
  split at hp
  ·
   unfold pDot at hp
   split at hp
   ·
    have:=tms_ct hr hp
    omega
   split at hp
   ·
    have:=tms_ct hr hp
    omega
   split at hp
   ·
    have:=tms_ct hr hp
    omega
   split at hp
   ·
    cases hp
    show ctX []≤_
    omega
   split at hp
   ·
    split at hp
    · cases hp
    ·
     rename_i t1 q1
     split at hp
     ·
      split at hp
      · cases hp
      ·
       split at hp
       ·
        cases hp
        show ctX []≤_
        omega
       · cases hp
     ·
      cases hp
      show ctX []≤_
      omega
   · cases hp
  split at hp
  ·
   split at hp
   ·
    injection hp with hp
    injection hp with hp1 _
    subst hp1
    show ctX []≤_
    omega
   split at hp
   ·
    split at hp
    · cases hp
    ·
     rename_i e q1 he
     obtain ⟨ok,_⟩:=toks_read 6 _ _ _ hr.tail he
     cases hp
     have:=ct_sing ok
     show ctX [e]≤_
     omega
   · cases hp
  · cases hp
def cnL (x:Ln):Nat:=14+3*x.src.e.ct+3*x.dst.e.ct+3*(Ex.mk 0 0 E0 x.l).ct
theorem SmL.cn {x:Ln} {n m:Nat} (h:SmL x n) (h2:ctX x.l≤1305):cnL x≤7000:=by
 have c1:=ct_szB x.src.e
 have c2:=ct_szB x.dst.e
 have c3:=ct_is (Ex.mk 0 0 E0 x.l)
 have:=h.a
 have:=h.b
 unfold cnL
 rw [c3]
 show 14+3*x.src.e.ct+3*x.dst.e.ct+3*ctX x.l≤7000
 omega
theorem pnX_cn (s:ByteArray):cnL (pnX s)≤7000:=by
 have z:cnL ln0≤7000:=(SmL.cn (x:=ln0) (n:=800) (m:=0) ⟨by decide,a0_504,a0_504,by simp [ln0],rfl⟩ (show ctX []≤1305 by simp [ctX]))
 unfold pnX parseN
 split
 ·
  unfold pOf
  split
  · exact z
  ·
   split
   ·
    rename_i x hx
    split
    ·
     have:=lex_len s
     have h2:=ln_ct (lex_ok s) hx
     exact SmL.cn (x:=x) (m:=0) (ln_sm (lex_ok s) (by omega) hx) (by omega)
    · exact z
   · exact z
 · exact z
theorem ptA_form:∀ (r:List (List UInt8)) (acc:List Ln),acc.length≤100→(∀ x∈acc,∃ t,x=pnX t)→(ptA acc r).1.length≤100∧∀ x∈(ptA acc r).1,∃ t,x=pnX t
 | [], acc, h1, h2 => ⟨h1, h2⟩
 | s :: r, acc, h1, h2 => by
  unfold ptA
  split
  · exact ⟨Nat.zero_le _,fun x hx=>by simp at hx⟩
  ·
   rename_i hc
   refine ptA_form r _ ?_ ?_
   ·
    have:acc.length≠100:=fun e=>hc (.inr e)
    simp
    omega
   ·
    intro x hx
    rw [List.mem_append] at hx
    rcases hx with hx|hx
    · exact h2 x hx
    · exact ⟨_,List.mem_singleton.1 hx⟩
theorem ptX_form (s:ByteArray):(ptX s).1.length≤100∧∀ x∈(ptX s).1,∃ t,x=pnX t:=ptA_form _ _ (by simp) (fun x hx=>by simp at hx)
theorem getD_mem {l:List Ln} {i:Nat} (h:i<l.length):l.getD i ln0∈l:=by
 rw [List.getD_eq_getElem?_getD,List.getElem?_eq_getElem h]
 exact List.getElem_mem h
theorem ptX_size (s:ByteArray):(ptX s).1.length≤100∧∀ i,i<(ptX s).1.length→(SzL ((ptX s).1.getD i ln0)∧(Ex.mk 0 0 E0 ((ptX s).1.getD i ln0).l).sz≤1048576)∧cnL ((ptX s).1.getD i ln0)≤7000:=by
 obtain ⟨h1,h2⟩:=ptX_form s
 refine ⟨h1,fun i hi=>?_⟩
 obtain ⟨t,e⟩:=h2 _ (getD_mem hi)
 rw [e]
 obtain ⟨z1,z2,_⟩:=pnX_small t
 exact ⟨⟨z1,z2⟩,pnX_cn t⟩
def posP (l:List Ln) (K:Nat):Nat→Nat
 | 0 => K
 | i + 1 => posP l K i + cnL (l.getD i ln0)
theorem posP_le (l:List Ln) (K:Nat) (h:∀ i,i<l.length→cnL (l.getD i ln0)≤7000):∀ i,i≤l.length→posP l K i≤K+7000*i
 | 0, _ => Nat.le_refl _
 | i + 1, hi => by
  have:=posP_le l K h i (by omega)
  have:=h i (by omega)
  show posP l K i+cnL (l.getD i ln0)≤_
  omega
theorem posP_pos (l:List Ln) (K:Nat) (hK:0<K):∀ i,0<posP l K i
 | 0 => hK
 | i + 1 => by
  have:=posP_pos l K hK i
  show 0<posP l K i+cnL (l.getD i ln0)
  omega
section
def putR (L:List Value) (i:Nat) (X:List Value):List Value:=L.take (i*17)++(X++L.drop (i*17+17))
theorem putR_at (L X:List Value) (i j:Nat) (hL:i*17+17≤L.length) (hX:X.length=17) (hj:j<17):(putR L i X)[i*17+j]?=X[j]?:=by
 have h1:(L.take (i*17)).length=i*17:=by rw [List.length_take];omega
 unfold putR
 rw [List.getElem?_append_right (by omega),h1,show i*17+j-i*17=j by omega,List.getElem?_append_left (by omega)]
theorem putR_set (L X:List Value) (i j:Nat) (u:Value) (hL:i*17+17≤L.length) (hX:X.length=17) (hj:j<17):(putR L i X).set (i*17+j) u=putR L i (X.set j u):=by
 have h1:(L.take (i*17)).length=i*17:=by rw [List.length_take];omega
 unfold putR
 rw [List.set_append_right _ _ (by omega),h1,show i*17+j-i*17=j by omega,List.set_append_left _ _ (by omega)]
theorem cellsP_len:∀ (l:List Ln) (ps:List La),ps.length=l.length→(cellsP l ps).length=l.length*17
 | [], [], _ => rfl
 | [], _ :: _, h => by simp at h
 | _ :: _, [], h => by simp at h
 | y :: l, q :: ps, h => by
  have:=cellsP_len l ps (by simpa using h)
  rw [cellsP,List.length_append,cs_len,this,List.length_cons]
  omega
theorem putR_cells:∀ (l:List Ln) (ps:List La) (i:Nat) (x:Ln),ps.length=l.length→i<l.length→putR (cellsP l ps) i (x.cs (ps.getD i la0)).toList=cellsP (l.set i x) ps
 | [], _, i, x, _, h => by simp at h
 | _ :: _, [], _, _, h, _ => by simp at h
 | y :: l, q :: ps, 0, x, _, _ => by
  unfold putR
  rw [List.set_cons_zero,cellsP,cellsP,Nat.zero_mul,List.take_zero,List.nil_append,Nat.zero_add,List.drop_append_of_le_length (by rw [cs_len];exact Nat.le_refl _),List.drop_of_length_le (by rw [cs_len];exact Nat.le_refl _),List.nil_append]
  rfl
 | y :: l, q :: ps, i + 1, x, h, hi => by
  have ih:=putR_cells l ps i x (by simpa using h) (by simpa using hi)
  unfold putR at ih ⊢
  have e1:((y.cs q).toList++cellsP l ps).take ((i+1)*17)=(y.cs q).toList++(cellsP l ps).take (i*17):=by
   rw [List.take_append,List.take_of_length_le (by rw [cs_len];omega),cs_len,show (i+1)*17-17=i*17 by omega]
  have e2:((y.cs q).toList++cellsP l ps).drop ((i+1)*17+17)=(cellsP l ps).drop (i*17+17):=by
   rw [List.drop_append,List.drop_of_length_le (by rw [cs_len];omega),cs_len,show (i+1)*17+17-17=i*17+17 by omega,List.nil_append]
  rw [List.set_cons_succ,cellsP,cellsP,e1,e2,←ih,List.append_assoc]
  rfl
theorem getD_set_eq {l:List Ln} {i:Nat} (h:i<l.length) (y:Ln):(l.set i y).getD i ln0=y:=by
 rw [List.getD_eq_getElem?_getD,List.getElem?_set_self h]
 rfl
theorem getD_set_ne {l:List Ln} {i j:Nat} (h:i≠j) (y:Ln):(l.set i y).getD j ln0=l.getD j ln0:=by
 rw [List.getD_eq_getElem?_getD,List.getD_eq_getElem?_getD,List.getElem?_set_ne h]
theorem set_getD {l:List Ln} {i:Nat} (h:i<l.length):l.set i (l.getD i ln0)=l:=by
 apply List.ext_getElem?
 intro j
 by_cases e:i=j
 ·
  subst e
  rw [List.getElem?_set_self h,List.getD_eq_getElem?_getD,List.getElem?_eq_getElem h]
  rfl
 · rw [List.getElem?_set_ne e]
theorem own_blk {w w':World} {B t s g n cap:Nat} {xs:List Value} (h:w.ownsRow B t s (.slice (some ⟨g,0,none⟩) n cap) n xs) (hk:w'.heap[g]?=w.heap[g]?):w'.ownsRow B t s (.slice (some ⟨g,0,none⟩) n cap) n xs:=by
 obtain ⟨k1,⟨e1,_⟩|⟨g',cap',cur,e1,hg,hh,r⟩⟩:=h
 · cases e1
 ·
  cases e1
  exact ⟨k1,.inr ⟨g,cap,cur,rfl,hg,hk.trans hh,r⟩⟩
structure Rnd (w0 w:World) (B g n cap i:Nat) (L:List Value) (p:La) (F1 F2 F3:List Nat) (X:List Value) (e1 e2 e3:Ex):Prop where
 row:w.ownsRow B 30 17 (.slice (some ⟨g,0,none⟩) n cap) n (putR L i X)
 hX:X.length=17
 hL:L.length=n*17
 hi:i<n
 bel:Below B w0 w
 fr:∀ b,b<w0.heap.size→b≠g→b∉F1++(F2++F3)→w.heap[b]?=w0.heap[b]?
 o1:OwX w e1 p.b1 F1
 o2:OwX w e2 p.b2 F2
 o3:OwX w e3 p.b3 F3
 out:g∉F1++(F2++F3)
 nd:(F1++(F2++F3)).Nodup
 ge:∀ b∈F1++(F2++F3),B≤b
 hB:B≤w0.heap.size
section
variable {w0 w w':World} {B g n cap i:Nat} {L:List Value} {p:La} {F1 F2 F3:List Nat} {X:List Value} {e1 e2 e3:Ex}
theorem Rnd.lt (h:Rnd w0 w B g n cap i L p F1 F2 F3 X e1 e2 e3):B≤g∧g<w.heap.size:=World.ownsRow.lt h.row g rfl
theorem Rnd.le (h:Rnd w0 w B g n cap i L p F1 F2 F3 X e1 e2 e3):i*17+17≤L.length:=by
 have h1:=h.hL
 have h2:=h.hi
 omega
theorem Rnd.cell (h:Rnd w0 w B g n cap i L p F1 F2 F3 X e1 e2 e3) (j:Nat) (hj:j<17) (v:Value) (hv:X[j]?=some v):w.cell? ⟨g,i*17+j,none⟩=some v:=by
 have h2:=h.hi
 rw [World.ownsRow.cellAt h.row (i*17+j) (by omega),putR_at L X i j h.le h.hX hj]
 exact hv
theorem Rnd.frz (h:Rnd w0 w B g n cap i L p F1 F2 F3 X e1 e2 e3) (j:Nat):w.frozen? ⟨g,i*17+j,none⟩=false:=World.ownsRow.frozenAt h.row _
theorem Rnd.store (h:Rnd w0 w B g n cap i L p F1 F2 F3 X e1 e2 e3) (j:Nat) (hj:j<17) (u:Value):Rnd w0 (w.setCell ⟨g,i*17+j,none⟩ u) B g n cap i L p F1 F2 F3 (X.set j u) e1 e2 e3:=by
 have hk:∀ b,b≠g→(w.setCell ⟨g,i*17+j,none⟩ u).heap[b]?=w.heap[b]?:=fun b hb=>heap_setCell_other _ _ _ _ hb
 have ho:∀ b∈F1++(F2++F3),b≠g:=fun b hb e=>h.out (e▸hb)
 have r:=(World.ownsRow.stored h.row (i*17+j) u).1
 rw [putR_set L X i j u h.le h.hX hj] at r
 exact { h with
  row:=r
  hX:=by rw [List.length_set];exact h.hX
  bel:=h.bel.setCell (p:=⟨g,_,none⟩) h.lt.1 _
  fr:=fun b hb hne hF=>(hk b hne).trans (h.fr b hb hne hF)
  o1:=OwX.keep _ _ _ (fun b hb=>hk b (ho b (by simp [hb]))) h.o1
  o2:=OwX.keep _ _ _ (fun b hb=>hk b (ho b (by simp [hb]))) h.o2
  o3:=OwX.keep _ _ _ (fun b hb=>hk b (ho b (by simp [hb]))) h.o3 }
theorem Rnd.call (h:Rnd w0 w B g n cap i L p F1 F2 F3 X e1 e2 e3) (hb:Below w.heap.size w w'):Rnd w0 w' B g n cap i L p F1 F2 F3 X e1 e2 e3 :=
 { h with
   row:=own_blk h.row (hb.block g h.lt.2)
   bel:=h.bel.trans (hb.mono (Nat.le_trans h.hB h.bel.size))
   fr:=fun b hl hne hF=>(hb.block b (Nat.lt_of_lt_of_le hl h.bel.size)).trans (h.fr b hl hne hF)
   o1:=h.o1.later hb
   o2:=h.o2.later hb
   o3:=h.o3.later hb }
theorem Rnd.m1 (h:Rnd w0 w B g n cap i L p F1 F2 F3 X e1 e2 e3) (k:Nat) (hk:0<k) (hb:k+3*e1.ct≤8000000):Calls Tryz.prog 89 #[.slice p.b1 e1.l.length p.c1,.int .i64 k] w fun r w'=>∃ y:Ex,r = .returned (.int .i64 ((k+3*e1.ct:Nat):Int))∧MkX e1 k y∧Rnd w0 w' B g n cap i L p F1 F2 F3 X y e2 e3:=by
 obtain ⟨n1,n2,n3,q21,q31,q12,q32,q13,q23⟩:=apart3 h.nd
 refine (markXS_any e1 p.b1 p.c1 k F1 B w h.o1 n1 (fun b hb=>h.ge b (by simp [hb])) (Nat.le_trans h.hB h.bel.size) hk hb).mono ?_
 rintro r w' ⟨y,rfl,h1,h2,h3,h4⟩
 have s:=h.bel.size
 exact ⟨y,rfl,h1,{ h with
  row:=own_blk h.row (h4 g h.lt.2 (fun e=>h.out (by simp [e])))
  bel:=h.bel.trans h3
  fr:=fun b hl hne hF=>(h4 b (by omega) (fun e=>hF (by simp [e]))).trans (h.fr b hl hne hF)
  o1:=h2
  o2:=OwX.keep _ _ _ (fun b hb=>h4 b (OwX.lt _ _ _ h.o2 b hb) (q21 b hb)) h.o2
  o3:=OwX.keep _ _ _ (fun b hb=>h4 b (OwX.lt _ _ _ h.o3 b hb) (q31 b hb)) h.o3 }⟩
theorem Rnd.m2 (h:Rnd w0 w B g n cap i L p F1 F2 F3 X e1 e2 e3) (k:Nat) (hk:0<k) (hb:k+3*e2.ct≤8000000):Calls Tryz.prog 89 #[.slice p.b2 e2.l.length p.c2,.int .i64 k] w fun r w'=>∃ y:Ex,r = .returned (.int .i64 ((k+3*e2.ct:Nat):Int))∧MkX e2 k y∧Rnd w0 w' B g n cap i L p F1 F2 F3 X e1 y e3:=by
 obtain ⟨n1,n2,n3,q21,q31,q12,q32,q13,q23⟩:=apart3 h.nd
 refine (markXS_any e2 p.b2 p.c2 k F2 B w h.o2 n2 (fun b hb=>h.ge b (by simp [hb])) (Nat.le_trans h.hB h.bel.size) hk hb).mono ?_
 rintro r w' ⟨y,rfl,h1,h2,h3,h4⟩
 have s:=h.bel.size
 exact ⟨y,rfl,h1,{ h with
  row:=own_blk h.row (h4 g h.lt.2 (fun e=>h.out (by simp [e])))
  bel:=h.bel.trans h3
  fr:=fun b hl hne hF=>(h4 b (by omega) (fun e=>hF (by simp [e]))).trans (h.fr b hl hne hF)
  o2:=h2
  o1:=OwX.keep _ _ _ (fun b hb=>h4 b (OwX.lt _ _ _ h.o1 b hb) (q12 b hb)) h.o1
  o3:=OwX.keep _ _ _ (fun b hb=>h4 b (OwX.lt _ _ _ h.o3 b hb) (q32 b hb)) h.o3 }⟩
theorem Rnd.m3 (h:Rnd w0 w B g n cap i L p F1 F2 F3 X e1 e2 e3) (k:Nat) (hk:0<k) (hb:k+3*e3.ct≤8000000):Calls Tryz.prog 89 #[.slice p.b3 e3.l.length p.c3,.int .i64 k] w fun r w'=>∃ y:Ex,r = .returned (.int .i64 ((k+3*e3.ct:Nat):Int))∧MkX e3 k y∧Rnd w0 w' B g n cap i L p F1 F2 F3 X e1 e2 y:=by
 obtain ⟨n1,n2,n3,q21,q31,q12,q32,q13,q23⟩:=apart3 h.nd
 refine (markXS_any e3 p.b3 p.c3 k F3 B w h.o3 n3 (fun b hb=>h.ge b (by simp [hb])) (Nat.le_trans h.hB h.bel.size) hk hb).mono ?_
 rintro r w' ⟨y,rfl,h1,h2,h3,h4⟩
 have s:=h.bel.size
 exact ⟨y,rfl,h1,{ h with
  row:=own_blk h.row (h4 g h.lt.2 (fun e=>h.out (by simp [e])))
  bel:=h.bel.trans h3
  fr:=fun b hl hne hF=>(h4 b (by omega) (fun e=>hF (by simp [e]))).trans (h.fr b hl hne hF)
  o3:=h2
  o1:=OwX.keep _ _ _ (fun b hb=>h4 b (OwX.lt _ _ _ h.o1 b hb) (q13 b hb)) h.o1
  o2:=OwX.keep _ _ _ (fun b hb=>h4 b (OwX.lt _ _ _ h.o2 b hb) (q23 b hb)) h.o2 }⟩
end
def mkLn (k m q:Nat) (y1 y2 y3:Ex):Ln:=⟨((k:Nat):Int),mkTx (k+1),((k+2:Nat):Int),⟨((k+3:Nat):Int),((k+4:Nat):Int),⟨((k+5:Nat):Int),((k+6:Nat):Int),mkTx (k+7),y1.l⟩⟩,⟨((m:Nat):Int),((m+1:Nat):Int),⟨((m+2:Nat):Int),((m+3:Nat):Int),mkTx (m+4),y2.l⟩⟩,((q:Nat):Int),y3.l⟩
def MkLn (x:Ln) (k:Nat) (y:Ln):Prop:=∃ (m q:Nat) (y1 y2 y3:Ex),m=k+8+3*x.src.e.ct∧q=m+5+3*x.dst.e.ct∧MkX x.src.e (k+8) y1∧MkX x.dst.e (m+5) y2∧MkX ⟨0,0,E0,x.l⟩ (q+1) y3∧y=mkLn k m q y1 y2 y3
structure Mkp (w wr:World) (B:Nat) (v:Value) (l:List Ln) (ps:List La) (Fs:List (List Nat)) (K i:Nat) (ys:List Ln):Prop where
 own:OwnP wr B v ys ps Fs
 yl:ys.length=l.length
 done:∀ j,j<i→MkLn (l.getD j ln0) (posP l K j) (ys.getD j ln0)
 rest:∀ j,i≤j→ys.getD j ln0=l.getD j ln0
 bel:Below B w wr
 hB:B≤w.heap.size
 fr:∀ b,b<w.heap.size→v.ownBlock≠some b→b∉Fs.flatten→wr.heap[b]?=w.heap[b]?
theorem Mkp.rnd {w wr:World} {B g n cap:Nat} {l:List Ln} {ps:List La} {Fs:List (List Nat)} {K i:Nat} {ys:List Ln} (h:Mkp w wr B (.slice (some ⟨g,0,none⟩) n cap) l ps Fs K i ys) (hn:l.length=n) (hi:i<n) :
  ∃ F1 F2 F3,Fs.getD i []=F1++(F2++F3)∧Rnd wr wr B g n cap i (cellsP ys ps) (ps.getD i la0) F1 F2 F3 ((l.getD i ln0).cs (ps.getD i la0)).toList (l.getD i ln0).src.e (l.getD i ln0).dst.e ⟨0,0,E0,(l.getD i ln0).l⟩:=by
 have hy:ys.length=n:=h.yl.trans hn
 obtain ⟨F1,F2,F3,e,h1,h2,h3⟩:=h.own.own i (by omega)
 have hmem:∀ b∈F1++(F2++F3),b∈Fs.flatten:=fun b hb=>getD_flat (i:=i) (by rw [e];exact hb)
 have hr:=h.own.row
 rw [hy,←set_getD (l:=ys) (i:=i) (by omega),←putR_cells ys ps i _ h.own.n1 (by omega),h.rest i (Nat.le_refl _)] at hr
 rw [h.rest i (Nat.le_refl _)] at h1 h2 h3
 exact ⟨F1,F2,F3,e,hr,rfl,by rw [cellsP_len _ _ h.own.n1,hy],hi,Below.refl _ _,fun b _ _ _=>rfl,h1,h2,h3,fun hg=>h.own.out g rfl (hmem g hg),e▸flat_part Fs i h.own.nd,fun b hb=>h.own.ge b (hmem b hb),Nat.le_trans h.hB h.bel.size⟩
theorem Mkp.step {w wr w':World} {B g n cap:Nat} {l:List Ln} {ps:List La} {Fs:List (List Nat)} {K i:Nat} {ys:List Ln} (h:Mkp w wr B (.slice (some ⟨g,0,none⟩) n cap) l ps Fs K i ys) (hn:l.length=n) (hi:i<n) {F1 F2 F3:List Nat} (e:Fs.getD i []=F1++(F2++F3)) {m q:Nat} {y1 y2 y3:Ex}
  (h1:m=posP l K i+8+3*(l.getD i ln0).src.e.ct) (h2:q=m+5+3*(l.getD i ln0).dst.e.ct) (m1:MkX (l.getD i ln0).src.e (posP l K i+8) y1) (m2:MkX (l.getD i ln0).dst.e (m+5) y2) (m3:MkX ⟨0,0,E0,(l.getD i ln0).l⟩ (q+1) y3)
  (hr:Rnd wr w' B g n cap i (cellsP ys ps) (ps.getD i la0) F1 F2 F3 ((mkLn (posP l K i) m q y1 y2 y3).cs (ps.getD i la0)).toList y1 y2 y3):Mkp w w' B (.slice (some ⟨g,0,none⟩) n cap) l ps Fs K (i+1) (ys.set i (mkLn (posP l K i) m q y1 y2 y3)):=by
 have hy:ys.length=n:=h.yl.trans hn
 have hmem:∀ b∈F1++(F2++F3),b∈Fs.flatten:=fun b hb=>getD_flat (i:=i) (by rw [e];exact hb)
 have hrow:=hr.row
 rw [putR_cells ys ps i _ h.own.n1 (by omega)] at hrow
 refine ⟨⟨by rw [List.length_set];exact h.own.n1,by rw [List.length_set];exact h.own.n2,by rw [List.length_set,hy];exact hrow,fun j hj=>?_,h.own.nd,h.own.ge,h.own.out⟩,by rw [List.length_set];exact h.yl,fun j hj=>?_,fun j hj=>?_,h.bel.trans hr.bel,h.hB,fun b hb hv hF=>?_⟩
 ·
  rw [List.length_set] at hj
  by_cases hij:i=j
  ·
   subst hij
   rw [getD_set_eq hj]
   exact ⟨F1,F2,F3,e,hr.o1.of rfl,hr.o2.of rfl,hr.o3.of rfl⟩
  ·
   rw [getD_set_ne hij]
   refine (h.own.own j hj).keep fun b hb=>hr.fr b ((h.own.own j hj).lt b hb) (fun eg=>h.own.out g rfl (eg▸getD_flat hb)) (fun hb2=>?_)
   rw [←e] at hb2
   exact flat_apart _ _ _ _ h.own.nd hij hb2 hb
 ·
  by_cases hij:i=j
  ·
   subst hij
   rw [getD_set_eq (by omega)]
   exact ⟨m,q,y1,y2,y3,h1,h2,m1,m2,m3,rfl⟩
  ·
   rw [getD_set_ne hij]
   exact h.done j (by omega)
 ·
  rw [getD_set_ne (by omega)]
  exact h.rest j (by omega)
 · exact (hr.fr b (Nat.lt_of_lt_of_le hb h.bel.size) (fun e=>hv (by rw [e];rfl)) (fun hb2=>hF (hmem b hb2))).trans (h.fr b hb hv hF)
theorem mkP_any (l:List Ln) (ps:List La) (Fs:List (List Nat)) (v:Value) (B:Nat) (w:World) (ho:OwnP w B v l ps Fs) (hB:B≤w.heap.size) (hl:l.length≤100) (hc:∀ i,i<l.length→cnL (l.getD i ln0)≤7000):Calls Tryz.prog 35 #[v,.int .i64 1] w fun r w'=>r = .returned (.int .i64 ((posP l 1 l.length:Nat):Int))∧∃ ys,Mkp w w' B v l ps Fs 1 l.length ys:=by
 obtain ⟨a,cap,rfl⟩:=ho.form
 have M0:=hide (show Mkp w w B (.slice a l.length cap) l ps Fs 1 0 l from ⟨ho,rfl,fun j hj=>by omega,fun j _=>rfl,Below.refl _ _,hB,fun b _ _ _=>rfl⟩)
 have FM:=hide (show ∀ i,i<l.length→∃ g,a=some ⟨g,0,none⟩ from fun i hi=>by
  obtain ⟨_,⟨e,h2⟩|⟨g,c,cur,e,r⟩⟩:=ho.row
  · omega
  · cases e;exact ⟨g,rfl⟩)
 have PL:=hide (posP_le l 1 hc)
 have PP:=hide (posP_pos l 1 (by decide))
 have HC:=hide hc
 clear ho hB hc
 obtain ⟨n,hn⟩:∃ n,l.length=n:=⟨_,rfl⟩
 rw [hn] at hl ⊢
 go_enter Tryz.func35,Tryz.ntmps35
 go_wp2
 go_loopw [1,5] (fun kv iv wr=>∃ i:Nat,i≤n∧iv = .int .i64 i∧kv = .int .i64 ((posP l 1 i:Nat):Int)∧∃ ys,Mkp w wr B (.slice a n cap) l ps Fs 1 i ys) (fun _ iv _=>n-(intOf iv).toNat)
 case atStart=>exact ⟨0,Nat.zero_le _,rfl,rfl,l,hn▸uh M0⟩
 case round =>
  clear M0
  obtain ⟨i,hi,rfl,rfl,ys,hM⟩:=hrel
  have ilt:(i:Int)≤100:=by omega
  by_cases hlt:i<n
  ·
   obtain ⟨g,rfl⟩:=uh FM i (by omega)
   obtain ⟨F1,F2,F3,eF,hR⟩:=hM.rnd hn hlt
   have ST:=hide (fun (w':World) (m q:Nat) (y1 y2 y3:Ex) h1 h2 m1 m2 m3 hr=>(⟨_,hM.step (w':=w') (m:=m) (q:=q) (y1:=y1) (y2:=y2) (y3:=y3) hn hlt eF h1 h2 m1 m2 m3 hr⟩:∃ ys',Mkp w w' B (.slice (some ⟨g,0,none⟩) n cap) l ps Fs 1 (i+1) ys'))
   have hp1:=uh PL i (by omega)
   have hp2:=uh PP i
   have hcn:=uh HC i (by omega)
   have hps:posP l 1 (i+1)=posP l 1 i+cnL (l.getD i ln0):=rfl
   unfold cnL at hcn hps
   generalize hk:posP l 1 i=k at *
   generalize l.getD i ln0=x at *
   generalize hp:ps.getD i la0=p at *
   generalize hL:cellsP ys ps=L at *
   have R0:=hide (show Rnd wr wr B g n cap i L p F1 F2 F3 [.int .i64 x.k,.string x.s,.int .i64 x.op,.int .i64 x.src.f,.int .i64 x.src.r,.int .i64 x.src.e.k,.int .i64 x.src.e.n,.string x.src.e.s,.slice p.b1 x.src.e.l.length p.c1,.int .i64 x.dst.f,.int .i64 x.dst.r,.int .i64 x.dst.e.k,.int .i64 x.dst.e.n,.string x.dst.e.s,.slice p.b2 x.dst.e.l.length p.c2,.int .i64 x.n,.slice p.b3 x.l.length p.c3] x.src.e x.dst.e ⟨0,0,E0,x.l⟩ from hR)
   clear hR hM
   obtain ⟨m,hm⟩:∃ m,m=k+8+3*x.src.e.ct:=⟨_,rfl⟩
   obtain ⟨q,hq⟩:∃ q,q=m+5+3*x.dst.e.ct:=⟨_,rfl⟩
   have bk:k≤700001:=by omega
   have bm:m≤720000:=by omega
   have bq:q≤720000:=by omega
   have HK:=hide hp2
   have H1:=hide (show 0<k+8∧k+8+3*x.src.e.ct≤8000000 by omega)
   have H2:=hide (show 0<m+5∧m+5+3*x.dst.e.ct≤8000000 by omega)
   have H3:=hide (show 0<q+1∧q+1+3*(Ex.mk 0 0 E0 x.l).ct≤8000000 by omega)
   have T1c:=hide (fun W=>markTx_any (k+1) (by omega) (by omega) W)
   have T7c:=hide (fun W=>markTx_any (k+7) (by omega) (by omega) W)
   have T4c:=hide (fun W=>markTx_any (m+4) (by omega) (by omega) W)
   have EQ:=hide (show posP l 1 (i+1)=q+1+3*(Ex.mk 0 0 E0 x.l).ct by omega)
   have HM:=hide hm
   have HQ:=hide hq
   have EK:((k+8+3*x.src.e.ct:Nat):Int)=(m:Nat):=by rw [hm]
   have EM:((m+5+3*x.dst.e.ct:Nat):Int)=(q:Nat):=by rw [hq]
   clear hm hq hcn hps hp1 hp2 PL PP HC FM hk hp hL eF
   have ek0:((k:Nat):Int)+1=((k+1:Nat):Int):=by omega
   have ek1:((k+1:Nat):Int)+1=((k+2:Nat):Int):=by omega
   have ek2:((k+2:Nat):Int)+1=((k+3:Nat):Int):=by omega
   have ek3:((k+3:Nat):Int)+1=((k+4:Nat):Int):=by omega
   have ek4:((k+4:Nat):Int)+1=((k+5:Nat):Int):=by omega
   have ek5:((k+5:Nat):Int)+1=((k+6:Nat):Int):=by omega
   have ek6:((k+6:Nat):Int)+1=((k+7:Nat):Int):=by omega
   have ek7:((k+7:Nat):Int)+1=((k+8:Nat):Int):=by omega
   have em0:((m:Nat):Int)+1=((m+1:Nat):Int):=by omega
   have em1:((m+1:Nat):Int)+1=((m+2:Nat):Int):=by omega
   have em2:((m+2:Nat):Int)+1=((m+3:Nat):Int):=by omega
   have em3:((m+3:Nat):Int)+1=((m+4:Nat):Int):=by omega
   have em4:((m+4:Nat):Int)+1=((m+5:Nat):Int):=by omega
   have eq0:((q:Nat):Int)+1=((q+1:Nat):Int):=by omega
   have bk0:0≤((k:Nat):Int)∧((k:Nat):Int)≤800000:=by omega
   have bk1:0≤((k+1:Nat):Int)∧((k+1:Nat):Int)≤800000:=by omega
   have bk2:0≤((k+2:Nat):Int)∧((k+2:Nat):Int)≤800000:=by omega
   have bk3:0≤((k+3:Nat):Int)∧((k+3:Nat):Int)≤800000:=by omega
   have bk4:0≤((k+4:Nat):Int)∧((k+4:Nat):Int)≤800000:=by omega
   have bk5:0≤((k+5:Nat):Int)∧((k+5:Nat):Int)≤800000:=by omega
   have bk6:0≤((k+6:Nat):Int)∧((k+6:Nat):Int)≤800000:=by omega
   have bk7:0≤((k+7:Nat):Int)∧((k+7:Nat):Int)≤800000:=by omega
   have bk8:0≤((k+8:Nat):Int)∧((k+8:Nat):Int)≤800000:=by omega
   have bm0:0≤((m:Nat):Int)∧((m:Nat):Int)≤800000:=by omega
   have bm1:0≤((m+1:Nat):Int)∧((m+1:Nat):Int)≤800000:=by omega
   have bm2:0≤((m+2:Nat):Int)∧((m+2:Nat):Int)≤800000:=by omega
   have bm3:0≤((m+3:Nat):Int)∧((m+3:Nat):Int)≤800000:=by omega
   have bm4:0≤((m+4:Nat):Int)∧((m+4:Nat):Int)≤800000:=by omega
   have bm5:0≤((m+5:Nat):Int)∧((m+5:Nat):Int)≤800000:=by omega
   have bq0:0≤((q:Nat):Int)∧((q:Nat):Int)≤800000:=by omega
   have bq1:0≤((q+1:Nat):Int)∧((q+1:Nat):Int)≤800000:=by omega
   clear bk bm bq
   have S1:=hide (fun (w':World) (y1 y2 y3:Ex)=>uh ST w' m q y1 y2 y3 (uh HM) (uh HQ))
   clear ST HM HQ
   unfold mkLn at S1
   generalize hK8:((k+8:Nat):Int)=K8 at *
   generalize hK7:((k+7:Nat):Int)=K7 at *
   generalize hK6:((k+6:Nat):Int)=K6 at *
   generalize hK5:((k+5:Nat):Int)=K5 at *
   generalize hK4:((k+4:Nat):Int)=K4 at *
   generalize hK3:((k+3:Nat):Int)=K3 at *
   generalize hK2:((k+2:Nat):Int)=K2 at *
   generalize hK1:((k+1:Nat):Int)=K1 at *
   generalize hK0:((k:Nat):Int)=K0 at *
   generalize hM5:((m+5:Nat):Int)=M5 at *
   generalize hM4:((m+4:Nat):Int)=M4 at *
   generalize hM3:((m+3:Nat):Int)=M3 at *
   generalize hM2:((m+2:Nat):Int)=M2 at *
   generalize hM1:((m+1:Nat):Int)=M1 at *
   generalize hM0:((m:Nat):Int)=M0 at *
   generalize hQ1:((q+1:Nat):Int)=Q1 at *
   generalize hQ0:((q:Nat):Int)=Q0 at *
   generalize mkTx (k+1)=T1 at *
   generalize mkTx (k+7)=T7 at *
   generalize mkTx (m+4)=T4 at *
   have z0:wr.cell? ⟨g,i*17,none⟩=some (.int .i64 x.k):=(uh R0).cell 0 (by decide) _ rfl
   have f0:wr.frozen? ⟨g,i*17,none⟩=false:=(uh R0).frz 0
   go_wp2_with fail
   clear z0 f0
   refine (uh T1c _).mono ?_
   rintro r w1 ⟨rfl,hb⟩
   have R1:=hide (show Rnd wr w1 B g n cap i L p F1 F2 F3 [.int .i64 K0,.string x.s,.int .i64 x.op,.int .i64 x.src.f,.int .i64 x.src.r,.int .i64 x.src.e.k,.int .i64 x.src.e.n,.string x.src.e.s,.slice p.b1 x.src.e.l.length p.c1,.int .i64 x.dst.f,.int .i64 x.dst.r,.int .i64 x.dst.e.k,.int .i64 x.dst.e.n,.string x.dst.e.s,.slice p.b2 x.dst.e.l.length p.c2,.int .i64 x.n,.slice p.b3 x.l.length p.c3] x.src.e x.dst.e ⟨0,0,E0,x.l⟩ from ((uh R0).store 0 (by decide) (.int .i64 K0)).call hb)
   clear hb R0
   have z1:=(uh R1).cell 1 (by decide) _ rfl
   have z2:=(uh R1).cell 2 (by decide) _ rfl
   have z3:=(uh R1).cell 3 (by decide) _ rfl
   have z4:=(uh R1).cell 4 (by decide) _ rfl
   have z5:=(uh R1).cell 5 (by decide) _ rfl
   have z6:=(uh R1).cell 6 (by decide) _ rfl
   have f1:=(uh R1).frz 1
   have f2:=(uh R1).frz 2
   have f3:=(uh R1).frz 3
   have f4:=(uh R1).frz 4
   have f5:=(uh R1).frz 5
   have f6:=(uh R1).frz 6
   go_wp2_with fail
   clear z1 z2 z3 z4 z5 z6 f1 f2 f3 f4 f5 f6
   refine (uh T7c _).mono ?_
   rintro r w2 ⟨rfl,hb⟩
   have R2:=hide (show Rnd wr w2 B g n cap i L p F1 F2 F3 [.int .i64 K0,.string T1,.int .i64 K2,.int .i64 K3,.int .i64 K4,.int .i64 K5,.int .i64 K6,.string x.src.e.s,.slice p.b1 x.src.e.l.length p.c1,.int .i64 x.dst.f,.int .i64 x.dst.r,.int .i64 x.dst.e.k,.int .i64 x.dst.e.n,.string x.dst.e.s,.slice p.b2 x.dst.e.l.length p.c2,.int .i64 x.n,.slice p.b3 x.l.length p.c3] x.src.e x.dst.e ⟨0,0,E0,x.l⟩ from (((((((uh R1).store 1 (by decide) (.string T1)).store 2 (by decide) (.int .i64 K2)).store 3 (by decide) (.int .i64 K3)).store 4 (by decide) (.int .i64 K4)).store 5 (by decide) (.int .i64 K5)).store 6 (by decide) (.int .i64 K6)).call hb)
   clear hb R1
   have z7:=(uh R2).cell 7 (by decide) _ rfl
   have z8:=(uh R2).cell 8 (by decide) _ rfl
   have f7:=(uh R2).frz 7
   go_wp2_with fail
   clear z7 z8 f7
   have X1:=hide (((uh R2).store 7 (by decide) (.string T7)).m1 (k+8) (uh H1).1 (uh H1).2)
   rw [EK,hK8] at X1
   refine (uh X1).mono ?_
   rintro r w3 ⟨y1,rfl,h1,hR⟩
   have N1:=hide h1
   have R3:=hide (show Rnd wr w3 B g n cap i L p F1 F2 F3 [.int .i64 K0,.string T1,.int .i64 K2,.int .i64 K3,.int .i64 K4,.int .i64 K5,.int .i64 K6,.string T7,.slice p.b1 x.src.e.l.length p.c1,.int .i64 x.dst.f,.int .i64 x.dst.r,.int .i64 x.dst.e.k,.int .i64 x.dst.e.n,.string x.dst.e.s,.slice p.b2 x.dst.e.l.length p.c2,.int .i64 x.n,.slice p.b3 x.l.length p.c3] y1 x.dst.e ⟨0,0,E0,x.l⟩ from hR)
   clear h1 hR R2 X1
   have z9:=(uh R3).cell 9 (by decide) _ rfl
   have z10:=(uh R3).cell 10 (by decide) _ rfl
   have z11:=(uh R3).cell 11 (by decide) _ rfl
   have z12:=(uh R3).cell 12 (by decide) _ rfl
   have f9:=(uh R3).frz 9
   have f10:=(uh R3).frz 10
   have f11:=(uh R3).frz 11
   have f12:=(uh R3).frz 12
   go_wp2_with fail
   clear z9 z10 z11 z12 f9 f10 f11 f12
   refine (uh T4c _).mono ?_
   rintro r w4 ⟨rfl,hb⟩
   have R4:=hide (show Rnd wr w4 B g n cap i L p F1 F2 F3 [.int .i64 K0,.string T1,.int .i64 K2,.int .i64 K3,.int .i64 K4,.int .i64 K5,.int .i64 K6,.string T7,.slice p.b1 x.src.e.l.length p.c1,.int .i64 M0,.int .i64 M1,.int .i64 M2,.int .i64 M3,.string x.dst.e.s,.slice p.b2 x.dst.e.l.length p.c2,.int .i64 x.n,.slice p.b3 x.l.length p.c3] y1 x.dst.e ⟨0,0,E0,x.l⟩ from (((((uh R3).store 9 (by decide) (.int .i64 M0)).store 10 (by decide) (.int .i64 M1)).store 11 (by decide) (.int .i64 M2)).store 12 (by decide) (.int .i64 M3)).call hb)
   clear hb R3
   have z13:=(uh R4).cell 13 (by decide) _ rfl
   have z14:=(uh R4).cell 14 (by decide) _ rfl
   have f13:=(uh R4).frz 13
   go_wp2_with fail
   clear z13 z14 f13
   have X2:=hide (((uh R4).store 13 (by decide) (.string T4)).m2 (m+5) (uh H2).1 (uh H2).2)
   rw [EM,hM5] at X2
   refine (uh X2).mono ?_
   rintro r w5 ⟨y2,rfl,h1,hR⟩
   have N2:=hide h1
   have R5:=hide (show Rnd wr w5 B g n cap i L p F1 F2 F3 [.int .i64 K0,.string T1,.int .i64 K2,.int .i64 K3,.int .i64 K4,.int .i64 K5,.int .i64 K6,.string T7,.slice p.b1 x.src.e.l.length p.c1,.int .i64 M0,.int .i64 M1,.int .i64 M2,.int .i64 M3,.string T4,.slice p.b2 x.dst.e.l.length p.c2,.int .i64 x.n,.slice p.b3 x.l.length p.c3] y1 y2 ⟨0,0,E0,x.l⟩ from hR)
   clear h1 hR R4 X2
   have z15:=(uh R5).cell 15 (by decide) _ rfl
   have z16:=(uh R5).cell 16 (by decide) _ rfl
   have f15:=(uh R5).frz 15
   go_wp2_with fail
   clear z15 z16 f15
   have X3:=hide (((uh R5).store 15 (by decide) (.int .i64 Q0)).m3 (q+1) (uh H3).1 (uh H3).2)
   rw [←uh EQ,hQ1] at X3
   refine (uh X3).mono ?_
   rintro r w6 ⟨y3,rfl,h1,hR⟩
   have R6:=hide (show Rnd wr w6 B g n cap i L p F1 F2 F3 [.int .i64 K0,.string T1,.int .i64 K2,.int .i64 K3,.int .i64 K4,.int .i64 K5,.int .i64 K6,.string T7,.slice p.b1 x.src.e.l.length p.c1,.int .i64 M0,.int .i64 M1,.int .i64 M2,.int .i64 M3,.string T4,.slice p.b2 x.dst.e.l.length p.c2,.int .i64 Q0,.slice p.b3 x.l.length p.c3] y1 y2 y3 from hR)
   have SS:=hide (uh S1 w6 y1 y2 y3 (uh N1) (uh N2) h1 (by
    have e1:=(uh N1).len
    have e2:=(uh N2).len
    have e3:=h1.len
    have r6:=uh R6
    rw [←e1,←e2,←(show (Ex.mk 0 0 E0 x.l).l.length=x.l.length from rfl),←e3] at r6
    exact r6))
   clear h1 hR R5 X3 R6 S1 N1 N2
   go_wp2
   go_roundw
   case rel =>
    obtain ⟨ys',hM'⟩:=uh SS
    exact ⟨i+1,by omega,by go_num,rfl,ys',hM'⟩
   case measure=>simp [intOf];omega
  ·
   obtain rfl:i=n:=by omega
   have HM:=hide hM
   clear hM
   go_wp2
   go_ret
   exact ⟨rfl,ys,uh HM⟩
end
theorem hdP_any (l ys:List Ln) (ps:List La) (v:Value) (w:World) (hr:RdLs w v ys ps) (hy:ys.length=l.length) (hm:∀ j,j<l.length→MkLn (l.getD j ln0) (posP l 1 j) (ys.getD j ln0)) (hl:l.length≤100) (hc:∀ i,i<l.length→cnL (l.getD i ln0)≤7000):Calls Tryz.prog 36 #[v,.int .i64 1] w fun r w'=>r = .returned (.int .i64 ((posP l 1 l.length:Nat):Int))∧Below w.heap.size w w':=by
 obtain ⟨⟨a,c,rfl,h1⟩,h2⟩:=id hr
 clear h1 h2
 have HR:=hide hr
 have HM:=hide hm
 have HC:=hide hc
 have PL:=hide (posP_le l 1 hc)
 have PP:=hide (posP_pos l 1 (by decide))
 clear hr hm hc
 obtain ⟨n,hn⟩:∃ n,l.length=n:=⟨_,rfl⟩
 rw [hy]
 rw [hn] at hl hy ⊢
 go_enter Tryz.func36,Tryz.ntmps36
 go_wp2
 go_loopw [1,5] (fun kv iv wr=>∃ (i:Nat) (z:Sub w.heap.size w),i≤n∧iv = .int .i64 i∧kv = .int .i64 ((posP l 1 i:Nat):Int)∧wr=z.w) (fun _ iv _=>n-(intOf iv).toNat)
 case atStart=>exact ⟨0,⟨w,Below.refl _ _⟩,Nat.zero_le _,rfl,rfl,rfl⟩
 case round =>
  obtain ⟨i,z0,hi,rfl,rfl,rfl⟩:=hrel
  have ilt:(i:Int)≤100:=by omega
  by_cases hlt:i<n
  ·
   obtain ⟨⟨a',c',e1,h1⟩,h2⟩:=id (uh HR)
   injection e1 with e1 _ e1c
   clear e1c
   subst e1
   obtain ⟨g,rfl,ra⟩:=h1 i (by omega)
   have rd:=h2 i (by omega)
   obtain ⟨m,q,y1,y2,y3,hm,hq,m1,m2,m3,ey⟩:=uh HM i (by omega)
   have hp1:=uh PL i (by omega)
   have hp2:=uh PP i
   have hcn:=uh HC i (by omega)
   have hps:posP l 1 (i+1)=posP l 1 i+cnL (l.getD i ln0):=rfl
   unfold cnL at hcn hps
   rw [ey] at ra rd
   clear ey h1 h2
   generalize hk:posP l 1 i=k at *
   generalize l.getD i ln0=x at *
   generalize hp:ps.getD i la0=p at *
   obtain ⟨r1,r2,r3⟩:=rd
   have l1:=m1.len
   have l2:=m2.len
   have l3:=m3.len
   rw [show (Ex.mk 0 0 E0 x.l).l.length=x.l.length from rfl] at l3
   have RA:∀ (y:Sub w.heap.size w) (j:Nat) (v:Value),((mkLn k m q y1 y2 y3).cs p).toList[j]?=some v→y.w.cell? ⟨g,i*17+j,none⟩=some v:=fun y j v hv=>cell_later y.h (ra j v hv)
   have d0:∀ y:Sub w.heap.size w,y.w.cell? ⟨g,i*17,none⟩=some (.int .i64 ((k:Nat):Int)):=fun y=>RA y 0 _ rfl
   have d1:∀ y:Sub w.heap.size w,y.w.cell? ⟨g,i*17+1,none⟩=some (.string (mkTx (k+1))):=fun y=>RA y 1 _ rfl
   have d2:∀ y:Sub w.heap.size w,y.w.cell? ⟨g,i*17+2,none⟩=some (.int .i64 ((k+2:Nat):Int)):=fun y=>RA y 2 _ rfl
   have d3:∀ y:Sub w.heap.size w,y.w.cell? ⟨g,i*17+3,none⟩=some (.int .i64 ((k+3:Nat):Int)):=fun y=>RA y 3 _ rfl
   have d4:∀ y:Sub w.heap.size w,y.w.cell? ⟨g,i*17+4,none⟩=some (.int .i64 ((k+4:Nat):Int)):=fun y=>RA y 4 _ rfl
   have d5:∀ y:Sub w.heap.size w,y.w.cell? ⟨g,i*17+5,none⟩=some (.int .i64 ((k+5:Nat):Int)):=fun y=>RA y 5 _ rfl
   have d6:∀ y:Sub w.heap.size w,y.w.cell? ⟨g,i*17+6,none⟩=some (.int .i64 ((k+6:Nat):Int)):=fun y=>RA y 6 _ rfl
   have d7:∀ y:Sub w.heap.size w,y.w.cell? ⟨g,i*17+7,none⟩=some (.string (mkTx (k+7))):=fun y=>RA y 7 _ rfl
   have d8:∀ y:Sub w.heap.size w,y.w.cell? ⟨g,i*17+8,none⟩=some (.slice p.b1 x.src.e.l.length p.c1):=fun y=>by rw [←l1];exact RA y 8 _ rfl
   have d9:∀ y:Sub w.heap.size w,y.w.cell? ⟨g,i*17+9,none⟩=some (.int .i64 ((m:Nat):Int)):=fun y=>RA y 9 _ rfl
   have d10:∀ y:Sub w.heap.size w,y.w.cell? ⟨g,i*17+10,none⟩=some (.int .i64 ((m+1:Nat):Int)):=fun y=>RA y 10 _ rfl
   have d11:∀ y:Sub w.heap.size w,y.w.cell? ⟨g,i*17+11,none⟩=some (.int .i64 ((m+2:Nat):Int)):=fun y=>RA y 11 _ rfl
   have d12:∀ y:Sub w.heap.size w,y.w.cell? ⟨g,i*17+12,none⟩=some (.int .i64 ((m+3:Nat):Int)):=fun y=>RA y 12 _ rfl
   have d13:∀ y:Sub w.heap.size w,y.w.cell? ⟨g,i*17+13,none⟩=some (.string (mkTx (m+4))):=fun y=>RA y 13 _ rfl
   have d14:∀ y:Sub w.heap.size w,y.w.cell? ⟨g,i*17+14,none⟩=some (.slice p.b2 x.dst.e.l.length p.c2):=fun y=>by rw [←l2];exact RA y 14 _ rfl
   have d15:∀ y:Sub w.heap.size w,y.w.cell? ⟨g,i*17+15,none⟩=some (.int .i64 ((q:Nat):Int)):=fun y=>RA y 15 _ rfl
   have d16:∀ y:Sub w.heap.size w,y.w.cell? ⟨g,i*17+16,none⟩=some (.slice p.b3 x.l.length p.c3):=fun y=>by rw [←l3];exact RA y 16 _ rfl
   have T1c:=hide (fun W=>markTx_any (k+1) (by omega) (by omega) W)
   have T7c:=hide (fun W=>markTx_any (k+7) (by omega) (by omega) W)
   have T4c:=hide (fun W=>markTx_any (m+4) (by omega) (by omega) W)
   have X1:=hide (fun y:Sub w.heap.size w=>heldXS_any x.src.e p.b1 p.c1 (k+8) _ y.w (m1.of (z:=(mkLn k m q y1 y2 y3).src.e) rfl) (r1.later y.h) (by omega) (by omega))
   have X2:=hide (fun y:Sub w.heap.size w=>heldXS_any x.dst.e p.b2 p.c2 (m+5) _ y.w (m2.of (z:=(mkLn k m q y1 y2 y3).dst.e) rfl) (r2.later y.h) (by omega) (by omega))
   have X3:=hide (fun y:Sub w.heap.size w=>heldXS_any ⟨0,0,E0,x.l⟩ p.b3 p.c3 (q+1) _ y.w (m3.of (z:=⟨0,0,E0,(mkLn k m q y1 y2 y3).l⟩) rfl) (r3.later y.h) (by omega) (by omega))
   rw [show ((k+8+3*x.src.e.ct:Nat):Int)=(m:Nat) by rw [hm]] at X1
   rw [show ((m+5+3*x.dst.e.ct:Nat):Int)=(q:Nat) by rw [hq]] at X2
   have er:((q+1+3*(Ex.mk 0 0 E0 x.l).ct:Nat):Int)=(posP l 1 (i+1):Nat):=by omega
   rw [er] at X3
   rw [show (Ex.mk 0 0 E0 x.l).l.length=x.l.length from rfl] at X3
   have br:0≤((posP l 1 (i+1):Nat):Int):=by omega
   have bk:k≤700001:=by omega
   have bm:m≤720000:=by omega
   have bq:q≤720000:=by omega
   have ne:=Sub.ne w.heap.size w
   have HZ:=hide (Nat.le_refl w.heap.size)
   clear hm hq m1 m2 m3 hp1 hp2 hcn hps er r1 r2 r3 l1 l2 l3 RA ra HM HC HR PL PP hk hp
   have ek0:((k:Nat):Int)+1=((k+1:Nat):Int):=by omega
   have ek1:((k+1:Nat):Int)+1=((k+2:Nat):Int):=by omega
   have ek2:((k+2:Nat):Int)+1=((k+3:Nat):Int):=by omega
   have ek3:((k+3:Nat):Int)+1=((k+4:Nat):Int):=by omega
   have ek4:((k+4:Nat):Int)+1=((k+5:Nat):Int):=by omega
   have ek5:((k+5:Nat):Int)+1=((k+6:Nat):Int):=by omega
   have ek6:((k+6:Nat):Int)+1=((k+7:Nat):Int):=by omega
   have ek7:((k+7:Nat):Int)+1=((k+8:Nat):Int):=by omega
   have em0:((m:Nat):Int)+1=((m+1:Nat):Int):=by omega
   have em1:((m+1:Nat):Int)+1=((m+2:Nat):Int):=by omega
   have em2:((m+2:Nat):Int)+1=((m+3:Nat):Int):=by omega
   have em3:((m+3:Nat):Int)+1=((m+4:Nat):Int):=by omega
   have em4:((m+4:Nat):Int)+1=((m+5:Nat):Int):=by omega
   have eq0:((q:Nat):Int)+1=((q+1:Nat):Int):=by omega
   have bk0:0≤((k:Nat):Int)∧((k:Nat):Int)≤800000:=by omega
   have bk1:0≤((k+1:Nat):Int)∧((k+1:Nat):Int)≤800000:=by omega
   have bk2:0≤((k+2:Nat):Int)∧((k+2:Nat):Int)≤800000:=by omega
   have bk3:0≤((k+3:Nat):Int)∧((k+3:Nat):Int)≤800000:=by omega
   have bk4:0≤((k+4:Nat):Int)∧((k+4:Nat):Int)≤800000:=by omega
   have bk5:0≤((k+5:Nat):Int)∧((k+5:Nat):Int)≤800000:=by omega
   have bk6:0≤((k+6:Nat):Int)∧((k+6:Nat):Int)≤800000:=by omega
   have bk7:0≤((k+7:Nat):Int)∧((k+7:Nat):Int)≤800000:=by omega
   have bk8:0≤((k+8:Nat):Int)∧((k+8:Nat):Int)≤800000:=by omega
   have bm0:0≤((m:Nat):Int)∧((m:Nat):Int)≤800000:=by omega
   have bm1:0≤((m+1:Nat):Int)∧((m+1:Nat):Int)≤800000:=by omega
   have bm2:0≤((m+2:Nat):Int)∧((m+2:Nat):Int)≤800000:=by omega
   have bm3:0≤((m+3:Nat):Int)∧((m+3:Nat):Int)≤800000:=by omega
   have bm4:0≤((m+4:Nat):Int)∧((m+4:Nat):Int)≤800000:=by omega
   have bm5:0≤((m+5:Nat):Int)∧((m+5:Nat):Int)≤800000:=by omega
   have bq0:0≤((q:Nat):Int)∧((q:Nat):Int)≤800000:=by omega
   have bq1:0≤((q+1:Nat):Int)∧((q+1:Nat):Int)≤800000:=by omega
   clear bk bm bq
   generalize hK8:((k+8:Nat):Int)=K8 at *
   generalize hK7:((k+7:Nat):Int)=K7 at *
   generalize hK6:((k+6:Nat):Int)=K6 at *
   generalize hK5:((k+5:Nat):Int)=K5 at *
   generalize hK4:((k+4:Nat):Int)=K4 at *
   generalize hK3:((k+3:Nat):Int)=K3 at *
   generalize hK2:((k+2:Nat):Int)=K2 at *
   generalize hK1:((k+1:Nat):Int)=K1 at *
   generalize hK0:((k:Nat):Int)=K0 at *
   generalize hM5:((m+5:Nat):Int)=M5 at *
   generalize hM4:((m+4:Nat):Int)=M4 at *
   generalize hM3:((m+3:Nat):Int)=M3 at *
   generalize hM2:((m+2:Nat):Int)=M2 at *
   generalize hM1:((m+1:Nat):Int)=M1 at *
   generalize hM0:((m:Nat):Int)=M0 at *
   generalize hQ1:((q+1:Nat):Int)=Q1 at *
   generalize hQ0:((q:Nat):Int)=Q0 at *
   generalize hR0:((posP l 1 (i+1):Nat):Int)=R0 at *
   generalize mkTx (k+1)=T1 at *
   generalize mkTx (k+7)=T7 at *
   generalize mkTx (m+4)=T4 at *
   generalize x.src.e.l.length=ll1 at *
   generalize x.dst.e.l.length=ll2 at *
   generalize x.l.length=ll3 at *
   have p1:¬ M0<0:=by omega
   have p1':decide (M0<0)=false:=decide_eq_false p1
   have p2:¬ Q0<0:=by omega
   have p2':decide (Q0<0)=false:=decide_eq_false p2
   have p3:¬ R0<0:=by omega
   have p3':decide (R0<0)=false:=decide_eq_false p3
   go_wp2_with fail
   refine wp_region_sub z0 (by kernel_rfl) (by kernel_rfl) ?_
   repeat (go_big_quiet_step (first|(go_at_call 92;exact Sub.call (uh HZ) (uh T1c _))))
   refine wpQuiet_nil ?_
   intro z1
   go_wp2_with fail
   refine wp_region_sub z1 (by kernel_rfl) (by kernel_rfl) ?_
   repeat (go_big_quiet_step (first|(go_at_call 92;exact Sub.call (uh HZ) (uh T7c _))))
   refine wpQuiet_nil ?_
   intro z2
   go_wp2_with fail
   refine (Sub.call (uh HZ) (uh X1 _)).mono ?_
   rintro e _ ⟨rfl,z3,rfl⟩
   go_wp2_with fail
   refine wp_region_sub z3 (by kernel_rfl) (by kernel_rfl) ?_
   repeat (go_big_quiet_step (first|(go_at_call 92;exact Sub.call (uh HZ) (uh T4c _))))
   refine wpQuiet_nil ?_
   intro z4
   go_wp2_with fail
   refine (Sub.call (uh HZ) (uh X2 _)).mono ?_
   rintro e _ ⟨rfl,z5,rfl⟩
   go_wp2_with fail
   refine (Sub.call (uh HZ) (uh X3 _)).mono ?_
   rintro e _ ⟨rfl,z6,rfl⟩
   go_wp2
   go_roundw
   case rel=>exact ⟨i+1,z6,by omega,by go_num,congrArg (Value.int .i64) hR0.symm,rfl⟩
   case measure=>simp [intOf];omega
  ·
   obtain rfl:i=n:=by omega
   go_wp2
   go_ret
   exact ⟨rfl,z0.h⟩
section
section
variable {H:Type} {enc:TypeId × Value→H} {P:Program} {w:World} {spare:Nat→Bool}
theorem varsL_3 {n0 n1 n2:String} {gs:List (DataW H)} {ps:List MemPlace} (h:DataW.TrodVars enc P w spare [n0,n1,n2] gs ps):∃ d0 d1 d2,gs = [d0,d1,d2]:=by
 cases gs with
 | nil => simp [DataW.TrodVars] at h
 | cons d ds =>
  obtain ⟨g0,t0,cs0,f0,p0,q0,h1,h2,h3,h4,hs,e⟩:=h
  obtain ⟨g1,t1,cs1,f1,d1,p1,g2,t2,cs2,f2,d2,p2,rfl,_⟩:=trodVars_two hs
  exact ⟨d,d1,d2,rfl⟩
theorem varsL_4 {n0 n1 n2 n3:String} {gs:List (DataW H)} {ps:List MemPlace} (h:DataW.TrodVars enc P w spare [n0,n1,n2,n3] gs ps):∃ d0 d1 d2 d3,gs = [d0,d1,d2,d3]:=by
 cases gs with
 | nil => simp [DataW.TrodVars] at h
 | cons d ds =>
  obtain ⟨g0,t0,cs0,f0,p0,q0,h1,h2,h3,h4,hs,e⟩:=h
  obtain ⟨d1,d2,d3,rfl⟩:=varsL_3 hs
  exact ⟨d,d1,d2,d3,rfl⟩
theorem varsL_5 {n0 n1 n2 n3 n4:String} {gs:List (DataW H)} {ps:List MemPlace} (h:DataW.TrodVars enc P w spare [n0,n1,n2,n3,n4] gs ps):∃ d0 d1 d2 d3 d4,gs = [d0,d1,d2,d3,d4]:=by
 cases gs with
 | nil => simp [DataW.TrodVars] at h
 | cons d ds =>
  obtain ⟨g0,t0,cs0,f0,p0,q0,h1,h2,h3,h4,hs,e⟩:=h
  obtain ⟨d1,d2,d3,d4,rfl⟩:=varsL_4 hs
  exact ⟨d,d1,d2,d3,d4,rfl⟩
end
end
theorem gSnL : Tryz.prog.globalNamed "loop.example/g00329/impl.signs" = some 4 := by kernel_rfl
theorem tSnL:(Tryz.prog.globals[4]?).map (·.type)=some 190:=by kernel_rfl
theorem snL_eq:(Rows.laid_loop_example_g00329_impl_signs:DataW Unit)=strData sgnL:=by kernel_rfl
theorem gDt : Tryz.prog.globalNamed "loop.example/g00329/impl.dotWords" = some 1 := by kernel_rfl
theorem tDt:(Tryz.prog.globals[1]?).map (·.type)=some 138:=by kernel_rfl
theorem dtD_eq:(Rows.laid_loop_example_g00329_impl_dotWords:DataW Unit)=strData dotL:=by kernel_rfl
theorem ints_of_head {P:Program} {W:World} {name:String} {k:IntKind} {zs:List Int} {rest:List (String × DataW Unit)} {g:Nat} {t e:TypeId} {n:Nat}
  (hg:P.globalNamed name=some g) (hty:(P.globals[g]?).map (·.type)=some t) (ht:P.underlying t=some (.array n e)) (he:P.underlying e=some (.int k)) (hce:P.cellsOf e=1) (hct:P.cellsOf t=n)
  (h:laidMet P ((name,Lib.tabData k zs)::rest) W):∃ u fr,W.heap[g]?=some (.cells (zs.map fun z=>Value.int k z).toArray u fr):=by
 obtain ⟨ps,⟨g',t',cs,fuel,p,q,hg',ht',hvar,hd,_,_⟩,_⟩:=h
 obtain rfl:=Option.some.inj (hg.symm.trans hg')
 obtain rfl:=Option.some.inj (hty.symm.trans ht')
 have hcs:=Lib.cells_of_tab ht he hce hct hd
 unfold World.var? at hvar
 rw [hg] at hvar
 simp only [Option.bind_some] at hvar
 split at hvar
 ·
  rename_i c u fr hh
  cases hvar
  exact ⟨u,fr,by rw [hh,←hcs]⟩
 · cases hvar
theorem gUp : Tryz.prog.globalNamed "loop.example/g00329/impl.formsBehindAt" = some 5 := by kernel_rfl
theorem tUp:(Tryz.prog.globals[5]?).map (·.type)=some 241:=by kernel_rfl
def upZ:List Int:=[0,0,3,0,5,0,7,0,9,0,11]
theorem upD_eq:(Rows.laid_loop_example_g00329_impl_formsBehindAt:DataW Unit)=Lib.tabData .i64 upZ:=by kernel_rfl
theorem tabr_of {W : World} (h : laidMetH Tryz.prog [("math/bits.deBruijn32tab", Rows.laid_math_bits_deBruijn32tab), ("math/bits.deBruijn64tab", Rows.laid_math_bits_deBruijn64tab), ("internal/strconv.uint64pow10", Rows.laid_internal_strconv_uint64pow10), ("strconv.ErrRange", Rows.laid_strconv_ErrRange), ("strconv.ErrSyntax", Rows.laid_strconv_ErrSyntax), ("loop.example/g00329/impl.opWords", Rows.laid_loop_example_g00329_impl_opWords), ("loop.example/g00329/impl.regWords", Rows.laid_loop_example_g00329_impl_regWords), ("loop.example/g00329/impl.signs", Rows.laid_loop_example_g00329_impl_signs), ("loop.example/g00329/impl.dotWords", Rows.laid_loop_example_g00329_impl_dotWords), ("loop.example/g00329/impl.formsBehindAt", Rows.laid_loop_example_g00329_impl_formsBehindAt)] W) : TabR W := by
 rw [MakeChecks.laidMetH_plain _ _ _ (by kernel_rfl)] at h
 have hd:=db_of h.tail
 have h3:=h.tail.tail.tail
 obtain ⟨a2,s2,hv2,-,-,-⟩:=laid_sentinel h3 gER tER Tryz.underlying103 rowES Tryz.underlying272 Tryz.underlying274 rfl rfl Tryz.underlying9 cellsES cellsSt
 obtain ⟨a1,s1,hv1,-,-,-⟩:=laid_sentinel h3.tail gES tES Tryz.underlying103 rowES Tryz.underlying272 Tryz.underlying274 rfl rfl Tryz.underlying9 cellsES cellsSt
 have h5:=h3.tail.tail
 rw [opD_eq,rgD_eq,snL_eq,dtD_eq,upD_eq] at h5
 have k1:TabK W:=⟨strs_of_head gOp tOp Tryz.underlying137 Tryz.underlying9 (by kernel_rfl) (by kernel_rfl) h5,strs_of_head gRg tRg Tryz.underlying178 Tryz.underlying9 (by kernel_rfl) (by kernel_rfl) h5.tail⟩
 exact ⟨⟨k1,hd,⟨_,_,by have h0:=World.var?_cell gES hv1 0;simpa using h0⟩,⟨_,_,by have h0:=World.var?_cell gER hv2 0;simpa using h0⟩⟩,
  strs_of_head gSnL tSnL Tryz.underlying190 Tryz.underlying9 (by kernel_rfl) (by kernel_rfl) h5.tail.tail,
  strs_of_head gDt tDt Tryz.underlying138 Tryz.underlying9 (by kernel_rfl) (by kernel_rfl) h5.tail.tail.tail,
  ints_of_head gUp tUp Tryz.underlying241 Tryz.underlying3 (by kernel_rfl) (by kernel_rfl) h5.tail.tail.tail.tail⟩
end Go.Proofs.YtjnblcgekpgkoaaGreatDoor
