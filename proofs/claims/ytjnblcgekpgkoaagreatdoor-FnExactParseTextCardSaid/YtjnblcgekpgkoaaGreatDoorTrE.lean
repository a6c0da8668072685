/- Contracts over this seat's translation, laid together; conditions stand as hypotheses of each. -/
import Derived.Test.YtjnblcgekpgkoaaGreatDoorTrD
namespace Go.Proofs.YtjnblcgekpgkoaaGreatDoor
open Go.ChangeShapes Go.WideShapes Go.ChangeAt Go.RowKit
set_option maxHeartbeats 16000000
set_option linter.unusedVariables false
set_option maxRecDepth 8000
set_option linter.unusedSimpArgs false
def qIns (op:Int) (ts:List Tk):Option (Ln × List Tk) :=
 if op≤6 then bnd (pArg ts) fun a q=>bnd (pMs (mkS 44) q) fun _ q=>bnd (pArg q) fun b q=>some (⟨3,⟨#[]⟩,op,a,b,0,[]⟩,q)
 else if op≤14 then bnd (pArg ts) fun b q=>some (⟨3,⟨#[]⟩,op,a0,b,0,[]⟩,q)
 else if op=15 then bnd (qRg ts) fun n q=>bnd (pMs (mkS 44) q) fun _ q=>bnd (pArg q) fun b q=>some (⟨3,⟨#[]⟩,op,a0,b,n,[]⟩,q)
 else if op=16 then bnd (qRg ts) fun n q=>some (⟨3,⟨#[]⟩,op,a0,a0,n,[]⟩,q)
 else if op=22 then some (⟨3,⟨#[]⟩,op,a0,a0,0,[]⟩,ts)
 else bnd (qTs (readF 6) 1 ts) fun l q=>some (⟨3,⟨#[]⟩,op,a0,a0,0,l⟩,q)
def qDot (s:ByteArray) (ts:List Tk):Option (Ln × List Tk) :=
 if eqS s ⟨#[46,119,111,114,100]⟩=true then bnd (qTs (readF 6) 6 ts) fun l q=>some (⟨4,⟨#[]⟩,0,a0,a0,0,l⟩,q)
 else if eqS s ⟨#[46,98,108,107,119]⟩=true then bnd (qTs (readF 6) 1 ts) fun l q=>some (⟨5,⟨#[]⟩,0,a0,a0,0,l⟩,q)
 else if eqS s ⟨#[46,103,108,111,98,108]⟩=true then bnd (qTs qSy 6 ts) fun l q=>some (⟨7,⟨#[]⟩,0,a0,a0,0,l⟩,q)
 else if eqS s ⟨#[46,101,110,100]⟩=true then some (⟨8,⟨#[]⟩,0,a0,a0,0,[]⟩,ts)
 else if eqS s ⟨#[46,115,101,99,116]⟩=true then bnd (qNm ts) fun x q=>if seeM q 44=true then bnd (pMs sOver q.tail) fun _ q=>some (⟨6,x,0,a0,a0,1,[]⟩,q) else some (⟨6,x,0,a0,a0,0,[]⟩,q)
 else none
def qNam (s:ByteArray) (ts:List Tk):Option (Ln × List Tk) :=
 if seeM ts 58=true then some (⟨1,s,0,a0,a0,0,[]⟩,ts.tail)
 else bnd (pMs (mkS 61) ts) fun _ q=>bnd (qTs (readF 6) 1 q) fun l q=>some (⟨2,s,0,a0,a0,0,l⟩,q)
def qLn:List Tk→Option (Ln × List Tk)
 | [] => some (ln0, [])
 | t :: r => if t.k = 1 then qNam t.s r
  else if t.k=5 then (if atV keptL t.s<23 then qIns (atV keptL t.s+1) r else none)
  else if t.k=3 then qDot t.s r
  else none
def qOf (ts:List Tk):Option Ln:=match qLn ts with|some (x,[])=>some x|_=>none
def pFn (o:Option (Ln × List Tk)):Option Ln:=match o with|some (x,[])=>if lnX x=true then some x else none|_=>none
def qFn (o:Option (Ln × List Tk)):Option Ln:=match o with|some (x,[])=>some x|_=>none
theorem fn_same {o:Option (Ln × List Tk)} (h:∀ x,o=some (x,[])→lnX x=true):pFn o=qFn o:=by
 unfold pFn qFn
 split
 ·
  rename_i x
  rw [if_pos (h x rfl)]
 · rfl
theorem fn_eq {o o':Option (Ln × List Tk)} (h:∀ x,o'=some (x,[])↔o=some (x,[])∧lnX x=true):pFn o=qFn o':=by
 have hq:∀ x,qFn o'=some x↔o'=some (x,[]):=by
  intro x
  unfold qFn
  split
  ·
   rename_i y
   simp
  ·
   rename_i hn
   constructor
   · intro h;cases h
   · intro h;exact absurd h (hn x)
 have hp:∀ x,pFn o=some x↔o=some (x,[])∧lnX x=true:=by
  intro x
  unfold pFn
  split
  ·
   rename_i y
   by_cases hy:lnX y=true
   ·
    rw [if_pos hy]
    constructor
    · intro h;cases h;exact ⟨rfl,hy⟩
    · intro h;cases h.1;rfl
   ·
    rw [if_neg hy]
    constructor
    · intro h;cases h
    · intro h;cases h.1;exact absurd h.2 hy
  ·
   rename_i hn
   constructor
   · intro h;cases h
   · intro h;exact absurd h.1 (hn x)
 apply Option.ext
 intro x
 rw [hp x,hq x,h x]
theorem bnd_some {α β:Type} {p:Option (α × List Tk)} {f:α→List Tk→Option (β × List Tk)} {y:β × List Tk}:bnd p f=some y↔∃ x q,p=some (x,q)∧f x q=some y:=by
 unfold bnd
 cases p with
 | none => simp
 | some z =>
  obtain ⟨x,q⟩:=z
  constructor
  · intro h;exact ⟨x,q,rfl,h⟩
  · rintro ⟨x',q',e,h⟩;cases e;exact h
theorem ms_some {c:UInt8} {q:List Tk} {y:Unit × List Tk}:pMs (mkS c) q=some y↔seeM q c=true∧y.2=q.tail:=by
 cases q with
 | nil => simp [pMs, seeM]
 | cons t r =>
  obtain ⟨⟨⟩,z⟩:=y
  unfold pMs seeM isM
  simp only
  by_cases h:eqS t.s (mkS c)=true
  · rw [if_pos h];simp [h];exact eq_comm
  · rw [if_neg h];simp [h]
theorem reg_le {t:Tk} (h:t.ok=true):regN t≤7:=by
 by_cases hn:regN t<0
 · omega
 ·
  obtain ⟨h8,e⟩:=pReg_some h (regN_pos hn)
  omega
theorem lnX_ins {x:Ln} (hk:x.k=3) (hs:x.s=⟨#[]⟩):lnX x=insX x:=by
 unfold lnX lnV
 rw [if_pos (by simp [hk]),hs,show eqS ⟨#[]⟩ E0=true from eqS_self _,Bool.true_and]
theorem ins_ok2 {op:Int} (h1:1≤op) (h6:op≤6) {a b:Ag} (ha:agX a=true) (hb:agX b=true):lnX ⟨3,⟨#[]⟩,op,a,b,0,[]⟩=true:=by
 rw [lnX_ins rfl rfl]
 unfold insX insV
 rw [if_pos ((inB_iff _ _ _).2 ⟨h1,h6⟩),ha,hb]
 rfl
theorem ins_ok1 {op:Int} (h1:7≤op) (h6:op≤14) {b:Ag} (hb:agX b=true):lnX ⟨3,⟨#[]⟩,op,a0,b,0,[]⟩=true:=by
 rw [lnX_ins rfl rfl]
 unfold insX insV
 rw [if_neg (fun q=>by have:=inB_of q;simp only at this;omega),if_pos ((inB_iff _ _ _).2 ⟨h1,h6⟩),hb]
 show (nonX a0&&_)=true
 rw [a0_non]
 rfl
theorem ins_okj {b:Ag} (hb:agX b=true) {n:Int}:lnX ⟨3,⟨#[]⟩,15,a0,b,n,[]⟩=inB n 0 7:=by
 rw [lnX_ins rfl rfl]
 unfold insX insV
 simp only
 rw [if_neg (by decide +kernel),if_neg (by decide +kernel),if_pos (by decide),hb]
 show (nonX a0&&(true&&(inB n 0 7&&true)))=_
 rw [a0_non]
 simp
theorem ins_okr {n:Int}:lnX ⟨3,⟨#[]⟩,16,a0,a0,n,[]⟩=inB n 0 7:=by
 rw [lnX_ins rfl rfl]
 unfold insX insV
 simp only
 rw [if_neg (by decide +kernel),if_neg (by decide +kernel),if_neg (by decide)]
 show (if (!nonX a0 || !nonX a0)=true then false else _)=_
 rw [a0_non,if_neg (by decide),if_pos (by decide)]
 show (inB n 0 7&&true)=_
 simp
theorem ins_okt {op:Int} (h:17≤op∧op≤23) (h2:op≠22) {l:List Ex}:lnX ⟨3,⟨#[]⟩,op,a0,a0,0,l⟩=(l.length == 1&&l.all (okF 6 true)):=by
 rw [lnX_ins rfl rfl]
 unfold insX insV
 rw [if_neg (fun q=>by have:=inB_of q;simp only at this;omega),if_neg (fun q=>by have:=inB_of q;simp only at this;omega),if_neg (by simp;omega)]
 show (if (!nonX a0 || !nonX a0)=true then false else _)=_
 rw [a0_non,if_neg (by decide),if_neg (by simp;omega),if_neg (by simp [h2]),if_pos]
 · rfl
 ·
  simp only [Bool.or_eq_true,beq_iff_eq,inB_iff]
  omega
theorem qTs_iff {rd:List Tk→Option (Ex × List Tk)} {P:Ex→Bool} (hrd:∀ ts e q,AllOk ts→(rd ts=some (e,q)↔readF 6 ts=some (e,q)∧P e=true)):∀ (m:Nat) (ts:List Tk) (l:List Ex),AllOk ts→(qTs rd (m+1) ts=some (l,[])↔pLs ts=some (l,[])∧l.length≤m+1∧l.all P=true):=by
 intro m
 induction m with
 | zero =>
  intro ts l ok
  rw [qTs,pLs_eq,bnd_some,bnd_some]
  constructor
  ·
   rintro ⟨e,q,h1,h2⟩
   rw [if_neg (by omega)] at h2
   cases h2
   obtain ⟨r1,r2⟩:=(hrd _ _ _ ok).1 h1
   exact ⟨⟨e,[],r1,rfl⟩,by simp,by simp [r2]⟩
  ·
   rintro ⟨⟨e,q,h1,h2⟩,h3,h4⟩
   by_cases hs:seeM q 44=true
   ·
    rw [if_pos hs] at h2
    obtain ⟨l2,q2,h5,h6⟩:=bnd_some.1 h2
    cases h6
    have:l2 = []:=List.eq_nil_of_length_eq_zero (by simp at h3;simpa using h3)
    subst this
    have okq:AllOk q.tail:=by
     obtain ⟨_,e1⟩:=toks_read 6 _ _ _ ok h1
     exact AllOk.tail (fun x hx=>ok x (by rw [e1];exact List.mem_append.2 (.inr hx)))
    exact absurd rfl (pLst_some _ _ _ _ okq h5).1
   ·
    rw [if_neg hs] at h2
    cases h2
    simp only [List.all_cons,List.all_nil,Bool.and_true] at h4
    exact ⟨e,[],(hrd _ _ _ ok).2 ⟨h1,h4⟩,by rw [if_neg (by omega)]⟩
 | succ m ih =>
  intro ts l ok
  rw [qTs,pLs_eq,bnd_some,bnd_some]
  have okq:∀ e q,readF 6 ts=some (e,q)→AllOk q.tail:=by
   intro e q h1
   obtain ⟨_,e1⟩:=toks_read 6 _ _ _ ok h1
   exact AllOk.tail (fun x hx=>ok x (by rw [e1];exact List.mem_append.2 (.inr hx)))
  constructor
  ·
   rintro ⟨e,q,h1,h2⟩
   obtain ⟨r1,r2⟩:=(hrd _ _ _ ok).1 h1
   by_cases hs:seeM q 44=true
   ·
    rw [if_pos ⟨by omega,hs⟩] at h2
    obtain ⟨l2,q2,h5,h6⟩:=bnd_some.1 h2
    cases h6
    obtain ⟨i1,i2,i3⟩:=(ih _ _ (okq _ _ r1)).1 h5
    exact ⟨⟨e,q,r1,by rw [if_pos hs];exact bnd_some.2 ⟨l2,[],i1,rfl⟩⟩,by simp;omega,by rw [List.all_cons,r2,i3];rfl⟩
   ·
    rw [if_neg (fun h=>hs h.2)] at h2
    cases h2
    exact ⟨⟨e,[],r1,by rw [if_neg hs]⟩,by simp,by simp [r2]⟩
  ·
   rintro ⟨⟨e,q,h1,h2⟩,h3,h4⟩
   by_cases hs:seeM q 44=true
   ·
    rw [if_pos hs] at h2
    obtain ⟨l2,q2,h5,h6⟩:=bnd_some.1 h2
    cases h6
    rw [List.all_cons] at h4
    obtain ⟨p1,p2⟩:=Bool.and_eq_true_iff.1 h4
    have i1:=(ih _ _ (okq _ _ h1)).2 ⟨h5,by simp at h3;omega,p2⟩
    exact ⟨e,q,(hrd _ _ _ ok).2 ⟨h1,p1⟩,by rw [if_pos ⟨by omega,hs⟩];exact bnd_some.2 ⟨l2,[],i1,rfl⟩⟩
   ·
    rw [if_neg hs] at h2
    cases h2
    simp only [List.all_cons,List.all_nil,Bool.and_true] at h4
    exact ⟨e,[],(hrd _ _ _ ok).2 ⟨h1,h4⟩,by rw [if_neg (fun h=>hs h.2)]⟩
theorem rd_all (ts:List Tk) (e:Ex) (q:List Tk) (h:AllOk ts):readF 6 ts=some (e,q)↔readF 6 ts=some (e,q)∧(fun _=>true) e=true:=by simp
theorem rd_name (ts:List Tk) (e:Ex) (q:List Tk) (h:AllOk ts):qSy ts=some (e,q)↔readF 6 ts=some (e,q)∧nmF e=true:=by
 unfold qSy
 rw [bnd_some]
 constructor
 ·
  rintro ⟨s,q2,h1,h2⟩
  cases ts with
  | nil => cases h1
  | cons t r =>
   unfold qNm at h1
   simp only at h1
   split at h1
   ·
    rename_i hk
    cases h1
    cases h2
    have hr:readF 6 (t::q)=some (⟨2,0,t.s,[]⟩,q):=by
     rw [readF_cons,if_neg (by omega),if_pos hk]
    refine ⟨hr,?_⟩
    obtain ⟨ok,_⟩:=toks_read 6 _ _ _ h hr
    unfold nmF
    rw [ok]
    rfl
   · cases h1
 ·
  rintro ⟨h1,h2⟩
  have hk:e.k=2:=by
   unfold nmF at h2
   simpa using (Bool.and_eq_true_iff.1 h2).2
  cases ts with
  | nil => cases h1
  | cons t r =>
   rw [readF_cons] at h1
   by_cases c1:t.k=2
   · rw [if_pos c1] at h1;cases h1;exact absurd hk (show ¬ (_:Int)=2 by simp)
   rw [if_neg c1] at h1
   by_cases c2:t.k=1
   ·
    rw [if_pos c2] at h1
    cases h1
    exact ⟨t.s,q,by unfold qNm;simp only [c2,if_true],rfl⟩
   rw [if_neg c2] at h1
   exfalso
   by_cases c3:eqS t.s (mkS 46)=true
   · rw [if_pos c3] at h1;cases h1;exact absurd hk (show ¬ (_:Int)=2 by simp)
   rw [if_neg c3] at h1
   by_cases c4:eqS t.s (mkS 45)=true
   ·
    rw [if_pos c4] at h1
    cases e1:readF 5 r with
    | none => rw [e1] at h1; cases h1
    | some p => rw [e1] at h1; cases h1; exact absurd hk (show ¬ (_ : Int) = 2 by simp)
   rw [if_neg c4] at h1
   by_cases c5:eqS t.s (mkS 60)=true
   ·
    rw [if_pos c5] at h1
    unfold twoF at h1
    cases e1:readF 5 r with
    | none => rw [e1] at h1; cases h1
    | some p =>
     obtain ⟨a,q1⟩:=p
     rw [e1] at h1
     cases q1 with
     | nil => cases h1
     | cons t1 q1 =>
      simp only at h1
      cases e2:readF 5 q1 with
      | none => rw [e2] at h1; cases h1
      | some p =>
       obtain ⟨b,q2⟩:=p
       rw [e2] at h1
       cases q2 with
       | nil => cases h1
       | cons t2 q2 =>
        simp only at h1
        by_cases c6:eqS t2.s (mkS 62)=true
        ·
         rw [if_pos c6] at h1
         cases e3:sgnK t1.s with
         | none => rw [e3] at h1; cases h1
         | some k =>
          rw [e3] at h1
          cases h1
          have:=(sgnK_some e3).1
          simp only at hk
          omega
        · rw [if_neg c6] at h1;cases h1
   · rw [if_neg c5] at h1;cases h1
theorem qOne_iff {ts:List Tk} {l:List Ex} (ok:AllOk ts):qTs (readF 6) 1 ts=some (l,[])↔pLs ts=some (l,[])∧l.length=1:=by
 rw [qTs_iff rd_all 0 ts l ok]
 constructor
 ·
  rintro ⟨h1,h2,_⟩
  have:=(pLst_some _ _ _ _ ok h1).1
  have:0<l.length:=List.length_pos_iff.2 this
  exact ⟨h1,by omega⟩
 ·
  rintro ⟨h1,h2⟩
  exact ⟨h1,by omega,by simp⟩
theorem ok_rest {ts q:List Tk} {p:List Tk} (h:AllOk ts) (e:ts=p++q):AllOk q:=fun x hx=>h x (by rw [e];exact List.mem_append.2 (.inr hx))
theorem qTs_one (rd:List Tk→Option (Ex × List Tk)) (ts:List Tk):qTs rd 1 ts=bnd (rd ts) fun e q=>some ([e],q):=by
 rw [qTs]
 congr 1
theorem bnd_assoc {α β γ:Type} (p:Option (α × List Tk)) (f:α→List Tk→Option (β × List Tk)) (g:β→List Tk→Option (γ × List Tk)):bnd (bnd p f) g=bnd p fun x q=>bnd (f x q) g:=by
 cases p <;> rfl
theorem qIns_fn {op:Int} (h:1≤op∧op≤23) {ts:List Tk} (ok:AllOk ts):pFn (pIns op ts)=qFn (qIns op ts):=by
 unfold qIns
 by_cases h6:op≤6
 ·
  rw [pIns_two ts h6,if_pos h6]
  apply fn_same
  intro x hx
  obtain ⟨a,q,e1,hx⟩:=bnd_some.1 hx
  obtain ⟨u,q2,e2,hx⟩:=bnd_some.1 hx
  obtain ⟨b,q3,e3,hx⟩:=bnd_some.1 hx
  cases hx
  obtain ⟨o1,t1⟩:=pArg_some ok e1
  have ok1:=ok_rest ok t1
  obtain ⟨_,t2⟩:=ms_some.1 e2
  have t2:q2=q.tail:=t2
  obtain ⟨o2,_⟩:=pArg_some (t2▸ok1.tail) e3
  exact ins_ok2 h.1 h6 o1 o2
 rw [if_neg h6]
 by_cases h14:op≤14
 ·
  rw [pIns_one ts h6 h14,if_pos h14]
  apply fn_same
  intro x hx
  obtain ⟨b,q,e1,hx⟩:=bnd_some.1 hx
  cases hx
  exact ins_ok1 (by omega) h14 (pArg_some ok e1).1
 rw [if_neg h14]
 by_cases h15:op=15
 ·
  subst h15
  rw [if_pos rfl,pIns_jsr]
  apply fn_eq
  intro x
  cases ts with
  | nil => simp [pNx, qRg, bnd]
  | cons t r =>
   have hr:=reg_le (ok t (by simp))
   show bnd (if regN t<0 then none else some (regN t,r)) _=some (x,[])↔_
   show _↔bnd (pMs (mkS 44) r) _=some (x,[])∧_
   by_cases hn:regN t<0
   ·
    rw [if_pos hn]
    constructor
    · intro q;cases q
    ·
     rintro ⟨q,hl⟩
     obtain ⟨u,q2,e2,hx⟩:=bnd_some.1 q
     obtain ⟨b,q3,e3,hx⟩:=bnd_some.1 hx
     cases hx
     have ok2:AllOk q2:=by
      obtain ⟨_,t2⟩:=ms_some.1 e2
      have t2:q2=r.tail:=t2
      rw [t2];exact ok.head.2.tail
     rw [ins_okj (pArg_some ok2 e3).1] at hl
     have:=inB_of hl
     omega
   ·
    rw [if_neg hn]
    show bnd (pMs (mkS 44) r) _=some (x,[])↔_
    constructor
    ·
     intro q
     refine ⟨q,?_⟩
     obtain ⟨u,q2,e2,hx⟩:=bnd_some.1 q
     obtain ⟨b,q3,e3,hx⟩:=bnd_some.1 hx
     cases hx
     have ok2:AllOk q2:=by
      obtain ⟨_,t2⟩:=ms_some.1 e2
      have t2:q2=r.tail:=t2
      rw [t2];exact ok.head.2.tail
     rw [ins_okj (pArg_some ok2 e3).1]
     exact (inB_iff _ _ _).2 (by omega)
    · exact fun q=>q.1
 rw [if_neg h15]
 by_cases h16:op=16
 ·
  subst h16
  rw [if_pos rfl,pIns_rts]
  apply fn_eq
  intro x
  cases ts with
  | nil => simp [pNx, qRg, bnd]
  | cons t r =>
   have hr:=reg_le (ok t (by simp))
   show bnd (if regN t<0 then none else some (regN t,r)) _=some (x,[])↔_
   show _↔some ((⟨3,⟨#[]⟩,16,a0,a0,regN t,[]⟩:Ln),r)=some (x,[])∧_
   by_cases hn:regN t<0
   ·
    rw [if_pos hn]
    constructor
    · intro q;cases q
    ·
     rintro ⟨q,hl⟩
     cases q
     rw [ins_okr] at hl
     have:=inB_of hl
     omega
   ·
    rw [if_neg hn]
    show some ((⟨3,⟨#[]⟩,16,a0,a0,regN t,[]⟩:Ln),r)=some (x,[])↔_
    constructor
    ·
     intro q
     refine ⟨q,?_⟩
     cases q
     rw [ins_okr]
     exact (inB_iff _ _ _).2 (by omega)
    · exact fun q=>q.1
 rw [if_neg h16]
 by_cases h22:op=22
 ·
  subst h22
  rw [if_pos rfl,pIns_halt]
  apply fn_same
  intro x hx
  cases hx
  decide +kernel
 rw [if_neg h22,pIns_term ts (by omega) h22,qTs_one,bnd_assoc]
 show pFn (bnd (readF 6 ts) fun e q=>some (⟨3,⟨#[]⟩,op,a0,a0,0,[e]⟩,q))=_
 apply fn_same
 intro x hx
 obtain ⟨e,q,e1,hx⟩:=bnd_some.1 hx
 cases hx
 rw [ins_okt (by omega) h22]
 simp [(toks_read 6 _ _ _ ok e1).1]
theorem a0_if {α:Type} (x y:α):(if (!((0:Int) == 0) || (!nonX a0 || !nonX a0))=true then x else y)=y:=by
 rw [a0_non,if_neg (by decide)]
theorem ln_ok4 {l:List Ex}:lnX ⟨4,⟨#[]⟩,0,a0,a0,0,l⟩=(inB l.length 1 6&&l.all (okF 6 true)):=by
 unfold lnX lnV
 simp only
 rw [if_neg (by decide)]
 show (if (!((0:Int) == 0) || (!nonX a0 || !nonX a0))=true then _ else _)=_
 rw [a0_if,if_neg (by decide),if_neg (by decide),if_neg (by decide),if_pos (by decide)]
 show (eqS ⟨#[]⟩ E0&&_)=_
 rw [show eqS ⟨#[]⟩ E0=true from eqS_self _]
 rfl
theorem ln_ok5 {l:List Ex}:lnX ⟨5,⟨#[]⟩,0,a0,a0,0,l⟩=(l.length == 1&&l.all (okF 6 true)):=by
 unfold lnX lnV
 simp only
 rw [if_neg (by decide)]
 show (if (!((0:Int) == 0) || (!nonX a0 || !nonX a0))=true then _ else _)=_
 rw [a0_if,if_neg (by decide),if_neg (by decide),if_neg (by decide),if_neg (by decide),if_pos (by decide)]
 show (eqS ⟨#[]⟩ E0&&_)=_
 rw [show eqS ⟨#[]⟩ E0=true from eqS_self _]
 rfl
theorem ln_ok7 {l:List Ex}:lnX ⟨7,⟨#[]⟩,0,a0,a0,0,l⟩=nmsX l:=by
 unfold lnX lnV
 simp only
 rw [if_neg (by decide)]
 show (if (!((0:Int) == 0) || (!nonX a0 || !nonX a0))=true then _ else _)=_
 rw [a0_if,if_neg (by decide),if_neg (by decide),if_neg (by decide),if_neg (by decide),if_neg (by decide),if_neg (by decide),if_pos (by decide)]
 show (eqS ⟨#[]⟩ E0&&_)=_
 rw [show eqS ⟨#[]⟩ E0=true from eqS_self _]
 rfl
theorem ln_ok6 {s:ByteArray} {n:Int}:lnX ⟨6,s,0,a0,a0,n,[]⟩=(nameB s&&inB n 0 1):=by
 unfold lnX lnV
 simp only
 rw [if_neg (by decide)]
 show (if (!((0:Int) == 0) || (!nonX a0 || !nonX a0))=true then _ else _)=_
 rw [a0_if,if_neg (by decide),if_neg (by decide),if_neg (by decide),if_neg (by decide),if_neg (by decide),if_pos (by decide)]
 show (nameB s&&(inB n 0 1&&true))=_
 rw [Bool.and_true]
theorem ln_ok1 {s:ByteArray}:lnX ⟨1,s,0,a0,a0,0,[]⟩=nameB s:=by
 unfold lnX lnV
 simp only
 rw [if_neg (by decide)]
 show (if (!((0:Int) == 0) || (!nonX a0 || !nonX a0))=true then _ else _)=_
 rw [a0_if,if_neg (by decide),if_pos (by decide)]
 show (nameB s&&true)=_
 rw [Bool.and_true]
theorem ln_ok2 {s:ByteArray} {l:List Ex}:lnX ⟨2,s,0,a0,a0,0,l⟩=(nameB s&&(l.length == 1&&l.all (okF 6 true))):=by
 unfold lnX lnV
 simp only
 rw [if_neg (by decide)]
 show (if (!((0:Int) == 0) || (!nonX a0 || !nonX a0))=true then _ else _)=_
 rw [a0_if,if_neg (by decide),if_neg (by decide),if_pos (by decide)]
 show (nameB s&&(true&&(l.length == 1&&l.all (okF 6 true))))=_
 rw [Bool.true_and]
theorem name_ok {t:Tk} (h:t.ok=true) (hk:t.k=1):nameB t.s=true:=by
 obtain ⟨k,n,s⟩:=t
 simp only at hk
 subst hk
 unfold Tk.ok at h
 simp only at h
 split at h
 · rename_i q;exact absurd q (by decide)
 split at h
 · cases h
 split at h
 · exact h
 · rename_i q;exact absurd rfl q
theorem len_pos {ts:List Tk} {l:List Ex} {q:List Tk} (ok:AllOk ts) (h:pLs ts=some (l,q)):0<l.length∧l.all (okF 6 true)=true:=by
 obtain ⟨h1,h2,_⟩:=pLst_some _ _ _ _ ok h
 exact ⟨List.length_pos_iff.2 h1,h2⟩
theorem qDot_fn (s:ByteArray) {ts:List Tk} (ok:AllOk ts):pFn (pDot s ts)=qFn (qDot s ts):=by
 unfold qDot
 by_cases h1:eqS s ⟨#[46,119,111,114,100]⟩=true
 ·
  rw [if_pos h1]
  unfold pDot
  rw [if_pos h1,pTms_eq]
  apply fn_eq
  intro x
  rw [bnd_some,bnd_some]
  constructor
  ·
   rintro ⟨l,q,e1,hx⟩
   cases hx
   obtain ⟨i1,i2,_⟩:=(qTs_iff rd_all 5 ts l ok).1 e1
   obtain ⟨p1,p2⟩:=len_pos ok i1
   refine ⟨⟨l,[],i1,rfl⟩,?_⟩
   rw [ln_ok4,p2,(inB_iff _ _ _).2 (by omega)]
   rfl
  ·
   rintro ⟨⟨l,q,e1,hx⟩,hl⟩
   cases hx
   rw [ln_ok4] at hl
   have:=inB_of (Bool.and_eq_true_iff.1 hl).1
   exact ⟨l,[],(qTs_iff rd_all 5 ts l ok).2 ⟨e1,by omega,by simp⟩,rfl⟩
 rw [if_neg h1]
 by_cases h2:eqS s ⟨#[46,98,108,107,119]⟩=true
 ·
  rw [if_pos h2]
  unfold pDot
  rw [if_neg h1,if_pos h2,pTms_eq]
  apply fn_eq
  intro x
  rw [bnd_some,bnd_some]
  constructor
  ·
   rintro ⟨l,q,e1,hx⟩
   cases hx
   obtain ⟨i1,i2⟩:=(qOne_iff ok).1 e1
   obtain ⟨p1,p2⟩:=len_pos ok i1
   refine ⟨⟨l,[],i1,rfl⟩,?_⟩
   rw [ln_ok5,p2,i2]
   rfl
  ·
   rintro ⟨⟨l,q,e1,hx⟩,hl⟩
   cases hx
   rw [ln_ok5] at hl
   have:=(Bool.and_eq_true_iff.1 hl).1
   exact ⟨l,[],(qOne_iff ok).2 ⟨e1,by simpa using this⟩,rfl⟩
 rw [if_neg h2]
 by_cases h3:eqS s ⟨#[46,103,108,111,98,108]⟩=true
 ·
  rw [if_pos h3]
  unfold pDot
  rw [if_neg h1,if_neg h2,if_pos h3,pTms_eq]
  apply fn_eq
  intro x
  rw [bnd_some,bnd_some]
  constructor
  ·
   rintro ⟨l,q,e1,hx⟩
   cases hx
   obtain ⟨i1,i2,i3⟩:=(qTs_iff rd_name 5 ts l ok).1 e1
   obtain ⟨p1,p2⟩:=len_pos ok i1
   refine ⟨⟨l,[],i1,rfl⟩,?_⟩
   rw [ln_ok7]
   unfold nmsX
   rw [i3,(inB_iff _ _ _).2 (by omega)]
   rfl
  ·
   rintro ⟨⟨l,q,e1,hx⟩,hl⟩
   cases hx
   rw [ln_ok7] at hl
   unfold nmsX at hl
   obtain ⟨p1,p2⟩:=Bool.and_eq_true_iff.1 hl
   have:=inB_of p2
   exact ⟨l,[],(qTs_iff rd_name 5 ts l ok).2 ⟨e1,by omega,p1⟩,rfl⟩
 rw [if_neg h3]
 by_cases h4:eqS s ⟨#[46,101,110,100]⟩=true
 ·
  rw [if_pos h4]
  unfold pDot
  rw [if_neg h1,if_neg h2,if_neg h3,if_pos h4]
  apply fn_same
  intro x hx
  cases hx
  decide +kernel
 rw [if_neg h4]
 by_cases h5:eqS s ⟨#[46,115,101,99,116]⟩=true
 ·
  rw [if_pos h5,pDot_sect ts (by simpa using h1) (by simpa using h2) (by simpa using h3) (by simpa using h4) h5]
  apply fn_eq
  intro x
  cases ts with
  | nil => simp [pNx, qNm, bnd]
  | cons t r =>
   have ht:=ok t (by simp)
   show bnd (if t.k=1 then some (t.s,r) else none) _=some (x,[])↔(if seeM r 44=true then bnd (pMs sOver r.tail) (fun _ q=>some ((⟨6,t.s,0,a0,a0,1,[]⟩:Ln),q)) else some (⟨6,t.s,0,a0,a0,0,[]⟩,r))=some (x,[])∧_
   by_cases hk:t.k=1
   ·
    rw [if_pos hk]
    show (if seeM r 44=true then bnd (pMs sOver r.tail) (fun _ q=>some ((⟨6,t.s,0,a0,a0,1,[]⟩:Ln),q)) else some (⟨6,t.s,0,a0,a0,0,[]⟩,r))=some (x,[])↔_
    constructor
    ·
     intro q
     refine ⟨q,?_⟩
     split at q
     ·
      obtain ⟨_,_,_,hx⟩:=bnd_some.1 q
      cases hx
      rw [ln_ok6,name_ok ht hk]
      decide
     ·
      cases q
      rw [ln_ok6,name_ok ht hk]
      decide
    · exact fun q=>q.1
   ·
    rw [if_neg hk]
    constructor
    · intro q;cases q
    ·
     rintro ⟨q,hl⟩
     exfalso
     have hn:nameB t.s=true:=by
      split at q
      ·
       obtain ⟨_,_,_,hx⟩:=bnd_some.1 q
       cases hx
       rw [ln_ok6] at hl
       exact (Bool.and_eq_true_iff.1 hl).1
      ·
       cases q
       rw [ln_ok6] at hl
       exact (Bool.and_eq_true_iff.1 hl).1
     have:=name_tok ht hn
     exact hk (by rw [this])
 ·
  rw [if_neg h5]
  unfold pDot
  rw [if_neg h1,if_neg h2,if_neg h3,if_neg h4,if_neg h5]
  rfl
theorem qOf_eq {ts:List Tk} (ok:AllOk ts):qOf ts=pOf ts:=by
 cases ts with
 | nil => rfl
 | cons t r =>
  have ht:=ok t (by simp)
  have okr:=ok.head.2
  have e1:pOf (t::r)=pFn (pLn (t::r)):=by unfold pOf;rw [if_neg (by simp)];rfl
  have e2:qOf (t::r)=qFn (qLn (t::r)):=rfl
  rw [e1,e2,pLn_bnd]
  show qFn (if t.k=1 then qNam t.s r else if t.k=5 then (if atV keptL t.s<23 then qIns (atV keptL t.s+1) r else none) else if t.k=3 then qDot t.s r else none)=pFn (if t.k=5 then (if atV keptL t.s<23 then pIns (atV keptL t.s+1) r else none)
  else if t.k=3 then pDot t.s r
  else if t.k=1 then (if seeM r 58=true then some (⟨1,t.s,0,a0,a0,0,[]⟩,r.tail) else if seeM r 61=true then bnd (readF 6 r.tail) (fun e q=>some (⟨2,t.s,0,a0,a0,0,[e]⟩,q)) else none)
  else none)
  by_cases k1:t.k=1
  ·
   rw [if_pos k1,if_neg (by omega),if_neg (by omega),if_pos k1]
   unfold qNam
   by_cases h58:seeM r 58=true
   ·
    rw [if_pos h58,if_pos h58]
    refine (fn_same ?_).symm
    intro x hx
    injection hx with hx
    injection hx with hx1 _
    subst hx1
    rw [ln_ok1,name_ok ht k1]
   ·
    rw [if_neg h58,if_neg h58,ms_see]
    by_cases h61:seeM r 61=true
    ·
     rw [if_pos h61,if_pos h61,qTs_one,bnd_assoc]
     refine (fn_same ?_).symm
     intro x hx
     obtain ⟨e,q,e1,hx⟩:=bnd_some.1 hx
     cases hx
     rw [ln_ok2,name_ok ht k1]
     simp [(toks_read 6 _ _ _ okr.tail e1).1]
    ·
     rw [if_neg h61,if_neg h61]
     rfl
  rw [if_neg k1]
  by_cases k5:t.k=5
  ·
   rw [if_pos k5,if_pos k5]
   by_cases h23:atV keptL t.s<23
   ·
    rw [if_pos h23,if_pos h23]
    obtain ⟨g1,_,_⟩:=kp_of ht k5
    exact (qIns_fn (by omega) okr).symm
   ·
    rw [if_neg h23,if_neg h23]
    rfl
  rw [if_neg k5,if_neg k5]
  by_cases k3:t.k=3
  ·
   rw [if_pos k3,if_pos k3]
   exact (qDot_fn t.s okr).symm
  ·
   rw [if_neg k3,if_neg k3,if_neg k1]
   rfl
section
theorem qSy_ok {ts:List Tk} (h:AllOk ts) {e:Ex} {q:List Tk} (hq:qSy ts=some (e,q)):okF 6 true e=true:=(toks_read 6 ts e q h ((rd_name ts e q h).1 hq).1).1
structure Pq (w wr:World) (rb:Nat) (ts:List Tk):Prop where
 pr:Pr wr rb ts
 gr:w.grownBy wr (some rb)
 lt:rb<w.heap.size
section
variable {w wr w':World} {rb:Nat} {ts ts':List Tk}
theorem Pr.start (h:Pr w rb ts):Pq w w rb ts:=⟨h,grownBy_below (Below.refl _ _),h.lt⟩
theorem Pq.next (h:Pq w wr rb ts) (hr:Pr w' rb ts') (hg:wr.grownBy w' (some rb)):Pq w w' rb ts':=⟨hr,grownBy_trans h.gr hg,h.lt⟩
theorem Pq.later (h:Pq w wr rb ts) (hb:Below wr.heap.size wr w'):Pq w w' rb ts:=h.next (h.pr.later hb) (grownBy_below hb)
theorem Pq.row {g:Nat} {old:Array Value} {t:TypeId} {fr:Nat × Nat} (h:Pq w wr rb ts) (hg:wr.heap[g]?=some (.cells old t fr)) (ht:t≠71) (hr:t≠146) (hge:w.heap.size≤g) (cs:Array Value):Pq w (wr.setRow g cs) rb ts:=⟨h.pr.row hg ht hr cs,grownBy_own h.gr (grownBy_row cs) (fun g' e=>by cases e;exact hge),h.lt⟩
theorem Pq.blk {g:Nat} {o:Obj} (h:Pq w wr rb ts) (hg:wr.grownBy w' (some rb)) (hb:wr.heap[g]?=some o) (hge:w.heap.size≤g):w'.heap[g]?=some o :=
 (hg.block g (Array.getElem?_eq_some_iff.1 hb).1 (fun e=>by have:=h.lt;simp at e;omega)).trans hb
theorem Pr.aside {g:Nat} {old:Array Value} {t:TypeId} {fr:Nat × Nat} (h:Pr w rb ts) (hw:w.grownBy w' (some g)) (hg:w.heap[g]?=some (.cells old t fr)) (ht:t≠71) (hr:t≠146):Pr w' rb ts:=by
 obtain ⟨a,n,cap,h⟩:=h
 refine ⟨a,n,cap,h.aside hw (fun e=>?_) (h.sl.off hg ht)⟩
 subst e
 have:=h.row
 rw [this] at hg
 injection hg with hg
 injection hg with _ h2 _
 exact hr h2.symm
theorem Pq.own {v:Value} {B n m:Nat} {t:TypeId} {cs:List Value} (h:Pq w wr rb ts) (ho:wr.ownsRow B t m v n cs) (hB:w.heap.size≤B) (ht:t≠71) (hr:t≠146) (hg:wr.grownBy w' v.ownBlock):Pq w w' rb ts:=by
 obtain ⟨_,⟨e,_⟩|⟨g,cap,cur,rfl,hg',hh,_⟩⟩:=ho
 ·
  subst e
  exact h.next (h.pr.later (below_none hg)) (grownBy_below (below_none hg))
 · exact ⟨h.pr.aside hg hh ht hr,grownBy_own h.gr hg (fun g' e=>by cases e;show w.heap.size≤g;omega),h.lt⟩
end
def qCo (rd:List Tk→Option (Ex × List Tk)) (acc:List Ex) (m:Nat) (q:List Tk):Option (List Ex × List Tk):=if 0<m∧seeM q 44=true then bnd (qTs rd m q.tail) fun l q=>some (acc++l,q) else some (acc,q)
theorem qCo_begin (rd:List Tk→Option (Ex × List Tk)) (m:Nat) (ts:List Tk):qTs rd (m+1) ts=bnd (rd ts) fun e q=>qCo rd [e] m q:=by
 rw [qTs]
 rfl
theorem qCo_more {rd:List Tk→Option (Ex × List Tk)} {acc:List Ex} {m:Nat} {q:List Tk} (h:seeM q 44=true):qCo rd acc (m+1) q=bnd (rd q.tail) fun e q=>qCo rd (acc++[e]) m q:=by
 unfold qCo
 rw [if_pos ⟨by omega,h⟩,qTs]
 cases rd q.tail with
 | none => rfl
 | some p =>
  obtain ⟨e,q2⟩:=p
  show bnd (if 0<m∧seeM q2 44=true then bnd (qTs rd m q2.tail) (fun l q=>some (e::l,q)) else some ([e],q2)) (fun l q=>some (acc++l,q))=if 0<m∧seeM q2 44=true then bnd (qTs rd m q2.tail) (fun l q=>some (acc++[e]++l,q)) else some (acc++[e],q2)
  by_cases h2:0<m∧seeM q2 44=true
  ·
   rw [if_pos h2,if_pos h2]
   cases qTs rd m q2.tail with
   | none => rfl
   | some p => show some (acc ++ (e :: p.1), p.2) = some (acc ++ [e] ++ p.1, p.2); simp
  ·
   rw [if_neg h2,if_neg h2]
   rfl
theorem qCo_stop {rd:List Tk→Option (Ex × List Tk)} {acc:List Ex} {m:Nat} {q:List Tk} (h:¬ (0<m∧seeM q 44=true)):qCo rd acc m q=some (acc,q):=by
 unfold qCo
 rw [if_neg h]
theorem qCo_see {rd:List Tk→Option (Ex × List Tk)} {acc:List Ex} {m:Nat} {q:List Tk} (h:seeM q 44=false):qCo rd acc m q=some (acc,q):=qCo_stop (fun q=>by rw [h] at q;exact absurd q.2 (by decide))
theorem ApL.one {w:World} {B:Nat} {x:Ex} {c:Option Addr} {cp:Nat} (h:NewX w B x c) (hB:B≤w.heap.size):ApL (w.alloc (.cells #[.int .i64 x.k,.int .i64 x.n,.string x.s,.slice c x.l.length cp] 26)) B [x] (.slice (some ⟨w.heap.size,0,none⟩) 1 1) (w.alloc (.cells #[.int .i64 x.k,.int .i64 x.n,.string x.s,.slice c x.l.length cp] 26)).heap.size:=by
 obtain ⟨F,h1,h2,h3⟩:=h
 have hlt:=OwX.lt x c F h1
 have hs:(w.alloc (.cells #[.int .i64 x.k,.int .i64 x.n,.string x.s,.slice c x.l.length cp] 26)).heap.size=w.heap.size+1:=by simp
 refine ⟨xL x c cp,[F],⟨rfl,.inr ⟨w.heap.size,1,#[.int .i64 x.k,.int .i64 x.n,.string x.s,.slice c x.l.length cp],rfl,hB,heap_alloc_new w _,Nat.le_refl _,by unfold maxLen;omega,rfl,rfl⟩⟩,fun g e=>by cases e;show w.heap.size<_;omega,rfl,by simpa using h2,fun b hb=>?_,fun i hi=>?_⟩
 ·
  have hb:b∈F:=by simpa using hb
  refine ⟨h3 b hb,by have:=hlt b hb;omega,fun e=>?_⟩
  cases e
  have:w.heap.size<w.heap.size:=hlt _ hb
  omega
 ·
  obtain rfl:i=0:=by simp at hi;omega
  exact ⟨rfl,rfl,rfl,c,cp,rfl,h1.later (below_new _ _)⟩
theorem syI (rb:Nat) (ts:List Tk) (w:World) (h:Pr w rb ts) (ht:TabP w rb):Calls Tryz.prog 167 #[.pointer (some ⟨rb,0,none⟩)] w (PnR (qSy ts) (VEx w.heap.size) rb w):=by
 have OK:=hide (fun e q (hq:qSy ts=some (e,q))=>qSy_ok h.ok hq)
 have FN:=hide (fun w' (ho:qSy ts=none) (hg:w.grownBy w' (some rb))=>(show PnR (qSy ts) (VEx w.heap.size) rb w (.panicked pn) w' from pnR_none ho rfl hg))
 have FY:=hide (fun x q v w' (ho:qSy ts=some (x,q)) (hg:w.grownBy w' (some rb)) (hv:VEx w.heap.size x w' v) (hz:Pr w' rb q)=>(show PnR (qSy ts) (VEx w.heap.size) rb w (.returned v) w' from pnR_some ho rfl hg hv hz))
 have OE:=hide (show qSy ts=bnd (qNm ts) (fun s q=>some (⟨2,0,s,[]⟩,q)) from rfl)
 generalize PnR (qSy ts) (VEx w.heap.size) rb w=R at *
 generalize qSy ts=O at *
 have hb0:=below_new w (.cells #[.int .i64 0,.int .i64 0,.string ⟨#[]⟩,.slice none 0 0] 26)
 have hg0:(w.alloc (.cells #[.int .i64 0,.int .i64 0,.string ⟨#[]⟩,.slice none 0 0] 26)).heap[w.heap.size]?=some (.cells #[.int .i64 0,.int .i64 0,.string ⟨#[]⟩,.slice none 0 0] 26 (0,0)):=Array.getElem?_push_size
 obtain ⟨W,hW⟩:∃ W,w.alloc (.cells #[.int .i64 0,.int .i64 0,.string ⟨#[]⟩,.slice none 0 0] 26)=W:=⟨_,rfl⟩
 rw [hW] at hb0 hg0
 have Q0:=hide (h.start.later hb0)
 have R0:=hide hg0
 have X:=hide (nmI rb ts W (h.later hb0) (ht.grown (grownBy_below hb0)))
 clear h ht hb0 hg0
 go_enter Tryz.func167,Tryz.ntmps167
 go_wp2_with fail
 refine (uh X).mono ?_
 rintro r w1 ⟨hg,hm⟩
 cases ho:qNm ts with
 | none =>
  rw [ho] at hm
  have hr:r = .panicked pn:=hm
  subst hr
  exact ⟨rfl,uh FN _ ((uh OE).trans (bnd_no ho _)) (grownBy_trans (uh Q0).gr hg)⟩
 | some p =>
  obtain ⟨x,q⟩:=p
  rw [ho] at hm
  obtain ⟨v,rfl,hv,hz⟩:=hm
  unfold VSt at hv
  subst hv
  have OE1:=hide ((uh OE).trans (bnd_at ho _))
  have Q1:=hide ((uh Q0).next hz hg)
  have R1:=hide ((uh Q0).blk hg (uh R0) (Nat.le_refl _))
  have F:=hide (fun w' (h:Pq w w' rb q)=>uh FY _ q (.agg #[.int .i64 2,.int .i64 0,.string x,.slice none 0 0]) w' (uh OE1) h.gr ⟨none,0,rfl,NewX.nil _ _ _ _ _ _,uh OK _ _ (uh OE1)⟩ h.pr)
  clear hg hz ho FN FY OE OE1 Q0 R0 X OK
  go_wp2_with (refine wpList_store_row rfl 26 _ _ rfl w.heap.size #[.int .i64 2,.int .i64 0,.string x,.slice none 0 0] rfl rfl 26 _ (uh R1) szE rfl (ex_one _ _ _ _ _ _) ?_)
  refine bodyPost_ret (results_cell_row (P:=Tryz.prog) rfl _ _ w.heap.size 26 #[.int .i64 2,.int .i64 0,.string x,.slice none 0 0] (0,0) _ rfl (setRow_heap _ _ _ _ _ _ (uh R1)) Tryz.underlying26 rfl szE) rfl ?_
  exact uh F _ ((uh Q1).row (uh R1) (by decide) (by decide) (Nat.le_refl _) _)
def VLs (B:Nat) (l:List Ex) (w':World) (v:Value):Prop:=∃ c cp,v = .slice c l.length cp∧NewX w' B ⟨0,0,⟨#[]⟩,l⟩ c
theorem exsI (m:Nat) (hm:m≤5) (rb:Nat) (ts:List Tk) (w:World) (h:Pr w rb ts) (ht:TabP w rb):Calls Tryz.prog 160 #[.pointer (some ⟨rb,0,none⟩),.int .i64 (m+1:Nat),.func (.func 161) #[.pointer (some ⟨rb,0,none⟩)] #[]] w (PnR (qTs (readF 6) (m+1) ts) (VLs w.heap.size) rb w):=by
 have FN:=hide (fun w' (ho:qTs (readF 6) (m+1) ts=none) (hg:w.grownBy w' (some rb))=>(show PnR (qTs (readF 6) (m+1) ts) (VLs w.heap.size) rb w (.panicked pn) w' from pnR_none ho rfl hg))
 have FY:=hide (fun x q v w' (ho:qTs (readF 6) (m+1) ts=some (x,q)) (hg:w.grownBy w' (some rb)) (hv:VLs w.heap.size x w' v) (hz:Pr w' rb q)=>(show PnR (qTs (readF 6) (m+1) ts) (VLs w.heap.size) rb w (.returned v) w' from pnR_some ho rfl hg hv hz))
 have OE:=hide (qCo_begin (readF 6) m ts)
 generalize PnR (qTs (readF 6) (m+1) ts) (VLs w.heap.size) rb w=R at *
 generalize qTs (readF 6) (m+1) ts=O at *
 have Q0:=hide h.start
 have TB:=hide ht
 have X:=hide (exI rb ts w h ht)
 obtain ⟨i0,hi,hz0,hz1,hz2⟩:=info_parts infoX
 clear h ht
 go_enter Tryz.func160,Tryz.ntmps160
 go_wp2_with fail
 refine (uh X).mono ?_
 rintro r w1 ⟨hg,hm⟩
 cases ho:readF 6 ts with
 | none =>
  rw [ho] at hm
  have hr:r = .panicked pn:=hm
  subst hr
  exact ⟨rfl,uh FN _ ((uh OE).trans (bnd_no ho _)) (grownBy_trans (uh Q0).gr hg)⟩
 | some p =>
  obtain ⟨e,q⟩:=p
  rw [ho] at hm
  obtain ⟨v,rfl,⟨c,cp,rfl,hn,ok⟩,hz⟩:=hm
  have OE1:=hide ((uh OE).trans (bnd_at ho _))
  have Q1:=hide (((uh Q0).next hz hg).later (below_new w1 (.cells #[.int .i64 e.k,.int .i64 e.n,.string e.s,.slice c e.l.length cp] 26)))
  have A1:=hide (ApL.one (cp:=cp) hn hg.size)
  have SE:=hide (hg.size)
  clear hg hz ho hn ok OE Q0 X
  generalize ee:e.k=kk at *
  generalize e.n=nn at *
  generalize e.s=ss at *
  generalize e.l.length=ll at *
  clear ee
  go_wp2
  generalize w1.alloc (.cells #[.int .i64 kk,.int .i64 nn,.string ss,.slice c ll cp] 26)=W at *
  go_loopw [7] (fun v wr=>∃ (acc:List Ex) (q:List Tk),0<acc.length∧acc.length≤m+1∧Hid (O=qCo (readF 6) acc (m+1-acc.length) q)∧Pq w wr rb q∧ApL wr w.heap.size acc v wr.heap.size) (fun v _=>m+1-lenV v)
  case atStart=>exact ⟨[e],q,by simp,by simp,uh OE1,uh Q1,uh A1⟩
  case round =>
   clear Q1 A1 OE1
   obtain ⟨acc,q1,hl0,hl1,ho,hq,hap⟩:=hrel
   obtain ⟨a5,c5,rfl⟩:=hap.form
   by_cases hlt:acc.length<m+1
   ·
    have PS:=hide (psI 44 (by decide) rb q1 wr hq.pr)
    have HQ:=hide hq
    have AP:=hide hap
    have HO:=hide ho.out
    have BS:=hide (show w.heap.size≤wr.heap.size from hq.gr.size)
    clear hq hap ho
    have i1:(acc.length:Int)<(m:Int)+1:=by omega
    unfold PsR mkS at PS
    go_wp2_with fail
    refine (uh PS).mono ?_
    rintro r w2 ⟨rfl,hz2,hg2⟩
    cases hs:seeM q1 44 with
    | false =>
     rw [hs] at hz2
     have FO:=hide (uh FY acc q1 (.slice a5 acc.length c5) w2 ((uh HO).trans (qCo_see hs)) (grownBy_trans (uh HQ).gr hg2) ⟨a5,c5,rfl,(((uh AP).grown hg2 (Nat.le_refl _) (uh HQ).lt).done 0 0 ⟨#[]⟩).1⟩ hz2)
     clear FN FY hz2 hg2 HQ AP HO PS hs
     generalize acc.length=an at *
     go_wp2
     exact uh FO
    | true =>
     rw [hs] at hz2
     rw [if_pos rfl] at hz2
     have Q2:=hide ((uh HQ).next hz2 hg2)
     have A2:=hide (((uh AP).grown hg2 (Nat.le_refl _) (uh HQ).lt).upto hg2.size)
     have X:=hide (exI rb q1.tail w2 hz2 ((uh TB).grown (uh Q2).gr))
     have OE2:=hide ((uh HO).trans ((congrArg (fun j=>qCo (readF 6) acc j q1) (show m+1-acc.length=(m-acc.length)+1 by omega)).trans (qCo_more hs)))
     have BS2:=hide (show w.heap.size≤w2.heap.size from (uh Q2).gr.size)
     clear hz2 hg2 HQ AP HO PS hs BS
     go_wp2_with fail
     refine (uh X).mono ?_
     rintro r w3 ⟨hg,hm⟩
     cases ho:readF 6 q1.tail with
     | none =>
      rw [ho] at hm
      have hr:r = .panicked pn:=hm
      subst hr
      exact ⟨rfl,uh FN _ ((uh OE2).trans (bnd_no ho _)) (grownBy_trans (uh Q2).gr hg)⟩
     | some p =>
      obtain ⟨e2,q2⟩:=p
      rw [ho] at hm
      obtain ⟨v,rfl,⟨c,cp,rfl,hn,ok⟩,hz⟩:=hm
      have OE3:=hide ((uh OE2).trans (bnd_at ho _))
      have H1:=hide ((uh Q2).next hz hg)
      have A1:=hide ((uh A2).grown hg (Nat.le_refl _) (uh Q2).lt)
      have S1:=hide hg.size
      have HX:=hide hn.half
      have AS:=hide (fun (w5 w6:World) (g cap':Nat) cs Fs h1 h2 h3 h4 h5 h6 hx hBM hM hM' ho hg hw=>ApL.step (w:=w5) (w':=w6) (B:=w.heap.size) (M:=w2.heap.size) (M':=w3.heap.size) (l:=acc) (v:=.slice a5 acc.length c5) (x:=e2) (cs:=cs) (Fs:=Fs) (q:=c) (cp:=cp) (g:=g) (cap:=cap') h1 h2 h3 h4 h5 h6 hx hBM hM hM' ho hg hw)
      unfold xL at AS
      clear hn hz hg ho ok X Q2 A2 OE2
      generalize e2.s=ss at AS ⊢
      generalize e2.k=kk at AS ⊢
      generalize e2.n=nn at AS ⊢
      generalize e2.l.length=ll at AS ⊢
      have hb2:=below_new w3 (.cells #[.int .i64 kk,.int .i64 nn,.string ss,.slice c ll cp] 26)
      have hz2':(w3.alloc (.cells #[.int .i64 kk,.int .i64 nn,.string ss,.slice c ll cp] 26)).heap.size=w3.heap.size+1:=by simp
      have H3:=hide ((uh H1).later hb2)
      have A3:=hide ((uh A1).later hb2 (uh S1))
      have CN:=hide (cell_newL w3 #[.int .i64 kk,.int .i64 nn,.string ss,.slice c ll cp] 26)
      have HY:=hide ((uh HX).later hb2)
      have SZ:=hide hz2'
      clear hb2 hz2' HX A1 H1
      obtain ⟨cs,Fs,a1,a2,a3,a4,a5',a6⟩:=uh A3
      have OW:=hide a1
      have SP:=hide (fun w5 g cp'=>uh AS (w3.alloc (.cells #[.int .i64 kk,.int .i64 nn,.string ss,.slice c ll cp] 26)) w5 g cp' cs Fs a1 a2 a3 a4 a5' a6 (uh HY) (uh BS2) (uh S1) (by have:=uh SZ;omega))
      have BA:=hide (show w.heap.size≤(w3.alloc (.cells #[.int .i64 kk,.int .i64 nn,.string ss,.slice c ll cp] 26)).heap.size by have:=uh SZ;have:=uh S1;have:=uh BS2;omega)
      have ON:=hide (show ∀ u∈([.int .i64 kk,.int .i64 nn,.string ss,.slice c ll cp]:List Value),u.oneCell'=true by intro u hu;simp only [List.mem_cons,List.not_mem_nil,or_false] at hu;rcases hu with rfl|rfl|rfl|rfl <;> rfl)
      clear a1 a2 a3 a4 a5' a6 A3 AS HY
      go_wp2_with (at_builtin;go_must (refine wpList_append_to rfl _ _ 24 rfl w.heap.size 26 i0 (.agg #[.int .i64 0,.int .i64 0,.string ⟨#[]⟩,.slice none 0 0]) 4 56 Tryz.underlying24 hi hz0 hz1 hz2 rfl (by decide) (.slice a5 acc.length c5) acc.length cs rfl (uh OW) ⟨w3.heap.size,0,none⟩ 1 1 [.int .i64 kk,.int .i64 nn,.string ss,.slice c ll cp] rfl rfl (uh CN) (uh ON) (by unfold maxLen;omega) (by omega) (uh BA) (by omega) ?_;intro g4 cap4 w4 hown4 hgrow4 hwh4;have A4:=hide (uh SP w4 g4 cap4 hown4 hgrow4 hwh4);have H4:=hide ((uh H3).own (uh OW) (Nat.le_refl _) (by decide) (by decide) hgrow4);clear hown4 hgrow4 hwh4))
      go_roundw
      case rel=>exact ⟨acc++[e2],q2,by simp,by simp;omega,(by have:=uh OE3;rw [List.length_append,List.length_singleton,show m+1-(acc.length+1)=m-acc.length by omega];exact this),uh H4,uh A4⟩
      case measure=>simp only [lenV];omega
   ·
    have FO:=hide (uh FY acc q1 (.slice a5 acc.length c5) wr (ho.out.trans (qCo_stop (fun h=>by omega))) hq.gr ⟨a5,c5,rfl,(hap.done 0 0 ⟨#[]⟩).1⟩ hq.pr)
    have i1:¬ (acc.length:Int)<(m:Int)+1:=by omega
    have i2:decide ((acc.length:Int)<(m:Int)+1)=false:=decide_eq_false i1
    clear FN FY hq hap ho
    generalize acc.length=an at *
    go_wp2
    exact uh FO
theorem sysI (m:Nat) (hm:m≤5) (rb:Nat) (ts:List Tk) (w:World) (h:Pr w rb ts) (ht:TabP w rb):Calls Tryz.prog 160 #[.pointer (some ⟨rb,0,none⟩),.int .i64 (m+1:Nat),.func (.func 167) #[.pointer (some ⟨rb,0,none⟩)] #[]] w (PnR (qTs (qSy) (m+1) ts) (VLs w.heap.size) rb w):=by
 have FN:=hide (fun w' (ho:qTs (qSy) (m+1) ts=none) (hg:w.grownBy w' (some rb))=>(show PnR (qTs (qSy) (m+1) ts) (VLs w.heap.size) rb w (.panicked pn) w' from pnR_none ho rfl hg))
 have FY:=hide (fun x q v w' (ho:qTs (qSy) (m+1) ts=some (x,q)) (hg:w.grownBy w' (some rb)) (hv:VLs w.heap.size x w' v) (hz:Pr w' rb q)=>(show PnR (qTs (qSy) (m+1) ts) (VLs w.heap.size) rb w (.returned v) w' from pnR_some ho rfl hg hv hz))
 have OE:=hide (qCo_begin (qSy) m ts)
 generalize PnR (qTs (qSy) (m+1) ts) (VLs w.heap.size) rb w=R at *
 generalize qTs (qSy) (m+1) ts=O at *
 have Q0:=hide h.start
 have TB:=hide ht
 have X:=hide (syI rb ts w h ht)
 obtain ⟨i0,hi,hz0,hz1,hz2⟩:=info_parts infoX
 clear h ht
 go_enter Tryz.func160,Tryz.ntmps160
 go_wp2_with fail
 refine (uh X).mono ?_
 rintro r w1 ⟨hg,hm⟩
 cases ho:qSy ts with
 | none =>
  rw [ho] at hm
  have hr:r = .panicked pn:=hm
  subst hr
  exact ⟨rfl,uh FN _ ((uh OE).trans (bnd_no ho _)) (grownBy_trans (uh Q0).gr hg)⟩
 | some p =>
  obtain ⟨e,q⟩:=p
  rw [ho] at hm
  obtain ⟨v,rfl,⟨c,cp,rfl,hn,ok⟩,hz⟩:=hm
  have OE1:=hide ((uh OE).trans (bnd_at ho _))
  have Q1:=hide (((uh Q0).next hz hg).later (below_new w1 (.cells #[.int .i64 e.k,.int .i64 e.n,.string e.s,.slice c e.l.length cp] 26)))
  have A1:=hide (ApL.one (cp:=cp) hn hg.size)
  have SE:=hide (hg.size)
  clear hg hz ho hn ok OE Q0 X
  generalize ee:e.k=kk at *
  generalize e.n=nn at *
  generalize e.s=ss at *
  generalize e.l.length=ll at *
  clear ee
  go_wp2
  generalize w1.alloc (.cells #[.int .i64 kk,.int .i64 nn,.string ss,.slice c ll cp] 26)=W at *
  go_loopw [7] (fun v wr=>∃ (acc:List Ex) (q:List Tk),0<acc.length∧acc.length≤m+1∧Hid (O=qCo (qSy) acc (m+1-acc.length) q)∧Pq w wr rb q∧ApL wr w.heap.size acc v wr.heap.size) (fun v _=>m+1-lenV v)
  case atStart=>exact ⟨[e],q,by simp,by simp,uh OE1,uh Q1,uh A1⟩
  case round =>
   clear Q1 A1 OE1
   obtain ⟨acc,q1,hl0,hl1,ho,hq,hap⟩:=hrel
   obtain ⟨a5,c5,rfl⟩:=hap.form
   by_cases hlt:acc.length<m+1
   ·
    have PS:=hide (psI 44 (by decide) rb q1 wr hq.pr)
    have HQ:=hide hq
    have AP:=hide hap
    have HO:=hide ho.out
    have BS:=hide (show w.heap.size≤wr.heap.size from hq.gr.size)
    clear hq hap ho
    have i1:(acc.length:Int)<(m:Int)+1:=by omega
    unfold PsR mkS at PS
    go_wp2_with fail
    refine (uh PS).mono ?_
    rintro r w2 ⟨rfl,hz2,hg2⟩
    cases hs:seeM q1 44 with
    | false =>
     rw [hs] at hz2
     have FO:=hide (uh FY acc q1 (.slice a5 acc.length c5) w2 ((uh HO).trans (qCo_see hs)) (grownBy_trans (uh HQ).gr hg2) ⟨a5,c5,rfl,(((uh AP).grown hg2 (Nat.le_refl _) (uh HQ).lt).done 0 0 ⟨#[]⟩).1⟩ hz2)
     clear FN FY hz2 hg2 HQ AP HO PS hs
     generalize acc.length=an at *
     go_wp2
     exact uh FO
    | true =>
     rw [hs] at hz2
     rw [if_pos rfl] at hz2
     have Q2:=hide ((uh HQ).next hz2 hg2)
     have A2:=hide (((uh AP).grown hg2 (Nat.le_refl _) (uh HQ).lt).upto hg2.size)
     have X:=hide (syI rb q1.tail w2 hz2 ((uh TB).grown (uh Q2).gr))
     have OE2:=hide ((uh HO).trans ((congrArg (fun j=>qCo (qSy) acc j q1) (show m+1-acc.length=(m-acc.length)+1 by omega)).trans (qCo_more hs)))
     have BS2:=hide (show w.heap.size≤w2.heap.size from (uh Q2).gr.size)
     clear hz2 hg2 HQ AP HO PS hs BS
     go_wp2_with fail
     refine (uh X).mono ?_
     rintro r w3 ⟨hg,hm⟩
     cases ho:qSy q1.tail with
     | none =>
      rw [ho] at hm
      have hr:r = .panicked pn:=hm
      subst hr
      exact ⟨rfl,uh FN _ ((uh OE2).trans (bnd_no ho _)) (grownBy_trans (uh Q2).gr hg)⟩
     | some p =>
      obtain ⟨e2,q2⟩:=p
      rw [ho] at hm
      obtain ⟨v,rfl,⟨c,cp,rfl,hn,ok⟩,hz⟩:=hm
      have OE3:=hide ((uh OE2).trans (bnd_at ho _))
      have H1:=hide ((uh Q2).next hz hg)
      have A1:=hide ((uh A2).grown hg (Nat.le_refl _) (uh Q2).lt)
      have S1:=hide hg.size
      have HX:=hide hn.half
      have AS:=hide (fun (w5 w6:World) (g cap':Nat) cs Fs h1 h2 h3 h4 h5 h6 hx hBM hM hM' ho hg hw=>ApL.step (w:=w5) (w':=w6) (B:=w.heap.size) (M:=w2.heap.size) (M':=w3.heap.size) (l:=acc) (v:=.slice a5 acc.length c5) (x:=e2) (cs:=cs) (Fs:=Fs) (q:=c) (cp:=cp) (g:=g) (cap:=cap') h1 h2 h3 h4 h5 h6 hx hBM hM hM' ho hg hw)
      unfold xL at AS
      clear hn hz hg ho ok X Q2 A2 OE2
      generalize e2.s=ss at AS ⊢
      generalize e2.k=kk at AS ⊢
      generalize e2.n=nn at AS ⊢
      generalize e2.l.length=ll at AS ⊢
      have hb2:=below_new w3 (.cells #[.int .i64 kk,.int .i64 nn,.string ss,.slice c ll cp] 26)
      have hz2':(w3.alloc (.cells #[.int .i64 kk,.int .i64 nn,.string ss,.slice c ll cp] 26)).heap.size=w3.heap.size+1:=by simp
      have H3:=hide ((uh H1).later hb2)
      have A3:=hide ((uh A1).later hb2 (uh S1))
      have CN:=hide (cell_newL w3 #[.int .i64 kk,.int .i64 nn,.string ss,.slice c ll cp] 26)
      have HY:=hide ((uh HX).later hb2)
      have SZ:=hide hz2'
      clear hb2 hz2' HX A1 H1
      obtain ⟨cs,Fs,a1,a2,a3,a4,a5',a6⟩:=uh A3
      have OW:=hide a1
      have SP:=hide (fun w5 g cp'=>uh AS (w3.alloc (.cells #[.int .i64 kk,.int .i64 nn,.string ss,.slice c ll cp] 26)) w5 g cp' cs Fs a1 a2 a3 a4 a5' a6 (uh HY) (uh BS2) (uh S1) (by have:=uh SZ;omega))
      have BA:=hide (show w.heap.size≤(w3.alloc (.cells #[.int .i64 kk,.int .i64 nn,.string ss,.slice c ll cp] 26)).heap.size by have:=uh SZ;have:=uh S1;have:=uh BS2;omega)
      have ON:=hide (show ∀ u∈([.int .i64 kk,.int .i64 nn,.string ss,.slice c ll cp]:List Value),u.oneCell'=true by intro u hu;simp only [List.mem_cons,List.not_mem_nil,or_false] at hu;rcases hu with rfl|rfl|rfl|rfl <;> rfl)
      clear a1 a2 a3 a4 a5' a6 A3 AS HY
      go_wp2_with (at_builtin;go_must (refine wpList_append_to rfl _ _ 24 rfl w.heap.size 26 i0 (.agg #[.int .i64 0,.int .i64 0,.string ⟨#[]⟩,.slice none 0 0]) 4 56 Tryz.underlying24 hi hz0 hz1 hz2 rfl (by decide) (.slice a5 acc.length c5) acc.length cs rfl (uh OW) ⟨w3.heap.size,0,none⟩ 1 1 [.int .i64 kk,.int .i64 nn,.string ss,.slice c ll cp] rfl rfl (uh CN) (uh ON) (by unfold maxLen;omega) (by omega) (uh BA) (by omega) ?_;intro g4 cap4 w4 hown4 hgrow4 hwh4;have A4:=hide (uh SP w4 g4 cap4 hown4 hgrow4 hwh4);have H4:=hide ((uh H3).own (uh OW) (Nat.le_refl _) (by decide) (by decide) hgrow4);clear hown4 hgrow4 hwh4))
      go_roundw
      case rel=>exact ⟨acc++[e2],q2,by simp,by simp;omega,(by have:=uh OE3;rw [List.length_append,List.length_singleton,show m+1-(acc.length+1)=m-acc.length by omega];exact this),uh H4,uh A4⟩
      case measure=>simp only [lenV];omega
   ·
    have FO:=hide (uh FY acc q1 (.slice a5 acc.length c5) wr (ho.out.trans (qCo_stop (fun h=>by omega))) hq.gr ⟨a5,c5,rfl,(hap.done 0 0 ⟨#[]⟩).1⟩ hq.pr)
    have i1:¬ (acc.length:Int)<(m:Int)+1:=by omega
    have i2:decide ((acc.length:Int)<(m:Int)+1)=false:=decide_eq_false i1
    clear FN FY hq hap ho
    generalize acc.length=an at *
    go_wp2
    exact uh FO
end
def VAg (B:Nat) (a:Ag) (w':World) (v:Value):Prop:=∃ c cp,v = .agg #[.int .i64 a.f,.int .i64 a.r,.int .i64 a.e.k,.int .i64 a.e.n,.string a.e.s,.slice c a.e.l.length cp]∧NewX w' B a.e c
theorem Pq.cell {w wr:World} {rb:Nat} {ts:List Tk} {g:Nat} {old:Array Value} {t:TypeId} {fr:Nat × Nat} (h:Pq w wr rb ts) (hg:wr.heap[g]?=some (.cells old t fr)) (ht:t≠71) (hr:t≠146) (hge:w.heap.size≤g) (i:Nat) (v:Value):Pq w (wr.setCell ⟨g,i,none⟩ v) rb ts:=by
 rw [setCell_rowTo hg rfl]
 exact h.row hg ht hr hge _
theorem seeR_yes {ts:List Tk} (h:seeR ts=true):pPln ts=bnd (qRg ts) fun n q=>some (⟨0,n,X0⟩,q):=by
 cases ts with
 | nil => cases h
 | cons t r =>
  have hn:¬ regN t<0:=by unfold seeR at h;simpa using h
  rw [pPln_p1 hn]
  show some ((⟨0,regN t,X0⟩:Ag),r)=bnd (if regN t<0 then none else some (regN t,r)) _
  rw [if_neg hn]
  rfl
theorem is_two {t:Tk} {c d:UInt8} (h:isM t c=true) (hcd:c≠d):isM t d=false:=by
 have e:=(eqS_iff _ _).1 h
 unfold isM
 rw [e]
 exact isM_no hcd
theorem seeR_no {ts:List Tk} (h:seeR ts=false):ts = []∨∃ t r,ts=t::r∧regN t<0:=by
 cases ts with
 | nil => exact .inl rfl
 | cons t r => exact .inr ⟨t, r, rfl, by unfold seeR at h; simpa using h⟩
theorem pl_rnd {ts:List Tk} (h:seeR ts=false) (h4:seeM ts 40=true):pPln ts=bnd (pRndI ts) fun n q=>if seeM q 43=true then some (⟨2,n,X0⟩,q.tail) else some (⟨1,n,X0⟩,q):=by
 rcases seeR_no h with rfl|⟨t,r,rfl,hn⟩
 · cases h4
 · exact pPln_p3 hn (fun q=>by have:=is_two (d:=45) h4 (by decide);rw [this] at q;exact absurd q.1 (by decide)) h4
theorem pl_dec {ts:List Tk} (h:seeR ts=false) (h5:seeM ts 45=true) (h6:seeM (ts.drop 1) 40=true):pPln ts=bnd (pMs (mkS 45) ts) fun _ q=>bnd (pRndI q) fun n q=>some (⟨4,n,X0⟩,q):=by
 rcases seeR_no h with rfl|⟨t,r,rfl,hn⟩
 · cases h5
 · exact pPln_p2 hn ⟨h5,h6⟩
theorem pl_imm {ts:List Tk} (h:seeR ts=false) (h4:seeM ts 40=false) (h3:seeM ts 35=true):pPln ts=bnd (readF 6 ts.tail) fun e q=>some (⟨8,0,e⟩,q):=by
 rcases seeR_no h with rfl|⟨t,r,rfl,hn⟩
 · cases h3
 ·
  rw [pPln_p4 hn (fun q=>by have:=is_two (d:=45) h3 (by decide);rw [this] at q;exact absurd q.1 (by decide)) h4 h3,ms_of h3]
  rfl
theorem pl_rel {ts:List Tk} (h:seeR ts=false) (h4:seeM ts 40=false) (hd:¬ (seeM ts 45=true∧seeM (ts.drop 1) 40=true)) (h3:seeM ts 35=false):pPln ts=bnd (readF 6 ts) p5F:=by
 rcases seeR_no h with rfl|⟨t,r,rfl,hn⟩
 · exact pPln_p0
 · exact pPln_p5 hn hd h4 h3
theorem wa_reg (rb:Nat) (ts:List Tk) (w:World) (h:Pr w rb ts) (ht:TabP w rb) (hr:seeR ts=true):Calls Tryz.prog 202 #[.pointer (some ⟨rb,0,none⟩)] w (PnR (pPln ts) (VAg w.heap.size) rb w):=by
 have OE:=hide (seeR_yes hr)
 have FN:=hide (fun w' (ho:pPln ts=none) (hg:w.grownBy w' (some rb))=>(show PnR (pPln ts) (VAg w.heap.size) rb w (.panicked pn) w' from pnR_none ho rfl hg))
 have FY:=hide (fun x q v w' (ho:pPln ts=some (x,q)) (hg:w.grownBy w' (some rb)) (hv:VAg w.heap.size x w' v) (hz:Pr w' rb q)=>(show PnR (pPln ts) (VAg w.heap.size) rb w (.returned v) w' from pnR_some ho rfl hg hv hz))
 generalize PnR (pPln ts) (VAg w.heap.size) rb w=R at *
 generalize pPln ts=O at *
 have hb0:=below_new w (.cells #[.int .i64 0,.int .i64 0,.int .i64 0,.int .i64 0,.string ⟨#[]⟩,.slice none 0 0] 28)
 have hg0:(w.alloc (.cells #[.int .i64 0,.int .i64 0,.int .i64 0,.int .i64 0,.string ⟨#[]⟩,.slice none 0 0] 28)).heap[w.heap.size]?=some (.cells #[.int .i64 0,.int .i64 0,.int .i64 0,.int .i64 0,.string ⟨#[]⟩,.slice none 0 0] 28 (0,0)):=Array.getElem?_push_size
 have hs0:w.heap.size<(w.alloc (.cells #[.int .i64 0,.int .i64 0,.int .i64 0,.int .i64 0,.string ⟨#[]⟩,.slice none 0 0] 28)).heap.size:=by simp
 obtain ⟨w0,hw0⟩:∃ w0,w.alloc (.cells #[.int .i64 0,.int .i64 0,.int .i64 0,.int .i64 0,.string ⟨#[]⟩,.slice none 0 0] 28)=w0:=⟨_,rfl⟩
 rw [hw0] at hb0 hg0 hs0
 have Q0:=hide (h.start.later hb0)
 have R0:=hide hg0
 have TB:=hide ht
 clear h ht hb0 hg0 hs0
 go_enter Tryz.func202,Tryz.ntmps202
 have X:=hide (srI rb ts w0 (uh Q0).pr ((uh TB).grown (uh Q0).gr) |> fun h=>by rw [hr] at h;exact h)
 go_wp2_with fail
 refine (uh X).mono ?_
 rintro r w1 ⟨rfl,hb⟩
 have Q1:=hide ((uh Q0).later hb)
 have R1:=hide (row_keep (uh R0) hb)
 clear hb X Q0 R0
 have X:=hide (rgRI rb ts w1 (uh Q1).pr ((uh TB).grown (uh Q1).gr))
 go_wp2_with fail
 refine (uh X).mono ?_
 rintro r w2 ⟨hg,hm⟩
 cases ho:qRg ts with
 | none =>
  rw [ho] at hm
  have hr:r = .panicked pn:=hm
  subst hr
  exact ⟨rfl,uh FN _ ((uh OE).trans (bnd_no ho _)) (grownBy_trans (uh Q1).gr hg)⟩
 | some p =>
  obtain ⟨x2,q2⟩:=p
  rw [ho] at hm
  obtain ⟨v,rfl,hv,hz⟩:=hm
  have OE2:=hide ((uh OE).trans (bnd_at ho _))
  have Q2:=hide ((uh Q1).next hz hg)
  have R2:=hide ((uh Q1).blk hg (uh R1) (Nat.le_refl _))
  clear hg hz ho X Q1 R1 OE
  unfold VIn at hv
  subst hv
  have F:=hide (fun w' (h:Pq w w' rb q2)=>uh FY ⟨0,x2,X0⟩ q2 (.agg #[.int .i64 0,.int .i64 x2,.int .i64 0,.int .i64 0,.string ⟨#[]⟩,.slice none 0 0]) w' (uh OE2) h.gr ⟨none,0,rfl,NewX.nil _ _ _ _ _ _⟩ h.pr)
  clear FN FY OE2
  go_wp2_with (refine wpList_store_row rfl 28 _ _ rfl w.heap.size #[.int .i64 0,.int .i64 x2,.int .i64 0,.int .i64 0,.string ⟨#[]⟩,.slice none 0 0] rfl rfl 28 _ (uh R2) szAg rfl (ag_one _ _ _ _ _ _ _ _) ?_)
  refine bodyPost_ret (results_cell_row (P:=Tryz.prog) rfl _ _ w.heap.size 28 #[.int .i64 0,.int .i64 x2,.int .i64 0,.int .i64 0,.string ⟨#[]⟩,.slice none 0 0] (0,0) _ rfl (setRow_heap _ _ _ _ _ _ (uh R2)) Tryz.underlying28 rfl szAg) rfl ?_
  exact uh F _ ((uh Q2).row (uh R2) (by decide) (by decide) (Nat.le_refl _) _)
theorem wa_rnd (rb:Nat) (ts:List Tk) (w:World) (h:Pr w rb ts) (ht:TabP w rb) (hr:seeR ts=false) (h4:seeM ts 40=true):Calls Tryz.prog 202 #[.pointer (some ⟨rb,0,none⟩)] w (PnR (pPln ts) (VAg w.heap.size) rb w):=by
 have OE:=hide (pl_rnd hr h4)
 have FN:=hide (fun w' (ho:pPln ts=none) (hg:w.grownBy w' (some rb))=>(show PnR (pPln ts) (VAg w.heap.size) rb w (.panicked pn) w' from pnR_none ho rfl hg))
 have FY:=hide (fun x q v w' (ho:pPln ts=some (x,q)) (hg:w.grownBy w' (some rb)) (hv:VAg w.heap.size x w' v) (hz:Pr w' rb q)=>(show PnR (pPln ts) (VAg w.heap.size) rb w (.returned v) w' from pnR_some ho rfl hg hv hz))
 generalize PnR (pPln ts) (VAg w.heap.size) rb w=R at *
 generalize pPln ts=O at *
 have hb0:=below_new w (.cells #[.int .i64 0,.int .i64 0,.int .i64 0,.int .i64 0,.string ⟨#[]⟩,.slice none 0 0] 28)
 have hg0:(w.alloc (.cells #[.int .i64 0,.int .i64 0,.int .i64 0,.int .i64 0,.string ⟨#[]⟩,.slice none 0 0] 28)).heap[w.heap.size]?=some (.cells #[.int .i64 0,.int .i64 0,.int .i64 0,.int .i64 0,.string ⟨#[]⟩,.slice none 0 0] 28 (0,0)):=Array.getElem?_push_size
 have hs0:w.heap.size<(w.alloc (.cells #[.int .i64 0,.int .i64 0,.int .i64 0,.int .i64 0,.string ⟨#[]⟩,.slice none 0 0] 28)).heap.size:=by simp
 obtain ⟨w0,hw0⟩:∃ w0,w.alloc (.cells #[.int .i64 0,.int .i64 0,.int .i64 0,.int .i64 0,.string ⟨#[]⟩,.slice none 0 0] 28)=w0:=⟨_,rfl⟩
 rw [hw0] at hb0 hg0 hs0
 have Q0:=hide (h.start.later hb0)
 have R0:=hide hg0
 have TB:=hide ht
 have S0:=hide hs0
 clear h ht hb0 hg0 hs0
 go_enter Tryz.func202,Tryz.ntmps202
 have X:=hide (srI rb ts w0 (uh Q0).pr ((uh TB).grown (uh Q0).gr) |> fun h=>by rw [hr] at h;exact h)
 go_wp2_with fail
 refine (uh X).mono ?_
 rintro r w1 ⟨rfl,hb⟩
 have Q1:=hide ((uh Q0).later hb)
 have R1:=hide (row_keep (uh R0) hb)
 have S1:=hide (Nat.lt_of_lt_of_le (uh S0) hb.size)
 clear hb X Q0 R0 S0
 have X:=hide (smI 0 40 (by decide) rb ts w1 (by omega) (uh Q1).pr |> fun h=>by rw [List.drop_zero,h4] at h;exact h)
 go_wp2_with fail
 refine (uh X).mono ?_
 rintro r w2 ⟨rfl,hb⟩
 have Q2:=hide ((uh Q1).later hb)
 have R2:=hide (row_keep (uh R1) hb)
 have S2:=hide (Nat.lt_of_lt_of_le (uh S1) hb.size)
 clear hb X Q1 R1 S1
 have X:=hide (rbI rb ts w2 (uh Q2).pr ((uh TB).grown (uh Q2).gr))
 go_wp2_with fail
 refine (uh X).mono ?_
 rintro r w3 ⟨hg,hm⟩
 cases ho:pRndI ts with
 | none =>
  rw [ho] at hm
  have hr:r = .panicked pn:=hm
  subst hr
  exact ⟨rfl,uh FN _ ((uh OE).trans (bnd_no ho _)) (grownBy_trans (uh Q2).gr hg)⟩
 | some p =>
  obtain ⟨x3,q3⟩:=p
  rw [ho] at hm
  obtain ⟨v,rfl,hv,hz⟩:=hm
  have OE3:=hide ((uh OE).trans (bnd_at ho _))
  have Q3:=hide ((uh Q2).next hz hg)
  have R3:=hide ((uh Q2).blk hg (uh R2) (Nat.le_refl _))
  have S3:=hide (Nat.lt_of_lt_of_le (uh S2) hg.size)
  clear hg hz ho X Q2 R2 S2 OE
  unfold VIn at hv
  subst hv
  have BG:=hide (show w.heap.size≤w3.heap.size from Nat.le_of_lt (uh S3))
  have BL:=hide (uh S3)
  have B4:=hide (show (w3.alloc (.cells #[.int .i64 1,.int .i64 x3,.int .i64 0,.int .i64 0,.string ⟨#[]⟩,.slice none 0 0] 28)).heap[w3.heap.size]?=some (.cells #[.int .i64 1,.int .i64 x3,.int .i64 0,.int .i64 0,.string ⟨#[]⟩,.slice none 0 0] 28 (0,0)) from Array.getElem?_push_size)
  have Q4:=hide ((uh Q3).later (below_new w3 (.cells #[.int .i64 1,.int .i64 x3,.int .i64 0,.int .i64 0,.string ⟨#[]⟩,.slice none 0 0] 28)))
  have R4:=hide (row_keep (uh R3) (below_new w3 (.cells #[.int .i64 1,.int .i64 x3,.int .i64 0,.int .i64 0,.string ⟨#[]⟩,.slice none 0 0] 28)))
  clear Q3 R3 S3
  cases hs:seeM q3 43 with
  | false =>
   have X:=hide (psI 43 (by decide) rb q3 (w3.alloc (.cells #[.int .i64 1,.int .i64 x3,.int .i64 0,.int .i64 0,.string ⟨#[]⟩,.slice none 0 0] 28)) (uh Q4).pr)
   unfold PsR mkS at X
   rw [hs] at X
   go_wp2_with fail
   generalize (w3.alloc (.cells #[.int .i64 1,.int .i64 x3,.int .i64 0,.int .i64 0,.string ⟨#[]⟩,.slice none 0 0] 28))=w4 at *
   generalize w3.heap.size=bx at *
   refine (uh X).mono ?_
   rintro r w5 ⟨rfl,hz,hg⟩
   have Q5:=hide ((uh Q4).next hz hg)
   have R5:=hide ((uh Q4).blk hg (uh R4) (Nat.le_refl _))
   have B5:=hide ((uh Q4).blk hg (uh B4) (uh BG))
   clear B4
   clear hg hz X Q4 R4
   have OE5:=hide ((uh OE3).trans (if_neg (by rw [hs];decide)))
   have F:=hide (fun w' (h:Pq w w' rb q3)=>uh FY ⟨1,x3,X0⟩ q3 (.agg #[.int .i64 1,.int .i64 x3,.int .i64 0,.int .i64 0,.string ⟨#[]⟩,.slice none 0 0]) w' (uh OE5) h.gr ⟨none,0,rfl,NewX.nil _ _ _ _ _ _⟩ h.pr)
   clear FN FY OE5
   clear OE3 hs
   go_wp2_with (first|(refine wpList_load_row rfl 28 _ rfl bx rfl 28 #[.int .i64 1,.int .i64 x3,.int .i64 0,.int .i64 0,.string ⟨#[]⟩,.slice none 0 0] (0,0) _ (uh B5) Tryz.underlying28 rfl (by kernel_rfl) ?_)|(refine wpList_store_row rfl 28 _ _ rfl w.heap.size #[.int .i64 1,.int .i64 x3,.int .i64 0,.int .i64 0,.string ⟨#[]⟩,.slice none 0 0] rfl rfl 28 _ (uh R5) szAg rfl (ag_one _ _ _ _ _ _ _ _) ?_))
   refine bodyPost_ret (results_cell_row (P:=Tryz.prog) rfl _ _ w.heap.size 28 #[.int .i64 1,.int .i64 x3,.int .i64 0,.int .i64 0,.string ⟨#[]⟩,.slice none 0 0] (0,0) _ rfl (setRow_heap _ _ _ _ _ _ (uh R5)) Tryz.underlying28 rfl szAg) rfl ?_
   exact uh F _ ((uh Q5).row (uh R5) (by decide) (by decide) (Nat.le_refl _) _)
  | true =>
   have X:=hide (psI 43 (by decide) rb q3 (w3.alloc (.cells #[.int .i64 1,.int .i64 x3,.int .i64 0,.int .i64 0,.string ⟨#[]⟩,.slice none 0 0] 28)) (uh Q4).pr)
   unfold PsR mkS at X
   rw [hs] at X
   go_wp2_with fail
   generalize (w3.alloc (.cells #[.int .i64 1,.int .i64 x3,.int .i64 0,.int .i64 0,.string ⟨#[]⟩,.slice none 0 0] 28))=w4 at *
   generalize w3.heap.size=bx at *
   refine (uh X).mono ?_
   rintro r w5 ⟨rfl,hz,hg⟩
   (try rw [if_pos rfl] at hz)
   have Q5:=hide ((uh Q4).next hz hg)
   have R5:=hide ((uh Q4).blk hg (uh R4) (Nat.le_refl _))
   have B5:=hide ((uh Q4).blk hg (uh B4) (uh BG))
   clear B4
   clear hg hz X Q4 R4
   have OE5:=hide ((uh OE3).trans (if_pos hs))
   have F:=hide (fun w' (h:Pq w w' rb q3.tail)=>uh FY ⟨2,x3,X0⟩ q3.tail (.agg #[.int .i64 2,.int .i64 x3,.int .i64 0,.int .i64 0,.string ⟨#[]⟩,.slice none 0 0]) w' (uh OE5) h.gr ⟨none,0,rfl,NewX.nil _ _ _ _ _ _⟩ h.pr)
   clear FN FY OE5
   clear OE3 hs
   have c0:=Lib.cell_of_heap (uh B5) 0
   have f0:=Lib.frozen_of_heap (uh B5) 0
   have Q5a:=hide ((uh Q5).cell (uh B5) (by decide) (by decide) (uh BG) 0 (.int .i64 2))
   have R5a:=hide ((heap_setCell_other _ ⟨bx,0,none⟩ w.heap.size (.int .i64 2) (by have:=uh BL;simp;omega)).trans (uh R5))
   have B5a:=hide (show (w5.setCell ⟨bx,0,none⟩ (.int .i64 2)).heap[bx]?=some (.cells #[.int .i64 2,.int .i64 x3,.int .i64 0,.int .i64 0,.string ⟨#[]⟩,.slice none 0 0] 28 (0,0)) from heap_setCell_same _ _ 0 _ _ _ (uh B5))
   clear Q5 R5 B5
   go_wp2_with (first|(refine wpList_load_row rfl 28 _ rfl bx rfl 28 #[.int .i64 2,.int .i64 x3,.int .i64 0,.int .i64 0,.string ⟨#[]⟩,.slice none 0 0] (0,0) _ (uh B5a) Tryz.underlying28 rfl (by kernel_rfl) ?_)|(refine wpList_store_row rfl 28 _ _ rfl w.heap.size #[.int .i64 2,.int .i64 x3,.int .i64 0,.int .i64 0,.string ⟨#[]⟩,.slice none 0 0] rfl rfl 28 _ (uh R5a) szAg rfl (ag_one _ _ _ _ _ _ _ _) ?_))
   refine bodyPost_ret (results_cell_row (P:=Tryz.prog) rfl _ _ w.heap.size 28 #[.int .i64 2,.int .i64 x3,.int .i64 0,.int .i64 0,.string ⟨#[]⟩,.slice none 0 0] (0,0) _ rfl (setRow_heap _ _ _ _ _ _ (uh R5a)) Tryz.underlying28 rfl szAg) rfl ?_
   exact uh F _ ((uh Q5a).row (uh R5a) (by decide) (by decide) (Nat.le_refl _) _)
theorem wa_dec (rb:Nat) (ts:List Tk) (w:World) (h:Pr w rb ts) (ht:TabP w rb) (hr:seeR ts=false) (h4:seeM ts 40=false) (h5:seeM ts 45=true) (h6:seeM (ts.drop 1) 40=true):Calls Tryz.prog 202 #[.pointer (some ⟨rb,0,none⟩)] w (PnR (pPln ts) (VAg w.heap.size) rb w):=by
 have OE:=hide (pl_dec hr h5 h6)
 have FN:=hide (fun w' (ho:pPln ts=none) (hg:w.grownBy w' (some rb))=>(show PnR (pPln ts) (VAg w.heap.size) rb w (.panicked pn) w' from pnR_none ho rfl hg))
 have FY:=hide (fun x q v w' (ho:pPln ts=some (x,q)) (hg:w.grownBy w' (some rb)) (hv:VAg w.heap.size x w' v) (hz:Pr w' rb q)=>(show PnR (pPln ts) (VAg w.heap.size) rb w (.returned v) w' from pnR_some ho rfl hg hv hz))
 generalize PnR (pPln ts) (VAg w.heap.size) rb w=R at *
 generalize pPln ts=O at *
 have hb0:=below_new w (.cells #[.int .i64 0,.int .i64 0,.int .i64 0,.int .i64 0,.string ⟨#[]⟩,.slice none 0 0] 28)
 have hg0:(w.alloc (.cells #[.int .i64 0,.int .i64 0,.int .i64 0,.int .i64 0,.string ⟨#[]⟩,.slice none 0 0] 28)).heap[w.heap.size]?=some (.cells #[.int .i64 0,.int .i64 0,.int .i64 0,.int .i64 0,.string ⟨#[]⟩,.slice none 0 0] 28 (0,0)):=Array.getElem?_push_size
 have hs0:w.heap.size<(w.alloc (.cells #[.int .i64 0,.int .i64 0,.int .i64 0,.int .i64 0,.string ⟨#[]⟩,.slice none 0 0] 28)).heap.size:=by simp
 obtain ⟨w0,hw0⟩:∃ w0,w.alloc (.cells #[.int .i64 0,.int .i64 0,.int .i64 0,.int .i64 0,.string ⟨#[]⟩,.slice none 0 0] 28)=w0:=⟨_,rfl⟩
 rw [hw0] at hb0 hg0 hs0
 have Q0:=hide (h.start.later hb0)
 have R0:=hide hg0
 have TB:=hide ht
 clear h ht hb0 hg0 hs0
 go_enter Tryz.func202,Tryz.ntmps202
 have X:=hide (srI rb ts w0 (uh Q0).pr ((uh TB).grown (uh Q0).gr) |> fun h=>by rw [hr] at h;exact h)
 go_wp2_with fail
 refine (uh X).mono ?_
 rintro r w1 ⟨rfl,hb⟩
 have Q1:=hide ((uh Q0).later hb)
 have R1:=hide (row_keep (uh R0) hb)
 clear hb X Q0 R0
 have X:=hide (smI 0 40 (by decide) rb ts w1 (by omega) (uh Q1).pr |> fun h=>by rw [List.drop_zero,h4] at h;exact h)
 go_wp2_with fail
 refine (uh X).mono ?_
 rintro r w2 ⟨rfl,hb⟩
 have Q2:=hide ((uh Q1).later hb)
 have R2:=hide (row_keep (uh R1) hb)
 clear hb X Q1 R1
 have X:=hide (smI 0 45 (by decide) rb ts w2 (by omega) (uh Q2).pr |> fun h=>by rw [List.drop_zero,h5] at h;exact h)
 go_wp2_with fail
 refine (uh X).mono ?_
 rintro r w3 ⟨rfl,hb⟩
 have Q3:=hide ((uh Q2).later hb)
 have R3:=hide (row_keep (uh R2) hb)
 clear hb X Q2 R2
 have X:=hide (smI 1 40 (by decide) rb ts w3 (by omega) (uh Q3).pr |> fun h=>by rw [h6] at h;exact h)
 go_wp2_with fail
 refine (uh X).mono ?_
 rintro r w4 ⟨rfl,hb⟩
 have Q4:=hide ((uh Q3).later hb)
 have R4:=hide (row_keep (uh R3) hb)
 clear hb X Q3 R3
 have X:=hide (markI_any (mkS 45) w4 |> fun h=>by unfold Tk.v Tk.cs at h;exact h)
 go_wp2_with fail
 refine (uh X).mono ?_
 rintro r w5 ⟨rfl,hb⟩
 have Q5:=hide ((uh Q4).later hb)
 have R5:=hide (row_keep (uh R4) hb)
 clear hb X Q4 R4
 have X:=hide (wmI 45 (by decide) rb ts w5 (uh Q5).pr)
 go_wp2_with fail
 refine (uh X).mono ?_
 rintro r w6 ⟨hg,hm⟩
 cases ho:pMs (mkS 45) ts with
 | none =>
  rw [ho] at hm
  have hr:r = .panicked pn:=hm
  subst hr
  exact ⟨rfl,uh FN _ ((uh OE).trans (bnd_no ho _)) (grownBy_trans (uh Q5).gr hg)⟩
 | some p =>
  obtain ⟨x6,q6⟩:=p
  rw [ho] at hm
  obtain ⟨v,rfl,hv,hz⟩:=hm
  have OE6:=hide ((uh OE).trans (bnd_at ho _))
  have Q6:=hide ((uh Q5).next hz hg)
  have R6:=hide ((uh Q5).blk hg (uh R5) (Nat.le_refl _))
  clear hg hz ho X Q5 R5 OE
  unfold VUn at hv
  subst hv
  have X:=hide (rbI rb q6 w6 (uh Q6).pr ((uh TB).grown (uh Q6).gr))
  go_wp2_with fail
  refine (uh X).mono ?_
  rintro r w7 ⟨hg,hm⟩
  cases ho:pRndI q6 with
  | none =>
   rw [ho] at hm
   have hr:r = .panicked pn:=hm
   subst hr
   exact ⟨rfl,uh FN _ ((uh OE6).trans (bnd_no ho _)) (grownBy_trans (uh Q6).gr hg)⟩
  | some p =>
   obtain ⟨x7,q7⟩:=p
   rw [ho] at hm
   obtain ⟨v,rfl,hv,hz⟩:=hm
   have OE7:=hide ((uh OE6).trans (bnd_at ho _))
   have Q7:=hide ((uh Q6).next hz hg)
   have R7:=hide ((uh Q6).blk hg (uh R6) (Nat.le_refl _))
   clear hg hz ho X Q6 R6 OE6
   unfold VIn at hv
   subst hv
   have F:=hide (fun w' (h:Pq w w' rb q7)=>uh FY ⟨4,x7,X0⟩ q7 (.agg #[.int .i64 4,.int .i64 x7,.int .i64 0,.int .i64 0,.string ⟨#[]⟩,.slice none 0 0]) w' (uh OE7) h.gr ⟨none,0,rfl,NewX.nil _ _ _ _ _ _⟩ h.pr)
   clear FN FY OE7
   go_wp2_with (refine wpList_store_row rfl 28 _ _ rfl w.heap.size #[.int .i64 4,.int .i64 x7,.int .i64 0,.int .i64 0,.string ⟨#[]⟩,.slice none 0 0] rfl rfl 28 _ (uh R7) szAg rfl (ag_one _ _ _ _ _ _ _ _) ?_)
   refine bodyPost_ret (results_cell_row (P:=Tryz.prog) rfl _ _ w.heap.size 28 #[.int .i64 4,.int .i64 x7,.int .i64 0,.int .i64 0,.string ⟨#[]⟩,.slice none 0 0] (0,0) _ rfl (setRow_heap _ _ _ _ _ _ (uh R7)) Tryz.underlying28 rfl szAg) rfl ?_
   exact uh F _ ((uh Q7).row (uh R7) (by decide) (by decide) (Nat.le_refl _) _)
theorem wa_imm0 (rb:Nat) (ts:List Tk) (w:World) (h:Pr w rb ts) (ht:TabP w rb) (hr:seeR ts=false) (h4:seeM ts 40=false) (h5:seeM ts 45=false) (hs:seeM ts 35=true):Calls Tryz.prog 202 #[.pointer (some ⟨rb,0,none⟩)] w (PnR (pPln ts) (VAg w.heap.size) rb w):=by
 have OE:=hide (pl_imm hr h4 hs)
 have FN:=hide (fun w' (ho:pPln ts=none) (hg:w.grownBy w' (some rb))=>(show PnR (pPln ts) (VAg w.heap.size) rb w (.panicked pn) w' from pnR_none ho rfl hg))
 have FY:=hide (fun x q v w' (ho:pPln ts=some (x,q)) (hg:w.grownBy w' (some rb)) (hv:VAg w.heap.size x w' v) (hz:Pr w' rb q)=>(show PnR (pPln ts) (VAg w.heap.size) rb w (.returned v) w' from pnR_some ho rfl hg hv hz))
 generalize PnR (pPln ts) (VAg w.heap.size) rb w=R at *
 generalize pPln ts=O at *
 have hb0:=below_new w (.cells #[.int .i64 0,.int .i64 0,.int .i64 0,.int .i64 0,.string ⟨#[]⟩,.slice none 0 0] 28)
 have hg0:(w.alloc (.cells #[.int .i64 0,.int .i64 0,.int .i64 0,.int .i64 0,.string ⟨#[]⟩,.slice none 0 0] 28)).heap[w.heap.size]?=some (.cells #[.int .i64 0,.int .i64 0,.int .i64 0,.int .i64 0,.string ⟨#[]⟩,.slice none 0 0] 28 (0,0)):=Array.getElem?_push_size
 have hs0:w.heap.size<(w.alloc (.cells #[.int .i64 0,.int .i64 0,.int .i64 0,.int .i64 0,.string ⟨#[]⟩,.slice none 0 0] 28)).heap.size:=by simp
 obtain ⟨w0,hw0⟩:∃ w0,w.alloc (.cells #[.int .i64 0,.int .i64 0,.int .i64 0,.int .i64 0,.string ⟨#[]⟩,.slice none 0 0] 28)=w0:=⟨_,rfl⟩
 rw [hw0] at hb0 hg0 hs0
 have Q0:=hide (h.start.later hb0)
 have R0:=hide hg0
 have TB:=hide ht
 have S0:=hide hs0
 clear h ht hb0 hg0 hs0
 go_enter Tryz.func202,Tryz.ntmps202
 have X:=hide (srI rb ts w0 (uh Q0).pr ((uh TB).grown (uh Q0).gr) |> fun h=>by rw [hr] at h;exact h)
 go_wp2_with fail
 refine (uh X).mono ?_
 rintro r w1 ⟨rfl,hb⟩
 have Q1:=hide ((uh Q0).later hb)
 have R1:=hide (row_keep (uh R0) hb)
 have S1:=hide (Nat.lt_of_lt_of_le (uh S0) hb.size)
 clear hb X Q0 R0 S0
 have X:=hide (smI 0 40 (by decide) rb ts w1 (by omega) (uh Q1).pr |> fun h=>by rw [List.drop_zero,h4] at h;exact h)
 go_wp2_with fail
 refine (uh X).mono ?_
 rintro r w2 ⟨rfl,hb⟩
 have Q2:=hide ((uh Q1).later hb)
 have R2:=hide (row_keep (uh R1) hb)
 have S2:=hide (Nat.lt_of_lt_of_le (uh S1) hb.size)
 clear hb X Q1 R1 S1
 have X:=hide (smI 0 45 (by decide) rb ts w2 (by omega) (uh Q2).pr |> fun h=>by rw [List.drop_zero,h5] at h;exact h)
 go_wp2_with fail
 refine (uh X).mono ?_
 rintro r w3 ⟨rfl,hb⟩
 have Q3:=hide ((uh Q2).later hb)
 have R3:=hide (row_keep (uh R2) hb)
 have S3:=hide (Nat.lt_of_lt_of_le (uh S2) hb.size)
 clear hb X Q2 R2 S2
 have X:=hide (psI 35 (by decide) rb ts w3 (uh Q3).pr)
 unfold PsR mkS at X
 rw [hs] at X
 go_wp2_with fail
 refine (uh X).mono ?_
 rintro r w4 ⟨rfl,hz,hg⟩
 (try rw [if_pos rfl] at hz)
 have Q4:=hide ((uh Q3).next hz hg)
 have R4:=hide ((uh Q3).blk hg (uh R3) (Nat.le_refl _))
 have S4:=hide (Nat.lt_of_lt_of_le (uh S3) hg.size)
 clear hg hz X Q3 R3 S3
 have X:=hide (exI rb ts.tail w4 (uh Q4).pr ((uh TB).grown (uh Q4).gr))
 go_wp2_with fail
 refine (uh X).mono ?_
 rintro r w5 ⟨hg,hm⟩
 cases ho:readF 6 ts.tail with
 | none =>
  rw [ho] at hm
  have hr:r = .panicked pn:=hm
  subst hr
  exact ⟨rfl,uh FN _ ((uh OE).trans (bnd_no ho _)) (grownBy_trans (uh Q4).gr hg)⟩
 | some p =>
  obtain ⟨x5,q5⟩:=p
  rw [ho] at hm
  obtain ⟨v,rfl,hv,hz⟩:=hm
  have OE5:=hide ((uh OE).trans (bnd_at ho _))
  have Q5:=hide ((uh Q4).next hz hg)
  have R5:=hide ((uh Q4).blk hg (uh R4) (Nat.le_refl _))
  have M5:=hide (show w.heap.size+1≤w4.heap.size from uh S4)
  clear hg hz ho X Q4 R4 S4 OE
  obtain ⟨c,cp,rfl,hn,ok⟩:=hv
  have F:=hide (fun w' (h:Pq w w' rb q5) (hn:NewX w' w.heap.size x5 c)=>uh FY ⟨8,0,x5⟩ q5 (.agg #[.int .i64 8,.int .i64 0,.int .i64 x5.k,.int .i64 x5.n,.string x5.s,.slice c x5.l.length cp]) w' (uh OE5) h.gr ⟨c,cp,rfl,hn⟩ h.pr)
  have NN:=hide (hn.lower (uh M5))
  clear FN FY OE5 hn ok
  have F2:=hide (fun w' h=>uh F w' h)
  clear F
  generalize x5.k=ek at F2 ⊢
  generalize x5.n=en at F2 ⊢
  generalize x5.s=es at F2 ⊢
  generalize x5.l.length=el at F2 ⊢
  go_wp2_with (refine wpList_store_row rfl 28 _ _ rfl w.heap.size #[.int .i64 8,.int .i64 0,.int .i64 ek,.int .i64 en,.string es,.slice c el cp] rfl rfl 28 _ (uh R5) szAg rfl (ag_one _ _ _ _ _ _ _ _) ?_)
  refine bodyPost_ret (results_cell_row (P:=Tryz.prog) rfl _ _ w.heap.size 28 #[.int .i64 8,.int .i64 0,.int .i64 ek,.int .i64 en,.string es,.slice c el cp] (0,0) _ rfl (setRow_heap _ _ _ _ _ _ (uh R5)) Tryz.underlying28 rfl szAg) rfl ?_
  exact uh F2 _ ((uh Q5).row (uh R5) (by decide) (by decide) (Nat.le_refl _) _) (((uh NN).row _ (Nat.lt_succ_self _)).lower (Nat.le_succ _))
theorem wa_rel0 (rb:Nat) (ts:List Tk) (w:World) (h:Pr w rb ts) (ht:TabP w rb) (hr:seeR ts=false) (h4:seeM ts 40=false) (h5:seeM ts 45=false) (hs:seeM ts 35=false):Calls Tryz.prog 202 #[.pointer (some ⟨rb,0,none⟩)] w (PnR (pPln ts) (VAg w.heap.size) rb w):=by
 have OE:=hide (pl_rel hr h4 (fun q=>by rw [h5] at q;exact absurd q.1 (by decide)) hs)
 have FN:=hide (fun w' (ho:pPln ts=none) (hg:w.grownBy w' (some rb))=>(show PnR (pPln ts) (VAg w.heap.size) rb w (.panicked pn) w' from pnR_none ho rfl hg))
 have FY:=hide (fun x q v w' (ho:pPln ts=some (x,q)) (hg:w.grownBy w' (some rb)) (hv:VAg w.heap.size x w' v) (hz:Pr w' rb q)=>(show PnR (pPln ts) (VAg w.heap.size) rb w (.returned v) w' from pnR_some ho rfl hg hv hz))
 generalize PnR (pPln ts) (VAg w.heap.size) rb w=R at *
 generalize pPln ts=O at *
 have hb0:=below_new w (.cells #[.int .i64 0,.int .i64 0,.int .i64 0,.int .i64 0,.string ⟨#[]⟩,.slice none 0 0] 28)
 have hg0:(w.alloc (.cells #[.int .i64 0,.int .i64 0,.int .i64 0,.int .i64 0,.string ⟨#[]⟩,.slice none 0 0] 28)).heap[w.heap.size]?=some (.cells #[.int .i64 0,.int .i64 0,.int .i64 0,.int .i64 0,.string ⟨#[]⟩,.slice none 0 0] 28 (0,0)):=Array.getElem?_push_size
 have hs0:w.heap.size<(w.alloc (.cells #[.int .i64 0,.int .i64 0,.int .i64 0,.int .i64 0,.string ⟨#[]⟩,.slice none 0 0] 28)).heap.size:=by simp
 obtain ⟨w0,hw0⟩:∃ w0,w.alloc (.cells #[.int .i64 0,.int .i64 0,.int .i64 0,.int .i64 0,.string ⟨#[]⟩,.slice none 0 0] 28)=w0:=⟨_,rfl⟩
 rw [hw0] at hb0 hg0 hs0
 have Q0:=hide (h.start.later hb0)
 have R0:=hide hg0
 have TB:=hide ht
 have S0:=hide hs0
 clear h ht hb0 hg0 hs0
 go_enter Tryz.func202,Tryz.ntmps202
 have X:=hide (srI rb ts w0 (uh Q0).pr ((uh TB).grown (uh Q0).gr) |> fun h=>by rw [hr] at h;exact h)
 go_wp2_with fail
 refine (uh X).mono ?_
 rintro r w1 ⟨rfl,hb⟩
 have Q1:=hide ((uh Q0).later hb)
 have R1:=hide (row_keep (uh R0) hb)
 have S1:=hide (Nat.lt_of_lt_of_le (uh S0) hb.size)
 clear hb X Q0 R0 S0
 have X:=hide (smI 0 40 (by decide) rb ts w1 (by omega) (uh Q1).pr |> fun h=>by rw [List.drop_zero,h4] at h;exact h)
 go_wp2_with fail
 refine (uh X).mono ?_
 rintro r w2 ⟨rfl,hb⟩
 have Q2:=hide ((uh Q1).later hb)
 have R2:=hide (row_keep (uh R1) hb)
 have S2:=hide (Nat.lt_of_lt_of_le (uh S1) hb.size)
 clear hb X Q1 R1 S1
 have X:=hide (smI 0 45 (by decide) rb ts w2 (by omega) (uh Q2).pr |> fun h=>by rw [List.drop_zero,h5] at h;exact h)
 go_wp2_with fail
 refine (uh X).mono ?_
 rintro r w3 ⟨rfl,hb⟩
 have Q3:=hide ((uh Q2).later hb)
 have R3:=hide (row_keep (uh R2) hb)
 have S3:=hide (Nat.lt_of_lt_of_le (uh S2) hb.size)
 clear hb X Q2 R2 S2
 have X:=hide (psI 35 (by decide) rb ts w3 (uh Q3).pr)
 unfold PsR mkS at X
 rw [hs] at X
 go_wp2_with fail
 refine (uh X).mono ?_
 rintro r w4 ⟨rfl,hz,hg⟩
 have Q4:=hide ((uh Q3).next hz hg)
 have R4:=hide ((uh Q3).blk hg (uh R3) (Nat.le_refl _))
 have S4:=hide (Nat.lt_of_lt_of_le (uh S3) hg.size)
 clear hg hz X Q3 R3 S3
 clear hs
 have X:=hide (exI rb ts w4 (uh Q4).pr ((uh TB).grown (uh Q4).gr))
 go_wp2_with fail
 refine (uh X).mono ?_
 rintro r w5 ⟨hg,hm⟩
 cases ho:readF 6 ts with
 | none =>
  rw [ho] at hm
  have hr:r = .panicked pn:=hm
  subst hr
  exact ⟨rfl,uh FN _ ((uh OE).trans (bnd_no ho _)) (grownBy_trans (uh Q4).gr hg)⟩
 | some p =>
  obtain ⟨x5,q5⟩:=p
  rw [ho] at hm
  obtain ⟨v,rfl,hv,hz⟩:=hm
  have OE5:=hide ((uh OE).trans (bnd_at ho _))
  have Q5:=hide ((uh Q4).next hz hg)
  have R5:=hide ((uh Q4).blk hg (uh R4) (Nat.le_refl _))
  have S5:=hide (Nat.lt_of_lt_of_le (uh S4) hg.size)
  have M5:=hide (show w.heap.size+1≤w4.heap.size from uh S4)
  clear hg hz ho X Q4 R4 S4 OE
  obtain ⟨c,cp,rfl,hn,ok⟩:=hv
  have N5:=hide hn.half
  have NM:=hide (uh M5)
  have F:=hide (fun f n q w' (ho:p5F x5 q5=some (⟨f,n,x5⟩,q)) (h:Pq w w' rb q) (hn:NewX w' w.heap.size x5 c)=>uh FY ⟨f,n,x5⟩ q (.agg #[.int .i64 f,.int .i64 n,.int .i64 x5.k,.int .i64 x5.n,.string x5.s,.slice c x5.l.length cp]) w' ((uh OE5).trans ho) h.gr ⟨c,cp,rfl,hn⟩ h.pr)
  have FM:=hide (fun w' (ho:p5F x5 q5=none) hg=>uh FN w' ((uh OE5).trans ho) hg)
  have PF:=hide (show p5F x5 q5=if seeM q5 40=true then bnd (pRndI q5) (fun n q=>some (⟨6,n,x5⟩,q)) else some (⟨10,0,x5⟩,q5) from rfl)
  clear FN FY OE5 hn ok
  generalize p5F x5 q5=PO at *
  have F2:=hide (fun f n q w' ho h=>uh F f n q w' ho h)
  clear F
  generalize x5.k=ek at F2 ⊢
  generalize x5.n=en at F2 ⊢
  generalize x5.s=es at F2 ⊢
  generalize x5.l.length=el at F2 ⊢
  have BG:=hide (show w.heap.size≤w5.heap.size from Nat.le_of_lt (uh S5))
  have BL:=hide (uh S5)
  have B6:=hide (show (w5.alloc (.cells #[.int .i64 10,.int .i64 0,.int .i64 ek,.int .i64 en,.string es,.slice c el cp] 28)).heap[w5.heap.size]?=some (.cells #[.int .i64 10,.int .i64 0,.int .i64 ek,.int .i64 en,.string es,.slice c el cp] 28 (0,0)) from Array.getElem?_push_size)
  have Q6:=hide ((uh Q5).later (below_new w5 (.cells #[.int .i64 10,.int .i64 0,.int .i64 ek,.int .i64 en,.string es,.slice c el cp] 28)))
  have R6:=hide (row_keep (uh R5) (below_new w5 (.cells #[.int .i64 10,.int .i64 0,.int .i64 ek,.int .i64 en,.string es,.slice c el cp] 28)))
  have N6:=hide ((uh N5).later (below_new w5 (.cells #[.int .i64 10,.int .i64 0,.int .i64 ek,.int .i64 en,.string es,.slice c el cp] 28)))
  have NB:=hide (show w5.heap.size≤w5.heap.size from Nat.le_refl _)
  clear N5
  clear Q5 R5 S5
  cases hs:seeM q5 40 with
  | false =>
   have X:=hide (smI 0 40 (by decide) rb q5 (w5.alloc (.cells #[.int .i64 10,.int .i64 0,.int .i64 ek,.int .i64 en,.string es,.slice c el cp] 28)) (by omega) (uh Q6).pr |> fun h=>by rw [List.drop_zero,hs] at h;exact h)
   go_wp2_with fail
   generalize (w5.alloc (.cells #[.int .i64 10,.int .i64 0,.int .i64 ek,.int .i64 en,.string es,.slice c el cp] 28))=w6 at *
   generalize w5.heap.size=bx at *
   refine (uh X).mono ?_
   rintro r w7 ⟨rfl,hb⟩
   have Q7:=hide ((uh Q6).later hb)
   have R7:=hide (row_keep (uh R6) hb)
   have B7:=hide (row_keep (uh B6) hb)
   have N7:=hide ((uh N6).later hb)
   clear hb X Q6 R6 B6 N6
   have F3:=hide (fun w' h=>uh F2 10 0 q5 w' ((uh PF).trans (if_neg (by rw [hs];decide))) h)
   clear F2 FM PF hs
   go_wp2_with (first|(refine wpList_load_row rfl 28 _ rfl bx rfl 28 #[.int .i64 10,.int .i64 0,.int .i64 ek,.int .i64 en,.string es,.slice c el cp] (0,0) _ (uh B7) Tryz.underlying28 rfl (by kernel_rfl) ?_)|(refine wpList_store_row rfl 28 _ _ rfl w.heap.size #[.int .i64 10,.int .i64 0,.int .i64 ek,.int .i64 en,.string es,.slice c el cp] rfl rfl 28 _ (uh R7) szAg rfl (ag_one _ _ _ _ _ _ _ _) ?_))
   refine bodyPost_ret (results_cell_row (P:=Tryz.prog) rfl _ _ w.heap.size 28 #[.int .i64 10,.int .i64 0,.int .i64 ek,.int .i64 en,.string es,.slice c el cp] (0,0) _ rfl (setRow_heap _ _ _ _ _ _ (uh R7)) Tryz.underlying28 rfl szAg) rfl ?_
   exact uh F3 _ ((uh Q7).row (uh R7) (by decide) (by decide) (Nat.le_refl _) _) ((((uh N7).drawn (grownBy_row _) (uh NM)).new).lower (Nat.le_of_lt (uh NM)))
  | true =>
   have X:=hide (smI 0 40 (by decide) rb q5 (w5.alloc (.cells #[.int .i64 10,.int .i64 0,.int .i64 ek,.int .i64 en,.string es,.slice c el cp] 28)) (by omega) (uh Q6).pr |> fun h=>by rw [List.drop_zero,hs] at h;exact h)
   go_wp2_with fail
   generalize (w5.alloc (.cells #[.int .i64 10,.int .i64 0,.int .i64 ek,.int .i64 en,.string es,.slice c el cp] 28))=w6 at *
   generalize w5.heap.size=bx at *
   refine (uh X).mono ?_
   rintro r w7 ⟨rfl,hb⟩
   have Q7:=hide ((uh Q6).later hb)
   have R7:=hide (row_keep (uh R6) hb)
   have B7:=hide (row_keep (uh B6) hb)
   have N7:=hide ((uh N6).later hb)
   clear hb X Q6 R6 B6 N6
   have OEa:=hide ((uh PF).trans (if_pos hs))
   have FN:=hide (fun w' ho hg=>uh FM w' ho hg)
   clear PF hs FM
   have X:=hide (rbI rb q5 w7 (uh Q7).pr ((uh TB).grown (uh Q7).gr))
   go_wp2_with fail
   refine (uh X).mono ?_
   rintro r w8 ⟨hg,hm⟩
   cases ho:pRndI q5 with
   | none =>
    rw [ho] at hm
    have hr:r = .panicked pn:=hm
    subst hr
    exact ⟨rfl,uh FN _ ((uh OEa).trans (bnd_no ho _)) (grownBy_trans (uh Q7).gr hg)⟩
   | some p =>
    obtain ⟨x8,q8⟩:=p
    rw [ho] at hm
    obtain ⟨v,rfl,hv,hz⟩:=hm
    have OE8:=hide ((uh OEa).trans (bnd_at ho _))
    have Q8:=hide ((uh Q7).next hz hg)
    have R8:=hide ((uh Q7).blk hg (uh R7) (Nat.le_refl _))
    have B8:=hide ((uh Q7).blk hg (uh B7) (uh BG))
    clear B7
    have N8:=hide ((uh N7).drawn hg (Nat.lt_trans (uh Q7).lt (uh NM)))
    clear N7
    clear hg hz ho X Q7 R7 OEa
    unfold VIn at hv
    subst hv
    have F3:=hide (fun w' h=>uh F2 6 x8 q8 w' (uh OE8) h)
    clear F2 FN OE8
    have c0:=Lib.cell_of_heap (uh B8) 0
    have f0:=Lib.frozen_of_heap (uh B8) 0
    have c1:=Lib.cell_of_heap (uh B8) 1
    have f1:=Lib.frozen_of_heap (uh B8) 1
    have Qa:=hide ((uh Q8).cell (uh B8) (by decide) (by decide) (uh BG) 0 (.int .i64 6))
    have Ra:=hide ((heap_setCell_other _ ⟨bx,0,none⟩ w.heap.size (.int .i64 6) (by have:=uh BL;simp;omega)).trans (uh R8))
    have Ba:=hide (show (w8.setCell ⟨bx,0,none⟩ (.int .i64 6)).heap[bx]?=some (.cells #[.int .i64 6,.int .i64 0,.int .i64 ek,.int .i64 en,.string es,.slice c el cp] 28 (0,0)) from heap_setCell_same _ _ 0 _ _ _ (uh B8))
    have Qb:=hide ((uh Qa).cell (uh Ba) (by decide) (by decide) (uh BG) 1 (.int .i64 x8))
    have Rb:=hide ((heap_setCell_other _ ⟨bx,1,none⟩ w.heap.size (.int .i64 x8) (by have:=uh BL;simp;omega)).trans (uh Ra))
    have Bb:=hide (show ((w8.setCell ⟨bx,0,none⟩ (.int .i64 6)).setCell ⟨bx,1,none⟩ (.int .i64 x8)).heap[bx]?=some (.cells #[.int .i64 6,.int .i64 x8,.int .i64 ek,.int .i64 en,.string es,.slice c el cp] 28 (0,0)) from heap_setCell_same _ _ 1 _ _ _ (uh Ba))
    have Nb:=hide (((uh N8).beyond (grown_set (g:=bx) (i:=0) (.int .i64 6)) (uh NB)).beyond (grown_set (g:=bx) (i:=1) (.int .i64 x8)) (uh NB))
    clear Q8 R8 B8 N8 Qa Ra Ba
    go_wp2_with (first|(refine wpList_load_row rfl 28 _ rfl bx rfl 28 #[.int .i64 6,.int .i64 x8,.int .i64 ek,.int .i64 en,.string es,.slice c el cp] (0,0) _ (uh Bb) Tryz.underlying28 rfl (by kernel_rfl) ?_)|(refine wpList_store_row rfl 28 _ _ rfl w.heap.size #[.int .i64 6,.int .i64 x8,.int .i64 ek,.int .i64 en,.string es,.slice c el cp] rfl rfl 28 _ (uh Rb) szAg rfl (ag_one _ _ _ _ _ _ _ _) ?_))
    refine bodyPost_ret (results_cell_row (P:=Tryz.prog) rfl _ _ w.heap.size 28 #[.int .i64 6,.int .i64 x8,.int .i64 ek,.int .i64 en,.string es,.slice c el cp] (0,0) _ rfl (setRow_heap _ _ _ _ _ _ (uh Rb)) Tryz.underlying28 rfl szAg) rfl ?_
    exact uh F3 _ ((uh Qb).row (uh Rb) (by decide) (by decide) (Nat.le_refl _) _) ((((uh Nb).drawn (grownBy_row _) (uh NM)).new).lower (Nat.le_of_lt (uh NM)))
theorem wa_imm1 (rb:Nat) (ts:List Tk) (w:World) (h:Pr w rb ts) (ht:TabP w rb) (hr:seeR ts=false) (h4:seeM ts 40=false) (h5:seeM ts 45=true) (h6:seeM (ts.drop 1) 40=false) (hs:seeM ts 35=true):Calls Tryz.prog 202 #[.pointer (some ⟨rb,0,none⟩)] w (PnR (pPln ts) (VAg w.heap.size) rb w):=by
 have OE:=hide (pl_imm hr h4 hs)
 have FN:=hide (fun w' (ho:pPln ts=none) (hg:w.grownBy w' (some rb))=>(show PnR (pPln ts) (VAg w.heap.size) rb w (.panicked pn) w' from pnR_none ho rfl hg))
 have FY:=hide (fun x q v w' (ho:pPln ts=some (x,q)) (hg:w.grownBy w' (some rb)) (hv:VAg w.heap.size x w' v) (hz:Pr w' rb q)=>(show PnR (pPln ts) (VAg w.heap.size) rb w (.returned v) w' from pnR_some ho rfl hg hv hz))
 generalize PnR (pPln ts) (VAg w.heap.size) rb w=R at *
 generalize pPln ts=O at *
 have hb0:=below_new w (.cells #[.int .i64 0,.int .i64 0,.int .i64 0,.int .i64 0,.string ⟨#[]⟩,.slice none 0 0] 28)
 have hg0:(w.alloc (.cells #[.int .i64 0,.int .i64 0,.int .i64 0,.int .i64 0,.string ⟨#[]⟩,.slice none 0 0] 28)).heap[w.heap.size]?=some (.cells #[.int .i64 0,.int .i64 0,.int .i64 0,.int .i64 0,.string ⟨#[]⟩,.slice none 0 0] 28 (0,0)):=Array.getElem?_push_size
 have hs0:w.heap.size<(w.alloc (.cells #[.int .i64 0,.int .i64 0,.int .i64 0,.int .i64 0,.string ⟨#[]⟩,.slice none 0 0] 28)).heap.size:=by simp
 obtain ⟨w0,hw0⟩:∃ w0,w.alloc (.cells #[.int .i64 0,.int .i64 0,.int .i64 0,.int .i64 0,.string ⟨#[]⟩,.slice none 0 0] 28)=w0:=⟨_,rfl⟩
 rw [hw0] at hb0 hg0 hs0
 have Q0:=hide (h.start.later hb0)
 have R0:=hide hg0
 have TB:=hide ht
 have S0:=hide hs0
 clear h ht hb0 hg0 hs0
 go_enter Tryz.func202,Tryz.ntmps202
 have X:=hide (srI rb ts w0 (uh Q0).pr ((uh TB).grown (uh Q0).gr) |> fun h=>by rw [hr] at h;exact h)
 go_wp2_with fail
 refine (uh X).mono ?_
 rintro r w1 ⟨rfl,hb⟩
 have Q1:=hide ((uh Q0).later hb)
 have R1:=hide (row_keep (uh R0) hb)
 have S1:=hide (Nat.lt_of_lt_of_le (uh S0) hb.size)
 clear hb X Q0 R0 S0
 have X:=hide (smI 0 40 (by decide) rb ts w1 (by omega) (uh Q1).pr |> fun h=>by rw [List.drop_zero,h4] at h;exact h)
 go_wp2_with fail
 refine (uh X).mono ?_
 rintro r w2 ⟨rfl,hb⟩
 have Q2:=hide ((uh Q1).later hb)
 have R2:=hide (row_keep (uh R1) hb)
 have S2:=hide (Nat.lt_of_lt_of_le (uh S1) hb.size)
 clear hb X Q1 R1 S1
 have X:=hide (smI 0 45 (by decide) rb ts w2 (by omega) (uh Q2).pr |> fun h=>by rw [List.drop_zero,h5] at h;exact h)
 go_wp2_with fail
 refine (uh X).mono ?_
 rintro r w3 ⟨rfl,hb⟩
 have Q3:=hide ((uh Q2).later hb)
 have R3:=hide (row_keep (uh R2) hb)
 have S3:=hide (Nat.lt_of_lt_of_le (uh S2) hb.size)
 clear hb X Q2 R2 S2
 have X:=hide (smI 1 40 (by decide) rb ts w3 (by omega) (uh Q3).pr |> fun h=>by rw [h6] at h;exact h)
 go_wp2_with fail
 refine (uh X).mono ?_
 rintro r w4 ⟨rfl,hb⟩
 have Q4:=hide ((uh Q3).later hb)
 have R4:=hide (row_keep (uh R3) hb)
 have S4:=hide (Nat.lt_of_lt_of_le (uh S3) hb.size)
 clear hb X Q3 R3 S3
 have X:=hide (psI 35 (by decide) rb ts w4 (uh Q4).pr)
 unfold PsR mkS at X
 rw [hs] at X
 go_wp2_with fail
 refine (uh X).mono ?_
 rintro r w5 ⟨rfl,hz,hg⟩
 (try rw [if_pos rfl] at hz)
 have Q5:=hide ((uh Q4).next hz hg)
 have R5:=hide ((uh Q4).blk hg (uh R4) (Nat.le_refl _))
 have S5:=hide (Nat.lt_of_lt_of_le (uh S4) hg.size)
 clear hg hz X Q4 R4 S4
 have X:=hide (exI rb ts.tail w5 (uh Q5).pr ((uh TB).grown (uh Q5).gr))
 go_wp2_with fail
 refine (uh X).mono ?_
 rintro r w6 ⟨hg,hm⟩
 cases ho:readF 6 ts.tail with
 | none =>
  rw [ho] at hm
  have hr:r = .panicked pn:=hm
  subst hr
  exact ⟨rfl,uh FN _ ((uh OE).trans (bnd_no ho _)) (grownBy_trans (uh Q5).gr hg)⟩
 | some p =>
  obtain ⟨x6,q6⟩:=p
  rw [ho] at hm
  obtain ⟨v,rfl,hv,hz⟩:=hm
  have OE6:=hide ((uh OE).trans (bnd_at ho _))
  have Q6:=hide ((uh Q5).next hz hg)
  have R6:=hide ((uh Q5).blk hg (uh R5) (Nat.le_refl _))
  have M6:=hide (show w.heap.size+1≤w5.heap.size from uh S5)
  clear hg hz ho X Q5 R5 S5 OE
  obtain ⟨c,cp,rfl,hn,ok⟩:=hv
  have F:=hide (fun w' (h:Pq w w' rb q6) (hn:NewX w' w.heap.size x6 c)=>uh FY ⟨8,0,x6⟩ q6 (.agg #[.int .i64 8,.int .i64 0,.int .i64 x6.k,.int .i64 x6.n,.string x6.s,.slice c x6.l.length cp]) w' (uh OE6) h.gr ⟨c,cp,rfl,hn⟩ h.pr)
  have NN:=hide (hn.lower (uh M6))
  clear FN FY OE6 hn ok
  have F2:=hide (fun w' h=>uh F w' h)
  clear F
  generalize x6.k=ek at F2 ⊢
  generalize x6.n=en at F2 ⊢
  generalize x6.s=es at F2 ⊢
  generalize x6.l.length=el at F2 ⊢
  go_wp2_with (refine wpList_store_row rfl 28 _ _ rfl w.heap.size #[.int .i64 8,.int .i64 0,.int .i64 ek,.int .i64 en,.string es,.slice c el cp] rfl rfl 28 _ (uh R6) szAg rfl (ag_one _ _ _ _ _ _ _ _) ?_)
  refine bodyPost_ret (results_cell_row (P:=Tryz.prog) rfl _ _ w.heap.size 28 #[.int .i64 8,.int .i64 0,.int .i64 ek,.int .i64 en,.string es,.slice c el cp] (0,0) _ rfl (setRow_heap _ _ _ _ _ _ (uh R6)) Tryz.underlying28 rfl szAg) rfl ?_
  exact uh F2 _ ((uh Q6).row (uh R6) (by decide) (by decide) (Nat.le_refl _) _) (((uh NN).row _ (Nat.lt_succ_self _)).lower (Nat.le_succ _))
theorem wa_rel1 (rb:Nat) (ts:List Tk) (w:World) (h:Pr w rb ts) (ht:TabP w rb) (hr:seeR ts=false) (h4:seeM ts 40=false) (h5:seeM ts 45=true) (h6:seeM (ts.drop 1) 40=false) (hs:seeM ts 35=false):Calls Tryz.prog 202 #[.pointer (some ⟨rb,0,none⟩)] w (PnR (pPln ts) (VAg w.heap.size) rb w):=by
 have OE:=hide (pl_rel hr h4 (fun q=>by rw [h6] at q;exact absurd q.2 (by decide)) hs)
 have FN:=hide (fun w' (ho:pPln ts=none) (hg:w.grownBy w' (some rb))=>(show PnR (pPln ts) (VAg w.heap.size) rb w (.panicked pn) w' from pnR_none ho rfl hg))
 have FY:=hide (fun x q v w' (ho:pPln ts=some (x,q)) (hg:w.grownBy w' (some rb)) (hv:VAg w.heap.size x w' v) (hz:Pr w' rb q)=>(show PnR (pPln ts) (VAg w.heap.size) rb w (.returned v) w' from pnR_some ho rfl hg hv hz))
 generalize PnR (pPln ts) (VAg w.heap.size) rb w=R at *
 generalize pPln ts=O at *
 have hb0:=below_new w (.cells #[.int .i64 0,.int .i64 0,.int .i64 0,.int .i64 0,.string ⟨#[]⟩,.slice none 0 0] 28)
 have hg0:(w.alloc (.cells #[.int .i64 0,.int .i64 0,.int .i64 0,.int .i64 0,.string ⟨#[]⟩,.slice none 0 0] 28)).heap[w.heap.size]?=some (.cells #[.int .i64 0,.int .i64 0,.int .i64 0,.int .i64 0,.string ⟨#[]⟩,.slice none 0 0] 28 (0,0)):=Array.getElem?_push_size
 have hs0:w.heap.size<(w.alloc (.cells #[.int .i64 0,.int .i64 0,.int .i64 0,.int .i64 0,.string ⟨#[]⟩,.slice none 0 0] 28)).heap.size:=by simp
 obtain ⟨w0,hw0⟩:∃ w0,w.alloc (.cells #[.int .i64 0,.int .i64 0,.int .i64 0,.int .i64 0,.string ⟨#[]⟩,.slice none 0 0] 28)=w0:=⟨_,rfl⟩
 rw [hw0] at hb0 hg0 hs0
 have Q0:=hide (h.start.later hb0)
 have R0:=hide hg0
 have TB:=hide ht
 have S0:=hide hs0
 clear h ht hb0 hg0 hs0
 go_enter Tryz.func202,Tryz.ntmps202
 have X:=hide (srI rb ts w0 (uh Q0).pr ((uh TB).grown (uh Q0).gr) |> fun h=>by rw [hr] at h;exact h)
 go_wp2_with fail
 refine (uh X).mono ?_
 rintro r w1 ⟨rfl,hb⟩
 have Q1:=hide ((uh Q0).later hb)
 have R1:=hide (row_keep (uh R0) hb)
 have S1:=hide (Nat.lt_of_lt_of_le (uh S0) hb.size)
 clear hb X Q0 R0 S0
 have X:=hide (smI 0 40 (by decide) rb ts w1 (by omega) (uh Q1).pr |> fun h=>by rw [List.drop_zero,h4] at h;exact h)
 go_wp2_with fail
 refine (uh X).mono ?_
 rintro r w2 ⟨rfl,hb⟩
 have Q2:=hide ((uh Q1).later hb)
 have R2:=hide (row_keep (uh R1) hb)
 have S2:=hide (Nat.lt_of_lt_of_le (uh S1) hb.size)
 clear hb X Q1 R1 S1
 have X:=hide (smI 0 45 (by decide) rb ts w2 (by omega) (uh Q2).pr |> fun h=>by rw [List.drop_zero,h5] at h;exact h)
 go_wp2_with fail
 refine (uh X).mono ?_
 rintro r w3 ⟨rfl,hb⟩
 have Q3:=hide ((uh Q2).later hb)
 have R3:=hide (row_keep (uh R2) hb)
 have S3:=hide (Nat.lt_of_lt_of_le (uh S2) hb.size)
 clear hb X Q2 R2 S2
 have X:=hide (smI 1 40 (by decide) rb ts w3 (by omega) (uh Q3).pr |> fun h=>by rw [h6] at h;exact h)
 go_wp2_with fail
 refine (uh X).mono ?_
 rintro r w4 ⟨rfl,hb⟩
 have Q4:=hide ((uh Q3).later hb)
 have R4:=hide (row_keep (uh R3) hb)
 have S4:=hide (Nat.lt_of_lt_of_le (uh S3) hb.size)
 clear hb X Q3 R3 S3
 have X:=hide (psI 35 (by decide) rb ts w4 (uh Q4).pr)
 unfold PsR mkS at X
 rw [hs] at X
 go_wp2_with fail
 refine (uh X).mono ?_
 rintro r w5 ⟨rfl,hz,hg⟩
 have Q5:=hide ((uh Q4).next hz hg)
 have R5:=hide ((uh Q4).blk hg (uh R4) (Nat.le_refl _))
 have S5:=hide (Nat.lt_of_lt_of_le (uh S4) hg.size)
 clear hg hz X Q4 R4 S4
 clear hs
 have X:=hide (exI rb ts w5 (uh Q5).pr ((uh TB).grown (uh Q5).gr))
 go_wp2_with fail
 refine (uh X).mono ?_
 rintro r w6 ⟨hg,hm⟩
 cases ho:readF 6 ts with
 | none =>
  rw [ho] at hm
  have hr:r = .panicked pn:=hm
  subst hr
  exact ⟨rfl,uh FN _ ((uh OE).trans (bnd_no ho _)) (grownBy_trans (uh Q5).gr hg)⟩
 | some p =>
  obtain ⟨x6,q6⟩:=p
  rw [ho] at hm
  obtain ⟨v,rfl,hv,hz⟩:=hm
  have OE6:=hide ((uh OE).trans (bnd_at ho _))
  have Q6:=hide ((uh Q5).next hz hg)
  have R6:=hide ((uh Q5).blk hg (uh R5) (Nat.le_refl _))
  have S6:=hide (Nat.lt_of_lt_of_le (uh S5) hg.size)
  have M6:=hide (show w.heap.size+1≤w5.heap.size from uh S5)
  clear hg hz ho X Q5 R5 S5 OE
  obtain ⟨c,cp,rfl,hn,ok⟩:=hv
  have N6:=hide hn.half
  have NM:=hide (uh M6)
  have F:=hide (fun f n q w' (ho:p5F x6 q6=some (⟨f,n,x6⟩,q)) (h:Pq w w' rb q) (hn:NewX w' w.heap.size x6 c)=>uh FY ⟨f,n,x6⟩ q (.agg #[.int .i64 f,.int .i64 n,.int .i64 x6.k,.int .i64 x6.n,.string x6.s,.slice c x6.l.length cp]) w' ((uh OE6).trans ho) h.gr ⟨c,cp,rfl,hn⟩ h.pr)
  have FM:=hide (fun w' (ho:p5F x6 q6=none) hg=>uh FN w' ((uh OE6).trans ho) hg)
  have PF:=hide (show p5F x6 q6=if seeM q6 40=true then bnd (pRndI q6) (fun n q=>some (⟨6,n,x6⟩,q)) else some (⟨10,0,x6⟩,q6) from rfl)
  clear FN FY OE6 hn ok
  generalize p5F x6 q6=PO at *
  have F2:=hide (fun f n q w' ho h=>uh F f n q w' ho h)
  clear F
  generalize x6.k=ek at F2 ⊢
  generalize x6.n=en at F2 ⊢
  generalize x6.s=es at F2 ⊢
  generalize x6.l.length=el at F2 ⊢
  have BG:=hide (show w.heap.size≤w6.heap.size from Nat.le_of_lt (uh S6))
  have BL:=hide (uh S6)
  have B7:=hide (show (w6.alloc (.cells #[.int .i64 10,.int .i64 0,.int .i64 ek,.int .i64 en,.string es,.slice c el cp] 28)).heap[w6.heap.size]?=some (.cells #[.int .i64 10,.int .i64 0,.int .i64 ek,.int .i64 en,.string es,.slice c el cp] 28 (0,0)) from Array.getElem?_push_size)
  have Q7:=hide ((uh Q6).later (below_new w6 (.cells #[.int .i64 10,.int .i64 0,.int .i64 ek,.int .i64 en,.string es,.slice c el cp] 28)))
  have R7:=hide (row_keep (uh R6) (below_new w6 (.cells #[.int .i64 10,.int .i64 0,.int .i64 ek,.int .i64 en,.string es,.slice c el cp] 28)))
  have N7:=hide ((uh N6).later (below_new w6 (.cells #[.int .i64 10,.int .i64 0,.int .i64 ek,.int .i64 en,.string es,.slice c el cp] 28)))
  have NB:=hide (show w6.heap.size≤w6.heap.size from Nat.le_refl _)
  clear N6
  clear Q6 R6 S6
  cases hs:seeM q6 40 with
  | false =>
   have X:=hide (smI 0 40 (by decide) rb q6 (w6.alloc (.cells #[.int .i64 10,.int .i64 0,.int .i64 ek,.int .i64 en,.string es,.slice c el cp] 28)) (by omega) (uh Q7).pr |> fun h=>by rw [List.drop_zero,hs] at h;exact h)
   go_wp2_with fail
   generalize (w6.alloc (.cells #[.int .i64 10,.int .i64 0,.int .i64 ek,.int .i64 en,.string es,.slice c el cp] 28))=w7 at *
   generalize w6.heap.size=bx at *
   refine (uh X).mono ?_
   rintro r w8 ⟨rfl,hb⟩
   have Q8:=hide ((uh Q7).later hb)
   have R8:=hide (row_keep (uh R7) hb)
   have B8:=hide (row_keep (uh B7) hb)
   have N8:=hide ((uh N7).later hb)
   clear hb X Q7 R7 B7 N7
   have F3:=hide (fun w' h=>uh F2 10 0 q6 w' ((uh PF).trans (if_neg (by rw [hs];decide))) h)
   clear F2 FM PF hs
   go_wp2_with (first|(refine wpList_load_row rfl 28 _ rfl bx rfl 28 #[.int .i64 10,.int .i64 0,.int .i64 ek,.int .i64 en,.string es,.slice c el cp] (0,0) _ (uh B8) Tryz.underlying28 rfl (by kernel_rfl) ?_)|(refine wpList_store_row rfl 28 _ _ rfl w.heap.size #[.int .i64 10,.int .i64 0,.int .i64 ek,.int .i64 en,.string es,.slice c el cp] rfl rfl 28 _ (uh R8) szAg rfl (ag_one _ _ _ _ _ _ _ _) ?_))
   refine bodyPost_ret (results_cell_row (P:=Tryz.prog) rfl _ _ w.heap.size 28 #[.int .i64 10,.int .i64 0,.int .i64 ek,.int .i64 en,.string es,.slice c el cp] (0,0) _ rfl (setRow_heap _ _ _ _ _ _ (uh R8)) Tryz.underlying28 rfl szAg) rfl ?_
   exact uh F3 _ ((uh Q8).row (uh R8) (by decide) (by decide) (Nat.le_refl _) _) ((((uh N8).drawn (grownBy_row _) (uh NM)).new).lower (Nat.le_of_lt (uh NM)))
  | true =>
   have X:=hide (smI 0 40 (by decide) rb q6 (w6.alloc (.cells #[.int .i64 10,.int .i64 0,.int .i64 ek,.int .i64 en,.string es,.slice c el cp] 28)) (by omega) (uh Q7).pr |> fun h=>by rw [List.drop_zero,hs] at h;exact h)
   go_wp2_with fail
   generalize (w6.alloc (.cells #[.int .i64 10,.int .i64 0,.int .i64 ek,.int .i64 en,.string es,.slice c el cp] 28))=w7 at *
   generalize w6.heap.size=bx at *
   refine (uh X).mono ?_
   rintro r w8 ⟨rfl,hb⟩
   have Q8:=hide ((uh Q7).later hb)
   have R8:=hide (row_keep (uh R7) hb)
   have B8:=hide (row_keep (uh B7) hb)
   have N8:=hide ((uh N7).later hb)
   clear hb X Q7 R7 B7 N7
   have OEa:=hide ((uh PF).trans (if_pos hs))
   have FN:=hide (fun w' ho hg=>uh FM w' ho hg)
   clear PF hs FM
   have X:=hide (rbI rb q6 w8 (uh Q8).pr ((uh TB).grown (uh Q8).gr))
   go_wp2_with fail
   refine (uh X).mono ?_
   rintro r w9 ⟨hg,hm⟩
   cases ho:pRndI q6 with
   | none =>
    rw [ho] at hm
    have hr:r = .panicked pn:=hm
    subst hr
    exact ⟨rfl,uh FN _ ((uh OEa).trans (bnd_no ho _)) (grownBy_trans (uh Q8).gr hg)⟩
   | some p =>
    obtain ⟨x9,q9⟩:=p
    rw [ho] at hm
    obtain ⟨v,rfl,hv,hz⟩:=hm
    have OE9:=hide ((uh OEa).trans (bnd_at ho _))
    have Q9:=hide ((uh Q8).next hz hg)
    have R9:=hide ((uh Q8).blk hg (uh R8) (Nat.le_refl _))
    have B9:=hide ((uh Q8).blk hg (uh B8) (uh BG))
    clear B8
    have N9:=hide ((uh N8).drawn hg (Nat.lt_trans (uh Q8).lt (uh NM)))
    clear N8
    clear hg hz ho X Q8 R8 OEa
    unfold VIn at hv
    subst hv
    have F3:=hide (fun w' h=>uh F2 6 x9 q9 w' (uh OE9) h)
    clear F2 FN OE9
    have c0:=Lib.cell_of_heap (uh B9) 0
    have f0:=Lib.frozen_of_heap (uh B9) 0
    have c1:=Lib.cell_of_heap (uh B9) 1
    have f1:=Lib.frozen_of_heap (uh B9) 1
    have Qa:=hide ((uh Q9).cell (uh B9) (by decide) (by decide) (uh BG) 0 (.int .i64 6))
    have Ra:=hide ((heap_setCell_other _ ⟨bx,0,none⟩ w.heap.size (.int .i64 6) (by have:=uh BL;simp;omega)).trans (uh R9))
    have Ba:=hide (show (w9.setCell ⟨bx,0,none⟩ (.int .i64 6)).heap[bx]?=some (.cells #[.int .i64 6,.int .i64 0,.int .i64 ek,.int .i64 en,.string es,.slice c el cp] 28 (0,0)) from heap_setCell_same _ _ 0 _ _ _ (uh B9))
    have Qb:=hide ((uh Qa).cell (uh Ba) (by decide) (by decide) (uh BG) 1 (.int .i64 x9))
    have Rb:=hide ((heap_setCell_other _ ⟨bx,1,none⟩ w.heap.size (.int .i64 x9) (by have:=uh BL;simp;omega)).trans (uh Ra))
    have Bb:=hide (show ((w9.setCell ⟨bx,0,none⟩ (.int .i64 6)).setCell ⟨bx,1,none⟩ (.int .i64 x9)).heap[bx]?=some (.cells #[.int .i64 6,.int .i64 x9,.int .i64 ek,.int .i64 en,.string es,.slice c el cp] 28 (0,0)) from heap_setCell_same _ _ 1 _ _ _ (uh Ba))
    have Nb:=hide (((uh N9).beyond (grown_set (g:=bx) (i:=0) (.int .i64 6)) (uh NB)).beyond (grown_set (g:=bx) (i:=1) (.int .i64 x9)) (uh NB))
    clear Q9 R9 B9 N9 Qa Ra Ba
    go_wp2_with (first|(refine wpList_load_row rfl 28 _ rfl bx rfl 28 #[.int .i64 6,.int .i64 x9,.int .i64 ek,.int .i64 en,.string es,.slice c el cp] (0,0) _ (uh Bb) Tryz.underlying28 rfl (by kernel_rfl) ?_)|(refine wpList_store_row rfl 28 _ _ rfl w.heap.size #[.int .i64 6,.int .i64 x9,.int .i64 ek,.int .i64 en,.string es,.slice c el cp] rfl rfl 28 _ (uh Rb) szAg rfl (ag_one _ _ _ _ _ _ _ _) ?_))
    refine bodyPost_ret (results_cell_row (P:=Tryz.prog) rfl _ _ w.heap.size 28 #[.int .i64 6,.int .i64 x9,.int .i64 ek,.int .i64 en,.string es,.slice c el cp] (0,0) _ rfl (setRow_heap _ _ _ _ _ _ (uh Rb)) Tryz.underlying28 rfl szAg) rfl ?_
    exact uh F3 _ ((uh Qb).row (uh Rb) (by decide) (by decide) (Nat.le_refl _) _) ((((uh Nb).drawn (grownBy_row _) (uh NM)).new).lower (Nat.le_of_lt (uh NM)))
theorem waI (rb:Nat) (ts:List Tk) (w:World) (h:Pr w rb ts) (ht:TabP w rb):Calls Tryz.prog 202 #[.pointer (some ⟨rb,0,none⟩)] w (PnR (pPln ts) (VAg w.heap.size) rb w):=by
 cases hr:seeR ts with
 | true => exact wa_reg rb ts w h ht hr
 | false =>
  cases h4:seeM ts 40 with
  | true => exact wa_rnd rb ts w h ht hr h4
  | false =>
   cases h5:seeM ts 45 with
   | false =>
    cases h3:seeM ts 35 with
    | true => exact wa_imm0 rb ts w h ht hr h4 h5 h3
    | false => exact wa_rel0 rb ts w h ht hr h4 h5 h3
   | true =>
    cases h6:seeM (ts.drop 1) 40 with
    | true => exact wa_dec rb ts w h ht hr h4 h5 h6
    | false =>
     cases h3:seeM ts 35 with
     | true => exact wa_imm1 rb ts w h ht hr h4 h5 h6 h3
     | false => exact wa_rel1 rb ts w h ht hr h4 h5 h6 h3
def upV (f:Int):Int:=match upF f with|some g=>g|none=>0
theorem pArg_yes {ts:List Tk} (h:seeM ts 64=true):pArg ts=bnd (pPln ts.tail) fun a q=>if upV a.f=0 then none else some (⟨upV a.f,a.r,a.e⟩,q):=by
 unfold pArg
 rw [if_pos h]
 cases pPln ts.tail with
 | none => rfl
 | some p =>
  obtain ⟨a,q⟩:=p
  show (match upF a.f with|none=>none|some f=>some ((⟨f,a.r,a.e⟩:Ag),q))=if upV a.f=0 then none else some (⟨upV a.f,a.r,a.e⟩,q)
  unfold upV upF
  by_cases hf:a.f=2∨a.f=4∨a.f=6∨a.f=8∨a.f=10
  ·
   rw [if_pos hf]
   simp only
   rw [if_neg (by omega)]
  ·
   rw [if_neg hf]
   simp
theorem TabU.at {w:World} (h:TabU w):∀ k:Nat,k≤10→k≠3→k≠5→k≠7→k≠9→w.cell? ⟨5,k,none⟩=some (.int .i64 (upV (k:Int))):=by
 obtain ⟨t,fr,h⟩:=h
 intro k hk h3 h5 h7 h9
 have:k=0∨k=1∨k=2∨k=4∨k=6∨k=8∨k=10:=by omega
 rcases this with rfl|rfl|rfl|rfl|rfl|rfl|rfl <;> exact Lib.cell_of_heap h _
theorem agI (rb:Nat) (ts:List Tk) (w:World) (h:Pr w rb ts) (ht:TabP w rb):Calls Tryz.prog 164 #[.pointer (some ⟨rb,0,none⟩)] w (PnR (pArg ts) (VAg w.heap.size) rb w):=by
 have OKT:=hide h.ok
 have FN:=hide (fun w' (ho:pArg ts=none) (hg:w.grownBy w' (some rb))=>(show PnR (pArg ts) (VAg w.heap.size) rb w (.panicked pn) w' from pnR_none ho rfl hg))
 have FY:=hide (fun x q v w' (ho:pArg ts=some (x,q)) (hg:w.grownBy w' (some rb)) (hv:VAg w.heap.size x w' v) (hz:Pr w' rb q)=>(show PnR (pArg ts) (VAg w.heap.size) rb w (.returned v) w' from pnR_some ho rfl hg hv hz))
 have ON:=hide (fun (h:seeM ts 64=false)=>pArg_no h)
 have OY:=hide (fun (h:seeM ts 64=true)=>pArg_yes h)
 generalize PnR (pArg ts) (VAg w.heap.size) rb w=R at *
 generalize pArg ts=O at *
 have hb0:=below_new w (.cells #[.int .i64 0,.int .i64 0,.int .i64 0,.int .i64 0,.string ⟨#[]⟩,.slice none 0 0] 28)
 have hg0:(w.alloc (.cells #[.int .i64 0,.int .i64 0,.int .i64 0,.int .i64 0,.string ⟨#[]⟩,.slice none 0 0] 28)).heap[w.heap.size]?=some (.cells #[.int .i64 0,.int .i64 0,.int .i64 0,.int .i64 0,.string ⟨#[]⟩,.slice none 0 0] 28 (0,0)):=Array.getElem?_push_size
 have hs0:w.heap.size<(w.alloc (.cells #[.int .i64 0,.int .i64 0,.int .i64 0,.int .i64 0,.string ⟨#[]⟩,.slice none 0 0] 28)).heap.size:=by simp
 obtain ⟨w0,hw0⟩:∃ w0,w.alloc (.cells #[.int .i64 0,.int .i64 0,.int .i64 0,.int .i64 0,.string ⟨#[]⟩,.slice none 0 0] 28)=w0:=⟨_,rfl⟩
 rw [hw0] at hb0 hg0 hs0
 have Q0:=hide (h.start.later hb0)
 have R0:=hide hg0
 have TB:=hide ht
 have S0:=hide hs0
 clear h ht hb0 hg0 hs0
 have X:=hide (psI 64 (by decide) rb ts w0 (uh Q0).pr)
 unfold PsR mkS at X
 cases hs:seeM ts 64 with
 | false =>
  rw [hs] at X
  have OE:=hide (uh ON hs)
  clear ON OY
  go_enter Tryz.func164,Tryz.ntmps164
  go_wp2_with fail
  refine (uh X).mono ?_
  rintro r w1 ⟨rfl,hz,hg⟩
  have Q1:=hide ((uh Q0).next hz hg)
  have R1:=hide ((uh Q0).blk hg (uh R0) (Nat.le_refl _))
  have S1:=hide (Nat.lt_of_lt_of_le (uh S0) hg.size)
  clear hz hg X Q0 R0 S0 hs
  (try rw [if_neg (by decide)] at Q1)
  have X:=hide (waI rb ts w1 (uh Q1).pr ((uh TB).grown (uh Q1).gr))
  go_wp2_with fail
  refine (uh X).mono ?_
  rintro r w2 ⟨hg,hm⟩
  cases ho:pPln ts with
  | none =>
   rw [ho] at hm
   have hr:r = .panicked pn:=hm
   subst hr
   exact ⟨rfl,uh FN _ ((uh OE).trans ho) (grownBy_trans (uh Q1).gr hg)⟩
  | some p =>
   obtain ⟨x,q⟩:=p
   rw [ho] at hm
   obtain ⟨v,rfl,⟨c,cp,rfl,hn⟩,hz⟩:=hm
   have Q2:=hide ((uh Q1).next hz hg)
   have R2:=hide ((uh Q1).blk hg (uh R1) (Nat.le_refl _))
   have NN:=hide (hn.lower (show w.heap.size+1≤w1.heap.size from uh S1))
   have F:=hide (fun w' (h:Pq w w' rb q) (hn:NewX w' w.heap.size x.e c)=>uh FY x q (.agg #[.int .i64 x.f,.int .i64 x.r,.int .i64 x.e.k,.int .i64 x.e.n,.string x.e.s,.slice c x.e.l.length cp]) w' ((uh OE).trans ho) h.gr ⟨c,cp,rfl,hn⟩ h.pr)
   clear hn hz hg ho FN FY OE X Q1 R1 S1
   have F2:=hide (fun w' h=>uh F w' h)
   clear F
   generalize x.e.k=ek at F2 ⊢
   generalize x.e.n=en at F2 ⊢
   generalize x.e.s=es at F2 ⊢
   generalize x.e.l.length=el at F2 ⊢
   generalize x.f=af at F2 ⊢
   generalize x.r=ar at F2 ⊢
   go_wp2_with (refine wpList_store_row rfl 28 _ _ rfl w.heap.size #[.int .i64 af,.int .i64 ar,.int .i64 ek,.int .i64 en,.string es,.slice c el cp] rfl rfl 28 _ (uh R2) szAg rfl (ag_one _ _ _ _ _ _ _ _) ?_)
   refine bodyPost_ret (results_cell_row (P:=Tryz.prog) rfl _ _ w.heap.size 28 #[.int .i64 af,.int .i64 ar,.int .i64 ek,.int .i64 en,.string es,.slice c el cp] (0,0) _ rfl (setRow_heap _ _ _ _ _ _ (uh R2)) Tryz.underlying28 rfl szAg) rfl ?_
   exact uh F2 _ ((uh Q2).row (uh R2) (by decide) (by decide) (Nat.le_refl _) _) (((uh NN).row _ (Nat.lt_succ_self _)).lower (Nat.le_succ _))
 | true =>
  rw [hs] at X
  have OE:=hide (uh OY hs)
  clear ON OY
  go_enter Tryz.func164,Tryz.ntmps164
  go_wp2_with fail
  refine (uh X).mono ?_
  rintro r w1 ⟨rfl,hz,hg⟩
  (try rw [if_pos rfl] at hz)
  have Q1:=hide ((uh Q0).next hz hg)
  have R1:=hide ((uh Q0).blk hg (uh R0) (Nat.le_refl _))
  have S1:=hide (Nat.lt_of_lt_of_le (uh S0) hg.size)
  clear hz hg X Q0 R0 S0 hs
  have X:=hide (waI rb ts.tail w1 (uh Q1).pr ((uh TB).grown (uh Q1).gr))
  go_wp2_with fail
  refine (uh X).mono ?_
  rintro r w2 ⟨hg,hm⟩
  cases ho:pPln ts.tail with
  | none =>
   rw [ho] at hm
   have hr:r = .panicked pn:=hm
   subst hr
   exact ⟨rfl,uh FN _ ((uh OE).trans (bnd_no ho _)) (grownBy_trans (uh Q1).gr hg)⟩
  | some p =>
   obtain ⟨x,q⟩:=p
   rw [ho] at hm
   obtain ⟨v,rfl,⟨c,cp,rfl,hn⟩,hz⟩:=hm
   obtain ⟨_,_,hf⟩:=pPln_some (uh OKT).tail ho
   have OE2:=hide ((uh OE).trans (bnd_at ho _))
   have Q2:=hide ((uh Q1).next hz hg)
   have T2:=((uh TB).grown (uh Q2).gr)
   obtain ⟨k,hk⟩:∃ k:Nat,x.f=(k:Int):=⟨x.f.toNat,by omega⟩
   have tc:=T2.u.at k (by omega) (by omega) (by omega) (by omega) (by omega)
   have tl:5<w2.heap.size:=World.block_lt_of_cell? w2 _ tc
   have R2:=hide ((uh Q1).blk hg (uh R1) (Nat.le_refl _))
   have S2:=hide (Nat.lt_of_lt_of_le (uh S1) hg.size)
   have NN:=hide hn.half
   have NM:=hide (uh S1)
   have k10:k≤10:=by omega
   rw [hk] at OE2
   have FA:=hide (fun w' (h0:upV (k:Int)=0) (hg:w.grownBy w' (some rb))=>uh FN w' ((uh OE2).trans (if_pos h0)) hg)
   have FB:=hide (fun w' (h0:¬ upV (k:Int)=0) (h:Pq w w' rb q) (hn:NewX w' w.heap.size x.e c)=>uh FY _ q (.agg #[.int .i64 (upV (k:Int)),.int .i64 x.r,.int .i64 x.e.k,.int .i64 x.e.n,.string x.e.s,.slice c x.e.l.length cp]) w' ((uh OE2).trans (if_neg h0)) h.gr ⟨c,cp,rfl,hn⟩ h.pr)
   clear hn hz hg ho FN FY OE OE2 X Q1 R1 S1 T2 hf
   rw [hk]
   clear hk
   have F2:=hide (fun w' h0 h=>uh FB w' h0 h)
   clear FB
   generalize x.e.k=ek at F2 ⊢
   generalize x.e.n=en at F2 ⊢
   generalize x.e.s=es at F2 ⊢
   generalize x.e.l.length=el at F2 ⊢
   generalize x.r=ar at F2 ⊢
   generalize upV (k:Int)=uv at *
   have Q3:=hide ((uh Q2).later (below_new w2 (.cells #[.int .i64 uv,.int .i64 ar,.int .i64 ek,.int .i64 en,.string es,.slice c el cp] 28)))
   have R3:=hide (row_keep (uh R2) (below_new w2 (.cells #[.int .i64 uv,.int .i64 ar,.int .i64 ek,.int .i64 en,.string es,.slice c el cp] 28)))
   have N3:=hide ((uh NN).later (below_new w2 (.cells #[.int .i64 uv,.int .i64 ar,.int .i64 ek,.int .i64 en,.string es,.slice c el cp] 28)))
   have i1:(k:Int)<11:=by omega
   have i2:¬ (11:Int)≤(k:Int):=by omega
   by_cases h0:uv=0
   ·
    have F:=hide (uh FA _ h0 (uh Q3).gr)
    clear FA F2 Q3 R3 N3 Q2 R2 S2 NN
    subst h0
    go_wp2
    exact ⟨rfl,uh F⟩
   ·
    have h1:(uv == 0)=false:=beq_eq_false_iff_ne.2 h0
    have F:=hide (fun w' h=>uh F2 w' h0 h)
    clear FA F2 Q2 R2 S2 NN
    go_wp2_with (refine wpList_store_row rfl 28 _ _ rfl w.heap.size #[.int .i64 uv,.int .i64 ar,.int .i64 ek,.int .i64 en,.string es,.slice c el cp] rfl rfl 28 _ (uh R3) szAg rfl (ag_one _ _ _ _ _ _ _ _) ?_)
    refine bodyPost_ret (results_cell_row (P:=Tryz.prog) rfl _ _ w.heap.size 28 #[.int .i64 uv,.int .i64 ar,.int .i64 ek,.int .i64 en,.string es,.slice c el cp] (0,0) _ rfl (setRow_heap _ _ _ _ _ _ (uh R3)) Tryz.underlying28 rfl szAg) rfl ?_
    exact uh F _ ((uh Q3).row (uh R3) (by decide) (by decide) (Nat.le_refl _) _) ((((uh N3).drawn (grownBy_row _) (uh NM)).new).lower (Nat.le_of_lt (uh NM)))
def NdL (w:World) (B:Nat) (x:Ln) (p:La):Prop:=∃ F1 F2 F3,OwX w x.src.e p.b1 F1∧OwX w x.dst.e p.b2 F2∧OwX w ⟨0,0,E0,x.l⟩ p.b3 F3∧(F1++(F2++F3)).Nodup∧∀ b∈F1++(F2++F3),B≤b
def VLn (B:Nat) (x:Ln) (w':World) (v:Value):Prop:=∃ p:La,v = .agg (x.cs p)∧NdL w' B x p
theorem ow_nil (w:World) (k n:Int) (s:ByteArray) (a:Option Addr):OwX w ⟨k,n,s,[]⟩ a []:=(OwX_eq _ _ _ _).2 (.inl ⟨rfl,rfl⟩)
theorem NdL.none (w:World) (B:Nat) (k:Int) (s:ByteArray) (op n:Int) (p:La):NdL w B ⟨k,s,op,a0,a0,n,[]⟩ p:=⟨[],[],[],ow_nil _ _ _ _ _,ow_nil _ _ _ _ _,ow_nil _ _ _ _ _,List.nodup_nil,fun b hb=>by simp at hb⟩
theorem NdL.lst {w:World} {B:Nat} {l:List Ex} {c:Option Addr} (h:NewX w B ⟨0,0,E0,l⟩ c) (k:Int) (s:ByteArray) (op n:Int) (b1 b2:Option Addr) (c1 c2 c3:Nat):NdL w B ⟨k,s,op,a0,a0,n,l⟩ ⟨b1,c1,b2,c2,c,c3⟩:=by
 obtain ⟨F,h1,h2,h3⟩:=h
 exact ⟨[],[],F,ow_nil _ _ _ _ _,ow_nil _ _ _ _ _,h1,by simpa using h2,fun b hb=>h3 b (by simpa using hb)⟩
theorem NdL.dst {w:World} {B:Nat} {a:Ag} {c:Option Addr} (h:NewX w B a.e c) (k:Int) (s:ByteArray) (op n:Int) (b1 b3:Option Addr) (c1 c2 c3:Nat):NdL w B ⟨k,s,op,a0,a,n,[]⟩ ⟨b1,c1,c,c2,b3,c3⟩:=by
 obtain ⟨F,h1,h2,h3⟩:=h
 exact ⟨[],F,[],ow_nil _ _ _ _ _,h1,ow_nil _ _ _ _ _,by simpa using h2,fun b hb=>h3 b (by simpa using hb)⟩
theorem NdL.two {w:World} {B C D C':Nat} {a b:Ag} {c d:Option Addr} (h:HalfX w B C a.e c) (k:HalfX w D C' b.e d) (hC:C≤D) (hB:B≤D) (kk:Int) (s:ByteArray) (op n:Int) (b3:Option Addr) (c1 c2 c3:Nat):NdL w B ⟨kk,s,op,a,b,n,[]⟩ ⟨c,c1,d,c2,b3,c3⟩:=by
 obtain ⟨F,h1,h2,h3⟩:=h
 obtain ⟨G,k1,k2,k3⟩:=k
 refine ⟨F,G,[],h1,k1,ow_nil _ _ _ _ _,?_,fun x hx=>?_⟩
 ·
  rw [List.append_nil]
  refine List.nodup_append.2 ⟨h2,k2,fun x hx y hy e=>?_⟩
  subst e
  have:=(h3 x hx).2
  have:=(k3 x hy).1
  omega
 ·
  rw [List.append_nil] at hx
  rcases List.mem_append.1 hx with hx|hx
  · exact (h3 x hx).1
  ·
   have:=(k3 x hx).1
   omega
theorem NdL.lower {w:World} {B C:Nat} {x:Ln} {p:La} (h:NdL w B x p) (hC:C≤B):NdL w C x p:=by
 obtain ⟨F1,F2,F3,h1,h2,h3,h4,h5⟩:=h
 exact ⟨F1,F2,F3,h1,h2,h3,h4,fun b hb=>Nat.le_trans hC (h5 b hb)⟩
theorem qNam_yes {s:ByteArray} {ts:List Tk} (h:seeM ts 58=true):qNam s ts=some (⟨1,s,0,a0,a0,0,[]⟩,ts.tail):=by unfold qNam;rw [if_pos h]
theorem qNam_no {s:ByteArray} {ts:List Tk} (h:seeM ts 58=false):qNam s ts=bnd (pMs (mkS 61) ts) fun _ q=>bnd (qTs (readF 6) 1 q) fun l q=>some (⟨2,s,0,a0,a0,0,l⟩,q):=by unfold qNam;rw [if_neg (by rw [h];decide)]
theorem nm_lab (s:ByteArray) (rb:Nat) (ts:List Tk) (w:World) (h:Pr w rb ts) (ht:TabP w rb) (hs:seeM ts 58=true):Calls Tryz.prog 113 #[.pointer (some ⟨rb,0,none⟩),.string s] w (PnR (qNam s ts) (VLn w.heap.size) rb w):=by
 have OE:=hide (qNam_yes (s:=s) hs)
 have FY:=hide (fun x q v w' (ho:qNam s ts=some (x,q)) (hg:w.grownBy w' (some rb)) (hv:(VLn w.heap.size) x w' v) (hz:Pr w' rb q)=>(show PnR (qNam s ts) (VLn w.heap.size) rb w (.returned v) w' from pnR_some ho rfl hg hv hz))
 generalize PnR (qNam s ts) (VLn w.heap.size) rb w=R at *
 generalize qNam s ts=O at *
 have hb0:=below_new w (.cells #[.int .i64 0,.string ⟨#[]⟩,.int .i64 0,.int .i64 0,.int .i64 0,.int .i64 0,.int .i64 0,.string ⟨#[]⟩,.slice none 0 0,.int .i64 0,.int .i64 0,.int .i64 0,.int .i64 0,.string ⟨#[]⟩,.slice none 0 0,.int .i64 0,.slice none 0 0] 30)
 have hg0:(w.alloc (.cells #[.int .i64 0,.string ⟨#[]⟩,.int .i64 0,.int .i64 0,.int .i64 0,.int .i64 0,.int .i64 0,.string ⟨#[]⟩,.slice none 0 0,.int .i64 0,.int .i64 0,.int .i64 0,.int .i64 0,.string ⟨#[]⟩,.slice none 0 0,.int .i64 0,.slice none 0 0] 30)).heap[w.heap.size]?=some (.cells #[.int .i64 0,.string ⟨#[]⟩,.int .i64 0,.int .i64 0,.int .i64 0,.int .i64 0,.int .i64 0,.string ⟨#[]⟩,.slice none 0 0,.int .i64 0,.int .i64 0,.int .i64 0,.int .i64 0,.string ⟨#[]⟩,.slice none 0 0,.int .i64 0,.slice none 0 0] 30 (0,0)):=Array.getElem?_push_size
 have hs0:w.heap.size<(w.alloc (.cells #[.int .i64 0,.string ⟨#[]⟩,.int .i64 0,.int .i64 0,.int .i64 0,.int .i64 0,.int .i64 0,.string ⟨#[]⟩,.slice none 0 0,.int .i64 0,.int .i64 0,.int .i64 0,.int .i64 0,.string ⟨#[]⟩,.slice none 0 0,.int .i64 0,.slice none 0 0] 30)).heap.size:=by simp
 obtain ⟨w0,hw0⟩:∃ w0,w.alloc (.cells #[.int .i64 0,.string ⟨#[]⟩,.int .i64 0,.int .i64 0,.int .i64 0,.int .i64 0,.int .i64 0,.string ⟨#[]⟩,.slice none 0 0,.int .i64 0,.int .i64 0,.int .i64 0,.int .i64 0,.string ⟨#[]⟩,.slice none 0 0,.int .i64 0,.slice none 0 0] 30)=w0:=⟨_,rfl⟩
 rw [hw0] at hb0 hg0 hs0
 have Q0:=hide (h.start.later hb0)
 have R0:=hide hg0
 clear h ht hb0 hg0 hs0
 go_enter Tryz.func113,Tryz.ntmps113
 have X:=hide (psI 58 (by decide) rb ts w0 (uh Q0).pr)
 unfold PsR mkS at X
 rw [hs] at X
 go_wp2_with fail
 refine (uh X).mono ?_
 rintro r w1 ⟨rfl,hz,hg⟩
 (try rw [if_pos rfl] at hz)
 have Rx1:=hide ((uh Q0).blk hg (uh R0) (Nat.le_refl _))
 have Qp1:=hide ((uh Q0).next hz hg)
 clear hg hz X R0 Q0
 have F:=hide (fun w' (h:Pq w w' rb ts.tail)=>uh FY _ _ (.agg #[.int .i64 1,.string s,.int .i64 0,.int .i64 0,.int .i64 0,.int .i64 0,.int .i64 0,.string ⟨#[]⟩,.slice none 0 0,.int .i64 0,.int .i64 0,.int .i64 0,.int .i64 0,.string ⟨#[]⟩,.slice none 0 0,.int .i64 0,.slice none 0 0]) w' (uh OE) h.gr ⟨⟨none,0,none,0,none,0⟩,rfl,NdL.none _ _ _ _ _ _ _⟩ h.pr)
 clear FY OE hs
 go_wp2_with (first|((with_reducible show wpList _ _ _ (⟨_,.store _ _ _,_,_,_,_⟩::_) _ _);refine wpList_store_row rfl 30 _ _ rfl w.heap.size #[.int .i64 1,.string s,.int .i64 0,.int .i64 0,.int .i64 0,.int .i64 0,.int .i64 0,.string ⟨#[]⟩,.slice none 0 0,.int .i64 0,.int .i64 0,.int .i64 0,.int .i64 0,.string ⟨#[]⟩,.slice none 0 0,.int .i64 0,.slice none 0 0] rfl rfl 30 _ (uh Rx1) szLn rfl (by simp [Value.oneCell']) ?_))
 refine bodyPost_ret (results_cell_row (P:=Tryz.prog) rfl _ _ w.heap.size 30 #[.int .i64 1,.string s,.int .i64 0,.int .i64 0,.int .i64 0,.int .i64 0,.int .i64 0,.string ⟨#[]⟩,.slice none 0 0,.int .i64 0,.int .i64 0,.int .i64 0,.int .i64 0,.string ⟨#[]⟩,.slice none 0 0,.int .i64 0,.slice none 0 0] (0,0) _ rfl (setRow_heap _ _ _ _ _ _ (uh Rx1)) Tryz.underlying30 rfl szLn) rfl ?_
 exact uh F _ ((uh Qp1).row (uh Rx1) (by decide) (by decide) (Nat.le_refl _) _)
theorem nm_set (s:ByteArray) (rb:Nat) (ts:List Tk) (w:World) (h:Pr w rb ts) (ht:TabP w rb) (hs:seeM ts 58=false):Calls Tryz.prog 113 #[.pointer (some ⟨rb,0,none⟩),.string s] w (PnR (qNam s ts) (VLn w.heap.size) rb w):=by
 have OE:=hide (qNam_no (s:=s) hs)
 have FN:=hide (fun w' (ho:qNam s ts=none) (hg:w.grownBy w' (some rb))=>(show PnR (qNam s ts) (VLn w.heap.size) rb w (.panicked pn) w' from pnR_none ho rfl hg))
 have FY:=hide (fun x q v w' (ho:qNam s ts=some (x,q)) (hg:w.grownBy w' (some rb)) (hv:(VLn w.heap.size) x w' v) (hz:Pr w' rb q)=>(show PnR (qNam s ts) (VLn w.heap.size) rb w (.returned v) w' from pnR_some ho rfl hg hv hz))
 generalize PnR (qNam s ts) (VLn w.heap.size) rb w=R at *
 generalize qNam s ts=O at *
 have hb0:=below_new w (.cells #[.int .i64 0,.string ⟨#[]⟩,.int .i64 0,.int .i64 0,.int .i64 0,.int .i64 0,.int .i64 0,.string ⟨#[]⟩,.slice none 0 0,.int .i64 0,.int .i64 0,.int .i64 0,.int .i64 0,.string ⟨#[]⟩,.slice none 0 0,.int .i64 0,.slice none 0 0] 30)
 have hg0:(w.alloc (.cells #[.int .i64 0,.string ⟨#[]⟩,.int .i64 0,.int .i64 0,.int .i64 0,.int .i64 0,.int .i64 0,.string ⟨#[]⟩,.slice none 0 0,.int .i64 0,.int .i64 0,.int .i64 0,.int .i64 0,.string ⟨#[]⟩,.slice none 0 0,.int .i64 0,.slice none 0 0] 30)).heap[w.heap.size]?=some (.cells #[.int .i64 0,.string ⟨#[]⟩,.int .i64 0,.int .i64 0,.int .i64 0,.int .i64 0,.int .i64 0,.string ⟨#[]⟩,.slice none 0 0,.int .i64 0,.int .i64 0,.int .i64 0,.int .i64 0,.string ⟨#[]⟩,.slice none 0 0,.int .i64 0,.slice none 0 0] 30 (0,0)):=Array.getElem?_push_size
 have hs0:w.heap.size<(w.alloc (.cells #[.int .i64 0,.string ⟨#[]⟩,.int .i64 0,.int .i64 0,.int .i64 0,.int .i64 0,.int .i64 0,.string ⟨#[]⟩,.slice none 0 0,.int .i64 0,.int .i64 0,.int .i64 0,.int .i64 0,.string ⟨#[]⟩,.slice none 0 0,.int .i64 0,.slice none 0 0] 30)).heap.size:=by simp
 obtain ⟨w0,hw0⟩:∃ w0,w.alloc (.cells #[.int .i64 0,.string ⟨#[]⟩,.int .i64 0,.int .i64 0,.int .i64 0,.int .i64 0,.int .i64 0,.string ⟨#[]⟩,.slice none 0 0,.int .i64 0,.int .i64 0,.int .i64 0,.int .i64 0,.string ⟨#[]⟩,.slice none 0 0,.int .i64 0,.slice none 0 0] 30)=w0:=⟨_,rfl⟩
 rw [hw0] at hb0 hg0 hs0
 have Q0:=hide (h.start.later hb0)
 have R0:=hide hg0
 have S0:=hide hs0
 have TB:=hide ht
 clear h ht hb0 hg0 hs0
 go_enter Tryz.func113,Tryz.ntmps113
 have X:=hide (psI 58 (by decide) rb ts w0 (uh Q0).pr)
 unfold PsR mkS at X
 rw [hs] at X
 go_wp2_with fail
 refine (uh X).mono ?_
 rintro r w1 ⟨rfl,hz,hg⟩
 (try rw [if_neg (by decide)] at hz)
 have Rx1:=hide ((uh Q0).blk hg (uh R0) (Nat.le_refl _))
 have Sx1:=hide (Nat.lt_of_lt_of_le (uh S0) (hg).size)
 have Qp1:=hide ((uh Q0).next hz hg)
 clear hg hz X R0 S0 Q0
 clear hs
 have X:=hide (markI_any (mkS 61) w1 |> fun h=>by unfold Tk.v Tk.cs at h;exact h)
 go_wp2_with fail
 refine (uh X).mono ?_
 rintro r w2 ⟨rfl,hb⟩
 have Qx2:=hide ((uh Qp1).later hb)
 have Rx2:=hide (row_keep (uh Rx1) hb)
 have Sx2:=hide (Nat.lt_of_lt_of_le (uh Sx1) (hb).size)
 clear hb X Qp1 Rx1 Sx1
 have X:=hide (wmI 61 (by decide) rb ts w2 (uh Qx2).pr)
 go_wp2_with fail
 refine (uh X).mono ?_
 rintro r w3 ⟨hg,hm⟩
 cases ho:pMs (mkS 61) ts with
 | none =>
  rw [ho] at hm
  have hr:r = .panicked pn:=hm
  subst hr
  exact ⟨rfl,uh FN _ ((uh OE).trans (bnd_no ho _)) (grownBy_trans (uh Qx2).gr hg)⟩
 | some p =>
  obtain ⟨x3,q3⟩:=p
  rw [ho] at hm
  obtain ⟨v,rfl,hv,hz⟩:=hm
  have OE3:=hide ((uh OE).trans (bnd_at ho _))
  have Rx3:=hide ((uh Qx2).blk hg (uh Rx2) (Nat.le_refl _))
  have Sx3:=hide (Nat.lt_of_lt_of_le (uh Sx2) (hg).size)
  have Qg3:=hide ((uh Qx2).next hz hg)
  unfold VUn at hv
  subst hv
  clear hg hz ho X Rx2 Sx2 Qx2 OE
  have X:=hide (exsI 0 (by omega) rb q3 w3 (uh Qg3).pr ((uh TB).grown (uh Qg3).gr))
  go_wp2_with fail
  refine (uh X).mono ?_
  rintro r w4 ⟨hg,hm⟩
  cases ho:qTs (readF 6) 1 q3 with
  | none =>
   rw [ho] at hm
   have hr:r = .panicked pn:=hm
   subst hr
   exact ⟨rfl,uh FN _ ((uh OE3).trans (bnd_no ho _)) (grownBy_trans (uh Qg3).gr hg)⟩
  | some p =>
   obtain ⟨x4,q4⟩:=p
   rw [ho] at hm
   obtain ⟨v,rfl,⟨c,cp,rfl,hn⟩,hz⟩:=hm
   have OE4:=hide ((uh OE3).trans (bnd_at ho _))
   have PM4:=hide (uh Sx3)
   have Rx4:=hide ((uh Qg3).blk hg (uh Rx3) (Nat.le_refl _))
   have Qg4:=hide ((uh Qg3).next hz hg)
   clear hg hz ho X Rx3 Sx3 Qg3 OE3
   have F:=hide (fun w' (h:Pq w w' rb q4) (hn:NewX w' w.heap.size ⟨0,0,E0,x4⟩ c)=>uh FY _ _ (.agg #[.int .i64 2,.string s,.int .i64 0,.int .i64 0,.int .i64 0,.int .i64 0,.int .i64 0,.string ⟨#[]⟩,.slice none 0 0,.int .i64 0,.int .i64 0,.int .i64 0,.int .i64 0,.string ⟨#[]⟩,.slice none 0 0,.int .i64 0,.slice c x4.length cp]) w' (uh OE4) h.gr ⟨⟨none,0,none,0,c,cp⟩,rfl,NdL.lst hn _ _ _ _ _ _ _ _ _⟩ h.pr)
   have NN:=hide (show NewX w4 (w.heap.size+1) ⟨0,0,E0,x4⟩ c from hn.lower (uh PM4))
   clear FN FY OE4 hn
   have F2:=hide (fun w' h=>uh F w' h)
   clear F
   generalize x4.length=ll at F2 ⊢
   go_wp2_with (first|((with_reducible show wpList _ _ _ (⟨_,.store _ _ _,_,_,_,_⟩::_) _ _);refine wpList_store_row rfl 30 _ _ rfl w.heap.size #[.int .i64 2,.string s,.int .i64 0,.int .i64 0,.int .i64 0,.int .i64 0,.int .i64 0,.string ⟨#[]⟩,.slice none 0 0,.int .i64 0,.int .i64 0,.int .i64 0,.int .i64 0,.string ⟨#[]⟩,.slice none 0 0,.int .i64 0,.slice c ll cp] rfl rfl 30 _ (uh Rx4) szLn rfl (by simp [Value.oneCell']) ?_))
   refine bodyPost_ret (results_cell_row (P:=Tryz.prog) rfl _ _ w.heap.size 30 #[.int .i64 2,.string s,.int .i64 0,.int .i64 0,.int .i64 0,.int .i64 0,.int .i64 0,.string ⟨#[]⟩,.slice none 0 0,.int .i64 0,.int .i64 0,.int .i64 0,.int .i64 0,.string ⟨#[]⟩,.slice none 0 0,.int .i64 0,.slice c ll cp] (0,0) _ rfl (setRow_heap _ _ _ _ _ _ (uh Rx4)) Tryz.underlying30 rfl szLn) rfl ?_
   exact uh F2 _ ((uh Qg4).row (uh Rx4) (by decide) (by decide) (Nat.le_refl _) _) (((uh NN).row _ (Nat.lt_succ_self _)).lower (Nat.le_succ _))
theorem namI (s:ByteArray) (rb:Nat) (ts:List Tk) (w:World) (h:Pr w rb ts) (ht:TabP w rb):Calls Tryz.prog 113 #[.pointer (some ⟨rb,0,none⟩),.string s] w (PnR (qNam s ts) (VLn w.heap.size) rb w):=by
 cases hs:seeM ts 58 with
 | true => exact nm_lab s rb ts w h ht hs
 | false => exact nm_set s rb ts w h ht hs
theorem ixD_0 (w:World):(Instr.index 138 (.agg dotC) (.int .i64 ((0:Nat):Int))).run Tryz.prog w = .ok (.string (dotL.getD 0 E0)) w:=by kernel_rfl
theorem ixD_1 (w:World):(Instr.index 138 (.agg dotC) (.int .i64 ((1:Nat):Int))).run Tryz.prog w = .ok (.string (dotL.getD 1 E0)) w:=by kernel_rfl
theorem ixD_2 (w:World):(Instr.index 138 (.agg dotC) (.int .i64 ((2:Nat):Int))).run Tryz.prog w = .ok (.string (dotL.getD 2 E0)) w:=by kernel_rfl
theorem ixD_3 (w:World):(Instr.index 138 (.agg dotC) (.int .i64 ((3:Nat):Int))).run Tryz.prog w = .ok (.string (dotL.getD 3 E0)) w:=by kernel_rfl
theorem ixD_4 (w:World):(Instr.index 138 (.agg dotC) (.int .i64 ((4:Nat):Int))).run Tryz.prog w = .ok (.string (dotL.getD 4 E0)) w:=by kernel_rfl
theorem ixD_5 (w:World):(Instr.index 138 (.agg dotC) (.int .i64 ((5:Nat):Int))).run Tryz.prog w = .ok (.string (dotL.getD 5 E0)) w:=by kernel_rfl
theorem ixD_6 (w:World):(Instr.index 138 (.agg dotC) (.int .i64 ((6:Nat):Int))).run Tryz.prog w = .ok (.string (dotL.getD 6 E0)) w:=by kernel_rfl
theorem ixD_7 (w:World):(Instr.index 138 (.agg dotC) (.int .i64 ((7:Nat):Int))).run Tryz.prog w = .ok (.string (dotL.getD 7 E0)) w:=by kernel_rfl
theorem ixD_8 (w:World):(Instr.index 138 (.agg dotC) (.int .i64 ((8:Nat):Int))).run Tryz.prog w = .ok (.string (dotL.getD 8 E0)) w:=by kernel_rfl
theorem ixD (k:Nat) (h:k<9) (w:World):(Instr.index 138 (.agg dotC) (.int .i64 k)).run Tryz.prog w = .ok (.string (dotL.getD k E0)) w:=by
 have hk:k=0∨k=1∨k=2∨k=3∨k=4∨k=5∨k=6∨k=7∨k=8:=by omega
 rcases hk with rfl|rfl|rfl|rfl|rfl|rfl|rfl|rfl|rfl
 · exact ixD_0 w
 · exact ixD_1 w
 · exact ixD_2 w
 · exact ixD_3 w
 · exact ixD_4 w
 · exact ixD_5 w
 · exact ixD_6 w
 · exact ixD_7 w
 · exact ixD_8 w
theorem szD9:(Tryz.prog.info? 138).map (·.size)=some dotC.size:=by kernel_rfl
def dkN (s:ByteArray):Int:=if eqS s ⟨#[46,119,111,114,100]⟩=true then 4 else if eqS s ⟨#[46,98,108,107,119]⟩=true then 5 else if eqS s ⟨#[46,115,101,99,116]⟩=true then 6 else if eqS s ⟨#[46,103,108,111,98,108]⟩=true then 7 else if eqS s ⟨#[46,101,110,100]⟩=true then 8 else 0
theorem dk_four:∀ k:Fin 4,dotL.getD k.val E0=E0:=by decide +kernel
theorem dk_five:∀ k:Fin 5,dkN (dotL.getD (k.val+4) E0)=((k.val+4:Nat):Int):=by decide +kernel
theorem dkN_at {s:ByteArray} {k:Nat} (hk:k<9) (h0:s≠E0) (h:eqS (dotL.getD k E0) s=true):dkN s=(k:Int):=by
 have e:=(eqS_iff _ _).1 h
 by_cases h4:k<4
 · exact absurd (e.symm.trans (dk_four ⟨k,h4⟩)) h0
 ·
  have:=dk_five ⟨k-4,by omega⟩
  simp only [show k-4+4=k by omega] at this
  rw [←e]
  exact this
theorem dkN_no {s:ByteArray} (h:∀ j,j<9→eqS (dotL.getD j E0) s=false):dkN s=0:=by
 have hh:∀ j,j<9→¬ eqS s (dotL.getD j E0)=true:=fun j hj e=>by
  have:=h j hj
  rw [(eqS_iff _ _).1 e,(eqS_iff _ _).2 rfl] at this
  cases this
 unfold dkN
 rw [if_neg (show ¬ eqS s ⟨#[46,119,111,114,100]⟩=true from hh 4 (by omega)),if_neg (show ¬ eqS s ⟨#[46,98,108,107,119]⟩=true from hh 5 (by omega)),if_neg (show ¬ eqS s ⟨#[46,115,101,99,116]⟩=true from hh 6 (by omega)),if_neg (show ¬ eqS s ⟨#[46,103,108,111,98,108]⟩=true from hh 7 (by omega)),if_neg (show ¬ eqS s ⟨#[46,101,110,100]⟩=true from hh 8 (by omega))]
theorem dkN_is {s:ByteArray}:dkN s=0∨(dkN s=4∧s=⟨#[46,119,111,114,100]⟩)∨(dkN s=5∧s=⟨#[46,98,108,107,119]⟩)∨(dkN s=6∧s=⟨#[46,115,101,99,116]⟩)∨(dkN s=7∧s=⟨#[46,103,108,111,98,108]⟩)∨(dkN s=8∧s=⟨#[46,101,110,100]⟩):=by
 unfold dkN
 by_cases h4:eqS s ⟨#[46,119,111,114,100]⟩=true
 · rw [if_pos h4];exact .inr (.inl ⟨rfl,(eqS_iff _ _).1 h4⟩)
 rw [if_neg h4]
 by_cases h5:eqS s ⟨#[46,98,108,107,119]⟩=true
 · rw [if_pos h5];exact .inr (.inr (.inl ⟨rfl,(eqS_iff _ _).1 h5⟩))
 rw [if_neg h5]
 by_cases h6:eqS s ⟨#[46,115,101,99,116]⟩=true
 · rw [if_pos h6];exact .inr (.inr (.inr (.inl ⟨rfl,(eqS_iff _ _).1 h6⟩)))
 rw [if_neg h6]
 by_cases h7:eqS s ⟨#[46,103,108,111,98,108]⟩=true
 · rw [if_pos h7];exact .inr (.inr (.inr (.inr (.inl ⟨rfl,(eqS_iff _ _).1 h7⟩))))
 rw [if_neg h7]
 by_cases h8:eqS s ⟨#[46,101,110,100]⟩=true
 · rw [if_pos h8];exact .inr (.inr (.inr (.inr (.inr ⟨rfl,(eqS_iff _ _).1 h8⟩))))
 · rw [if_neg h8];exact .inl rfl
theorem qDot_0 {s:ByteArray} {ts:List Tk} (h:dkN s=0):qDot s ts=none:=by
 unfold dkN at h
 unfold qDot
 by_cases h4:eqS s ⟨#[46,119,111,114,100]⟩=true
 · rw [if_pos h4] at h;cases h
 rw [if_neg h4] at h ⊢
 by_cases h5:eqS s ⟨#[46,98,108,107,119]⟩=true
 · rw [if_pos h5] at h;cases h
 rw [if_neg h5] at h ⊢
 by_cases h6:eqS s ⟨#[46,115,101,99,116]⟩=true
 · rw [if_pos h6] at h;cases h
 rw [if_neg h6] at h
 by_cases h7:eqS s ⟨#[46,103,108,111,98,108]⟩=true
 · rw [if_pos h7] at h;cases h
 rw [if_neg h7] at h ⊢
 by_cases h8:eqS s ⟨#[46,101,110,100]⟩=true
 · rw [if_pos h8] at h;cases h
 rw [if_neg h8,if_neg h6]
theorem qDot_4 {ts:List Tk}:qDot ⟨#[46,119,111,114,100]⟩ ts=bnd (qTs (readF 6) 6 ts) fun l q=>some (⟨4,⟨#[]⟩,0,a0,a0,0,l⟩,q):=by unfold qDot;rw [if_pos (eqS_self _)]
theorem qDot_5 {ts:List Tk}:qDot ⟨#[46,98,108,107,119]⟩ ts=bnd (qTs (readF 6) 1 ts) fun l q=>some (⟨5,⟨#[]⟩,0,a0,a0,0,l⟩,q):=by unfold qDot;rw [if_neg (by decide +kernel),if_pos (eqS_self _)]
theorem qDot_7 {ts:List Tk}:qDot ⟨#[46,103,108,111,98,108]⟩ ts=bnd (qTs qSy 6 ts) fun l q=>some (⟨7,⟨#[]⟩,0,a0,a0,0,l⟩,q):=by unfold qDot;rw [if_neg (by decide +kernel),if_neg (by decide +kernel),if_pos (eqS_self _)]
theorem qDot_8 {ts:List Tk}:qDot ⟨#[46,101,110,100]⟩ ts=some (⟨8,⟨#[]⟩,0,a0,a0,0,[]⟩,ts):=by unfold qDot;rw [if_neg (by decide +kernel),if_neg (by decide +kernel),if_neg (by decide +kernel),if_pos (eqS_self _)]
theorem qDot_6 {ts:List Tk}:qDot ⟨#[46,115,101,99,116]⟩ ts=bnd (qNm ts) fun x q=>if seeM q 44=true then bnd (pMs sOver q.tail) fun _ q=>some (⟨6,x,0,a0,a0,1,[]⟩,q) else some (⟨6,x,0,a0,a0,0,[]⟩,q):=by unfold qDot;rw [if_neg (by decide +kernel),if_neg (by decide +kernel),if_neg (by decide +kernel),if_neg (by decide +kernel),if_pos (eqS_self _)]
theorem dkI (s:ByteArray) (w:World) (h0:s≠E0) (ht:TabD w):Calls Tryz.prog 165 #[.string s] w fun r w'=>r = .returned (.int .i64 (dkN s))∧w'=w:=by
 obtain ⟨t1,f1,R1⟩:=ht
 have R1':=hide R1
 obtain ⟨q,hq⟩:∃ q,dkN s=q:=⟨_,rfl⟩
 have HR:=hide (fun k hk he=>(dkN_at (s:=s) (k:=k) hk h0 he).symm.trans hq)
 have HN:=hide (fun h=>(dkN_no (s:=s) h).symm.trans hq)
 rw [hq]
 clear hq R1 h0
 go_enter Tryz.func165,Tryz.ntmps165
 go_wp2_with (refine wpList_load_row rfl 138 _ rfl 1 rfl t1 dotC f1 _ (uh R1') Tryz.underlying138 rfl szD9 ?_)
 go_loop [6] (fun i=>∃ k:Nat,i = .int .i64 k∧k≤9∧Hid (∀ j,j<k→eqS (dotL.getD j E0) s=false)) (fun i=>9-(intOf i).toNat)
 case atStart=>exact ⟨0,rfl,by omega,fun j hj=>by omega⟩
 case round =>
  obtain ⟨k,rfl,hk,hd⟩:=hrel
  by_cases hlt:k<9
  ·
   have IX:=hide (ixD k hlt)
   have H1:=hide (uh HR k hlt)
   have H2:=hide (show eqS (dotL.getD k E0) s=false→∀ j,j<k+1→eqS (dotL.getD j E0) s=false from fun h j hj=>by
    by_cases e:j=k
    · subst e;exact h
    · exact hd.out j (by omega))
   generalize dotL.getD k E0=T at IX H1 H2
   clear hd HR HN
   cases hq:(T.toList == s.toList)
   ·
    have E:=hide (uh H2 hq)
    clear H1 H2
    go_wp2_with (refine wpList_index_at rfl 138 _ _ rfl _ _ _ rfl rfl (uh IX) ?_)
    go_round
    case rel=>exact ⟨k+1,by go_num,by omega,uh E⟩
    case measure=>simp [intOf];omega
   ·
    have E:=hide (uh H1 hq)
    clear H1 H2
    go_wp2_with (refine wpList_index_at rfl 138 _ _ rfl _ _ _ rfl rfl (uh IX) ?_)
    go_ret
    exact ⟨by rw [←uh E];rfl,rfl⟩
  ·
   have E:=hide (uh HN (fun j hj=>hd.out j (by omega)))
   clear hd HR HN
   go_wp2
   go_ret
   exact ⟨by rw [←uh E];rfl,rfl⟩
theorem pWn_over {ts:List Tk} (h:AllOk ts):pWn ⟨1,0,sOver⟩ ts=pMs sOver ts:=by
 cases ts with
 | nil => rfl
 | cons t r =>
  show (if (t.k == 1&&(t.n == 0&&t.s.toList == sOver.toList))=true then some ((),r) else none)=if eqS t.s sOver=true then some ((),r) else none
  by_cases he:eqS t.s sOver=true
  ·
   have e:=over_tok h.head.1 he
   rw [if_pos he,e]
   rw [if_pos (by decide +kernel)]
  ·
   rw [if_neg he,if_neg]
   intro q
   simp only [Bool.and_eq_true] at q
   exact he q.2.2
theorem wvI (rb:Nat) (ts:List Tk) (w:World) (h:Pr w rb ts):Calls Tryz.prog 159 #[.pointer (some ⟨rb,0,none⟩),.agg #[.int .i64 1,.int .i64 0,.string sOver]] w (PnR (pMs sOver ts) VUn rb w):=by
 have:=wnI ⟨1,0,sOver⟩ rb ts w h
 rw [pWn_over h.ok] at this
 exact this
theorem over_word (w:World) (ht:TabK w):Calls Tryz.prog 68 #[.string sOver] w fun e w'=>e = .returned (.agg #[.int .i64 1,.int .i64 0,.string sOver])∧Below w.heap.size w w':=by
 have:=wordI_any sOver w ht
 rw [show wordT sOver=⟨1,0,sOver⟩ by kernel_rfl] at this
 exact this
theorem dt_4 (rb:Nat) (ts:List Tk) (w:World) (h:Pr w rb ts) (ht:TabP w rb):Calls Tryz.prog 115 #[.pointer (some ⟨rb,0,none⟩),.string ⟨#[46,119,111,114,100]⟩] w (PnR (qDot ⟨#[46,119,111,114,100]⟩ ts) (VLn w.heap.size) rb w):=by
 have DK:=hide (fun w (h:TabD w)=>(show Calls Tryz.prog 165 #[.string ⟨#[46,119,111,114,100]⟩] w fun r w'=>r = .returned (.int .i64 4)∧w'=w from by have h:=dkI ⟨#[46,119,111,114,100]⟩ w (by decide +kernel) h;rw [show dkN ⟨#[46,119,111,114,100]⟩=4 by decide +kernel] at h;exact h))
 have OE:=hide (qDot_4 (ts:=ts))
 have FN:=hide (fun w' (ho:qDot ⟨#[46,119,111,114,100]⟩ ts=none) (hg:w.grownBy w' (some rb))=>(show PnR (qDot ⟨#[46,119,111,114,100]⟩ ts) (VLn w.heap.size) rb w (.panicked pn) w' from pnR_none ho rfl hg))
 have FY:=hide (fun x q v w' (ho:qDot ⟨#[46,119,111,114,100]⟩ ts=some (x,q)) (hg:w.grownBy w' (some rb)) (hv:(VLn w.heap.size) x w' v) (hz:Pr w' rb q)=>(show PnR (qDot ⟨#[46,119,111,114,100]⟩ ts) (VLn w.heap.size) rb w (.returned v) w' from pnR_some ho rfl hg hv hz))
 generalize PnR (qDot ⟨#[46,119,111,114,100]⟩ ts) (VLn w.heap.size) rb w=R at *
 generalize qDot ⟨#[46,119,111,114,100]⟩ ts=O at *
 have hb0:=below_new w (.cells #[.int .i64 0,.string ⟨#[]⟩,.int .i64 0,.int .i64 0,.int .i64 0,.int .i64 0,.int .i64 0,.string ⟨#[]⟩,.slice none 0 0,.int .i64 0,.int .i64 0,.int .i64 0,.int .i64 0,.string ⟨#[]⟩,.slice none 0 0,.int .i64 0,.slice none 0 0] 30)
 have hg0:(w.alloc (.cells #[.int .i64 0,.string ⟨#[]⟩,.int .i64 0,.int .i64 0,.int .i64 0,.int .i64 0,.int .i64 0,.string ⟨#[]⟩,.slice none 0 0,.int .i64 0,.int .i64 0,.int .i64 0,.int .i64 0,.string ⟨#[]⟩,.slice none 0 0,.int .i64 0,.slice none 0 0] 30)).heap[w.heap.size]?=some (.cells #[.int .i64 0,.string ⟨#[]⟩,.int .i64 0,.int .i64 0,.int .i64 0,.int .i64 0,.int .i64 0,.string ⟨#[]⟩,.slice none 0 0,.int .i64 0,.int .i64 0,.int .i64 0,.int .i64 0,.string ⟨#[]⟩,.slice none 0 0,.int .i64 0,.slice none 0 0] 30 (0,0)):=Array.getElem?_push_size
 have hs0:w.heap.size<(w.alloc (.cells #[.int .i64 0,.string ⟨#[]⟩,.int .i64 0,.int .i64 0,.int .i64 0,.int .i64 0,.int .i64 0,.string ⟨#[]⟩,.slice none 0 0,.int .i64 0,.int .i64 0,.int .i64 0,.int .i64 0,.string ⟨#[]⟩,.slice none 0 0,.int .i64 0,.slice none 0 0] 30)).heap.size:=by simp
 obtain ⟨w0,hw0⟩:∃ w0,w.alloc (.cells #[.int .i64 0,.string ⟨#[]⟩,.int .i64 0,.int .i64 0,.int .i64 0,.int .i64 0,.int .i64 0,.string ⟨#[]⟩,.slice none 0 0,.int .i64 0,.int .i64 0,.int .i64 0,.int .i64 0,.string ⟨#[]⟩,.slice none 0 0,.int .i64 0,.slice none 0 0] 30)=w0:=⟨_,rfl⟩
 rw [hw0] at hb0 hg0 hs0
 have Q0:=hide (h.start.later hb0)
 have R0:=hide hg0
 have S0:=hide hs0
 have TB:=hide ht
 clear h ht hb0 hg0 hs0
 go_enter Tryz.func115,Tryz.ntmps115
 have X:=hide (uh DK w0 ((uh TB).grown (uh Q0).gr).d)
 go_wp2_with fail
 refine (uh X).mono ?_
 rintro r w' ⟨rfl,hw'⟩
 rw [hw']
 clear hw' w' X
 clear DK
 have BGx:=hide (show w.heap.size≤w0.heap.size from Nat.le_of_lt (uh S0))
 have BLx:=hide (uh S0)
 have Qx1:=hide ((uh Q0).later (below_new w0 (.cells #[.int .i64 4,.string ⟨#[]⟩,.int .i64 0,.int .i64 0,.int .i64 0,.int .i64 0,.int .i64 0,.string ⟨#[]⟩,.slice none 0 0,.int .i64 0,.int .i64 0,.int .i64 0,.int .i64 0,.string ⟨#[]⟩,.slice none 0 0,.int .i64 0,.slice none 0 0] 30)))
 have Rx1:=hide (row_keep (uh R0) (below_new w0 (.cells #[.int .i64 4,.string ⟨#[]⟩,.int .i64 0,.int .i64 0,.int .i64 0,.int .i64 0,.int .i64 0,.string ⟨#[]⟩,.slice none 0 0,.int .i64 0,.int .i64 0,.int .i64 0,.int .i64 0,.string ⟨#[]⟩,.slice none 0 0,.int .i64 0,.slice none 0 0] 30)))
 have Sx1:=hide (Nat.lt_of_lt_of_le (uh S0) ((below_new w0 (.cells #[.int .i64 4,.string ⟨#[]⟩,.int .i64 0,.int .i64 0,.int .i64 0,.int .i64 0,.int .i64 0,.string ⟨#[]⟩,.slice none 0 0,.int .i64 0,.int .i64 0,.int .i64 0,.int .i64 0,.string ⟨#[]⟩,.slice none 0 0,.int .i64 0,.slice none 0 0] 30))).size)
 have Bx0:=hide (show (w0.alloc (.cells #[.int .i64 4,.string ⟨#[]⟩,.int .i64 0,.int .i64 0,.int .i64 0,.int .i64 0,.int .i64 0,.string ⟨#[]⟩,.slice none 0 0,.int .i64 0,.int .i64 0,.int .i64 0,.int .i64 0,.string ⟨#[]⟩,.slice none 0 0,.int .i64 0,.slice none 0 0] 30)).heap[w0.heap.size]?=some (.cells #[.int .i64 4,.string ⟨#[]⟩,.int .i64 0,.int .i64 0,.int .i64 0,.int .i64 0,.int .i64 0,.string ⟨#[]⟩,.slice none 0 0,.int .i64 0,.int .i64 0,.int .i64 0,.int .i64 0,.string ⟨#[]⟩,.slice none 0 0,.int .i64 0,.slice none 0 0] 30 (0,0)) from Array.getElem?_push_size)
 clear Q0 R0 S0
 have X:=hide (exsI 5 (by omega) rb ts (w0.alloc (.cells #[.int .i64 4,.string ⟨#[]⟩,.int .i64 0,.int .i64 0,.int .i64 0,.int .i64 0,.int .i64 0,.string ⟨#[]⟩,.slice none 0 0,.int .i64 0,.int .i64 0,.int .i64 0,.int .i64 0,.string ⟨#[]⟩,.slice none 0 0,.int .i64 0,.slice none 0 0] 30)) (uh Qx1).pr ((uh TB).grown (uh Qx1).gr))
 go_wp2_with fail
 generalize (w0.alloc (.cells #[.int .i64 4,.string ⟨#[]⟩,.int .i64 0,.int .i64 0,.int .i64 0,.int .i64 0,.int .i64 0,.string ⟨#[]⟩,.slice none 0 0,.int .i64 0,.int .i64 0,.int .i64 0,.int .i64 0,.string ⟨#[]⟩,.slice none 0 0,.int .i64 0,.slice none 0 0] 30))=w1 at *
 generalize w0.heap.size=gx at *
 refine (uh X).mono ?_
 rintro r w2 ⟨hg,hm⟩
 cases ho:qTs (readF 6) 6 ts with
 | none =>
  rw [ho] at hm
  have hr:r = .panicked pn:=hm
  subst hr
  exact ⟨rfl,uh FN _ ((uh OE).trans (bnd_no ho _)) (grownBy_trans (uh Qx1).gr hg)⟩
 | some p =>
  obtain ⟨x2,q2⟩:=p
  rw [ho] at hm
  obtain ⟨v,rfl,⟨c,cp,rfl,hn⟩,hz⟩:=hm
  have OE2:=hide ((uh OE).trans (bnd_at ho _))
  have PM2:=hide (uh Sx1)
  have PBx2:=hide (show gx<w1.heap.size from (Array.getElem?_eq_some_iff.1 (uh Bx0)).1)
  have Rx2:=hide ((uh Qx1).blk hg (uh Rx1) (Nat.le_refl _))
  have Bxx2:=hide ((uh Qx1).blk hg (uh Bx0) (uh BGx))
  have Qg2:=hide ((uh Qx1).next hz hg)
  clear hg hz ho X Rx1 Sx1 Bx0 Qx1 OE
  have Nt32:=hide (hn).half
  clear hn
  have FE:=hide (fun w' (h:Pq w w' rb q2) (hn:HalfX w' w1.heap.size w2.heap.size ⟨0,0,⟨#[]⟩,x2⟩ c)=>uh FY _ _ (.agg #[.int .i64 4,.string ⟨#[]⟩,.int .i64 0,.int .i64 0,.int .i64 0,.int .i64 0,.int .i64 0,.string ⟨#[]⟩,.slice none 0 0,.int .i64 0,.int .i64 0,.int .i64 0,.int .i64 0,.string ⟨#[]⟩,.slice none 0 0,.int .i64 0,.slice c x2.length cp]) w' (uh OE2) h.gr ⟨⟨none,0,none,0,c,cp⟩,rfl,NdL.lst (hn.new.lower (Nat.le_of_lt (uh PM2))) _ _ _ _ _ _ _ _ _⟩ h.pr)
  clear FY OE2 FN
  have FF:=hide (fun w' h=>uh FE w' h)
  clear FE
  generalize x2.length=ll at FF ⊢
  have Qx3:=hide ((uh Qg2).row (uh Bxx2) (by decide) (by decide) (uh BGx) #[.int .i64 4,.string ⟨#[]⟩,.int .i64 0,.int .i64 0,.int .i64 0,.int .i64 0,.int .i64 0,.string ⟨#[]⟩,.slice none 0 0,.int .i64 0,.int .i64 0,.int .i64 0,.int .i64 0,.string ⟨#[]⟩,.slice none 0 0,.int .i64 0,.slice c ll cp])
  have Rx3:=hide ((setRow_other w2 gx w.heap.size #[.int .i64 4,.string ⟨#[]⟩,.int .i64 0,.int .i64 0,.int .i64 0,.int .i64 0,.int .i64 0,.string ⟨#[]⟩,.slice none 0 0,.int .i64 0,.int .i64 0,.int .i64 0,.int .i64 0,.string ⟨#[]⟩,.slice none 0 0,.int .i64 0,.slice c ll cp] (Nat.ne_of_lt (uh BLx))).trans (uh Rx2))
  have Bxx3:=hide ((show ((w2.setRow gx #[.int .i64 4,.string ⟨#[]⟩,.int .i64 0,.int .i64 0,.int .i64 0,.int .i64 0,.int .i64 0,.string ⟨#[]⟩,.slice none 0 0,.int .i64 0,.int .i64 0,.int .i64 0,.int .i64 0,.string ⟨#[]⟩,.slice none 0 0,.int .i64 0,.slice c ll cp])).heap[gx]?=some (.cells #[.int .i64 4,.string ⟨#[]⟩,.int .i64 0,.int .i64 0,.int .i64 0,.int .i64 0,.int .i64 0,.string ⟨#[]⟩,.slice none 0 0,.int .i64 0,.int .i64 0,.int .i64 0,.int .i64 0,.string ⟨#[]⟩,.slice none 0 0,.int .i64 0,.slice c ll cp] 30 (0,0)) from setRow_heap _ _ _ _ _ _ (uh Bxx2)))
  have Nxt33:=hide ((uh Nt32).drawn (grownBy_row #[.int .i64 4,.string ⟨#[]⟩,.int .i64 0,.int .i64 0,.int .i64 0,.int .i64 0,.int .i64 0,.string ⟨#[]⟩,.slice none 0 0,.int .i64 0,.int .i64 0,.int .i64 0,.int .i64 0,.string ⟨#[]⟩,.slice none 0 0,.int .i64 0,.slice c ll cp]) (uh PBx2))
  clear Qg2 Rx2 Nt32
  go_wp2_with (first|((with_reducible show wpList _ _ _ (⟨_,.store _ _ _,_,_,_,_⟩::_) _ _);refine wpList_store_cell rfl 24 _ _ rfl gx 16 (.slice c ll cp) rfl rfl 30 #[.int .i64 4,.string ⟨#[]⟩,.int .i64 0,.int .i64 0,.int .i64 0,.int .i64 0,.int .i64 0,.string ⟨#[]⟩,.slice none 0 0,.int .i64 0,.int .i64 0,.int .i64 0,.int .i64 0,.string ⟨#[]⟩,.slice none 0 0,.int .i64 0,.slice none 0 0] #[.int .i64 4,.string ⟨#[]⟩,.int .i64 0,.int .i64 0,.int .i64 0,.int .i64 0,.int .i64 0,.string ⟨#[]⟩,.slice none 0 0,.int .i64 0,.int .i64 0,.int .i64 0,.int .i64 0,.string ⟨#[]⟩,.slice none 0 0,.int .i64 0,.slice c ll cp] (uh Bxx2) (by kernel_rfl) (by simp) rfl rfl rfl ?_)|((with_reducible show wpList _ _ _ (⟨_,.load _ _,_,_,_,_⟩::_) _ _);refine wpList_load_row rfl 30 _ rfl gx rfl 30 #[.int .i64 4,.string ⟨#[]⟩,.int .i64 0,.int .i64 0,.int .i64 0,.int .i64 0,.int .i64 0,.string ⟨#[]⟩,.slice none 0 0,.int .i64 0,.int .i64 0,.int .i64 0,.int .i64 0,.string ⟨#[]⟩,.slice none 0 0,.int .i64 0,.slice c ll cp] (0,0) _ (uh Bxx3) Tryz.underlying30 rfl (by kernel_rfl) ?_)|((with_reducible show wpList _ _ _ (⟨_,.store _ _ _,_,_,_,_⟩::_) _ _);refine wpList_store_row rfl 30 _ _ rfl w.heap.size #[.int .i64 4,.string ⟨#[]⟩,.int .i64 0,.int .i64 0,.int .i64 0,.int .i64 0,.int .i64 0,.string ⟨#[]⟩,.slice none 0 0,.int .i64 0,.int .i64 0,.int .i64 0,.int .i64 0,.string ⟨#[]⟩,.slice none 0 0,.int .i64 0,.slice c ll cp] rfl rfl 30 _ (uh Rx3) szLn rfl (by simp [Value.oneCell']) ?_))
  refine bodyPost_ret (results_cell_row (P:=Tryz.prog) rfl _ _ w.heap.size 30 #[.int .i64 4,.string ⟨#[]⟩,.int .i64 0,.int .i64 0,.int .i64 0,.int .i64 0,.int .i64 0,.string ⟨#[]⟩,.slice none 0 0,.int .i64 0,.int .i64 0,.int .i64 0,.int .i64 0,.string ⟨#[]⟩,.slice none 0 0,.int .i64 0,.slice c ll cp] (0,0) _ rfl (setRow_heap _ _ _ _ _ _ (uh Rx3)) Tryz.underlying30 rfl szLn) rfl ?_
  exact uh FF _ ((uh Qx3).row (uh Rx3) (by decide) (by decide) (Nat.le_refl _) _) ((uh Nxt33).drawn (grownBy_row _) (uh PM2))
theorem dt_5 (rb:Nat) (ts:List Tk) (w:World) (h:Pr w rb ts) (ht:TabP w rb):Calls Tryz.prog 115 #[.pointer (some ⟨rb,0,none⟩),.string ⟨#[46,98,108,107,119]⟩] w (PnR (qDot ⟨#[46,98,108,107,119]⟩ ts) (VLn w.heap.size) rb w):=by
 have DK:=hide (fun w (h:TabD w)=>(show Calls Tryz.prog 165 #[.string ⟨#[46,98,108,107,119]⟩] w fun r w'=>r = .returned (.int .i64 5)∧w'=w from by have h:=dkI ⟨#[46,98,108,107,119]⟩ w (by decide +kernel) h;rw [show dkN ⟨#[46,98,108,107,119]⟩=5 by decide +kernel] at h;exact h))
 have OE:=hide (qDot_5 (ts:=ts))
 have FN:=hide (fun w' (ho:qDot ⟨#[46,98,108,107,119]⟩ ts=none) (hg:w.grownBy w' (some rb))=>(show PnR (qDot ⟨#[46,98,108,107,119]⟩ ts) (VLn w.heap.size) rb w (.panicked pn) w' from pnR_none ho rfl hg))
 have FY:=hide (fun x q v w' (ho:qDot ⟨#[46,98,108,107,119]⟩ ts=some (x,q)) (hg:w.grownBy w' (some rb)) (hv:(VLn w.heap.size) x w' v) (hz:Pr w' rb q)=>(show PnR (qDot ⟨#[46,98,108,107,119]⟩ ts) (VLn w.heap.size) rb w (.returned v) w' from pnR_some ho rfl hg hv hz))
 generalize PnR (qDot ⟨#[46,98,108,107,119]⟩ ts) (VLn w.heap.size) rb w=R at *
 generalize qDot ⟨#[46,98,108,107,119]⟩ ts=O at *
 have hb0:=below_new w (.cells #[.int .i64 0,.string ⟨#[]⟩,.int .i64 0,.int .i64 0,.int .i64 0,.int .i64 0,.int .i64 0,.string ⟨#[]⟩,.slice none 0 0,.int .i64 0,.int .i64 0,.int .i64 0,.int .i64 0,.string ⟨#[]⟩,.slice none 0 0,.int .i64 0,.slice none 0 0] 30)
 have hg0:(w.alloc (.cells #[.int .i64 0,.string ⟨#[]⟩,.int .i64 0,.int .i64 0,.int .i64 0,.int .i64 0,.int .i64 0,.string ⟨#[]⟩,.slice none 0 0,.int .i64 0,.int .i64 0,.int .i64 0,.int .i64 0,.string ⟨#[]⟩,.slice none 0 0,.int .i64 0,.slice none 0 0] 30)).heap[w.heap.size]?=some (.cells #[.int .i64 0,.string ⟨#[]⟩,.int .i64 0,.int .i64 0,.int .i64 0,.int .i64 0,.int .i64 0,.string ⟨#[]⟩,.slice none 0 0,.int .i64 0,.int .i64 0,.int .i64 0,.int .i64 0,.string ⟨#[]⟩,.slice none 0 0,.int .i64 0,.slice none 0 0] 30 (0,0)):=Array.getElem?_push_size
 have hs0:w.heap.size<(w.alloc (.cells #[.int .i64 0,.string ⟨#[]⟩,.int .i64 0,.int .i64 0,.int .i64 0,.int .i64 0,.int .i64 0,.string ⟨#[]⟩,.slice none 0 0,.int .i64 0,.int .i64 0,.int .i64 0,.int .i64 0,.string ⟨#[]⟩,.slice none 0 0,.int .i64 0,.slice none 0 0] 30)).heap.size:=by simp
 obtain ⟨w0,hw0⟩:∃ w0,w.alloc (.cells #[.int .i64 0,.string ⟨#[]⟩,.int .i64 0,.int .i64 0,.int .i64 0,.int .i64 0,.int .i64 0,.string ⟨#[]⟩,.slice none 0 0,.int .i64 0,.int .i64 0,.int .i64 0,.int .i64 0,.string ⟨#[]⟩,.slice none 0 0,.int .i64 0,.slice none 0 0] 30)=w0:=⟨_,rfl⟩
 rw [hw0] at hb0 hg0 hs0
 have Q0:=hide (h.start.later hb0)
 have R0:=hide hg0
 have S0:=hide hs0
 have TB:=hide ht
 clear h ht hb0 hg0 hs0
 go_enter Tryz.func115,Tryz.ntmps115
 have X:=hide (uh DK w0 ((uh TB).grown (uh Q0).gr).d)
 go_wp2_with fail
 refine (uh X).mono ?_
 rintro r w' ⟨rfl,hw'⟩
 rw [hw']
 clear hw' w' X
 clear DK
 have BGx:=hide (show w.heap.size≤w0.heap.size from Nat.le_of_lt (uh S0))
 have BLx:=hide (uh S0)
 have Qx1:=hide ((uh Q0).later (below_new w0 (.cells #[.int .i64 5,.string ⟨#[]⟩,.int .i64 0,.int .i64 0,.int .i64 0,.int .i64 0,.int .i64 0,.string ⟨#[]⟩,.slice none 0 0,.int .i64 0,.int .i64 0,.int .i64 0,.int .i64 0,.string ⟨#[]⟩,.slice none 0 0,.int .i64 0,.slice none 0 0] 30)))
 have Rx1:=hide (row_keep (uh R0) (below_new w0 (.cells #[.int .i64 5,.string ⟨#[]⟩,.int .i64 0,.int .i64 0,.int .i64 0,.int .i64 0,.int .i64 0,.string ⟨#[]⟩,.slice none 0 0,.int .i64 0,.int .i64 0,.int .i64 0,.int .i64 0,.string ⟨#[]⟩,.slice none 0 0,.int .i64 0,.slice none 0 0] 30)))
 have Sx1:=hide (Nat.lt_of_lt_of_le (uh S0) ((below_new w0 (.cells #[.int .i64 5,.string ⟨#[]⟩,.int .i64 0,.int .i64 0,.int .i64 0,.int .i64 0,.int .i64 0,.string ⟨#[]⟩,.slice none 0 0,.int .i64 0,.int .i64 0,.int .i64 0,.int .i64 0,.string ⟨#[]⟩,.slice none 0 0,.int .i64 0,.slice none 0 0] 30))).size)
 have Bx0:=hide (show (w0.alloc (.cells #[.int .i64 5,.string ⟨#[]⟩,.int .i64 0,.int .i64 0,.int .i64 0,.int .i64 0,.int .i64 0,.string ⟨#[]⟩,.slice none 0 0,.int .i64 0,.int .i64 0,.int .i64 0,.int .i64 0,.string ⟨#[]⟩,.slice none 0 0,.int .i64 0,.slice none 0 0] 30)).heap[w0.heap.size]?=some (.cells #[.int .i64 5,.string ⟨#[]⟩,.int .i64 0,.int .i64 0,.int .i64 0,.int .i64 0,.int .i64 0,.string ⟨#[]⟩,.slice none 0 0,.int .i64 0,.int .i64 0,.int .i64 0,.int .i64 0,.string ⟨#[]⟩,.slice none 0 0,.int .i64 0,.slice none 0 0] 30 (0,0)) from Array.getElem?_push_size)
 clear Q0 R0 S0
 have X:=hide (exsI 0 (by omega) rb ts (w0.alloc (.cells #[.int .i64 5,.string ⟨#[]⟩,.int .i64 0,.int .i64 0,.int .i64 0,.int .i64 0,.int .i64 0,.string ⟨#[]⟩,.slice none 0 0,.int .i64 0,.int .i64 0,.int .i64 0,.int .i64 0,.string ⟨#[]⟩,.slice none 0 0,.int .i64 0,.slice none 0 0] 30)) (uh Qx1).pr ((uh TB).grown (uh Qx1).gr))
 go_wp2_with fail
 generalize (w0.alloc (.cells #[.int .i64 5,.string ⟨#[]⟩,.int .i64 0,.int .i64 0,.int .i64 0,.int .i64 0,.int .i64 0,.string ⟨#[]⟩,.slice none 0 0,.int .i64 0,.int .i64 0,.int .i64 0,.int .i64 0,.string ⟨#[]⟩,.slice none 0 0,.int .i64 0,.slice none 0 0] 30))=w1 at *
 generalize w0.heap.size=gx at *
 refine (uh X).mono ?_
 rintro r w2 ⟨hg,hm⟩
 cases ho:qTs (readF 6) 1 ts with
 | none =>
  rw [ho] at hm
  have hr:r = .panicked pn:=hm
  subst hr
  exact ⟨rfl,uh FN _ ((uh OE).trans (bnd_no ho _)) (grownBy_trans (uh Qx1).gr hg)⟩
 | some p =>
  obtain ⟨x2,q2⟩:=p
  rw [ho] at hm
  obtain ⟨v,rfl,⟨c,cp,rfl,hn⟩,hz⟩:=hm
  have OE2:=hide ((uh OE).trans (bnd_at ho _))
  have PM2:=hide (uh Sx1)
  have PBx2:=hide (show gx<w1.heap.size from (Array.getElem?_eq_some_iff.1 (uh Bx0)).1)
  have Rx2:=hide ((uh Qx1).blk hg (uh Rx1) (Nat.le_refl _))
  have Bxx2:=hide ((uh Qx1).blk hg (uh Bx0) (uh BGx))
  have Qg2:=hide ((uh Qx1).next hz hg)
  clear hg hz ho X Rx1 Sx1 Bx0 Qx1 OE
  have Nt32:=hide (hn).half
  clear hn
  have FE:=hide (fun w' (h:Pq w w' rb q2) (hn:HalfX w' w1.heap.size w2.heap.size ⟨0,0,⟨#[]⟩,x2⟩ c)=>uh FY _ _ (.agg #[.int .i64 5,.string ⟨#[]⟩,.int .i64 0,.int .i64 0,.int .i64 0,.int .i64 0,.int .i64 0,.string ⟨#[]⟩,.slice none 0 0,.int .i64 0,.int .i64 0,.int .i64 0,.int .i64 0,.string ⟨#[]⟩,.slice none 0 0,.int .i64 0,.slice c x2.length cp]) w' (uh OE2) h.gr ⟨⟨none,0,none,0,c,cp⟩,rfl,NdL.lst (hn.new.lower (Nat.le_of_lt (uh PM2))) _ _ _ _ _ _ _ _ _⟩ h.pr)
  clear FY OE2 FN
  have FF:=hide (fun w' h=>uh FE w' h)
  clear FE
  generalize x2.length=ll at FF ⊢
  have Qx3:=hide ((uh Qg2).row (uh Bxx2) (by decide) (by decide) (uh BGx) #[.int .i64 5,.string ⟨#[]⟩,.int .i64 0,.int .i64 0,.int .i64 0,.int .i64 0,.int .i64 0,.string ⟨#[]⟩,.slice none 0 0,.int .i64 0,.int .i64 0,.int .i64 0,.int .i64 0,.string ⟨#[]⟩,.slice none 0 0,.int .i64 0,.slice c ll cp])
  have Rx3:=hide ((setRow_other w2 gx w.heap.size #[.int .i64 5,.string ⟨#[]⟩,.int .i64 0,.int .i64 0,.int .i64 0,.int .i64 0,.int .i64 0,.string ⟨#[]⟩,.slice none 0 0,.int .i64 0,.int .i64 0,.int .i64 0,.int .i64 0,.string ⟨#[]⟩,.slice none 0 0,.int .i64 0,.slice c ll cp] (Nat.ne_of_lt (uh BLx))).trans (uh Rx2))
  have Bxx3:=hide ((show ((w2.setRow gx #[.int .i64 5,.string ⟨#[]⟩,.int .i64 0,.int .i64 0,.int .i64 0,.int .i64 0,.int .i64 0,.string ⟨#[]⟩,.slice none 0 0,.int .i64 0,.int .i64 0,.int .i64 0,.int .i64 0,.string ⟨#[]⟩,.slice none 0 0,.int .i64 0,.slice c ll cp])).heap[gx]?=some (.cells #[.int .i64 5,.string ⟨#[]⟩,.int .i64 0,.int .i64 0,.int .i64 0,.int .i64 0,.int .i64 0,.string ⟨#[]⟩,.slice none 0 0,.int .i64 0,.int .i64 0,.int .i64 0,.int .i64 0,.string ⟨#[]⟩,.slice none 0 0,.int .i64 0,.slice c ll cp] 30 (0,0)) from setRow_heap _ _ _ _ _ _ (uh Bxx2)))
  have Nxt33:=hide ((uh Nt32).drawn (grownBy_row #[.int .i64 5,.string ⟨#[]⟩,.int .i64 0,.int .i64 0,.int .i64 0,.int .i64 0,.int .i64 0,.string ⟨#[]⟩,.slice none 0 0,.int .i64 0,.int .i64 0,.int .i64 0,.int .i64 0,.string ⟨#[]⟩,.slice none 0 0,.int .i64 0,.slice c ll cp]) (uh PBx2))
  clear Qg2 Rx2 Nt32
  go_wp2_with (first|((with_reducible show wpList _ _ _ (⟨_,.store _ _ _,_,_,_,_⟩::_) _ _);refine wpList_store_cell rfl 24 _ _ rfl gx 16 (.slice c ll cp) rfl rfl 30 #[.int .i64 5,.string ⟨#[]⟩,.int .i64 0,.int .i64 0,.int .i64 0,.int .i64 0,.int .i64 0,.string ⟨#[]⟩,.slice none 0 0,.int .i64 0,.int .i64 0,.int .i64 0,.int .i64 0,.string ⟨#[]⟩,.slice none 0 0,.int .i64 0,.slice none 0 0] #[.int .i64 5,.string ⟨#[]⟩,.int .i64 0,.int .i64 0,.int .i64 0,.int .i64 0,.int .i64 0,.string ⟨#[]⟩,.slice none 0 0,.int .i64 0,.int .i64 0,.int .i64 0,.int .i64 0,.string ⟨#[]⟩,.slice none 0 0,.int .i64 0,.slice c ll cp] (uh Bxx2) (by kernel_rfl) (by simp) rfl rfl rfl ?_)|((with_reducible show wpList _ _ _ (⟨_,.load _ _,_,_,_,_⟩::_) _ _);refine wpList_load_row rfl 30 _ rfl gx rfl 30 #[.int .i64 5,.string ⟨#[]⟩,.int .i64 0,.int .i64 0,.int .i64 0,.int .i64 0,.int .i64 0,.string ⟨#[]⟩,.slice none 0 0,.int .i64 0,.int .i64 0,.int .i64 0,.int .i64 0,.string ⟨#[]⟩,.slice none 0 0,.int .i64 0,.slice c ll cp] (0,0) _ (uh Bxx3) Tryz.underlying30 rfl (by kernel_rfl) ?_)|((with_reducible show wpList _ _ _ (⟨_,.store _ _ _,_,_,_,_⟩::_) _ _);refine wpList_store_row rfl 30 _ _ rfl w.heap.size #[.int .i64 5,.string ⟨#[]⟩,.int .i64 0,.int .i64 0,.int .i64 0,.int .i64 0,.int .i64 0,.string ⟨#[]⟩,.slice none 0 0,.int .i64 0,.int .i64 0,.int .i64 0,.int .i64 0,.string ⟨#[]⟩,.slice none 0 0,.int .i64 0,.slice c ll cp] rfl rfl 30 _ (uh Rx3) szLn rfl (by simp [Value.oneCell']) ?_))
  refine bodyPost_ret (results_cell_row (P:=Tryz.prog) rfl _ _ w.heap.size 30 #[.int .i64 5,.string ⟨#[]⟩,.int .i64 0,.int .i64 0,.int .i64 0,.int .i64 0,.int .i64 0,.string ⟨#[]⟩,.slice none 0 0,.int .i64 0,.int .i64 0,.int .i64 0,.int .i64 0,.string ⟨#[]⟩,.slice none 0 0,.int .i64 0,.slice c ll cp] (0,0) _ rfl (setRow_heap _ _ _ _ _ _ (uh Rx3)) Tryz.underlying30 rfl szLn) rfl ?_
  exact uh FF _ ((uh Qx3).row (uh Rx3) (by decide) (by decide) (Nat.le_refl _) _) ((uh Nxt33).drawn (grownBy_row _) (uh PM2))
theorem dt_8 (rb:Nat) (ts:List Tk) (w:World) (h:Pr w rb ts) (ht:TabP w rb):Calls Tryz.prog 115 #[.pointer (some ⟨rb,0,none⟩),.string ⟨#[46,101,110,100]⟩] w (PnR (qDot ⟨#[46,101,110,100]⟩ ts) (VLn w.heap.size) rb w):=by
 have DK:=hide (fun w (h:TabD w)=>(show Calls Tryz.prog 165 #[.string ⟨#[46,101,110,100]⟩] w fun r w'=>r = .returned (.int .i64 8)∧w'=w from by have h:=dkI ⟨#[46,101,110,100]⟩ w (by decide +kernel) h;rw [show dkN ⟨#[46,101,110,100]⟩=8 by decide +kernel] at h;exact h))
 have OE:=hide (qDot_8 (ts:=ts))
 have FY:=hide (fun x q v w' (ho:qDot ⟨#[46,101,110,100]⟩ ts=some (x,q)) (hg:w.grownBy w' (some rb)) (hv:(VLn w.heap.size) x w' v) (hz:Pr w' rb q)=>(show PnR (qDot ⟨#[46,101,110,100]⟩ ts) (VLn w.heap.size) rb w (.returned v) w' from pnR_some ho rfl hg hv hz))
 generalize PnR (qDot ⟨#[46,101,110,100]⟩ ts) (VLn w.heap.size) rb w=R at *
 generalize qDot ⟨#[46,101,110,100]⟩ ts=O at *
 have hb0:=below_new w (.cells #[.int .i64 0,.string ⟨#[]⟩,.int .i64 0,.int .i64 0,.int .i64 0,.int .i64 0,.int .i64 0,.string ⟨#[]⟩,.slice none 0 0,.int .i64 0,.int .i64 0,.int .i64 0,.int .i64 0,.string ⟨#[]⟩,.slice none 0 0,.int .i64 0,.slice none 0 0] 30)
 have hg0:(w.alloc (.cells #[.int .i64 0,.string ⟨#[]⟩,.int .i64 0,.int .i64 0,.int .i64 0,.int .i64 0,.int .i64 0,.string ⟨#[]⟩,.slice none 0 0,.int .i64 0,.int .i64 0,.int .i64 0,.int .i64 0,.string ⟨#[]⟩,.slice none 0 0,.int .i64 0,.slice none 0 0] 30)).heap[w.heap.size]?=some (.cells #[.int .i64 0,.string ⟨#[]⟩,.int .i64 0,.int .i64 0,.int .i64 0,.int .i64 0,.int .i64 0,.string ⟨#[]⟩,.slice none 0 0,.int .i64 0,.int .i64 0,.int .i64 0,.int .i64 0,.string ⟨#[]⟩,.slice none 0 0,.int .i64 0,.slice none 0 0] 30 (0,0)):=Array.getElem?_push_size
 have hs0:w.heap.size<(w.alloc (.cells #[.int .i64 0,.string ⟨#[]⟩,.int .i64 0,.int .i64 0,.int .i64 0,.int .i64 0,.int .i64 0,.string ⟨#[]⟩,.slice none 0 0,.int .i64 0,.int .i64 0,.int .i64 0,.int .i64 0,.string ⟨#[]⟩,.slice none 0 0,.int .i64 0,.slice none 0 0] 30)).heap.size:=by simp
 obtain ⟨w0,hw0⟩:∃ w0,w.alloc (.cells #[.int .i64 0,.string ⟨#[]⟩,.int .i64 0,.int .i64 0,.int .i64 0,.int .i64 0,.int .i64 0,.string ⟨#[]⟩,.slice none 0 0,.int .i64 0,.int .i64 0,.int .i64 0,.int .i64 0,.string ⟨#[]⟩,.slice none 0 0,.int .i64 0,.slice none 0 0] 30)=w0:=⟨_,rfl⟩
 rw [hw0] at hb0 hg0 hs0
 have Q0:=hide (h.start.later hb0)
 have R0:=hide hg0
 have TB:=hide ht
 clear h ht hb0 hg0 hs0
 go_enter Tryz.func115,Tryz.ntmps115
 have X:=hide (uh DK w0 ((uh TB).grown (uh Q0).gr).d)
 go_wp2_with fail
 refine (uh X).mono ?_
 rintro r w' ⟨rfl,hw'⟩
 rw [hw']
 clear hw' w' X
 clear DK
 have Qx1:=hide ((uh Q0).later (below_new w0 (.cells #[.int .i64 8,.string ⟨#[]⟩,.int .i64 0,.int .i64 0,.int .i64 0,.int .i64 0,.int .i64 0,.string ⟨#[]⟩,.slice none 0 0,.int .i64 0,.int .i64 0,.int .i64 0,.int .i64 0,.string ⟨#[]⟩,.slice none 0 0,.int .i64 0,.slice none 0 0] 30)))
 have Rx1:=hide (row_keep (uh R0) (below_new w0 (.cells #[.int .i64 8,.string ⟨#[]⟩,.int .i64 0,.int .i64 0,.int .i64 0,.int .i64 0,.int .i64 0,.string ⟨#[]⟩,.slice none 0 0,.int .i64 0,.int .i64 0,.int .i64 0,.int .i64 0,.string ⟨#[]⟩,.slice none 0 0,.int .i64 0,.slice none 0 0] 30)))
 have Bx0:=hide (show (w0.alloc (.cells #[.int .i64 8,.string ⟨#[]⟩,.int .i64 0,.int .i64 0,.int .i64 0,.int .i64 0,.int .i64 0,.string ⟨#[]⟩,.slice none 0 0,.int .i64 0,.int .i64 0,.int .i64 0,.int .i64 0,.string ⟨#[]⟩,.slice none 0 0,.int .i64 0,.slice none 0 0] 30)).heap[w0.heap.size]?=some (.cells #[.int .i64 8,.string ⟨#[]⟩,.int .i64 0,.int .i64 0,.int .i64 0,.int .i64 0,.int .i64 0,.string ⟨#[]⟩,.slice none 0 0,.int .i64 0,.int .i64 0,.int .i64 0,.int .i64 0,.string ⟨#[]⟩,.slice none 0 0,.int .i64 0,.slice none 0 0] 30 (0,0)) from Array.getElem?_push_size)
 clear Q0 R0
 have F:=hide (fun w' (h:Pq w w' rb ts)=>uh FY _ _ (.agg #[.int .i64 8,.string ⟨#[]⟩,.int .i64 0,.int .i64 0,.int .i64 0,.int .i64 0,.int .i64 0,.string ⟨#[]⟩,.slice none 0 0,.int .i64 0,.int .i64 0,.int .i64 0,.int .i64 0,.string ⟨#[]⟩,.slice none 0 0,.int .i64 0,.slice none 0 0]) w' (uh OE) h.gr ⟨⟨none,0,none,0,none,0⟩,rfl,NdL.none _ _ _ _ _ _ _⟩ h.pr)
 clear FY OE
 go_wp2_with (first|((with_reducible show wpList _ _ _ (⟨_,.load _ _,_,_,_,_⟩::_) _ _);refine wpList_load_row rfl 30 _ rfl w0.heap.size rfl 30 #[.int .i64 8,.string ⟨#[]⟩,.int .i64 0,.int .i64 0,.int .i64 0,.int .i64 0,.int .i64 0,.string ⟨#[]⟩,.slice none 0 0,.int .i64 0,.int .i64 0,.int .i64 0,.int .i64 0,.string ⟨#[]⟩,.slice none 0 0,.int .i64 0,.slice none 0 0] (0,0) _ (uh Bx0) Tryz.underlying30 rfl (by kernel_rfl) ?_)|((with_reducible show wpList _ _ _ (⟨_,.store _ _ _,_,_,_,_⟩::_) _ _);refine wpList_store_row rfl 30 _ _ rfl w.heap.size #[.int .i64 8,.string ⟨#[]⟩,.int .i64 0,.int .i64 0,.int .i64 0,.int .i64 0,.int .i64 0,.string ⟨#[]⟩,.slice none 0 0,.int .i64 0,.int .i64 0,.int .i64 0,.int .i64 0,.string ⟨#[]⟩,.slice none 0 0,.int .i64 0,.slice none 0 0] rfl rfl 30 _ (uh Rx1) szLn rfl (by simp [Value.oneCell']) ?_))
 refine bodyPost_ret (results_cell_row (P:=Tryz.prog) rfl _ _ w.heap.size 30 #[.int .i64 8,.string ⟨#[]⟩,.int .i64 0,.int .i64 0,.int .i64 0,.int .i64 0,.int .i64 0,.string ⟨#[]⟩,.slice none 0 0,.int .i64 0,.int .i64 0,.int .i64 0,.int .i64 0,.string ⟨#[]⟩,.slice none 0 0,.int .i64 0,.slice none 0 0] (0,0) _ rfl (setRow_heap _ _ _ _ _ _ (uh Rx1)) Tryz.underlying30 rfl szLn) rfl ?_
 exact uh F _ ((uh Qx1).row (uh Rx1) (by decide) (by decide) (Nat.le_refl _) _)
theorem dt_7 (rb:Nat) (ts:List Tk) (w:World) (h:Pr w rb ts) (ht:TabP w rb):Calls Tryz.prog 115 #[.pointer (some ⟨rb,0,none⟩),.string ⟨#[46,103,108,111,98,108]⟩] w (PnR (qDot ⟨#[46,103,108,111,98,108]⟩ ts) (VLn w.heap.size) rb w):=by
 have DK:=hide (fun w (h:TabD w)=>(show Calls Tryz.prog 165 #[.string ⟨#[46,103,108,111,98,108]⟩] w fun r w'=>r = .returned (.int .i64 7)∧w'=w from by have h:=dkI ⟨#[46,103,108,111,98,108]⟩ w (by decide +kernel) h;rw [show dkN ⟨#[46,103,108,111,98,108]⟩=7 by decide +kernel] at h;exact h))
 have OE:=hide (qDot_7 (ts:=ts))
 have FN:=hide (fun w' (ho:qDot ⟨#[46,103,108,111,98,108]⟩ ts=none) (hg:w.grownBy w' (some rb))=>(show PnR (qDot ⟨#[46,103,108,111,98,108]⟩ ts) (VLn w.heap.size) rb w (.panicked pn) w' from pnR_none ho rfl hg))
 have FY:=hide (fun x q v w' (ho:qDot ⟨#[46,103,108,111,98,108]⟩ ts=some (x,q)) (hg:w.grownBy w' (some rb)) (hv:(VLn w.heap.size) x w' v) (hz:Pr w' rb q)=>(show PnR (qDot ⟨#[46,103,108,111,98,108]⟩ ts) (VLn w.heap.size) rb w (.returned v) w' from pnR_some ho rfl hg hv hz))
 generalize PnR (qDot ⟨#[46,103,108,111,98,108]⟩ ts) (VLn w.heap.size) rb w=R at *
 generalize qDot ⟨#[46,103,108,111,98,108]⟩ ts=O at *
 have hb0:=below_new w (.cells #[.int .i64 0,.string ⟨#[]⟩,.int .i64 0,.int .i64 0,.int .i64 0,.int .i64 0,.int .i64 0,.string ⟨#[]⟩,.slice none 0 0,.int .i64 0,.int .i64 0,.int .i64 0,.int .i64 0,.string ⟨#[]⟩,.slice none 0 0,.int .i64 0,.slice none 0 0] 30)
 have hg0:(w.alloc (.cells #[.int .i64 0,.string ⟨#[]⟩,.int .i64 0,.int .i64 0,.int .i64 0,.int .i64 0,.int .i64 0,.string ⟨#[]⟩,.slice none 0 0,.int .i64 0,.int .i64 0,.int .i64 0,.int .i64 0,.string ⟨#[]⟩,.slice none 0 0,.int .i64 0,.slice none 0 0] 30)).heap[w.heap.size]?=some (.cells #[.int .i64 0,.string ⟨#[]⟩,.int .i64 0,.int .i64 0,.int .i64 0,.int .i64 0,.int .i64 0,.string ⟨#[]⟩,.slice none 0 0,.int .i64 0,.int .i64 0,.int .i64 0,.int .i64 0,.string ⟨#[]⟩,.slice none 0 0,.int .i64 0,.slice none 0 0] 30 (0,0)):=Array.getElem?_push_size
 have hs0:w.heap.size<(w.alloc (.cells #[.int .i64 0,.string ⟨#[]⟩,.int .i64 0,.int .i64 0,.int .i64 0,.int .i64 0,.int .i64 0,.string ⟨#[]⟩,.slice none 0 0,.int .i64 0,.int .i64 0,.int .i64 0,.int .i64 0,.string ⟨#[]⟩,.slice none 0 0,.int .i64 0,.slice none 0 0] 30)).heap.size:=by simp
 obtain ⟨w0,hw0⟩:∃ w0,w.alloc (.cells #[.int .i64 0,.string ⟨#[]⟩,.int .i64 0,.int .i64 0,.int .i64 0,.int .i64 0,.int .i64 0,.string ⟨#[]⟩,.slice none 0 0,.int .i64 0,.int .i64 0,.int .i64 0,.int .i64 0,.string ⟨#[]⟩,.slice none 0 0,.int .i64 0,.slice none 0 0] 30)=w0:=⟨_,rfl⟩
 rw [hw0] at hb0 hg0 hs0
 have Q0:=hide (h.start.later hb0)
 have R0:=hide hg0
 have S0:=hide hs0
 have TB:=hide ht
 clear h ht hb0 hg0 hs0
 go_enter Tryz.func115,Tryz.ntmps115
 have X:=hide (uh DK w0 ((uh TB).grown (uh Q0).gr).d)
 go_wp2_with fail
 refine (uh X).mono ?_
 rintro r w' ⟨rfl,hw'⟩
 rw [hw']
 clear hw' w' X
 clear DK
 have BGx:=hide (show w.heap.size≤w0.heap.size from Nat.le_of_lt (uh S0))
 have BLx:=hide (uh S0)
 have Qx1:=hide ((uh Q0).later (below_new w0 (.cells #[.int .i64 7,.string ⟨#[]⟩,.int .i64 0,.int .i64 0,.int .i64 0,.int .i64 0,.int .i64 0,.string ⟨#[]⟩,.slice none 0 0,.int .i64 0,.int .i64 0,.int .i64 0,.int .i64 0,.string ⟨#[]⟩,.slice none 0 0,.int .i64 0,.slice none 0 0] 30)))
 have Rx1:=hide (row_keep (uh R0) (below_new w0 (.cells #[.int .i64 7,.string ⟨#[]⟩,.int .i64 0,.int .i64 0,.int .i64 0,.int .i64 0,.int .i64 0,.string ⟨#[]⟩,.slice none 0 0,.int .i64 0,.int .i64 0,.int .i64 0,.int .i64 0,.string ⟨#[]⟩,.slice none 0 0,.int .i64 0,.slice none 0 0] 30)))
 have Sx1:=hide (Nat.lt_of_lt_of_le (uh S0) ((below_new w0 (.cells #[.int .i64 7,.string ⟨#[]⟩,.int .i64 0,.int .i64 0,.int .i64 0,.int .i64 0,.int .i64 0,.string ⟨#[]⟩,.slice none 0 0,.int .i64 0,.int .i64 0,.int .i64 0,.int .i64 0,.string ⟨#[]⟩,.slice none 0 0,.int .i64 0,.slice none 0 0] 30))).size)
 have Bx0:=hide (show (w0.alloc (.cells #[.int .i64 7,.string ⟨#[]⟩,.int .i64 0,.int .i64 0,.int .i64 0,.int .i64 0,.int .i64 0,.string ⟨#[]⟩,.slice none 0 0,.int .i64 0,.int .i64 0,.int .i64 0,.int .i64 0,.string ⟨#[]⟩,.slice none 0 0,.int .i64 0,.slice none 0 0] 30)).heap[w0.heap.size]?=some (.cells #[.int .i64 7,.string ⟨#[]⟩,.int .i64 0,.int .i64 0,.int .i64 0,.int .i64 0,.int .i64 0,.string ⟨#[]⟩,.slice none 0 0,.int .i64 0,.int .i64 0,.int .i64 0,.int .i64 0,.string ⟨#[]⟩,.slice none 0 0,.int .i64 0,.slice none 0 0] 30 (0,0)) from Array.getElem?_push_size)
 clear Q0 R0 S0
 have X:=hide (sysI 5 (by omega) rb ts (w0.alloc (.cells #[.int .i64 7,.string ⟨#[]⟩,.int .i64 0,.int .i64 0,.int .i64 0,.int .i64 0,.int .i64 0,.string ⟨#[]⟩,.slice none 0 0,.int .i64 0,.int .i64 0,.int .i64 0,.int .i64 0,.string ⟨#[]⟩,.slice none 0 0,.int .i64 0,.slice none 0 0] 30)) (uh Qx1).pr ((uh TB).grown (uh Qx1).gr))
 go_wp2_with fail
 generalize (w0.alloc (.cells #[.int .i64 7,.string ⟨#[]⟩,.int .i64 0,.int .i64 0,.int .i64 0,.int .i64 0,.int .i64 0,.string ⟨#[]⟩,.slice none 0 0,.int .i64 0,.int .i64 0,.int .i64 0,.int .i64 0,.string ⟨#[]⟩,.slice none 0 0,.int .i64 0,.slice none 0 0] 30))=w1 at *
 generalize w0.heap.size=gx at *
 refine (uh X).mono ?_
 rintro r w2 ⟨hg,hm⟩
 cases ho:qTs (qSy) 6 ts with
 | none =>
  rw [ho] at hm
  have hr:r = .panicked pn:=hm
  subst hr
  exact ⟨rfl,uh FN _ ((uh OE).trans (bnd_no ho _)) (grownBy_trans (uh Qx1).gr hg)⟩
 | some p =>
  obtain ⟨x2,q2⟩:=p
  rw [ho] at hm
  obtain ⟨v,rfl,⟨c,cp,rfl,hn⟩,hz⟩:=hm
  have OE2:=hide ((uh OE).trans (bnd_at ho _))
  have PM2:=hide (uh Sx1)
  have PBx2:=hide (show gx<w1.heap.size from (Array.getElem?_eq_some_iff.1 (uh Bx0)).1)
  have Rx2:=hide ((uh Qx1).blk hg (uh Rx1) (Nat.le_refl _))
  have Bxx2:=hide ((uh Qx1).blk hg (uh Bx0) (uh BGx))
  have Qg2:=hide ((uh Qx1).next hz hg)
  clear hg hz ho X Rx1 Sx1 Bx0 Qx1 OE
  have Nt32:=hide (hn).half
  clear hn
  have FE:=hide (fun w' (h:Pq w w' rb q2) (hn:HalfX w' w1.heap.size w2.heap.size ⟨0,0,⟨#[]⟩,x2⟩ c)=>uh FY _ _ (.agg #[.int .i64 7,.string ⟨#[]⟩,.int .i64 0,.int .i64 0,.int .i64 0,.int .i64 0,.int .i64 0,.string ⟨#[]⟩,.slice none 0 0,.int .i64 0,.int .i64 0,.int .i64 0,.int .i64 0,.string ⟨#[]⟩,.slice none 0 0,.int .i64 0,.slice c x2.length cp]) w' (uh OE2) h.gr ⟨⟨none,0,none,0,c,cp⟩,rfl,NdL.lst (hn.new.lower (Nat.le_of_lt (uh PM2))) _ _ _ _ _ _ _ _ _⟩ h.pr)
  clear FY OE2 FN
  have FF:=hide (fun w' h=>uh FE w' h)
  clear FE
  generalize x2.length=ll at FF ⊢
  have Qx3:=hide ((uh Qg2).row (uh Bxx2) (by decide) (by decide) (uh BGx) #[.int .i64 7,.string ⟨#[]⟩,.int .i64 0,.int .i64 0,.int .i64 0,.int .i64 0,.int .i64 0,.string ⟨#[]⟩,.slice none 0 0,.int .i64 0,.int .i64 0,.int .i64 0,.int .i64 0,.string ⟨#[]⟩,.slice none 0 0,.int .i64 0,.slice c ll cp])
  have Rx3:=hide ((setRow_other w2 gx w.heap.size #[.int .i64 7,.string ⟨#[]⟩,.int .i64 0,.int .i64 0,.int .i64 0,.int .i64 0,.int .i64 0,.string ⟨#[]⟩,.slice none 0 0,.int .i64 0,.int .i64 0,.int .i64 0,.int .i64 0,.string ⟨#[]⟩,.slice none 0 0,.int .i64 0,.slice c ll cp] (Nat.ne_of_lt (uh BLx))).trans (uh Rx2))
  have Bxx3:=hide ((show ((w2.setRow gx #[.int .i64 7,.string ⟨#[]⟩,.int .i64 0,.int .i64 0,.int .i64 0,.int .i64 0,.int .i64 0,.string ⟨#[]⟩,.slice none 0 0,.int .i64 0,.int .i64 0,.int .i64 0,.int .i64 0,.string ⟨#[]⟩,.slice none 0 0,.int .i64 0,.slice c ll cp])).heap[gx]?=some (.cells #[.int .i64 7,.string ⟨#[]⟩,.int .i64 0,.int .i64 0,.int .i64 0,.int .i64 0,.int .i64 0,.string ⟨#[]⟩,.slice none 0 0,.int .i64 0,.int .i64 0,.int .i64 0,.int .i64 0,.string ⟨#[]⟩,.slice none 0 0,.int .i64 0,.slice c ll cp] 30 (0,0)) from setRow_heap _ _ _ _ _ _ (uh Bxx2)))
  have Nxt33:=hide ((uh Nt32).drawn (grownBy_row #[.int .i64 7,.string ⟨#[]⟩,.int .i64 0,.int .i64 0,.int .i64 0,.int .i64 0,.int .i64 0,.string ⟨#[]⟩,.slice none 0 0,.int .i64 0,.int .i64 0,.int .i64 0,.int .i64 0,.string ⟨#[]⟩,.slice none 0 0,.int .i64 0,.slice c ll cp]) (uh PBx2))
  clear Qg2 Rx2 Nt32
  go_wp2_with (first|((with_reducible show wpList _ _ _ (⟨_,.store _ _ _,_,_,_,_⟩::_) _ _);refine wpList_store_cell rfl 24 _ _ rfl gx 16 (.slice c ll cp) rfl rfl 30 #[.int .i64 7,.string ⟨#[]⟩,.int .i64 0,.int .i64 0,.int .i64 0,.int .i64 0,.int .i64 0,.string ⟨#[]⟩,.slice none 0 0,.int .i64 0,.int .i64 0,.int .i64 0,.int .i64 0,.string ⟨#[]⟩,.slice none 0 0,.int .i64 0,.slice none 0 0] #[.int .i64 7,.string ⟨#[]⟩,.int .i64 0,.int .i64 0,.int .i64 0,.int .i64 0,.int .i64 0,.string ⟨#[]⟩,.slice none 0 0,.int .i64 0,.int .i64 0,.int .i64 0,.int .i64 0,.string ⟨#[]⟩,.slice none 0 0,.int .i64 0,.slice c ll cp] (uh Bxx2) (by kernel_rfl) (by simp) rfl rfl rfl ?_)|((with_reducible show wpList _ _ _ (⟨_,.load _ _,_,_,_,_⟩::_) _ _);refine wpList_load_row rfl 30 _ rfl gx rfl 30 #[.int .i64 7,.string ⟨#[]⟩,.int .i64 0,.int .i64 0,.int .i64 0,.int .i64 0,.int .i64 0,.string ⟨#[]⟩,.slice none 0 0,.int .i64 0,.int .i64 0,.int .i64 0,.int .i64 0,.string ⟨#[]⟩,.slice none 0 0,.int .i64 0,.slice c ll cp] (0,0) _ (uh Bxx3) Tryz.underlying30 rfl (by kernel_rfl) ?_)|((with_reducible show wpList _ _ _ (⟨_,.store _ _ _,_,_,_,_⟩::_) _ _);refine wpList_store_row rfl 30 _ _ rfl w.heap.size #[.int .i64 7,.string ⟨#[]⟩,.int .i64 0,.int .i64 0,.int .i64 0,.int .i64 0,.int .i64 0,.string ⟨#[]⟩,.slice none 0 0,.int .i64 0,.int .i64 0,.int .i64 0,.int .i64 0,.string ⟨#[]⟩,.slice none 0 0,.int .i64 0,.slice c ll cp] rfl rfl 30 _ (uh Rx3) szLn rfl (by simp [Value.oneCell']) ?_))
  refine bodyPost_ret (results_cell_row (P:=Tryz.prog) rfl _ _ w.heap.size 30 #[.int .i64 7,.string ⟨#[]⟩,.int .i64 0,.int .i64 0,.int .i64 0,.int .i64 0,.int .i64 0,.string ⟨#[]⟩,.slice none 0 0,.int .i64 0,.int .i64 0,.int .i64 0,.int .i64 0,.string ⟨#[]⟩,.slice none 0 0,.int .i64 0,.slice c ll cp] (0,0) _ rfl (setRow_heap _ _ _ _ _ _ (uh Rx3)) Tryz.underlying30 rfl szLn) rfl ?_
  exact uh FF _ ((uh Qx3).row (uh Rx3) (by decide) (by decide) (Nat.le_refl _) _) ((uh Nxt33).drawn (grownBy_row _) (uh PM2))
theorem dt_0 (s:ByteArray) (h0:s≠E0) (hk:dkN s=0) (rb:Nat) (ts:List Tk) (w:World) (h:Pr w rb ts) (ht:TabP w rb):Calls Tryz.prog 115 #[.pointer (some ⟨rb,0,none⟩),.string s] w (PnR (qDot s ts) (VLn w.heap.size) rb w):=by
 have DK:=hide (fun w (h:TabD w)=>(show Calls Tryz.prog 165 #[.string s] w fun r w'=>r = .returned (.int .i64 0)∧w'=w from by have h:=dkI s w h0 h;rw [hk] at h;exact h))
 have OE:=hide (qDot_0 (s:=s) (ts:=ts) hk)
 have FN:=hide (fun w' (ho:qDot s ts=none) (hg:w.grownBy w' (some rb))=>(show PnR (qDot s ts) (VLn w.heap.size) rb w (.panicked pn) w' from pnR_none ho rfl hg))
 generalize PnR (qDot s ts) (VLn w.heap.size) rb w=R at *
 generalize qDot s ts=O at *
 have hb0:=below_new w (.cells #[.int .i64 0,.string ⟨#[]⟩,.int .i64 0,.int .i64 0,.int .i64 0,.int .i64 0,.int .i64 0,.string ⟨#[]⟩,.slice none 0 0,.int .i64 0,.int .i64 0,.int .i64 0,.int .i64 0,.string ⟨#[]⟩,.slice none 0 0,.int .i64 0,.slice none 0 0] 30)
 have hg0:(w.alloc (.cells #[.int .i64 0,.string ⟨#[]⟩,.int .i64 0,.int .i64 0,.int .i64 0,.int .i64 0,.int .i64 0,.string ⟨#[]⟩,.slice none 0 0,.int .i64 0,.int .i64 0,.int .i64 0,.int .i64 0,.string ⟨#[]⟩,.slice none 0 0,.int .i64 0,.slice none 0 0] 30)).heap[w.heap.size]?=some (.cells #[.int .i64 0,.string ⟨#[]⟩,.int .i64 0,.int .i64 0,.int .i64 0,.int .i64 0,.int .i64 0,.string ⟨#[]⟩,.slice none 0 0,.int .i64 0,.int .i64 0,.int .i64 0,.int .i64 0,.string ⟨#[]⟩,.slice none 0 0,.int .i64 0,.slice none 0 0] 30 (0,0)):=Array.getElem?_push_size
 have hs0:w.heap.size<(w.alloc (.cells #[.int .i64 0,.string ⟨#[]⟩,.int .i64 0,.int .i64 0,.int .i64 0,.int .i64 0,.int .i64 0,.string ⟨#[]⟩,.slice none 0 0,.int .i64 0,.int .i64 0,.int .i64 0,.int .i64 0,.string ⟨#[]⟩,.slice none 0 0,.int .i64 0,.slice none 0 0] 30)).heap.size:=by simp
 obtain ⟨w0,hw0⟩:∃ w0,w.alloc (.cells #[.int .i64 0,.string ⟨#[]⟩,.int .i64 0,.int .i64 0,.int .i64 0,.int .i64 0,.int .i64 0,.string ⟨#[]⟩,.slice none 0 0,.int .i64 0,.int .i64 0,.int .i64 0,.int .i64 0,.string ⟨#[]⟩,.slice none 0 0,.int .i64 0,.slice none 0 0] 30)=w0:=⟨_,rfl⟩
 rw [hw0] at hb0 hg0 hs0
 have Q0:=hide (h.start.later hb0)
 have TB:=hide ht
 clear h ht hb0 hg0 hs0
 go_enter Tryz.func115,Tryz.ntmps115
 have X:=hide (uh DK w0 ((uh TB).grown (uh Q0).gr).d)
 go_wp2_with fail
 refine (uh X).mono ?_
 rintro r w' ⟨rfl,hw'⟩
 rw [hw']
 clear hw' w' X
 clear DK
 have Qx1:=hide ((uh Q0).later (below_new w0 (.cells #[.int .i64 0,.string ⟨#[]⟩,.int .i64 0,.int .i64 0,.int .i64 0,.int .i64 0,.int .i64 0,.string ⟨#[]⟩,.slice none 0 0,.int .i64 0,.int .i64 0,.int .i64 0,.int .i64 0,.string ⟨#[]⟩,.slice none 0 0,.int .i64 0,.slice none 0 0] 30)))
 clear Q0
 have F:=hide (fun w' hg=>uh FN w' (uh OE) hg)
 clear FN OE hk h0
 go_wp2
 exact ⟨rfl,uh F _ (uh Qx1).gr⟩
theorem dt_6 (rb:Nat) (ts:List Tk) (w:World) (h:Pr w rb ts) (ht:TabP w rb):Calls Tryz.prog 115 #[.pointer (some ⟨rb,0,none⟩),.string ⟨#[46,115,101,99,116]⟩] w (PnR (qDot ⟨#[46,115,101,99,116]⟩ ts) (VLn w.heap.size) rb w):=by
 have DK:=hide (fun w (h:TabD w)=>(show Calls Tryz.prog 165 #[.string ⟨#[46,115,101,99,116]⟩] w fun r w'=>r = .returned (.int .i64 6)∧w'=w from by have h:=dkI ⟨#[46,115,101,99,116]⟩ w (by decide +kernel) h;rw [show dkN ⟨#[46,115,101,99,116]⟩=6 by decide +kernel] at h;exact h))
 have OE:=hide (qDot_6 (ts:=ts))
 have FN:=hide (fun w' (ho:qDot ⟨#[46,115,101,99,116]⟩ ts=none) (hg:w.grownBy w' (some rb))=>(show PnR (qDot ⟨#[46,115,101,99,116]⟩ ts) (VLn w.heap.size) rb w (.panicked pn) w' from pnR_none ho rfl hg))
 have FY:=hide (fun x q v w' (ho:qDot ⟨#[46,115,101,99,116]⟩ ts=some (x,q)) (hg:w.grownBy w' (some rb)) (hv:(VLn w.heap.size) x w' v) (hz:Pr w' rb q)=>(show PnR (qDot ⟨#[46,115,101,99,116]⟩ ts) (VLn w.heap.size) rb w (.returned v) w' from pnR_some ho rfl hg hv hz))
 generalize PnR (qDot ⟨#[46,115,101,99,116]⟩ ts) (VLn w.heap.size) rb w=R at *
 generalize qDot ⟨#[46,115,101,99,116]⟩ ts=O at *
 have hb0:=below_new w (.cells #[.int .i64 0,.string ⟨#[]⟩,.int .i64 0,.int .i64 0,.int .i64 0,.int .i64 0,.int .i64 0,.string ⟨#[]⟩,.slice none 0 0,.int .i64 0,.int .i64 0,.int .i64 0,.int .i64 0,.string ⟨#[]⟩,.slice none 0 0,.int .i64 0,.slice none 0 0] 30)
 have hg0:(w.alloc (.cells #[.int .i64 0,.string ⟨#[]⟩,.int .i64 0,.int .i64 0,.int .i64 0,.int .i64 0,.int .i64 0,.string ⟨#[]⟩,.slice none 0 0,.int .i64 0,.int .i64 0,.int .i64 0,.int .i64 0,.string ⟨#[]⟩,.slice none 0 0,.int .i64 0,.slice none 0 0] 30)).heap[w.heap.size]?=some (.cells #[.int .i64 0,.string ⟨#[]⟩,.int .i64 0,.int .i64 0,.int .i64 0,.int .i64 0,.int .i64 0,.string ⟨#[]⟩,.slice none 0 0,.int .i64 0,.int .i64 0,.int .i64 0,.int .i64 0,.string ⟨#[]⟩,.slice none 0 0,.int .i64 0,.slice none 0 0] 30 (0,0)):=Array.getElem?_push_size
 have hs0:w.heap.size<(w.alloc (.cells #[.int .i64 0,.string ⟨#[]⟩,.int .i64 0,.int .i64 0,.int .i64 0,.int .i64 0,.int .i64 0,.string ⟨#[]⟩,.slice none 0 0,.int .i64 0,.int .i64 0,.int .i64 0,.int .i64 0,.string ⟨#[]⟩,.slice none 0 0,.int .i64 0,.slice none 0 0] 30)).heap.size:=by simp
 obtain ⟨w0,hw0⟩:∃ w0,w.alloc (.cells #[.int .i64 0,.string ⟨#[]⟩,.int .i64 0,.int .i64 0,.int .i64 0,.int .i64 0,.int .i64 0,.string ⟨#[]⟩,.slice none 0 0,.int .i64 0,.int .i64 0,.int .i64 0,.int .i64 0,.string ⟨#[]⟩,.slice none 0 0,.int .i64 0,.slice none 0 0] 30)=w0:=⟨_,rfl⟩
 rw [hw0] at hb0 hg0 hs0
 have Q0:=hide (h.start.later hb0)
 have R0:=hide hg0
 have S0:=hide hs0
 have TB:=hide ht
 clear h ht hb0 hg0 hs0
 go_enter Tryz.func115,Tryz.ntmps115
 have X:=hide (uh DK w0 ((uh TB).grown (uh Q0).gr).d)
 go_wp2_with fail
 refine (uh X).mono ?_
 rintro r w' ⟨rfl,hw'⟩
 rw [hw']
 clear hw' w' X
 clear DK
 have BGx:=hide (show w.heap.size≤w0.heap.size from Nat.le_of_lt (uh S0))
 have BLx:=hide (uh S0)
 have Qx1:=hide ((uh Q0).later (below_new w0 (.cells #[.int .i64 6,.string ⟨#[]⟩,.int .i64 0,.int .i64 0,.int .i64 0,.int .i64 0,.int .i64 0,.string ⟨#[]⟩,.slice none 0 0,.int .i64 0,.int .i64 0,.int .i64 0,.int .i64 0,.string ⟨#[]⟩,.slice none 0 0,.int .i64 0,.slice none 0 0] 30)))
 have Rx1:=hide (row_keep (uh R0) (below_new w0 (.cells #[.int .i64 6,.string ⟨#[]⟩,.int .i64 0,.int .i64 0,.int .i64 0,.int .i64 0,.int .i64 0,.string ⟨#[]⟩,.slice none 0 0,.int .i64 0,.int .i64 0,.int .i64 0,.int .i64 0,.string ⟨#[]⟩,.slice none 0 0,.int .i64 0,.slice none 0 0] 30)))
 have Bx0:=hide (show (w0.alloc (.cells #[.int .i64 6,.string ⟨#[]⟩,.int .i64 0,.int .i64 0,.int .i64 0,.int .i64 0,.int .i64 0,.string ⟨#[]⟩,.slice none 0 0,.int .i64 0,.int .i64 0,.int .i64 0,.int .i64 0,.string ⟨#[]⟩,.slice none 0 0,.int .i64 0,.slice none 0 0] 30)).heap[w0.heap.size]?=some (.cells #[.int .i64 6,.string ⟨#[]⟩,.int .i64 0,.int .i64 0,.int .i64 0,.int .i64 0,.int .i64 0,.string ⟨#[]⟩,.slice none 0 0,.int .i64 0,.int .i64 0,.int .i64 0,.int .i64 0,.string ⟨#[]⟩,.slice none 0 0,.int .i64 0,.slice none 0 0] 30 (0,0)) from Array.getElem?_push_size)
 clear Q0 R0 S0
 have X:=hide (nmI rb ts (w0.alloc (.cells #[.int .i64 6,.string ⟨#[]⟩,.int .i64 0,.int .i64 0,.int .i64 0,.int .i64 0,.int .i64 0,.string ⟨#[]⟩,.slice none 0 0,.int .i64 0,.int .i64 0,.int .i64 0,.int .i64 0,.string ⟨#[]⟩,.slice none 0 0,.int .i64 0,.slice none 0 0] 30)) (uh Qx1).pr ((uh TB).grown (uh Qx1).gr))
 go_wp2_with fail
 generalize (w0.alloc (.cells #[.int .i64 6,.string ⟨#[]⟩,.int .i64 0,.int .i64 0,.int .i64 0,.int .i64 0,.int .i64 0,.string ⟨#[]⟩,.slice none 0 0,.int .i64 0,.int .i64 0,.int .i64 0,.int .i64 0,.string ⟨#[]⟩,.slice none 0 0,.int .i64 0,.slice none 0 0] 30))=w1 at *
 generalize w0.heap.size=gx at *
 refine (uh X).mono ?_
 rintro r w2 ⟨hg,hm⟩
 cases ho:qNm ts with
 | none =>
  rw [ho] at hm
  have hr:r = .panicked pn:=hm
  subst hr
  exact ⟨rfl,uh FN _ ((uh OE).trans (bnd_no ho _)) (grownBy_trans (uh Qx1).gr hg)⟩
 | some p =>
  obtain ⟨x2,q2⟩:=p
  rw [ho] at hm
  obtain ⟨v,rfl,hv,hz⟩:=hm
  have OE2:=hide ((uh OE).trans (bnd_at ho _))
  have Rx2:=hide ((uh Qx1).blk hg (uh Rx1) (Nat.le_refl _))
  have Bxx2:=hide ((uh Qx1).blk hg (uh Bx0) (uh BGx))
  have Qg2:=hide ((uh Qx1).next hz hg)
  unfold VSt at hv
  subst hv
  clear hg hz ho X Rx1 Bx0 Qx1 OE
  have Qx3:=hide ((uh Qg2).row (uh Bxx2) (by decide) (by decide) (uh BGx) #[.int .i64 6,.string x2,.int .i64 0,.int .i64 0,.int .i64 0,.int .i64 0,.int .i64 0,.string ⟨#[]⟩,.slice none 0 0,.int .i64 0,.int .i64 0,.int .i64 0,.int .i64 0,.string ⟨#[]⟩,.slice none 0 0,.int .i64 0,.slice none 0 0])
  have Rx3:=hide ((setRow_other w2 gx w.heap.size #[.int .i64 6,.string x2,.int .i64 0,.int .i64 0,.int .i64 0,.int .i64 0,.int .i64 0,.string ⟨#[]⟩,.slice none 0 0,.int .i64 0,.int .i64 0,.int .i64 0,.int .i64 0,.string ⟨#[]⟩,.slice none 0 0,.int .i64 0,.slice none 0 0] (Nat.ne_of_lt (uh BLx))).trans (uh Rx2))
  have Bxx3:=hide ((show ((w2.setRow gx #[.int .i64 6,.string x2,.int .i64 0,.int .i64 0,.int .i64 0,.int .i64 0,.int .i64 0,.string ⟨#[]⟩,.slice none 0 0,.int .i64 0,.int .i64 0,.int .i64 0,.int .i64 0,.string ⟨#[]⟩,.slice none 0 0,.int .i64 0,.slice none 0 0])).heap[gx]?=some (.cells #[.int .i64 6,.string x2,.int .i64 0,.int .i64 0,.int .i64 0,.int .i64 0,.int .i64 0,.string ⟨#[]⟩,.slice none 0 0,.int .i64 0,.int .i64 0,.int .i64 0,.int .i64 0,.string ⟨#[]⟩,.slice none 0 0,.int .i64 0,.slice none 0 0] 30 (0,0)) from setRow_heap _ _ _ _ _ _ (uh Bxx2)))
  clear Qg2 Rx2
  cases hs:seeM q2 44 with
  | false =>
   have X:=hide (psI 44 (by decide) rb q2 (w2.setRow gx #[.int .i64 6,.string x2,.int .i64 0,.int .i64 0,.int .i64 0,.int .i64 0,.int .i64 0,.string ⟨#[]⟩,.slice none 0 0,.int .i64 0,.int .i64 0,.int .i64 0,.int .i64 0,.string ⟨#[]⟩,.slice none 0 0,.int .i64 0,.slice none 0 0]) (uh Qx3).pr)
   unfold PsR mkS at X
   rw [hs] at X
   go_wp2_with (first|((with_reducible show wpList _ _ _ (⟨_,.store _ _ _,_,_,_,_⟩::_) _ _);refine wpList_store_cell rfl 9 _ _ rfl gx 1 (.string x2) rfl rfl 30 #[.int .i64 6,.string ⟨#[]⟩,.int .i64 0,.int .i64 0,.int .i64 0,.int .i64 0,.int .i64 0,.string ⟨#[]⟩,.slice none 0 0,.int .i64 0,.int .i64 0,.int .i64 0,.int .i64 0,.string ⟨#[]⟩,.slice none 0 0,.int .i64 0,.slice none 0 0] #[.int .i64 6,.string x2,.int .i64 0,.int .i64 0,.int .i64 0,.int .i64 0,.int .i64 0,.string ⟨#[]⟩,.slice none 0 0,.int .i64 0,.int .i64 0,.int .i64 0,.int .i64 0,.string ⟨#[]⟩,.slice none 0 0,.int .i64 0,.slice none 0 0] (uh Bxx2) (by kernel_rfl) (by simp) rfl rfl rfl ?_))
   generalize (w2.setRow gx #[.int .i64 6,.string x2,.int .i64 0,.int .i64 0,.int .i64 0,.int .i64 0,.int .i64 0,.string ⟨#[]⟩,.slice none 0 0,.int .i64 0,.int .i64 0,.int .i64 0,.int .i64 0,.string ⟨#[]⟩,.slice none 0 0,.int .i64 0,.slice none 0 0])=w3 at *
   clear Bxx2
   refine (uh X).mono ?_
   rintro r w4 ⟨rfl,hz,hg⟩
   (try rw [if_neg (by decide)] at hz)
   have Rx4:=hide ((uh Qx3).blk hg (uh Rx3) (Nat.le_refl _))
   have Bxx4:=hide ((uh Qx3).blk hg (uh Bxx3) (uh BGx))
   have Qp4:=hide ((uh Qx3).next hz hg)
   clear hg hz X Rx3 Bxx3 Qx3
   have F:=hide (fun w' (h:Pq w w' rb q2)=>uh FY _ _ (.agg #[.int .i64 6,.string x2,.int .i64 0,.int .i64 0,.int .i64 0,.int .i64 0,.int .i64 0,.string ⟨#[]⟩,.slice none 0 0,.int .i64 0,.int .i64 0,.int .i64 0,.int .i64 0,.string ⟨#[]⟩,.slice none 0 0,.int .i64 0,.slice none 0 0]) w' ((uh OE2).trans (if_neg (by rw [hs];decide))) h.gr ⟨⟨none,0,none,0,none,0⟩,rfl,NdL.none _ _ _ _ _ _ _⟩ h.pr)
   clear FY FN OE2 hs
   go_wp2_with (first|((with_reducible show wpList _ _ _ (⟨_,.load _ _,_,_,_,_⟩::_) _ _);refine wpList_load_row rfl 30 _ rfl gx rfl 30 #[.int .i64 6,.string x2,.int .i64 0,.int .i64 0,.int .i64 0,.int .i64 0,.int .i64 0,.string ⟨#[]⟩,.slice none 0 0,.int .i64 0,.int .i64 0,.int .i64 0,.int .i64 0,.string ⟨#[]⟩,.slice none 0 0,.int .i64 0,.slice none 0 0] (0,0) _ (uh Bxx4) Tryz.underlying30 rfl (by kernel_rfl) ?_)|((with_reducible show wpList _ _ _ (⟨_,.store _ _ _,_,_,_,_⟩::_) _ _);refine wpList_store_row rfl 30 _ _ rfl w.heap.size #[.int .i64 6,.string x2,.int .i64 0,.int .i64 0,.int .i64 0,.int .i64 0,.int .i64 0,.string ⟨#[]⟩,.slice none 0 0,.int .i64 0,.int .i64 0,.int .i64 0,.int .i64 0,.string ⟨#[]⟩,.slice none 0 0,.int .i64 0,.slice none 0 0] rfl rfl 30 _ (uh Rx4) szLn rfl (by simp [Value.oneCell']) ?_))
   refine bodyPost_ret (results_cell_row (P:=Tryz.prog) rfl _ _ w.heap.size 30 #[.int .i64 6,.string x2,.int .i64 0,.int .i64 0,.int .i64 0,.int .i64 0,.int .i64 0,.string ⟨#[]⟩,.slice none 0 0,.int .i64 0,.int .i64 0,.int .i64 0,.int .i64 0,.string ⟨#[]⟩,.slice none 0 0,.int .i64 0,.slice none 0 0] (0,0) _ rfl (setRow_heap _ _ _ _ _ _ (uh Rx4)) Tryz.underlying30 rfl szLn) rfl ?_
   exact uh F _ ((uh Qp4).row (uh Rx4) (by decide) (by decide) (Nat.le_refl _) _)
  | true =>
   have X:=hide (psI 44 (by decide) rb q2 (w2.setRow gx #[.int .i64 6,.string x2,.int .i64 0,.int .i64 0,.int .i64 0,.int .i64 0,.int .i64 0,.string ⟨#[]⟩,.slice none 0 0,.int .i64 0,.int .i64 0,.int .i64 0,.int .i64 0,.string ⟨#[]⟩,.slice none 0 0,.int .i64 0,.slice none 0 0]) (uh Qx3).pr)
   unfold PsR mkS at X
   rw [hs] at X
   go_wp2_with (first|((with_reducible show wpList _ _ _ (⟨_,.store _ _ _,_,_,_,_⟩::_) _ _);refine wpList_store_cell rfl 9 _ _ rfl gx 1 (.string x2) rfl rfl 30 #[.int .i64 6,.string ⟨#[]⟩,.int .i64 0,.int .i64 0,.int .i64 0,.int .i64 0,.int .i64 0,.string ⟨#[]⟩,.slice none 0 0,.int .i64 0,.int .i64 0,.int .i64 0,.int .i64 0,.string ⟨#[]⟩,.slice none 0 0,.int .i64 0,.slice none 0 0] #[.int .i64 6,.string x2,.int .i64 0,.int .i64 0,.int .i64 0,.int .i64 0,.int .i64 0,.string ⟨#[]⟩,.slice none 0 0,.int .i64 0,.int .i64 0,.int .i64 0,.int .i64 0,.string ⟨#[]⟩,.slice none 0 0,.int .i64 0,.slice none 0 0] (uh Bxx2) (by kernel_rfl) (by simp) rfl rfl rfl ?_))
   generalize (w2.setRow gx #[.int .i64 6,.string x2,.int .i64 0,.int .i64 0,.int .i64 0,.int .i64 0,.int .i64 0,.string ⟨#[]⟩,.slice none 0 0,.int .i64 0,.int .i64 0,.int .i64 0,.int .i64 0,.string ⟨#[]⟩,.slice none 0 0,.int .i64 0,.slice none 0 0])=w3 at *
   clear Bxx2
   refine (uh X).mono ?_
   rintro r w4 ⟨rfl,hz,hg⟩
   (try rw [if_pos rfl] at hz)
   have Rx4:=hide ((uh Qx3).blk hg (uh Rx3) (Nat.le_refl _))
   have Bxx4:=hide ((uh Qx3).blk hg (uh Bxx3) (uh BGx))
   have Qp4:=hide ((uh Qx3).next hz hg)
   clear hg hz X Rx3 Bxx3 Qx3
   have OEb:=hide ((uh OE2).trans (if_pos hs))
   clear OE2 hs
   have X:=hide (over_word w4 ((uh TB).grown (uh Qp4).gr).k |> fun h=>by unfold sOver at h;exact h)
   go_wp2_with fail
   refine (uh X).mono ?_
   rintro r w5 ⟨rfl,hb⟩
   have Qx5:=hide ((uh Qp4).later hb)
   have Rx5:=hide (row_keep (uh Rx4) hb)
   have Bxx5:=hide (row_keep (uh Bxx4) hb)
   clear hb X Qp4 Rx4 Bxx4
   have X:=hide (wvI rb q2.tail w5 (uh Qx5).pr |> fun h=>by unfold sOver at h;exact h)
   go_wp2_with fail
   refine (uh X).mono ?_
   rintro r w6 ⟨hg,hm⟩
   cases ho:pMs ⟨#[111,118,101,114]⟩ q2.tail with
   | none =>
    rw [ho] at hm
    have hr:r = .panicked pn:=hm
    subst hr
    exact ⟨rfl,uh FN _ ((uh OEb).trans (bnd_no ho _)) (grownBy_trans (uh Qx5).gr hg)⟩
   | some p =>
    obtain ⟨x6,q6⟩:=p
    rw [ho] at hm
    obtain ⟨v,rfl,hv,hz⟩:=hm
    have OE6:=hide ((uh OEb).trans (bnd_at ho _))
    have Rx6:=hide ((uh Qx5).blk hg (uh Rx5) (Nat.le_refl _))
    have Bxx6:=hide ((uh Qx5).blk hg (uh Bxx5) (uh BGx))
    have Qg6:=hide ((uh Qx5).next hz hg)
    unfold VUn at hv
    subst hv
    clear hg hz ho X Rx5 Bxx5 Qx5 OEb
    have F:=hide (fun w' (h:Pq w w' rb q6)=>uh FY _ _ (.agg #[.int .i64 6,.string x2,.int .i64 0,.int .i64 0,.int .i64 0,.int .i64 0,.int .i64 0,.string ⟨#[]⟩,.slice none 0 0,.int .i64 0,.int .i64 0,.int .i64 0,.int .i64 0,.string ⟨#[]⟩,.slice none 0 0,.int .i64 1,.slice none 0 0]) w' (uh OE6) h.gr ⟨⟨none,0,none,0,none,0⟩,rfl,NdL.none _ _ _ _ _ _ _⟩ h.pr)
    clear FY FN OE6
    have Qx7:=hide ((uh Qg6).row (uh Bxx6) (by decide) (by decide) (uh BGx) #[.int .i64 6,.string x2,.int .i64 0,.int .i64 0,.int .i64 0,.int .i64 0,.int .i64 0,.string ⟨#[]⟩,.slice none 0 0,.int .i64 0,.int .i64 0,.int .i64 0,.int .i64 0,.string ⟨#[]⟩,.slice none 0 0,.int .i64 1,.slice none 0 0])
    have Rx7:=hide ((setRow_other w6 gx w.heap.size #[.int .i64 6,.string x2,.int .i64 0,.int .i64 0,.int .i64 0,.int .i64 0,.int .i64 0,.string ⟨#[]⟩,.slice none 0 0,.int .i64 0,.int .i64 0,.int .i64 0,.int .i64 0,.string ⟨#[]⟩,.slice none 0 0,.int .i64 1,.slice none 0 0] (Nat.ne_of_lt (uh BLx))).trans (uh Rx6))
    have Bxx7:=hide ((show ((w6.setRow gx #[.int .i64 6,.string x2,.int .i64 0,.int .i64 0,.int .i64 0,.int .i64 0,.int .i64 0,.string ⟨#[]⟩,.slice none 0 0,.int .i64 0,.int .i64 0,.int .i64 0,.int .i64 0,.string ⟨#[]⟩,.slice none 0 0,.int .i64 1,.slice none 0 0])).heap[gx]?=some (.cells #[.int .i64 6,.string x2,.int .i64 0,.int .i64 0,.int .i64 0,.int .i64 0,.int .i64 0,.string ⟨#[]⟩,.slice none 0 0,.int .i64 0,.int .i64 0,.int .i64 0,.int .i64 0,.string ⟨#[]⟩,.slice none 0 0,.int .i64 1,.slice none 0 0] 30 (0,0)) from setRow_heap _ _ _ _ _ _ (uh Bxx6)))
    clear Qg6 Rx6
    go_wp2_with (first|((with_reducible show wpList _ _ _ (⟨_,.store _ _ _,_,_,_,_⟩::_) _ _);refine wpList_store_cell rfl 3 _ _ rfl gx 15 (.int .i64 1) rfl rfl 30 #[.int .i64 6,.string x2,.int .i64 0,.int .i64 0,.int .i64 0,.int .i64 0,.int .i64 0,.string ⟨#[]⟩,.slice none 0 0,.int .i64 0,.int .i64 0,.int .i64 0,.int .i64 0,.string ⟨#[]⟩,.slice none 0 0,.int .i64 0,.slice none 0 0] #[.int .i64 6,.string x2,.int .i64 0,.int .i64 0,.int .i64 0,.int .i64 0,.int .i64 0,.string ⟨#[]⟩,.slice none 0 0,.int .i64 0,.int .i64 0,.int .i64 0,.int .i64 0,.string ⟨#[]⟩,.slice none 0 0,.int .i64 1,.slice none 0 0] (uh Bxx6) (by kernel_rfl) (by simp) rfl rfl rfl ?_)|((with_reducible show wpList _ _ _ (⟨_,.load _ _,_,_,_,_⟩::_) _ _);refine wpList_load_row rfl 30 _ rfl gx rfl 30 #[.int .i64 6,.string x2,.int .i64 0,.int .i64 0,.int .i64 0,.int .i64 0,.int .i64 0,.string ⟨#[]⟩,.slice none 0 0,.int .i64 0,.int .i64 0,.int .i64 0,.int .i64 0,.string ⟨#[]⟩,.slice none 0 0,.int .i64 1,.slice none 0 0] (0,0) _ (uh Bxx7) Tryz.underlying30 rfl (by kernel_rfl) ?_)|((with_reducible show wpList _ _ _ (⟨_,.store _ _ _,_,_,_,_⟩::_) _ _);refine wpList_store_row rfl 30 _ _ rfl w.heap.size #[.int .i64 6,.string x2,.int .i64 0,.int .i64 0,.int .i64 0,.int .i64 0,.int .i64 0,.string ⟨#[]⟩,.slice none 0 0,.int .i64 0,.int .i64 0,.int .i64 0,.int .i64 0,.string ⟨#[]⟩,.slice none 0 0,.int .i64 1,.slice none 0 0] rfl rfl 30 _ (uh Rx7) szLn rfl (by simp [Value.oneCell']) ?_))
    refine bodyPost_ret (results_cell_row (P:=Tryz.prog) rfl _ _ w.heap.size 30 #[.int .i64 6,.string x2,.int .i64 0,.int .i64 0,.int .i64 0,.int .i64 0,.int .i64 0,.string ⟨#[]⟩,.slice none 0 0,.int .i64 0,.int .i64 0,.int .i64 0,.int .i64 0,.string ⟨#[]⟩,.slice none 0 0,.int .i64 1,.slice none 0 0] (0,0) _ rfl (setRow_heap _ _ _ _ _ _ (uh Rx7)) Tryz.underlying30 rfl szLn) rfl ?_
    exact uh F _ ((uh Qx7).row (uh Rx7) (by decide) (by decide) (Nat.le_refl _) _)
theorem dotI (s:ByteArray) (h0:s≠E0) (rb:Nat) (ts:List Tk) (w:World) (h:Pr w rb ts) (ht:TabP w rb):Calls Tryz.prog 115 #[.pointer (some ⟨rb,0,none⟩),.string s] w (PnR (qDot s ts) (VLn w.heap.size) rb w):=by
 rcases dkN_is (s:=s) with hk|⟨_,rfl⟩|⟨_,rfl⟩|⟨_,rfl⟩|⟨_,rfl⟩|⟨_,rfl⟩
 · exact dt_0 s h0 hk rb ts w h ht
 · exact dt_4 rb ts w h ht
 · exact dt_5 rb ts w h ht
 · exact dt_6 rb ts w h ht
 · exact dt_7 rb ts w h ht
 · exact dt_8 rb ts w h ht
def qIw (s:ByteArray) (ts:List Tk):Option (Ln × List Tk):=if opN s=0 then none else qIns (opN s) ts
theorem qIw_at {s:ByteArray} {ts:List Tk} {op:Int} (h:opN s=op) (h0:op≠0):qIw s ts=qIns op ts:=by unfold qIw;rw [h,if_neg h0]
theorem opN_in (s:ByteArray):0≤opN s∧opN s≤23:=by
 unfold opN
 split <;> omega
theorem qIns_two {op:Int} {ts:List Tk} (h:op≤6):qIns op ts=bnd (pArg ts) fun a q=>bnd (pMs (mkS 44) q) fun _ q=>bnd (pArg q) fun b q=>some (⟨3,⟨#[]⟩,op,a,b,0,[]⟩,q):=by unfold qIns;rw [if_pos h]
theorem qIns_one {op:Int} {ts:List Tk} (h:¬ op≤6) (h2:op≤14):qIns op ts=bnd (pArg ts) fun b q=>some (⟨3,⟨#[]⟩,op,a0,b,0,[]⟩,q):=by unfold qIns;rw [if_neg h,if_pos h2]
theorem qIns_jsr {ts:List Tk}:qIns 15 ts=bnd (qRg ts) fun n q=>bnd (pMs (mkS 44) q) fun _ q=>bnd (pArg q) fun b q=>some (⟨3,⟨#[]⟩,15,a0,b,n,[]⟩,q):=by unfold qIns;rw [if_neg (by decide),if_neg (by decide),if_pos rfl]
theorem qIns_rts {ts:List Tk}:qIns 16 ts=bnd (qRg ts) fun n q=>some (⟨3,⟨#[]⟩,16,a0,a0,n,[]⟩,q):=by unfold qIns;rw [if_neg (by decide),if_neg (by decide),if_neg (by decide),if_pos rfl]
theorem qIns_halt {ts:List Tk}:qIns 22 ts=some (⟨3,⟨#[]⟩,22,a0,a0,0,[]⟩,ts):=by unfold qIns;rw [if_neg (by decide),if_neg (by decide),if_neg (by decide),if_neg (by decide),if_pos rfl]
theorem qIns_term {op:Int} {ts:List Tk} (h:16<op) (h2:op≠22):qIns op ts=bnd (qTs (readF 6) 1 ts) fun l q=>some (⟨3,⟨#[]⟩,op,a0,a0,0,l⟩,q):=by unfold qIns;rw [if_neg (by omega),if_neg (by omega),if_neg (by omega),if_neg (by omega),if_neg h2]
theorem inB_no {x a b:Int} (h:¬ (a≤x∧x≤b)):inB x a b=false:=by
 cases q:inB x a b with
 | false => rfl
 | true => exact absurd (inB_of q) h
theorem li_no (s:ByteArray) (op:Int) (ho':opN s=op) (h0:s≠E0) (h1:op=0) (rb:Nat) (ts:List Tk) (w:World) (h:Pr w rb ts) (ht:TabP w rb):Calls Tryz.prog 114 #[.pointer (some ⟨rb,0,none⟩),.string s] w (PnR (qIw s ts) (VLn w.heap.size) rb w):=by
 have b1:inB op 1 6=false:=inB_no (by omega)
 have b2:inB op 1 15=false:=inB_no (by omega)
 have b3:regB op=false:=by unfold regB;rw [Bool.or_eq_false_iff,beq_eq_false_iff_ne,beq_eq_false_iff_ne];omega
 have b4:(inB op 17 21 || op == 23)=false:=by rw [inB_no (by omega),Bool.false_or,beq_eq_false_iff_ne];omega
 have b5:inB op 1 23=false:=inB_no (by omega)
 have SH:=hide (fun w=>(show Calls Tryz.prog 149 #[.int .i64 op] w fun r w'=>r = .returned (.tuple #[.agg #[.bool false,.bool false,.bool false,.int .i64 0,.int .i64 0,.int .i64 0,.bool false],.bool false])∧Below w.heap.size w w' from by have h:=shiI_any op w;rw [b1,b2,b3,b4,b5] at h;exact h))
 clear b1 b2 b3 b4 b5
 have OEH:=hide ((by unfold qIw;rw [ho',if_pos h1]:qIw s ts=none))
 clear h1
 have OE:=hide (uh OEH)
 have FN:=hide (fun w' (ho:qIw s ts=none) (hg:w.grownBy w' (some rb))=>(show PnR (qIw s ts) (VLn w.heap.size) rb w (.panicked pn) w' from pnR_none ho rfl hg))
 generalize PnR (qIw s ts) (VLn w.heap.size) rb w=R at *
 generalize qIw s ts=O at *
 have hb0:=below_new w (.cells #[.int .i64 0,.string ⟨#[]⟩,.int .i64 0,.int .i64 0,.int .i64 0,.int .i64 0,.int .i64 0,.string ⟨#[]⟩,.slice none 0 0,.int .i64 0,.int .i64 0,.int .i64 0,.int .i64 0,.string ⟨#[]⟩,.slice none 0 0,.int .i64 0,.slice none 0 0] 30)
 have hg0:(w.alloc (.cells #[.int .i64 0,.string ⟨#[]⟩,.int .i64 0,.int .i64 0,.int .i64 0,.int .i64 0,.int .i64 0,.string ⟨#[]⟩,.slice none 0 0,.int .i64 0,.int .i64 0,.int .i64 0,.int .i64 0,.string ⟨#[]⟩,.slice none 0 0,.int .i64 0,.slice none 0 0] 30)).heap[w.heap.size]?=some (.cells #[.int .i64 0,.string ⟨#[]⟩,.int .i64 0,.int .i64 0,.int .i64 0,.int .i64 0,.int .i64 0,.string ⟨#[]⟩,.slice none 0 0,.int .i64 0,.int .i64 0,.int .i64 0,.int .i64 0,.string ⟨#[]⟩,.slice none 0 0,.int .i64 0,.slice none 0 0] 30 (0,0)):=Array.getElem?_push_size
 have hs0:w.heap.size<(w.alloc (.cells #[.int .i64 0,.string ⟨#[]⟩,.int .i64 0,.int .i64 0,.int .i64 0,.int .i64 0,.int .i64 0,.string ⟨#[]⟩,.slice none 0 0,.int .i64 0,.int .i64 0,.int .i64 0,.int .i64 0,.string ⟨#[]⟩,.slice none 0 0,.int .i64 0,.slice none 0 0] 30)).heap.size:=by simp
 obtain ⟨w0,hw0⟩:∃ w0,w.alloc (.cells #[.int .i64 0,.string ⟨#[]⟩,.int .i64 0,.int .i64 0,.int .i64 0,.int .i64 0,.int .i64 0,.string ⟨#[]⟩,.slice none 0 0,.int .i64 0,.int .i64 0,.int .i64 0,.int .i64 0,.string ⟨#[]⟩,.slice none 0 0,.int .i64 0,.slice none 0 0] 30)=w0:=⟨_,rfl⟩
 rw [hw0] at hb0 hg0 hs0
 have Q0:=hide (h.start.later hb0)
 have TB:=hide ht
 clear h ht hb0 hg0 hs0
 go_enter Tryz.func114,Tryz.ntmps114
 clear OEH
 have X:=hide (opI s w0 h0 ((uh TB).grown (uh Q0).gr).k |> fun h=>by rw [ho'] at h;exact h)
 go_wp2_with fail
 refine (uh X).mono ?_
 rintro r w' ⟨rfl,hw'⟩
 rw [hw']
 clear hw' w' X
 clear h0 ho'
 have Qx1:=hide ((uh Q0).later (below_new w0 (.cells #[.int .i64 3,.string ⟨#[]⟩,.int .i64 op,.int .i64 0,.int .i64 0,.int .i64 0,.int .i64 0,.string ⟨#[]⟩,.slice none 0 0,.int .i64 0,.int .i64 0,.int .i64 0,.int .i64 0,.string ⟨#[]⟩,.slice none 0 0,.int .i64 0,.slice none 0 0] 30)))
 clear Q0
 have X:=hide (uh SH (w0.alloc (.cells #[.int .i64 3,.string ⟨#[]⟩,.int .i64 op,.int .i64 0,.int .i64 0,.int .i64 0,.int .i64 0,.string ⟨#[]⟩,.slice none 0 0,.int .i64 0,.int .i64 0,.int .i64 0,.int .i64 0,.string ⟨#[]⟩,.slice none 0 0,.int .i64 0,.slice none 0 0] 30)))
 go_wp2_with fail
 generalize (w0.alloc (.cells #[.int .i64 3,.string ⟨#[]⟩,.int .i64 op,.int .i64 0,.int .i64 0,.int .i64 0,.int .i64 0,.string ⟨#[]⟩,.slice none 0 0,.int .i64 0,.int .i64 0,.int .i64 0,.int .i64 0,.string ⟨#[]⟩,.slice none 0 0,.int .i64 0,.slice none 0 0] 30))=w1 at *
 generalize w0.heap.size=gx at *
 refine (uh X).mono ?_
 rintro r w2 ⟨rfl,hb⟩
 have Qx2:=hide ((uh Qx1).later hb)
 clear hb X Qx1
 have F:=hide (fun w' hg=>uh FN w' (uh OE) hg)
 clear FN OE
 go_wp2
 exact ⟨rfl,uh F _ (grownBy_trans (uh Qx2).gr (grownBy_below (below_new _ _)))⟩
theorem li_halt (s:ByteArray) (op:Int) (ho':opN s=op) (h0:s≠E0) (h22:op=22) (rb:Nat) (ts:List Tk) (w:World) (h:Pr w rb ts) (ht:TabP w rb):Calls Tryz.prog 114 #[.pointer (some ⟨rb,0,none⟩),.string s] w (PnR (qIw s ts) (VLn w.heap.size) rb w):=by
 have b1:inB op 1 6=false:=inB_no (by omega)
 have b2:inB op 1 15=false:=inB_no (by omega)
 have b3:regB op=false:=by unfold regB;rw [Bool.or_eq_false_iff,beq_eq_false_iff_ne,beq_eq_false_iff_ne];omega
 have b4:(inB op 17 21 || op == 23)=false:=by rw [inB_no (by omega),Bool.false_or,beq_eq_false_iff_ne];omega
 have b5:inB op 1 23=true:=(inB_iff _ _ _).2 (by omega)
 have SH:=hide (fun w=>(show Calls Tryz.prog 149 #[.int .i64 op] w fun r w'=>r = .returned (.tuple #[.agg #[.bool false,.bool false,.bool false,.int .i64 0,.int .i64 0,.int .i64 0,.bool false],.bool true])∧Below w.heap.size w w' from by have h:=shiI_any op w;rw [b1,b2,b3,b4,b5] at h;exact h))
 have RG:=hide (fun w=>(show Calls Tryz.prog 102 #[.int .i64 op] w fun e w'=>e = .returned (.bool false)∧w'=w from by have h:=regB_any op w;rw [b3] at h;exact h))
 clear b1 b2 b3 b4 b5
 have OEH:=hide ((qIw_at (s:=s) (ts:=ts) ho' (by omega)).trans ((congrArg (fun o=>qIns o ts) h22).trans (qIns_halt (ts:=ts))))
 have HOP:=hide h22
 clear h22
 have OE:=hide (uh OEH)
 have FY:=hide (fun x q v w' (ho:qIw s ts=some (x,q)) (hg:w.grownBy w' (some rb)) (hv:(VLn w.heap.size) x w' v) (hz:Pr w' rb q)=>(show PnR (qIw s ts) (VLn w.heap.size) rb w (.returned v) w' from pnR_some ho rfl hg hv hz))
 generalize PnR (qIw s ts) (VLn w.heap.size) rb w=R at *
 generalize qIw s ts=O at *
 have hb0:=below_new w (.cells #[.int .i64 0,.string ⟨#[]⟩,.int .i64 0,.int .i64 0,.int .i64 0,.int .i64 0,.int .i64 0,.string ⟨#[]⟩,.slice none 0 0,.int .i64 0,.int .i64 0,.int .i64 0,.int .i64 0,.string ⟨#[]⟩,.slice none 0 0,.int .i64 0,.slice none 0 0] 30)
 have hg0:(w.alloc (.cells #[.int .i64 0,.string ⟨#[]⟩,.int .i64 0,.int .i64 0,.int .i64 0,.int .i64 0,.int .i64 0,.string ⟨#[]⟩,.slice none 0 0,.int .i64 0,.int .i64 0,.int .i64 0,.int .i64 0,.string ⟨#[]⟩,.slice none 0 0,.int .i64 0,.slice none 0 0] 30)).heap[w.heap.size]?=some (.cells #[.int .i64 0,.string ⟨#[]⟩,.int .i64 0,.int .i64 0,.int .i64 0,.int .i64 0,.int .i64 0,.string ⟨#[]⟩,.slice none 0 0,.int .i64 0,.int .i64 0,.int .i64 0,.int .i64 0,.string ⟨#[]⟩,.slice none 0 0,.int .i64 0,.slice none 0 0] 30 (0,0)):=Array.getElem?_push_size
 have hs0:w.heap.size<(w.alloc (.cells #[.int .i64 0,.string ⟨#[]⟩,.int .i64 0,.int .i64 0,.int .i64 0,.int .i64 0,.int .i64 0,.string ⟨#[]⟩,.slice none 0 0,.int .i64 0,.int .i64 0,.int .i64 0,.int .i64 0,.string ⟨#[]⟩,.slice none 0 0,.int .i64 0,.slice none 0 0] 30)).heap.size:=by simp
 obtain ⟨w0,hw0⟩:∃ w0,w.alloc (.cells #[.int .i64 0,.string ⟨#[]⟩,.int .i64 0,.int .i64 0,.int .i64 0,.int .i64 0,.int .i64 0,.string ⟨#[]⟩,.slice none 0 0,.int .i64 0,.int .i64 0,.int .i64 0,.int .i64 0,.string ⟨#[]⟩,.slice none 0 0,.int .i64 0,.slice none 0 0] 30)=w0:=⟨_,rfl⟩
 rw [hw0] at hb0 hg0 hs0
 have Q0:=hide (h.start.later hb0)
 have R0:=hide hg0
 have TB:=hide ht
 clear h ht hb0 hg0 hs0
 go_enter Tryz.func114,Tryz.ntmps114
 clear OEH
 have X:=hide (opI s w0 h0 ((uh TB).grown (uh Q0).gr).k |> fun h=>by rw [ho'] at h;exact h)
 go_wp2_with fail
 refine (uh X).mono ?_
 rintro r w' ⟨rfl,hw'⟩
 rw [hw']
 clear hw' w' X
 clear h0 ho'
 have Qx1:=hide ((uh Q0).later (below_new w0 (.cells #[.int .i64 3,.string ⟨#[]⟩,.int .i64 op,.int .i64 0,.int .i64 0,.int .i64 0,.int .i64 0,.string ⟨#[]⟩,.slice none 0 0,.int .i64 0,.int .i64 0,.int .i64 0,.int .i64 0,.string ⟨#[]⟩,.slice none 0 0,.int .i64 0,.slice none 0 0] 30)))
 have Rx1:=hide (row_keep (uh R0) (below_new w0 (.cells #[.int .i64 3,.string ⟨#[]⟩,.int .i64 op,.int .i64 0,.int .i64 0,.int .i64 0,.int .i64 0,.string ⟨#[]⟩,.slice none 0 0,.int .i64 0,.int .i64 0,.int .i64 0,.int .i64 0,.string ⟨#[]⟩,.slice none 0 0,.int .i64 0,.slice none 0 0] 30)))
 have Bx0:=hide (show (w0.alloc (.cells #[.int .i64 3,.string ⟨#[]⟩,.int .i64 op,.int .i64 0,.int .i64 0,.int .i64 0,.int .i64 0,.string ⟨#[]⟩,.slice none 0 0,.int .i64 0,.int .i64 0,.int .i64 0,.int .i64 0,.string ⟨#[]⟩,.slice none 0 0,.int .i64 0,.slice none 0 0] 30)).heap[w0.heap.size]?=some (.cells #[.int .i64 3,.string ⟨#[]⟩,.int .i64 op,.int .i64 0,.int .i64 0,.int .i64 0,.int .i64 0,.string ⟨#[]⟩,.slice none 0 0,.int .i64 0,.int .i64 0,.int .i64 0,.int .i64 0,.string ⟨#[]⟩,.slice none 0 0,.int .i64 0,.slice none 0 0] 30 (0,0)) from Array.getElem?_push_size)
 clear Q0 R0
 have X:=hide (uh SH (w0.alloc (.cells #[.int .i64 3,.string ⟨#[]⟩,.int .i64 op,.int .i64 0,.int .i64 0,.int .i64 0,.int .i64 0,.string ⟨#[]⟩,.slice none 0 0,.int .i64 0,.int .i64 0,.int .i64 0,.int .i64 0,.string ⟨#[]⟩,.slice none 0 0,.int .i64 0,.slice none 0 0] 30)))
 go_wp2_with fail
 generalize (w0.alloc (.cells #[.int .i64 3,.string ⟨#[]⟩,.int .i64 op,.int .i64 0,.int .i64 0,.int .i64 0,.int .i64 0,.string ⟨#[]⟩,.slice none 0 0,.int .i64 0,.int .i64 0,.int .i64 0,.int .i64 0,.string ⟨#[]⟩,.slice none 0 0,.int .i64 0,.slice none 0 0] 30))=w1 at *
 generalize w0.heap.size=gx at *
 refine (uh X).mono ?_
 rintro r w2 ⟨rfl,hb⟩
 have Qx2:=hide ((uh Qx1).later hb)
 have Rx2:=hide (row_keep (uh Rx1) hb)
 have Bxx2:=hide (row_keep (uh Bx0) hb)
 clear hb X Qx1 Rx1 Bx0
 have Qx3:=hide ((uh Qx2).later (below_new w2 (.cells #[.bool false,.bool false,.bool false,.int .i64 0,.int .i64 0,.int .i64 0,.bool false] 129)))
 have Rx3:=hide (row_keep (uh Rx2) (below_new w2 (.cells #[.bool false,.bool false,.bool false,.int .i64 0,.int .i64 0,.int .i64 0,.bool false] 129)))
 have Bxx3:=hide (row_keep (uh Bxx2) (below_new w2 (.cells #[.bool false,.bool false,.bool false,.int .i64 0,.int .i64 0,.int .i64 0,.bool false] 129)))
 have Bs0:=hide (show (w2.alloc (.cells #[.bool false,.bool false,.bool false,.int .i64 0,.int .i64 0,.int .i64 0,.bool false] 129)).heap[w2.heap.size]?=some (.cells #[.bool false,.bool false,.bool false,.int .i64 0,.int .i64 0,.int .i64 0,.bool false] 129 (0,0)) from Array.getElem?_push_size)
 clear Qx2 Rx2 Bxx2
 have X:=hide (uh RG (w2.alloc (.cells #[.bool false,.bool false,.bool false,.int .i64 0,.int .i64 0,.int .i64 0,.bool false] 129)))
 have cx2:=Lib.cell_of_heap (uh Bxx3) 2
 have fx2:=Lib.frozen_of_heap (uh Bxx3) 2
 go_wp2_with fail
 generalize (w2.alloc (.cells #[.bool false,.bool false,.bool false,.int .i64 0,.int .i64 0,.int .i64 0,.bool false] 129))=w3 at *
 generalize w2.heap.size=gs at *
 clear cx2 fx2
 refine (uh X).mono ?_
 rintro r w' ⟨rfl,hw'⟩
 rw [hw']
 clear hw' w' X
 have F:=hide (fun w' (h:Pq w w' rb ts)=>uh FY _ _ (.agg #[.int .i64 3,.string ⟨#[]⟩,.int .i64 op,.int .i64 0,.int .i64 0,.int .i64 0,.int .i64 0,.string ⟨#[]⟩,.slice none 0 0,.int .i64 0,.int .i64 0,.int .i64 0,.int .i64 0,.string ⟨#[]⟩,.slice none 0 0,.int .i64 0,.slice none 0 0]) w' (uh OE) h.gr ⟨⟨none,0,none,0,none,0⟩,by rw [uh HOP];rfl,NdL.none _ _ _ _ _ _ _⟩ h.pr)
 clear FY OE HOP
 have cs1:=Lib.cell_of_heap (uh Bs0) 1
 have cs2:=Lib.cell_of_heap (uh Bs0) 2
 have cs5:=Lib.cell_of_heap (uh Bs0) 5
 go_wp2_with (first|((with_reducible show wpList _ _ _ (⟨_,.load _ _,_,_,_,_⟩::_) _ _);refine wpList_load_row rfl 30 _ rfl gx rfl 30 #[.int .i64 3,.string ⟨#[]⟩,.int .i64 op,.int .i64 0,.int .i64 0,.int .i64 0,.int .i64 0,.string ⟨#[]⟩,.slice none 0 0,.int .i64 0,.int .i64 0,.int .i64 0,.int .i64 0,.string ⟨#[]⟩,.slice none 0 0,.int .i64 0,.slice none 0 0] (0,0) _ (uh Bxx3) Tryz.underlying30 rfl (by kernel_rfl) ?_)|((with_reducible show wpList _ _ _ (⟨_,.store _ _ _,_,_,_,_⟩::_) _ _);refine wpList_store_row rfl 30 _ _ rfl w.heap.size #[.int .i64 3,.string ⟨#[]⟩,.int .i64 op,.int .i64 0,.int .i64 0,.int .i64 0,.int .i64 0,.string ⟨#[]⟩,.slice none 0 0,.int .i64 0,.int .i64 0,.int .i64 0,.int .i64 0,.string ⟨#[]⟩,.slice none 0 0,.int .i64 0,.slice none 0 0] rfl rfl 30 _ (uh Rx3) szLn rfl (by simp [Value.oneCell']) ?_))
 refine bodyPost_ret (results_cell_row (P:=Tryz.prog) rfl _ _ w.heap.size 30 #[.int .i64 3,.string ⟨#[]⟩,.int .i64 op,.int .i64 0,.int .i64 0,.int .i64 0,.int .i64 0,.string ⟨#[]⟩,.slice none 0 0,.int .i64 0,.int .i64 0,.int .i64 0,.int .i64 0,.string ⟨#[]⟩,.slice none 0 0,.int .i64 0,.slice none 0 0] (0,0) _ rfl (setRow_heap _ _ _ _ _ _ (uh Rx3)) Tryz.underlying30 rfl szLn) rfl ?_
 exact uh F _ ((uh Qx3).row (uh Rx3) (by decide) (by decide) (Nat.le_refl _) _)
theorem li_rts (s:ByteArray) (op:Int) (ho':opN s=op) (h0:s≠E0) (h16:op=16) (rb:Nat) (ts:List Tk) (w:World) (h:Pr w rb ts) (ht:TabP w rb):Calls Tryz.prog 114 #[.pointer (some ⟨rb,0,none⟩),.string s] w (PnR (qIw s ts) (VLn w.heap.size) rb w):=by
 have b1:inB op 1 6=false:=inB_no (by omega)
 have b2:inB op 1 15=false:=inB_no (by omega)
 have b3:regB op=true:=by unfold regB;rw [Bool.or_eq_true,beq_iff_eq,beq_iff_eq];omega
 have b4:(inB op 17 21 || op == 23)=false:=by rw [inB_no (by omega),Bool.false_or,beq_eq_false_iff_ne];omega
 have b5:inB op 1 23=true:=(inB_iff _ _ _).2 (by omega)
 have SH:=hide (fun w=>(show Calls Tryz.prog 149 #[.int .i64 op] w fun r w'=>r = .returned (.tuple #[.agg #[.bool false,.bool false,.bool false,.int .i64 7,.int .i64 0,.int .i64 0,.bool false],.bool true])∧Below w.heap.size w w' from by have h:=shiI_any op w;rw [b1,b2,b3,b4,b5] at h;exact h))
 have RG:=hide (fun w=>(show Calls Tryz.prog 102 #[.int .i64 op] w fun e w'=>e = .returned (.bool true)∧w'=w from by have h:=regB_any op w;rw [b3] at h;exact h))
 clear b1 b2 b3 b4 b5
 have OEH:=hide ((qIw_at (s:=s) (ts:=ts) ho' (by omega)).trans ((congrArg (fun o=>qIns o ts) h16).trans (qIns_rts (ts:=ts))))
 have HOP:=hide h16
 clear h16
 have OE:=hide (uh OEH)
 have FN:=hide (fun w' (ho:qIw s ts=none) (hg:w.grownBy w' (some rb))=>(show PnR (qIw s ts) (VLn w.heap.size) rb w (.panicked pn) w' from pnR_none ho rfl hg))
 have FY:=hide (fun x q v w' (ho:qIw s ts=some (x,q)) (hg:w.grownBy w' (some rb)) (hv:(VLn w.heap.size) x w' v) (hz:Pr w' rb q)=>(show PnR (qIw s ts) (VLn w.heap.size) rb w (.returned v) w' from pnR_some ho rfl hg hv hz))
 generalize PnR (qIw s ts) (VLn w.heap.size) rb w=R at *
 generalize qIw s ts=O at *
 have hb0:=below_new w (.cells #[.int .i64 0,.string ⟨#[]⟩,.int .i64 0,.int .i64 0,.int .i64 0,.int .i64 0,.int .i64 0,.string ⟨#[]⟩,.slice none 0 0,.int .i64 0,.int .i64 0,.int .i64 0,.int .i64 0,.string ⟨#[]⟩,.slice none 0 0,.int .i64 0,.slice none 0 0] 30)
 have hg0:(w.alloc (.cells #[.int .i64 0,.string ⟨#[]⟩,.int .i64 0,.int .i64 0,.int .i64 0,.int .i64 0,.int .i64 0,.string ⟨#[]⟩,.slice none 0 0,.int .i64 0,.int .i64 0,.int .i64 0,.int .i64 0,.string ⟨#[]⟩,.slice none 0 0,.int .i64 0,.slice none 0 0] 30)).heap[w.heap.size]?=some (.cells #[.int .i64 0,.string ⟨#[]⟩,.int .i64 0,.int .i64 0,.int .i64 0,.int .i64 0,.int .i64 0,.string ⟨#[]⟩,.slice none 0 0,.int .i64 0,.int .i64 0,.int .i64 0,.int .i64 0,.string ⟨#[]⟩,.slice none 0 0,.int .i64 0,.slice none 0 0] 30 (0,0)):=Array.getElem?_push_size
 have hs0:w.heap.size<(w.alloc (.cells #[.int .i64 0,.string ⟨#[]⟩,.int .i64 0,.int .i64 0,.int .i64 0,.int .i64 0,.int .i64 0,.string ⟨#[]⟩,.slice none 0 0,.int .i64 0,.int .i64 0,.int .i64 0,.int .i64 0,.string ⟨#[]⟩,.slice none 0 0,.int .i64 0,.slice none 0 0] 30)).heap.size:=by simp
 obtain ⟨w0,hw0⟩:∃ w0,w.alloc (.cells #[.int .i64 0,.string ⟨#[]⟩,.int .i64 0,.int .i64 0,.int .i64 0,.int .i64 0,.int .i64 0,.string ⟨#[]⟩,.slice none 0 0,.int .i64 0,.int .i64 0,.int .i64 0,.int .i64 0,.string ⟨#[]⟩,.slice none 0 0,.int .i64 0,.slice none 0 0] 30)=w0:=⟨_,rfl⟩
 rw [hw0] at hb0 hg0 hs0
 have Q0:=hide (h.start.later hb0)
 have R0:=hide hg0
 have S0:=hide hs0
 have TB:=hide ht
 clear h ht hb0 hg0 hs0
 go_enter Tryz.func114,Tryz.ntmps114
 clear OEH
 have X:=hide (opI s w0 h0 ((uh TB).grown (uh Q0).gr).k |> fun h=>by rw [ho'] at h;exact h)
 go_wp2_with fail
 refine (uh X).mono ?_
 rintro r w' ⟨rfl,hw'⟩
 rw [hw']
 clear hw' w' X
 clear h0 ho'
 have BGx:=hide (show w.heap.size≤w0.heap.size from Nat.le_of_lt (uh S0))
 have BLx:=hide (uh S0)
 have Qx1:=hide ((uh Q0).later (below_new w0 (.cells #[.int .i64 3,.string ⟨#[]⟩,.int .i64 op,.int .i64 0,.int .i64 0,.int .i64 0,.int .i64 0,.string ⟨#[]⟩,.slice none 0 0,.int .i64 0,.int .i64 0,.int .i64 0,.int .i64 0,.string ⟨#[]⟩,.slice none 0 0,.int .i64 0,.slice none 0 0] 30)))
 have Rx1:=hide (row_keep (uh R0) (below_new w0 (.cells #[.int .i64 3,.string ⟨#[]⟩,.int .i64 op,.int .i64 0,.int .i64 0,.int .i64 0,.int .i64 0,.string ⟨#[]⟩,.slice none 0 0,.int .i64 0,.int .i64 0,.int .i64 0,.int .i64 0,.string ⟨#[]⟩,.slice none 0 0,.int .i64 0,.slice none 0 0] 30)))
 have Sx1:=hide (Nat.lt_of_lt_of_le (uh S0) ((below_new w0 (.cells #[.int .i64 3,.string ⟨#[]⟩,.int .i64 op,.int .i64 0,.int .i64 0,.int .i64 0,.int .i64 0,.string ⟨#[]⟩,.slice none 0 0,.int .i64 0,.int .i64 0,.int .i64 0,.int .i64 0,.string ⟨#[]⟩,.slice none 0 0,.int .i64 0,.slice none 0 0] 30))).size)
 have Bx0:=hide (show (w0.alloc (.cells #[.int .i64 3,.string ⟨#[]⟩,.int .i64 op,.int .i64 0,.int .i64 0,.int .i64 0,.int .i64 0,.string ⟨#[]⟩,.slice none 0 0,.int .i64 0,.int .i64 0,.int .i64 0,.int .i64 0,.string ⟨#[]⟩,.slice none 0 0,.int .i64 0,.slice none 0 0] 30)).heap[w0.heap.size]?=some (.cells #[.int .i64 3,.string ⟨#[]⟩,.int .i64 op,.int .i64 0,.int .i64 0,.int .i64 0,.int .i64 0,.string ⟨#[]⟩,.slice none 0 0,.int .i64 0,.int .i64 0,.int .i64 0,.int .i64 0,.string ⟨#[]⟩,.slice none 0 0,.int .i64 0,.slice none 0 0] 30 (0,0)) from Array.getElem?_push_size)
 clear Q0 R0 S0
 have X:=hide (uh SH (w0.alloc (.cells #[.int .i64 3,.string ⟨#[]⟩,.int .i64 op,.int .i64 0,.int .i64 0,.int .i64 0,.int .i64 0,.string ⟨#[]⟩,.slice none 0 0,.int .i64 0,.int .i64 0,.int .i64 0,.int .i64 0,.string ⟨#[]⟩,.slice none 0 0,.int .i64 0,.slice none 0 0] 30)))
 go_wp2_with fail
 generalize (w0.alloc (.cells #[.int .i64 3,.string ⟨#[]⟩,.int .i64 op,.int .i64 0,.int .i64 0,.int .i64 0,.int .i64 0,.string ⟨#[]⟩,.slice none 0 0,.int .i64 0,.int .i64 0,.int .i64 0,.int .i64 0,.string ⟨#[]⟩,.slice none 0 0,.int .i64 0,.slice none 0 0] 30))=w1 at *
 generalize w0.heap.size=gx at *
 refine (uh X).mono ?_
 rintro r w2 ⟨rfl,hb⟩
 have Qx2:=hide ((uh Qx1).later hb)
 have Rx2:=hide (row_keep (uh Rx1) hb)
 have Sx2:=hide (Nat.lt_of_lt_of_le (uh Sx1) (hb).size)
 have Bxx2:=hide (row_keep (uh Bx0) hb)
 clear hb X Qx1 Rx1 Sx1 Bx0
 have BGs:=hide (show w.heap.size≤w2.heap.size from Nat.le_of_lt (uh Sx2))
 have NEsx:=hide (show w2.heap.size≠gx from Nat.ne_of_gt (Array.getElem?_eq_some_iff.1 (uh Bxx2)).1)
 have Qx3:=hide ((uh Qx2).later (below_new w2 (.cells #[.bool false,.bool false,.bool false,.int .i64 7,.int .i64 0,.int .i64 0,.bool false] 129)))
 have Rx3:=hide (row_keep (uh Rx2) (below_new w2 (.cells #[.bool false,.bool false,.bool false,.int .i64 7,.int .i64 0,.int .i64 0,.bool false] 129)))
 have Bxx3:=hide (row_keep (uh Bxx2) (below_new w2 (.cells #[.bool false,.bool false,.bool false,.int .i64 7,.int .i64 0,.int .i64 0,.bool false] 129)))
 have Bs0:=hide (show (w2.alloc (.cells #[.bool false,.bool false,.bool false,.int .i64 7,.int .i64 0,.int .i64 0,.bool false] 129)).heap[w2.heap.size]?=some (.cells #[.bool false,.bool false,.bool false,.int .i64 7,.int .i64 0,.int .i64 0,.bool false] 129 (0,0)) from Array.getElem?_push_size)
 clear Qx2 Rx2 Sx2 Bxx2
 have X:=hide (uh RG (w2.alloc (.cells #[.bool false,.bool false,.bool false,.int .i64 7,.int .i64 0,.int .i64 0,.bool false] 129)))
 have cx2:=Lib.cell_of_heap (uh Bxx3) 2
 have fx2:=Lib.frozen_of_heap (uh Bxx3) 2
 go_wp2_with fail
 generalize (w2.alloc (.cells #[.bool false,.bool false,.bool false,.int .i64 7,.int .i64 0,.int .i64 0,.bool false] 129))=w3 at *
 generalize w2.heap.size=gs at *
 clear cx2 fx2
 refine (uh X).mono ?_
 rintro r w' ⟨rfl,hw'⟩
 rw [hw']
 clear hw' w' X
 have X:=hide (rgRI rb ts w3 (uh Qx3).pr ((uh TB).grown (uh Qx3).gr))
 go_wp2_with fail
 refine (uh X).mono ?_
 rintro r w4 ⟨hg,hm⟩
 cases ho:qRg ts with
 | none =>
  rw [ho] at hm
  have hr:r = .panicked pn:=hm
  subst hr
  exact ⟨rfl,uh FN _ ((uh OE).trans (bnd_no ho _)) (grownBy_trans (uh Qx3).gr hg)⟩
 | some p =>
  obtain ⟨x4,q4⟩:=p
  rw [ho] at hm
  obtain ⟨v,rfl,hv,hz⟩:=hm
  have OE4:=hide ((uh OE).trans (bnd_at ho _))
  have Rx4:=hide ((uh Qx3).blk hg (uh Rx3) (Nat.le_refl _))
  have Bxx4:=hide ((uh Qx3).blk hg (uh Bxx3) (uh BGx))
  have Bxs4:=hide ((uh Qx3).blk hg (uh Bs0) (uh BGs))
  have Qg4:=hide ((uh Qx3).next hz hg)
  unfold VIn at hv
  subst hv
  clear hg hz ho X Rx3 Bxx3 Bs0 Qx3 OE
  have F:=hide (fun w' (h:Pq w w' rb q4)=>uh FY _ _ (.agg #[.int .i64 3,.string ⟨#[]⟩,.int .i64 op,.int .i64 0,.int .i64 0,.int .i64 0,.int .i64 0,.string ⟨#[]⟩,.slice none 0 0,.int .i64 0,.int .i64 0,.int .i64 0,.int .i64 0,.string ⟨#[]⟩,.slice none 0 0,.int .i64 x4,.slice none 0 0]) w' (uh OE4) h.gr ⟨⟨none,0,none,0,none,0⟩,by rw [uh HOP];rfl,NdL.none _ _ _ _ _ _ _⟩ h.pr)
  clear FY FN OE4 HOP
  have Qx5:=hide ((uh Qg4).row (uh Bxx4) (by decide) (by decide) (uh BGx) #[.int .i64 3,.string ⟨#[]⟩,.int .i64 op,.int .i64 0,.int .i64 0,.int .i64 0,.int .i64 0,.string ⟨#[]⟩,.slice none 0 0,.int .i64 0,.int .i64 0,.int .i64 0,.int .i64 0,.string ⟨#[]⟩,.slice none 0 0,.int .i64 x4,.slice none 0 0])
  have Rx5:=hide ((setRow_other w4 gx w.heap.size #[.int .i64 3,.string ⟨#[]⟩,.int .i64 op,.int .i64 0,.int .i64 0,.int .i64 0,.int .i64 0,.string ⟨#[]⟩,.slice none 0 0,.int .i64 0,.int .i64 0,.int .i64 0,.int .i64 0,.string ⟨#[]⟩,.slice none 0 0,.int .i64 x4,.slice none 0 0] (Nat.ne_of_lt (uh BLx))).trans (uh Rx4))
  have Bxx5:=hide ((show ((w4.setRow gx #[.int .i64 3,.string ⟨#[]⟩,.int .i64 op,.int .i64 0,.int .i64 0,.int .i64 0,.int .i64 0,.string ⟨#[]⟩,.slice none 0 0,.int .i64 0,.int .i64 0,.int .i64 0,.int .i64 0,.string ⟨#[]⟩,.slice none 0 0,.int .i64 x4,.slice none 0 0])).heap[gx]?=some (.cells #[.int .i64 3,.string ⟨#[]⟩,.int .i64 op,.int .i64 0,.int .i64 0,.int .i64 0,.int .i64 0,.string ⟨#[]⟩,.slice none 0 0,.int .i64 0,.int .i64 0,.int .i64 0,.int .i64 0,.string ⟨#[]⟩,.slice none 0 0,.int .i64 x4,.slice none 0 0] 30 (0,0)) from setRow_heap _ _ _ _ _ _ (uh Bxx4)))
  have Bxs5:=hide ((setRow_other w4 gx gs #[.int .i64 3,.string ⟨#[]⟩,.int .i64 op,.int .i64 0,.int .i64 0,.int .i64 0,.int .i64 0,.string ⟨#[]⟩,.slice none 0 0,.int .i64 0,.int .i64 0,.int .i64 0,.int .i64 0,.string ⟨#[]⟩,.slice none 0 0,.int .i64 x4,.slice none 0 0] (uh NEsx)).trans (uh Bxs4))
  clear Qg4 Rx4 Bxs4
  have cs1:=Lib.cell_of_heap (uh Bxs5) 1
  have cs2:=Lib.cell_of_heap (uh Bxs5) 2
  have cs5:=Lib.cell_of_heap (uh Bxs5) 5
  go_wp2_with (first|((with_reducible show wpList _ _ _ (⟨_,.store _ _ _,_,_,_,_⟩::_) _ _);refine wpList_store_cell rfl 3 _ _ rfl gx 15 (.int .i64 x4) rfl rfl 30 #[.int .i64 3,.string ⟨#[]⟩,.int .i64 op,.int .i64 0,.int .i64 0,.int .i64 0,.int .i64 0,.string ⟨#[]⟩,.slice none 0 0,.int .i64 0,.int .i64 0,.int .i64 0,.int .i64 0,.string ⟨#[]⟩,.slice none 0 0,.int .i64 0,.slice none 0 0] #[.int .i64 3,.string ⟨#[]⟩,.int .i64 op,.int .i64 0,.int .i64 0,.int .i64 0,.int .i64 0,.string ⟨#[]⟩,.slice none 0 0,.int .i64 0,.int .i64 0,.int .i64 0,.int .i64 0,.string ⟨#[]⟩,.slice none 0 0,.int .i64 x4,.slice none 0 0] (uh Bxx4) (by kernel_rfl) (by simp) rfl rfl rfl ?_)|((with_reducible show wpList _ _ _ (⟨_,.load _ _,_,_,_,_⟩::_) _ _);refine wpList_load_row rfl 30 _ rfl gx rfl 30 #[.int .i64 3,.string ⟨#[]⟩,.int .i64 op,.int .i64 0,.int .i64 0,.int .i64 0,.int .i64 0,.string ⟨#[]⟩,.slice none 0 0,.int .i64 0,.int .i64 0,.int .i64 0,.int .i64 0,.string ⟨#[]⟩,.slice none 0 0,.int .i64 x4,.slice none 0 0] (0,0) _ (uh Bxx5) Tryz.underlying30 rfl (by kernel_rfl) ?_)|((with_reducible show wpList _ _ _ (⟨_,.store _ _ _,_,_,_,_⟩::_) _ _);refine wpList_store_row rfl 30 _ _ rfl w.heap.size #[.int .i64 3,.string ⟨#[]⟩,.int .i64 op,.int .i64 0,.int .i64 0,.int .i64 0,.int .i64 0,.string ⟨#[]⟩,.slice none 0 0,.int .i64 0,.int .i64 0,.int .i64 0,.int .i64 0,.string ⟨#[]⟩,.slice none 0 0,.int .i64 x4,.slice none 0 0] rfl rfl 30 _ (uh Rx5) szLn rfl (by simp [Value.oneCell']) ?_))
  refine bodyPost_ret (results_cell_row (P:=Tryz.prog) rfl _ _ w.heap.size 30 #[.int .i64 3,.string ⟨#[]⟩,.int .i64 op,.int .i64 0,.int .i64 0,.int .i64 0,.int .i64 0,.string ⟨#[]⟩,.slice none 0 0,.int .i64 0,.int .i64 0,.int .i64 0,.int .i64 0,.string ⟨#[]⟩,.slice none 0 0,.int .i64 x4,.slice none 0 0] (0,0) _ rfl (setRow_heap _ _ _ _ _ _ (uh Rx5)) Tryz.underlying30 rfl szLn) rfl ?_
  exact uh F _ ((uh Qx5).row (uh Rx5) (by decide) (by decide) (Nat.le_refl _) _)
end Go.Proofs.YtjnblcgekpgkoaaGreatDoor
