/- Contracts over this seat's translation, laid together; conditions stand as hypotheses of each. -/
import Derived.OwnWalk
import Derived.Lib.Builder
import Derived.Lib.AppendStr
import Derived.Lib.FrozenHead
import Derived.Lib.UnsafeStr
import Derived.Lib.OthersKept
import Derived.Deep.RegionHeld
import Derived.Deep.RegionWith
import Derived.Laws.Rows
import Derived.Laws.OwnMore
import Derived.Test.YtjnblcgekpgkoaaGreatDoorProg
import Derived.Deep.Slices
import Derived.Lib.SmallJoins
import Derived.Laws.Tables
import Derived.Laws.Strings3
import Derived.BigGuard
import Derived.Lib.BufferWrite
import Derived.Lib.IfaceEq
import Derived.Lib.AtoiErrMem
import Derived.Lib.Walk
import Derived.Laws.MakeOwn
import Derived.Laws.Closers25b
import Derived.Laws.ResultCell
import Derived.Laws.CopyOwn
import Derived.Deep.DeepMust
import Derived.WalkKit
import Derived.ProofKit
import Derived.OpenShut
import Derived.ShutString
import Derived.ChangeOld
import Derived.Below
import Derived.Deep.OwnRows
import Derived.WalkSpells
import Derived.Laws.AppendOwnNone
import Derived.BigQuiet
import Derived.Laws.BitsLemmas
import Derived.WalkLawsBesides
import Derived.WalkMore
import Derived.LaidLaws
import Derived.Lib.LaidTab
import Derived.Lib.Bytealg
import Derived.Laws.IdiomStrings
import GoSem.Claim
import Derived.JoinedTies
import Derived.KernelRfl
namespace Go.Proofs.YtjnblcgekpgkoaaGreatDoor
open Go.ChangeShapes Go.WideShapes Go.ChangeAt Go.RowKit
set_option maxHeartbeats 16000000
section
variable {P:Program} {ops:Array Oper} {Q:Exit→Act→World→Prop} {md:Region.Mode} {S:World→Prop} {oi:Oper} {fuel:Nat} {listed:Array Bool} {a:Act} {w:World}
theorem tkA (i:Nat) (v:Value) (hi:ops[i]?=some oi) (hy:YieldsIf P ops S oi v a) (hS:S w) (h:wpAnyH P md ops Q S fuel (listed.setIfInBounds i true) (a.put oi.dst v) w) (hs:Region.noSelect ops=true:=by kernel_rfl) (hf:Region.free md ops listed i=true:=by kernel_rfl) (hr:(Region.ready md ops listed).contains i=true:=by kernel_rfl) (hQ:∀ c a w,Q (.panic c) (a.put oi.dst v) w→Q (.panic c) a w:=by exact fun _ _ _ h=>h):wpAnyH P md ops Q S (fuel+1) listed a w:=wpAnyH_take hi hs hf hr hQ hy hS h
theorem tkB (i:Nat) (v:Value) (hi:ops[i]?=some oi) (hS:S w) (h:wpAnyH P md ops Q S fuel (listed.setIfInBounds i true) (a.put oi.dst v) w) (hs:Region.noSelect ops=true:=by kernel_rfl) (hf:Region.free md ops listed i=true:=by kernel_rfl) (hr:(Region.ready md ops listed).contains i=true:=by kernel_rfl) (hQ:∀ c a w,Q (.panic c) (a.put oi.dst v) w→Q (.panic c) a w:=by exact fun _ _ _ h=>h) (hy:YieldsIf P ops S oi v a:=by exact .inl ⟨by rfl,fun w hc=>by clear hc;go_simp⟩):wpAnyH P md ops Q S (fuel+1) listed a w:=wpAnyH_take hi hs hf hr hQ hy hS h
end
set_option linter.unusedVariables false
set_option maxRecDepth 8000
theorem hide {p:Prop} (h:p):Hid p:=h
theorem uh {p:Prop} (h:Hid p):p:=h
def inB (x a b:Int):Bool:=decide (a≤x)&&decide (x≤b)
theorem inB_t (x a b:Int) (h1:a≤x) (h2:x≤b):inB x a b=true:=by unfold inB;simp [h1,h2]
theorem inB_f (x a b:Int) (h:¬ (a≤x∧x≤b)):inB x a b=false:=by unfold inB;simp;omega
theorem inB_iff (x a b:Int):inB x a b=true↔a≤x∧x≤b:=by unfold inB;simp
theorem in_any (x a b:Int) (w:World):Calls Tryz.prog 61 #[.int .i64 x,.int .i64 a,.int .i64 b] w fun e w'=>e = .returned (.bool (inB x a b))∧w'=w:=by
 unfold inB
 by_cases h1:a≤x
 ·
  rw [decide_eq_true h1,Bool.true_and]
  go_enter Tryz.func61,Tryz.ntmps61
  go_wp2
  go_ret
  exact ⟨rfl,rfl⟩
 ·
  rw [decide_eq_false h1,Bool.false_and]
  have h3:decide (a≤x)=false:=decide_eq_false h1
  go_enter Tryz.func61,Tryz.ntmps61
  go_wp2
  go_ret
  exact ⟨rfl,rfl⟩
theorem i64_and65535 (n:Int):bits .and .i64 n 65535=n%65536:=by
 have h127:(BitVec.ofInt 64 65535).toNat=2 ^ 16-1:=by decide
 have key:(BitVec.ofInt 64 n &&& BitVec.ofInt 64 65535).toNat=(n%((2 ^ 64:Nat):Int)).toNat%2 ^ 16:=by
  rw [BitVec.toNat_and,BitVec.toNat_ofInt,h127,Nat.and_two_pow_sub_one_eq_mod]
 show IntKind.i64.wrap ((BitVec.ofInt 64 n &&& BitVec.ofInt 64 65535).toNat:Nat)=n%65536
 rw [key,IntKind.wrap_i64]
 omega
theorem ret_int {k:IntKind} {a b:Int} (h:a=b):Ending.returned (.int k a) = .returned (.int k b):=by rw [h]
theorem ret_bool {a b:Bool} (h:a=b):Ending.returned (.bool a) = .returned (.bool b):=by rw [h]
theorem wrapI_any (n:Int) (w:World):Calls Tryz.prog 153 #[.int .i64 n] w fun e w'=>e = .returned (.int .i64 (n%65536))∧w'=w:=by
 go_enter Tryz.func153,Tryz.ntmps153
 go_wp2
 go_ret
 exact ⟨ret_int (i64_and65535 n),rfl⟩
theorem wrapS_any (n:Int) (w:World):Calls Tryz.prog 157 #[.int .i64 n] w fun e w'=>e = .returned (.int .i64 (n%65536))∧w'=w:=by
 go_enter Tryz.func157,Tryz.ntmps157
 go_wp2
 go_ret
 exact ⟨ret_int (i64_and65535 n),rfl⟩
theorem isWord_eq (n:Int):(n == n%65536)=inB n 0 65535:=by
 unfold inB
 rw [Bool.eq_iff_iff]
 simp
 omega
theorem isWord_any (n:Int) (w:World):Calls Tryz.prog 130 #[.int .i64 n] w fun e w'=>e = .returned (.bool (inB n 0 65535))∧w'=w:=by
 rw [←isWord_eq]
 obtain ⟨q,hq⟩:∃ q,n%65536=q:=⟨_,rfl⟩
 have W:=hide (fun w=>hq▸wrapI_any n w)
 rw [hq]
 clear hq
 go_enter Tryz.func130,Tryz.ntmps130
 go_wp2_with (go_at_call 153;refine (uh W _).mono ?_;rintro e w' ⟨rfl,rfl⟩)
 go_ret
 exact ⟨rfl,rfl⟩
def bAt (xs:List UInt8) (i:Nat):Int:=((xs.getD i 0).toNat:Int)
theorem bAt_bd (xs:List UInt8) (i:Nat):0≤bAt xs i∧bAt xs i≤255:=by
 unfold bAt
 have:=(xs.getD i 0).toNat_lt
 omega
theorem sAt (s:ByteArray) (k:Nat) (h:k<s.size):((s[k]'h).toNat:Int)=bAt s.data.toList k:=by
 unfold bAt
 rw [List.getD_eq_getElem?_getD,List.getElem?_eq_getElem (by simpa using h)]
 rfl
theorem str_ne {a b:ByteArray} (h:a≠b):(a.toList == b.toList)=false:=by
 rw [ByteArray.toList_eq,ByteArray.toList_eq]
 exact beq_eq_false_iff_ne.2 (fun e=>h (bytes_inj e))
theorem i64_and7 (n:Int):bits .and .i64 n 7=n%8:=by
 have h127:(BitVec.ofInt 64 7).toNat=2 ^ 3-1:=by decide
 have key:(BitVec.ofInt 64 n &&& BitVec.ofInt 64 7).toNat=(n%((2 ^ 64:Nat):Int)).toNat%2 ^ 3:=by
  rw [BitVec.toNat_and,BitVec.toNat_ofInt,h127,Nat.and_two_pow_sub_one_eq_mod]
 show IntKind.i64.wrap ((BitVec.ofInt 64 n &&& BitVec.ofInt 64 7).toNat:Nat)=n%8
 rw [key,IntKind.wrap_i64]
 omega
theorem ret_str {a b:ByteArray} (h:a=b):Ending.returned (.string a) = .returned (.string b):=by rw [h]
def dg (x:Nat):UInt8:=UInt8.ofNat (48+x)
def octF:Nat→Nat→List UInt8
 | 0, n => [dg n]
 | k + 1, n => if n < 8 then [dg n] else octF k (n / 8) ++ [dg (n % 8)]
theorem octF_same (k:Nat):∀ j n,n≤k→n≤j→octF k n=octF j n:=by
 induction k with
 | zero =>
  intro j n h1 h2
  obtain rfl:n=0:=by omega
  cases j with
  | zero => rfl
  | succ j => rfl
 | succ k ih =>
  intro j n h1 h2
  cases j with
  | zero =>
   obtain rfl:n=0:=by omega
   rfl
  | succ j =>
   show (if n<8 then [dg n] else octF k (n / 8)++[dg (n%8)])=(if n<8 then [dg n] else octF j (n / 8)++[dg (n%8)])
   by_cases h:n<8
   · rw [if_pos h,if_pos h]
   · rw [if_neg h,if_neg h,ih j (n / 8) (by omega) (by omega)]
def octD (n:Nat):List UInt8:=octF n n
theorem octD_step (n:Nat):octD n=if n<8 then [dg n] else octD (n / 8)++[dg (n%8)]:=by
 unfold octD
 rw [octF_same n (n+1) n (Nat.le_refl _) (by omega)]
 show (if n<8 then [dg n] else octF n (n / 8)++[dg (n%8)])=_
 rw [octF_same n (n / 8) (n / 8) (by omega) (Nat.le_refl _)]
theorem octD_small (n:Nat) (h:n<8):octD n = [dg n]:=by rw [octD_step,if_pos h]
theorem octD_big (n:Nat) (h:¬ n<8):octD n=octD (n / 8)++[dg (n%8)]:=by rw [octD_step,if_neg h]
def octP (n:Nat):List UInt8:=if n<8 then [] else octD (n / 8)
theorem octD_split (n:Nat):octD n=octP n++[dg (n%8)]:=by
 unfold octP
 by_cases h:n<8
 · rw [if_pos h,octD_small n h,Nat.mod_eq_of_lt h];rfl
 · rw [if_neg h,octD_big n h]
theorem octD_len (n:Nat):∀ k,n<8 ^ (k+1)→(octD n).length≤k+1:=by
 intro k
 induction k generalizing n with
 | zero => intro h; rw [octD_small n (by omega)]; simp
 | succ k ih =>
  intro h
  by_cases h8:n<8
  · rw [octD_small n h8];simp
  ·
   rw [octD_big n h8,List.length_append]
   have:=ih (n / 8) (by rw [Nat.pow_succ] at h;omega)
   simp;omega
def strOf (l:List UInt8):ByteArray:=⟨l.toArray⟩
theorem strOf_size (l:List UInt8):(strOf l).size=l.length:=by show l.toArray.size=_;simp
theorem strOf_list (l:List UInt8):(strOf l).data.toList=l:=by simp [strOf]
theorem strOf_append (a b:List UInt8):strOf a++strOf b=strOf (a++b):=by apply ByteArray.ext;show (strOf a++strOf b).data=_;rw [ByteArray.data_append];simp [strOf]
theorem one_conv (W:World) (d:Nat) (hd:d<8) (x:Int) (hx:x=48+(d:Int)) (b:Nat) (hb:b=W.heap.size):(convert 22 9 (.slice (some ⟨b,0,none⟩) 1 1)).run Tryz.prog (W.alloc (.cells #[.int .u8 x] 5)) = .ok (.string (strOf [dg d])) (W.alloc (.cells #[.int .u8 x] 5)):=by
 subst hb
 exact run_convert_bytes_back (P:=Tryz.prog) (W.alloc (.cells #[.int .u8 x] 5)) 22 9 5 ⟨W.heap.size,0,none⟩ 1 [dg d] Tryz.underlying22 Tryz.underlying5 Tryz.underlying9 (fun j hj=>by
  obtain rfl:j=0:=by simp at hj;omega
  have e:((dg d).toNat:Int)=x:=by unfold dg;simp;omega
  simp only [List.getElem_cons_zero,e]
  simp [Addr.add])
theorem octS_any (n:Int) (w:World):Calls Tryz.prog 122 #[.int .i64 n] w fun e w'=>e = .returned (.string (strOf (octD (n%65536).toNat)))∧Below w.heap.size w w':=by
 obtain ⟨N,hN⟩:=Int.eq_ofNat_of_zero_le (Int.emod_nonneg n (show (65536:Int)≠0 by omega))
 have hlt:N<65536:=by have:=Int.emod_lt_of_pos n (show (0:Int)<65536 by omega);omega
 rw [hN,Int.toNat_natCast]
 have h7:=i64_and7 N
 have hc:=one_conv w (N%8) (by omega) (48+(N:Int)%8) (by omega)
 have HN:=hide hN
 clear hN
 go_enter Tryz.func122,Tryz.ntmps122
 go_wp2_with fail
 refine (wrapS_any n w).mono ?_
 rintro e w' ⟨he,hw'⟩
 rw [uh HN] at he
 rw [hw',he]
 clear hw' he w'
 go_wp2
 clear h7 hc
 go_loopw [0,3] (fun i s wr=>∃ (m:Nat) (t:List UInt8),m<65536∧t.length≤6∧i = .int .i64 m∧s = .string (strOf t)∧Hid (octD N=octP m++t)∧Below w.heap.size w wr) (fun i _ _=>(intOf i).toNat)
 case atStart=>exact ⟨N,[dg (N%8)],hlt,by simp,rfl,rfl,octD_split N,(Below.refl _ _).alloc (Nat.le_refl _) _⟩
 case round =>
  obtain ⟨m,t,hm,ht,rfl,rfl,hsp,hbel⟩:=hrel
  by_cases h8:m<8
  ·
   go_wp2
   go_ret
   refine ⟨ret_str ?_,hbel⟩
   rw [hsp.out,octP,if_pos h8,List.nil_append]
  ·
   have h7:=i64_and7 ((m:Int) / 8)
   have hc:=one_conv wr (m / 8%8) (by omega) (48+(m:Int) / 8%8) (by omega)
   have hsz:(strOf t).size≤6:=by rw [strOf_size];exact ht
   have hsz1:=strOf_size [dg (m / 8%8)]
   go_wp2
   have hsp':octD N=octP (m / 8)++(dg (m / 8%8)::t):=by
    have h1:=hsp.out
    rw [octP,if_neg h8,octD_split (m / 8)] at h1
    rw [h1];simp
   have hlen:(dg (m / 8%8)::t).length≤6:=by
    have h2:=octD_len N 5 (by omega)
    rw [hsp',List.length_append] at h2
    omega
   go_roundw
   case rel=>exact ⟨m / 8,dg (m / 8%8)::t,by omega,hlen,by go_num,by rw [strOf_append];rfl,hsp',hbel.alloc hbel.size _⟩
   case measure=>simp [intOf];omega
theorem pow2_any (w:World):Calls Tryz.prog 237 #[.int .i64 8] w fun e w'=>e = .returned (.bool true)∧w'=w:=by
 have h:bits BinOp.and IntKind.i64 8 7=0:=by decide +kernel
 go_enter Tryz.func237,Tryz.ntmps237
 go_wp2
 go_ret
 exact ⟨rfl,rfl⟩
theorem tz_num:IntKind.u64.wrap (bits BinOp.and IntKind.u64 8 (IntKind.u64.wrap (-8))*285870213051353865) / 288230376151711744=7:=by decide +kernel
theorem tz_any (w:World) (hg:w.cell? ⟨11,7,none⟩=some (.int .u8 3)):Calls Tryz.prog 238 #[.int .u64 8] w fun e w'=>e = .returned (.int .i64 3)∧w'=w:=by
 have hm:=tz_num
 go_enter Tryz.func238,Tryz.ntmps238
 go_wp2
 go_ret
 exact ⟨rfl,rfl⟩
def bOf (xs:List UInt8) (i:Nat):Int:=((xs.getD i 0).toNat:Int)
def tail65 (t:List UInt8) (p j:Nat):Value:=if j<p then .int .u8 0 else .int .u8 (bOf t (j-p))
theorem u64_and7 (m:Nat) (hm:m<65536):bits .and .u64 (m:Int) 7=((m%8:Nat):Int):=by
 have:=bits_mask .u64 63 (by decide) (fun n a b=>by rw [IntKind.wrap_u64];omega) 3 (by decide) (m:Int) (by omega) (by omega)
 have e:(2:Int) ^ 3-1=7:=by decide
 rw [e] at this
 rw [this]
 omega
def z65:Array Value:=(List.replicate 65 (Value.int .u8 0)).toArray
theorem z65_size:z65.size=65:=by unfold z65;rw [List.size_toArray,List.length_replicate]
theorem z65_get (i:Nat) (h:i<65):z65[i]?=some (Value.int .u8 0):=by unfold z65;rw [List.getElem?_toArray,List.getElem?_replicate,if_pos h]
theorem row65 (w:World):(w.alloc (Obj.cells z65 264)).rowIs w.heap.size 264 65 (tail65 [] 65):=by
 have h:=World.rowIs_alloc w z65 264 (fun _=>.int .u8 0) (fun i hi=>z65_get i (by rw [z65_size] at hi;exact hi))
 rw [z65_size] at h
 exact h.congr (fun j hj=>by simp [tail65,hj])
theorem zero65 (w:World):(zeroValue 264).run Tryz.prog w = .ok (.agg z65) w:=by kernel_rfl
theorem digit_at (d:Nat) (h8:d<8):∀ h,(({ data:=#[48,49,50,51,52,53,54,55,56,57,97,98,99,100,101,102,103,104,105,106,107,108,109,110,111,112,113,114,115,116,117,118,119,120,121,122] }:ByteArray)[d]'h).toNat=48+d:=by
 match d,h8 with
 | 0, _ => intro h; rfl
 | 1, _ => intro h; rfl
 | 2, _ => intro h; rfl
 | 3, _ => intro h; rfl
 | 4, _ => intro h; rfl
 | 5, _ => intro h; rfl
 | 6, _ => intro h; rfl
 | 7, _ => intro h; rfl
theorem dg_val (d:Nat) (h:d<8):((dg d).toNat:Int)=48+d:=by unfold dg;simp;omega
theorem tail_step {W:World} {b p:Nat} {t:List UInt8} (h:W.rowIs b 264 65 (tail65 t p)) (hp1:1≤p) (d:Nat) (hd:d<8) (x:Int) (hx:x=48+(d:Int)):(W.setCell ⟨b,p-1,none⟩ (.int .u8 x)).rowIs b 264 65 (tail65 (dg d::t) (p-1)):=by
 refine (h.set (p-1) (.int .u8 x)).congr (fun j hj=>?_)
 by_cases e:j=p-1
 ·
  subst e
  rw [if_pos rfl]
  unfold tail65
  rw [if_neg (by omega),Nat.sub_self]
  have:bOf (dg d::t) 0=x:=by rw [hx,←dg_val d hd];rfl
  rw [this]
 ·
  rw [if_neg e]
  unfold tail65
  by_cases e2:j<p-1
  · rw [if_pos (by omega),if_pos e2]
  ·
   rw [if_neg (by omega),if_neg e2]
   have:j-(p-1)=(j-p)+1:=by omega
   rw [this]
   rfl
theorem tail_conv {W:World} {b p:Nat} {t:List UInt8} (h:W.rowIs b 264 65 (tail65 t p)) (hp:p+t.length=65) (n c:Nat) (hn:n=t.length):(convert 22 9 (.slice (some ⟨b,p,none⟩) n c)).run Tryz.prog W = .ok (.string (strOf t)) W:=by
 subst hn
 exact run_convert_bytes_back (P:=Tryz.prog) W 22 9 5 ⟨b,p,none⟩ c t Tryz.underlying22 Tryz.underlying5 Tryz.underlying9 (fun j hj=>by
  have h2:=h.cell (i:=p+j) (by omega)
  unfold tail65 at h2
  rw [if_neg (by omega),Nat.add_sub_cancel_left] at h2
  have e:bOf t j=(t[j].toNat:Int):=by unfold bOf;rw [List.getD_eq_getElem?_getD,List.getElem?_eq_getElem hj];rfl
  rw [e] at h2
  unfold Addr.add
  by_cases h0:j=0
  · subst h0;simpa using h2
  · simpa [h0] using h2)
theorem slice65 (b p:Nat) (h1:1≤p) (h2:p≤65) (W:World):(Instr.sliceAt 264 (.pointer (some ⟨b,0,none⟩)) (some (.int .i64 ((p:Int)-1))) none none).run Tryz.prog W = .ok (.slice (some ⟨b,p-1,none⟩) (65-(p-1)) (65-(p-1))) W:=by
 have hal:Tryz.prog.arrayLen 264=65:=by simp [Program.arrayLen,Tryz.underlying264]
 rw [run_sliceAt_array_l W 264 ⟨b,0,none⟩ (by simp [Program.arrayLen,Program.elem,Tryz.underlying264]) .i64 ((p:Int)-1) (by omega) (by rw [hal];omega)]
 have e:((p:Int)-1).toNat=p-1:=by omega
 have hne:¬ 65=p-1:=by omega
 rw [hal,e]
 go_simp
theorem fmtBits_any (N:Nat) (hN:N<65536) (w:World) (hg:w.cell? ⟨11,7,none⟩=some (.int .u8 3)) :
  Calls Tryz.prog 221 #[.slice none 0 0,.int .u64 N,.int .i64 8,.bool false,.bool false] w fun e w'=>e = .returned (.tuple #[.slice none 0 0,.string (strOf (octD N))])∧Below w.heap.size w w':=by
 have hlt:=World.block_lt_of_cell? w _ hg
 have hlt4:11<w.heap.size:=hlt
 have HG:∀ o,(w.alloc o).cell? ⟨11,7,none⟩=some (.int .u8 3):=fun o=>by rw [World.cell?_alloc_past _ _ _ hlt4];exact hg
 have HG':=hide HG
 clear HG hg hlt
 have hz:=zero65
 go_enter Tryz.func221,Tryz.ntmps221
 go_wp2_with (first|(go_at_call 237;refine (pow2_any _).mono ?_;rintro e w' ⟨rfl,hw'⟩;rw [hw'];clear hw' w')|(go_at_call 238;refine (tz_any _ (by exact uh HG' _)).mono ?_;rintro e w' ⟨rfl,hw'⟩;rw [hw'];clear hw' w'))
 have R0':=hide (row65 w)
 clear hz
 go_loopw [1,13] (fun u i wr=>∃ (m:Nat) (t:List UInt8) (p:Nat),m<65536∧p+t.length=65∧t.length≤6∧u = .int .u64 m∧i = .int .i64 p∧Hid (octD N=octD m++t)∧wr.rowIs w.heap.size 264 65 (tail65 t p)∧Below w.heap.size w wr) (fun u _ _=>(intOf u).toNat)
 case atStart=>exact ⟨N,[],65,hN,rfl,by simp,rfl,rfl,by show octD N=_;simp,uh R0',(Below.refl _ _).alloc (Nat.le_refl _) _⟩
 case round =>
  obtain ⟨m,t,p,hm,hp,ht,rfl,rfl,hsp,hrow,hbel⟩:=hrel
  clear R0'
  have hp1:59≤p:=by omega
  by_cases h8:m<8
  ·
   have hdig:=digit_at m h8
   have hfz:=hrow.frozen (p-1)
   have hco:=hrow.cell (i:=p-1) (by omega)
   have R1:=tail_step hrow (by omega) m h8 (48+(m:Int)) rfl
   have hcv:=tail_conv R1 (by rw [List.length_cons];omega) (65-(p-1)) (65-(p-1)) (by rw [List.length_cons];omega)
   have hsl:=slice65 w.heap.size p (by omega) (by omega)
   have R1':=hide R1
   clear R1 hrow
   go_wp2
   go_ret2
   refine ⟨?_,hbel.setCell (p:=⟨w.heap.size,p-1,none⟩) (Nat.le_refl _) _⟩
   rw [hsp.out,octD_small m h8]
   rfl
  ·
   have h7:=u64_and7 m hm
   have hdig:=digit_at (m%8) (by omega)
   have hfz:=hrow.frozen (p-1)
   have hco:=hrow.cell (i:=p-1) (by omega)
   have R1:=hide (tail_step hrow (by omega) (m%8) (by omega) (48+(m:Int)%8) (by omega))
   have hsp':octD N=octD (m / 8)++(dg (m%8)::t):=by
    have h1:=hsp.out
    rw [octD_big m h8] at h1
    rw [h1];simp
   have hlen:(dg (m%8)::t).length≤6:=by
    have h2:=octD_len N 5 (by omega)
    rw [hsp',List.length_append] at h2
    omega
   have HS:=hide hsp'
   have HL:=hide hlen
   clear hrow hsp' hlen
   go_wp2
   go_roundw
   case rel=>exact ⟨m / 8,dg (m%8)::t,p-1,by omega,by rw [List.length_cons];omega,uh HL,by go_num,by go_num,uh HS,uh R1,hbel.setCell (p:=⟨w.heap.size,p-1,none⟩) (Nat.le_refl _) _⟩
   case measure=>simp [intOf];omega
theorem fmtInt_any (N:Nat) (hN:N<65536) (w:World) (hg:w.cell? ⟨11,7,none⟩=some (.int .u8 3)) :
  Calls Tryz.prog 196 #[.int .i64 N,.int .i64 8] w fun e w'=>e = .returned (.string (strOf (octD N)))∧Below w.heap.size w w':=by
 have H:=hide (fmtBits_any N hN w hg)
 clear hg
 go_enter Tryz.func196,Tryz.ntmps196
 go_wp2_with fail
 refine (uh H).mono ?_
 rintro e w1 ⟨rfl,hb⟩
 go_wp2
 go_ret
 exact ⟨rfl,hb⟩
theorem octI_any (n:Int) (w:World) (hg:w.cell? ⟨11,7,none⟩=some (.int .u8 3)) :
  Calls Tryz.prog 105 #[.int .i64 n] w fun e w'=>e = .returned (.string (strOf (octD (n%65536).toNat)))∧Below w.heap.size w w':=by
 obtain ⟨N,hN⟩:=Int.eq_ofNat_of_zero_le (Int.emod_nonneg n (show (65536:Int)≠0 by omega))
 have hlt:N<65536:=by have:=Int.emod_lt_of_pos n (show (0:Int)<65536 by omega);omega
 rw [hN,Int.toNat_natCast]
 have HN:=hide hN
 have H:=hide (fmtInt_any N hlt w hg)
 clear hN hg
 go_enter Tryz.func105,Tryz.ntmps105
 go_wp2_with fail
 refine (wrapI_any n w).mono ?_
 rintro e w' ⟨he,hw'⟩
 rw [uh HN] at he
 rw [hw',he]
 clear hw' he w'
 go_wp2_with (first|(go_at_call 196;refine (uh H).mono ?_;rintro e w1 ⟨rfl,hb⟩)|go_in)
 go_ret
 exact ⟨rfl,hb⟩
def smB (c:Int):Bool:=inB c 97 122
def dgB (c:Int):Bool:=inB c 48 57
def ldB (c:Int):Bool:=smB c || dgB c
def blB (c:Int):Bool:=c == 32 || c == 9
theorem blank_any (c:Int) (w:World):Calls Tryz.prog 64 #[.int .u8 c] w fun e w'=>e = .returned (.bool (blB c))∧w'=w:=by
 unfold blB
 cases h:(c == 32)
 ·
  go_enter Tryz.func64,Tryz.ntmps64
  go_wp2
  go_ret
  exact ⟨rfl,rfl⟩
 ·
  go_enter Tryz.func64,Tryz.ntmps64
  go_wp2
  go_ret
  exact ⟨rfl,rfl⟩
theorem smI_any (c:Int) (w:World):Calls Tryz.prog 65 #[.int .u8 c] w fun e w'=>e = .returned (.bool (smB c))∧w'=w:=by
 unfold smB inB
 cases h:decide (97≤c)
 ·
  go_enter Tryz.func65,Tryz.ntmps65
  go_wp2
  go_ret
  exact ⟨rfl,rfl⟩
 ·
  go_enter Tryz.func65,Tryz.ntmps65
  go_wp2
  go_ret
  exact ⟨rfl,rfl⟩
theorem dgI_any (c:Int) (w:World):Calls Tryz.prog 66 #[.int .u8 c] w fun e w'=>e = .returned (.bool (dgB c))∧w'=w:=by
 unfold dgB inB
 cases h:decide (48≤c)
 ·
  go_enter Tryz.func66,Tryz.ntmps66
  go_wp2
  go_ret
  exact ⟨rfl,rfl⟩
 ·
  go_enter Tryz.func66,Tryz.ntmps66
  go_wp2
  go_ret
  exact ⟨rfl,rfl⟩
theorem ldI_any (c:Int) (w:World):Calls Tryz.prog 67 #[.int .u8 c] w fun e w'=>e = .returned (.bool (ldB c))∧w'=w:=by
 have H1:=hide (fun w=>smI_any c w)
 have H2:=hide (fun w=>dgI_any c w)
 unfold ldB
 generalize smB c=a at *
 generalize dgB c=b at *
 cases a
 ·
  go_enter Tryz.func67,Tryz.ntmps67
  go_wp2_with (first|(go_at_call 65;refine (uh H1 _).mono ?_;rintro e w' ⟨rfl,rfl⟩)|(go_at_call 66;refine (uh H2 _).mono ?_;rintro e w' ⟨rfl,rfl⟩))
  go_ret
  exact ⟨rfl,rfl⟩
 ·
  go_enter Tryz.func67,Tryz.ntmps67
  go_wp2_with (first|(go_at_call 65;refine (uh H1 _).mono ?_;rintro e w' ⟨rfl,rfl⟩)|(go_at_call 66;refine (uh H2 _).mono ?_;rintro e w' ⟨rfl,rfl⟩))
  go_ret
  exact ⟨rfl,rfl⟩
theorem smS_any (c:Int) (w:World) (h0:0≤c) (h1:c≤255):Calls Tryz.prog 168 #[.int .u8 c] w fun e w'=>e = .returned (.bool (smB c))∧w'=w:=by
 unfold smB
 go_enter Tryz.func168,Tryz.ntmps168
 go_wp2_with (go_at_call 61;refine (in_any _ _ _ _).mono ?_;rintro e w' ⟨rfl,rfl⟩)
 go_ret
 exact ⟨rfl,rfl⟩
theorem dgS_any (c:Int) (w:World) (h0:0≤c) (h1:c≤255):Calls Tryz.prog 171 #[.int .u8 c] w fun e w'=>e = .returned (.bool (dgB c))∧w'=w:=by
 unfold dgB
 go_enter Tryz.func171,Tryz.ntmps171
 go_wp2_with (go_at_call 61;refine (in_any _ _ _ _).mono ?_;rintro e w' ⟨rfl,rfl⟩)
 go_ret
 exact ⟨rfl,rfl⟩
def okAt (l:List UInt8) (i:Nat):Bool:=smB (bAt l i) || (decide (0<i)&&dgB (bAt l i))
def formB (l:List UInt8):Bool:=(List.range l.length).all (okAt l)&&inB l.length 1 6
theorem formB_no {l:List UInt8} {k:Nat} (h:k<l.length) (hk:okAt l k=false):formB l=false:=by
 unfold formB
 have:(List.range l.length).all (okAt l)=false:=by
  rw [List.all_eq_false]
  exact ⟨k,List.mem_range.2 h,by rw [hk];decide⟩
 rw [this,Bool.false_and]
theorem formB_all {l:List UInt8} (h:∀ k,k<l.length→okAt l k=true):formB l=inB l.length 1 6:=by
 unfold formB
 have:(List.range l.length).all (okAt l)=true:=by
  rw [List.all_eq_true]
  exact fun k hk=>h k (List.mem_range.1 hk)
 rw [this,Bool.true_and]
theorem formB_len {l:List UInt8} (h:¬ (1≤l.length∧l.length≤6)):formB l=false:=by
 unfold formB
 rw [inB_f _ _ _ (by omega),Bool.and_false]
theorem size_len (s:ByteArray):s.data.toList.length=s.size:=by simp
theorem empty_of (s:ByteArray) (h:s.size=0):s=⟨#[]⟩:=by apply ByteArray.ext;exact Array.eq_empty_of_size_eq_zero h
theorem emp_no (s:ByteArray) (h:s.size≠0):s.toList.isEmpty=false:=by
 rw [←decide_eq_emptyBytes]
 exact decide_eq_false (fun e=>h (by rw [e];rfl))
theorem formS_any (s:ByteArray) (w:World) (hmax:s.size≤1099511627776):Calls Tryz.prog 136 #[.string s] w fun e w'=>e = .returned (.bool (formB s.data.toList))∧w'=w:=by
 have hl:=size_len s
 obtain ⟨q,hq⟩:∃ q,formB s.data.toList=q:=⟨_,rfl⟩
 have NO:=hide (fun k hk h=>(formB_no (l:=s.data.toList) (k:=k) hk h).symm.trans hq)
 have YES:=hide (fun h=>(formB_all (l:=s.data.toList) h).symm.trans hq)
 rw [hl] at NO YES
 rw [hq]
 clear hq
 go_enter Tryz.func136,Tryz.ntmps136
 go_wp2
 go_loop [3] (fun i=>∃ k:Nat,i = .int .i64 k∧k≤s.size∧Hid (∀ j,j<k→okAt s.data.toList j=true)) (fun i=>s.size-(intOf i).toNat)
 case atStart=>exact ⟨0,rfl,by omega,fun j hj=>by omega⟩
 case round =>
  obtain ⟨k,rfl,hk,hd⟩:=hrel
  by_cases hlt:k<s.size
  ·
   have he:=sAt s k hlt
   have hbd:=bAt_bd s.data.toList k
   have N1:=hide (uh NO k hlt)
   have hd1:okAt s.data.toList k=true→∀ j,j<k+1→okAt s.data.toList j=true:=fun h j hj=>by
    by_cases e:j=k
    · subst e;exact h
    · exact hd.out j (by omega)
   have HD:=hide hd1
   have S1:=hide (fun w=>smS_any (bAt s.data.toList k) w hbd.1 hbd.2)
   have D1:=hide (fun w=>dgS_any (bAt s.data.toList k) w hbd.1 hbd.2)
   have OK:=hide (show okAt s.data.toList k=(smB (bAt s.data.toList k) || (decide (0<k)&&dgB (bAt s.data.toList k))) from rfl)
   generalize smB (bAt s.data.toList k)=p at S1 OK
   generalize dgB (bAt s.data.toList k)=r at D1 OK
   generalize bAt s.data.toList k=c at he hbd S1 D1
   clear hd hd1
   cases p
   ·
    by_cases hz:k=0
    ·
     subst hz
     have E:=hide (uh N1 (by rw [uh OK];rfl))
     go_wp2_with (first|(go_at_call 168;refine (uh S1 _).mono ?_;rintro e w' ⟨rfl,rfl⟩)|(go_at_call 171;refine (uh D1 _).mono ?_;rintro e w' ⟨rfl,rfl⟩))
     go_ret
     exact ⟨by rw [←uh E];rfl,rfl⟩
    ·
     have hz1:((k:Int) == 0)=false:=beq_eq_false_iff_ne.2 (by omega)
     cases r
     ·
      have E:=hide (uh N1 (by rw [uh OK];simp))
      go_wp2_with (first|(go_at_call 168;refine (uh S1 _).mono ?_;rintro e w' ⟨rfl,rfl⟩)|(go_at_call 171;refine (uh D1 _).mono ?_;rintro e w' ⟨rfl,rfl⟩))
      go_ret
      exact ⟨by rw [←uh E];rfl,rfl⟩
     ·
      have E:=hide (uh HD (by rw [uh OK];simp;omega))
      go_wp2_with (first|(go_at_call 168;refine (uh S1 _).mono ?_;rintro e w' ⟨rfl,rfl⟩)|(go_at_call 171;refine (uh D1 _).mono ?_;rintro e w' ⟨rfl,rfl⟩))
      go_round
      case rel=>exact ⟨k+1,by go_num,by omega,uh E⟩
      case measure=>simp [intOf];omega
   ·
    have E:=hide (uh HD (by rw [uh OK];rfl))
    go_wp2_with (first|(go_at_call 168;refine (uh S1 _).mono ?_;rintro e w' ⟨rfl,rfl⟩)|(go_at_call 171;refine (uh D1 _).mono ?_;rintro e w' ⟨rfl,rfl⟩))
    go_round
    case rel=>exact ⟨k+1,by go_num,by omega,uh E⟩
    case measure=>simp [intOf];omega
  ·
   have E:=hide (uh YES (fun j hj=>hd.out j (by omega)))
   clear hd
   go_wp2_with (go_at_call 61;refine (in_any _ _ _ _).mono ?_;rintro e w' ⟨rfl,rfl⟩)
   go_ret
   exact ⟨by rw [←uh E];rfl,rfl⟩
theorem formI_any (s:ByteArray) (w:World) (hmax:s.size≤1099511627776):Calls Tryz.prog 133 #[.string s] w fun e w'=>e = .returned (.bool (formB s.data.toList))∧w'=w:=by
 by_cases h0:s.size=0
 ·
  obtain rfl:=empty_of s h0
  have E:=hide (show false=formB (ByteArray.mk #[]).data.toList by decide)
  rw [←uh E]
  go_enter Tryz.func133,Tryz.ntmps133
  go_wp2
  go_ret
  exact ⟨rfl,rfl⟩
 ·
  have hl:=size_len s
  have hemp:=emp_no s h0
  by_cases h6:6<s.size
  ·
   have E:=hide (formB_len (l:=s.data.toList) (by omega))
   rw [uh E]
   go_enter Tryz.func133,Tryz.ntmps133
   go_wp2
   go_ret
   exact ⟨rfl,rfl⟩
  ·
   have h6d:decide ((6:Int)<(s.size:Int))=false:=by simp;omega
   have hlt0:0<s.size:=by omega
   have he:=sAt s 0 hlt0
   have hbd:=bAt_bd s.data.toList 0
   have S0:=hide (fun w=>smI_any (bAt s.data.toList 0) w)
   have OK0:=hide (show okAt s.data.toList 0=smB (bAt s.data.toList 0) by unfold okAt;simp)
   obtain ⟨q,hq⟩:∃ q,formB s.data.toList=q:=⟨_,rfl⟩
   have NO:=hide (fun k hk h=>(formB_no (l:=s.data.toList) (k:=k) hk h).symm.trans hq)
   have YES:=hide (fun h=>(formB_all (l:=s.data.toList) h).symm.trans hq)
   rw [hl] at NO YES
   have IN:=hide (show inB (s.size:Int) 1 6=true from inB_t _ _ _ (by omega) (by omega))
   rw [hq]
   clear hq
   generalize smB (bAt s.data.toList 0)=p at S0 OK0
   have HE:=hide he
   generalize bAt s.data.toList 0=c0 at he hbd S0
   cases p
   ·
    have E:=hide (uh NO 0 hlt0 (uh OK0))
    go_enter Tryz.func133,Tryz.ntmps133
    go_wp2_with (go_at_call 65;refine (uh S0 _).mono ?_;rintro e w' ⟨rfl,rfl⟩)
    go_ret
    exact ⟨by rw [←uh E];rfl,rfl⟩
   ·
    go_enter Tryz.func133,Tryz.ntmps133
    go_wp2_with (go_at_call 65;refine (uh S0 _).mono ?_;rintro e w' ⟨rfl,rfl⟩)
    clear he hbd S0
    go_loop [19] (fun i=>∃ k:Nat,i = .int .i64 k∧k≤s.size∧Hid (∀ j,j<k→okAt s.data.toList j=true)) (fun i=>s.size-(intOf i).toNat)
    case atStart=>exact ⟨0,rfl,by omega,fun j hj=>by omega⟩
    case round =>
     obtain ⟨k,rfl,hk,hd⟩:=hrel
     by_cases hlt:k<s.size
     ·
      have he:=sAt s k hlt
      have hbd:=bAt_bd s.data.toList k
      have N1:=hide (uh NO k hlt)
      have hd1:ldB (bAt s.data.toList k)=true→∀ j,j<k+1→okAt s.data.toList j=true:=fun h j hj=>by
       by_cases e:j=k
       ·
        subst e
        by_cases hz:j=0
        · subst hz;exact uh OK0
        · unfold okAt;rw [decide_eq_true (by omega),Bool.true_and];exact h
       · exact hd.out j (by omega)
      have HD:=hide hd1
      have L1:=hide (fun w=>ldI_any (bAt s.data.toList k) w)
      have OK:=hide (show ldB (bAt s.data.toList k)=false→okAt s.data.toList k=false from fun h=>by
       unfold ldB at h
       rw [Bool.or_eq_false_iff] at h
       unfold okAt
       rw [h.1,h.2];simp)
      generalize ldB (bAt s.data.toList k)=p at L1 OK HD
      generalize bAt s.data.toList k=c at he hbd L1
      clear hd hd1
      cases p
      ·
       have E:=hide (uh N1 (uh OK rfl))
       go_wp2_with (go_at_call 67;refine (uh L1 _).mono ?_;rintro e w' ⟨rfl,rfl⟩)
       go_ret
       exact ⟨by rw [←uh E];rfl,rfl⟩
      ·
       have HE2:=hide (uh HD rfl)
       go_wp2_with (go_at_call 67;refine (uh L1 _).mono ?_;rintro e w' ⟨rfl,rfl⟩)
       go_round
       case rel=>exact ⟨k+1,by go_num,by omega,uh HE2⟩
       case measure=>simp [intOf];omega
     ·
      have E:=hide ((uh IN).symm.trans (uh YES (fun j hj=>hd.out j (by omega))))
      clear hd
      go_wp2
      go_ret
      exact ⟨by rw [←uh E];rfl,rfl⟩
theorem wpList_index_at {P:Program} {ops:Array Oper} {rest:List Oper} {o:Oper} {a:Act} {w:World} {Q:Exit→Act→World→Prop} (hgd:o.guard=none) (xt:TypeId) (x ix:Operand) (ho:o.op = .index xt x ix) (cs:Array Value) (i:Int) (v:Value)
  (hx:a.eval x = .agg cs) (hi:a.eval ix = .int .i64 i) (hr:∀ w,(Instr.index xt (.agg cs) (.int .i64 i)).run P w = .ok v w) (h:wpList P ops Q rest (a.put o.dst v) w):wpList P ops Q (o::rest) a w :=
 wpList_plain hgd fun _ hK=>by
  unfold Oper.wp execOp
  simp only [ho,hx,hi,hr,Sem.run_bind,Sem.run_pure,Result.andThen_ok]
  exact hK _ _ h
def eqS (a b:ByteArray):Bool:=a.toList == b.toList
theorem eqS_iff (a b:ByteArray):eqS a b=true↔a=b:=by
 unfold eqS
 rw [ByteArray.toList_eq,ByteArray.toList_eq]
 exact ⟨fun h=>bytes_inj (eq_of_beq h),fun h=>by rw [h];exact beq_self_eq_true _⟩
def E0:ByteArray:=⟨#[]⟩
def hasS (L:List ByteArray) (s:ByteArray):Bool:=L.any (fun t=>eqS t s)
theorem hasS_hit {L:List ByteArray} {s:ByteArray} {k:Nat} (h:k<L.length) (he:eqS (L.getD k E0) s=true):hasS L s=true:=by
 unfold hasS
 rw [List.any_eq_true]
 refine ⟨L[k],List.getElem_mem _,?_⟩
 rw [List.getD_eq_getElem?_getD,List.getElem?_eq_getElem h] at he
 exact he
theorem hasS_miss {L:List ByteArray} {s:ByteArray} (h:∀ k,k<L.length→eqS (L.getD k E0) s=false):hasS L s=false:=by
 unfold hasS
 rw [List.any_eq_false]
 intro t ht
 obtain ⟨k,hk,rfl⟩:=List.getElem_of_mem ht
 have:=h k hk
 rw [List.getD_eq_getElem?_getD,List.getElem?_eq_getElem hk] at this
 simp only [Option.getD_some] at this
 rw [this]
 decide
theorem hasS_iff {L:List ByteArray} {s:ByteArray}:hasS L s=true↔s∈L:=by
 unfold hasS
 rw [List.any_eq_true]
 constructor
 ·
  rintro ⟨t,ht,he⟩
  rw [eqS_iff] at he
  exact he▸ht
 · exact fun h=>⟨s,h,(eqS_iff _ _).2 rfl⟩
def wOp:List ByteArray:=[⟨#[109,111,118]⟩,⟨#[99,109,112]⟩,⟨#[98,105,99]⟩,⟨#[98,105,115]⟩,⟨#[97,100,100]⟩,⟨#[115,117,98]⟩,⟨#[99,108,114]⟩,⟨#[105,110,99]⟩,⟨#[100,101,99]⟩,⟨#[110,101,103]⟩,⟨#[116,115,116]⟩,⟨#[97,115,114]⟩,⟨#[97,115,108]⟩,⟨#[106,109,112]⟩,⟨#[106,115,114]⟩,⟨#[114,116,115]⟩,⟨#[98,114]⟩,⟨#[98,110,101]⟩,⟨#[98,101,113]⟩,⟨#[98,103,101]⟩,⟨#[98,108,116]⟩,⟨#[104,97,108,116]⟩,⟨#[101,109,116]⟩]
def wRg:List ByteArray:=[⟨#[114,48]⟩,⟨#[114,49]⟩,⟨#[114,50]⟩,⟨#[114,51]⟩,⟨#[114,52]⟩,⟨#[114,53]⟩,⟨#[115,112]⟩,⟨#[112,99]⟩]
def opL:List ByteArray:=E0::wOp
def keptL:List ByteArray:=wOp++wRg
def keptB (s:ByteArray):Bool:=hasS keptL s
theorem keptB_op {s:ByteArray} (h0:s.size≠0) {k:Nat} (hk:k<24) (he:eqS (opL.getD k E0) s=true):keptB s=true:=by
 have h1:s∈opL:=hasS_iff.1 (hasS_hit (L:=opL) hk he)
 unfold keptB
 rw [hasS_iff]
 unfold opL at h1
 rcases List.mem_cons.1 h1 with e|h
 · rw [e] at h0;exact absurd rfl h0
 · exact List.mem_append_left _ h
theorem keptB_rg {s:ByteArray} {k:Nat} (hk:k<8) (he:eqS (wRg.getD k E0) s=true):keptB s=true:=by
 have h1:s∈wRg:=hasS_iff.1 (hasS_hit (L:=wRg) hk he)
 unfold keptB
 rw [hasS_iff]
 exact List.mem_append_right _ h1
theorem keptB_no {s:ByteArray} (h1:∀ k,k<24→eqS (opL.getD k E0) s=false) (h2:∀ k,k<8→eqS (wRg.getD k E0) s=false):keptB s=false:=by
 cases h:keptB s
 · rfl
 ·
  unfold keptB at h
  rw [hasS_iff] at h
  rcases List.mem_append.1 h with h|h
  ·
   have e:=hasS_iff.2 (List.mem_cons_of_mem E0 h)
   rw [hasS_miss (L:=E0::wOp) h1] at e
   cases e
  ·
   have e:=hasS_iff.2 h
   rw [hasS_miss (L:=wRg) h2] at e
   cases e
theorem keptB_empty:keptB ⟨#[]⟩=false:=by decide +kernel
def atV (L:List ByteArray) (s:ByteArray):Int:=if hasS L s=true then ((L.findIdx (fun t=>eqS t s):Nat):Int) else -1
theorem atV_yes {L:List ByteArray} {s:ByteArray} (h:hasS L s=true):0≤atV L s:=by unfold atV;rw [if_pos h];omega
theorem atV_no {L:List ByteArray} {s:ByteArray} (h:hasS L s=false):atV L s = -1:=by unfold atV;rw [h];rfl
theorem atV_hit {L:List ByteArray} {s:ByteArray} {k:Nat} (hk:k<L.length) (hm:∀ j,j<k→eqS (L.getD j E0) s=false) (he:eqS (L.getD k E0) s=true):atV L s=k:=by
 unfold atV
 rw [if_pos (hasS_hit hk he)]
 have:L.findIdx (fun t=>eqS t s)=k:=by
  rw [List.findIdx_eq hk]
  refine ⟨?_,fun j hj=>?_⟩
  ·
   rw [List.getD_eq_getElem?_getD,List.getElem?_eq_getElem hk] at he
   exact he
  ·
   have:=hm j hj
   rw [List.getD_eq_getElem?_getD,List.getElem?_eq_getElem (by omega)] at this
   exact this
 rw [this]
def RdS (w:World) (g:Nat) (L:List ByteArray):Prop:=∀ j,j<L.length→w.cell? ⟨g,j,none⟩=some (.string (L.getD j E0))
theorem at_any (L:List ByteArray) (s:ByteArray) (g n cap:Nat) (w:World) (hn:L.length=n) (hm:n≤1000000) (hr:RdS w g L):Calls Tryz.prog 137 #[.slice (some ⟨g,0,none⟩) n cap,.string s] w fun e w'=>e = .returned (.int .i64 (atV L s))∧w'=w:=by
 obtain ⟨v,hv⟩:∃ v,atV L s=v:=⟨_,rfl⟩
 have HIT:=hide (fun k (hk:k<n) hm he=>(atV_hit (L:=L) (s:=s) (k:=k) (by omega) hm he).symm.trans hv)
 have MISS:=hide (fun (h:∀ k,k<n→eqS (L.getD k E0) s=false)=>(atV_no (L:=L) (s:=s) (hasS_miss (fun k hk=>h k (by omega)))).symm.trans hv)
 have RD:=hide (fun j (hj:j<n)=>hr j (by omega))
 rw [hv]
 clear hv hr
 go_enter Tryz.func137,Tryz.ntmps137
 go_wp2
 go_loop [5] (fun i=>∃ k:Nat,i = .int .i64 k∧k≤n∧Hid (∀ j,j<k→eqS (L.getD j E0) s=false)) (fun i=>n-(intOf i).toNat)
 case atStart=>exact ⟨0,rfl,by omega,fun j hj=>by omega⟩
 case round =>
  obtain ⟨k,rfl,hk,hd⟩:=hrel
  by_cases hlt:k<n
  ·
   have hc:=uh RD k hlt
   have H1:=hide (uh HIT k hlt hd.out)
   have H2:=hide (show eqS (L.getD k E0) s=false→∀ j,j<k+1→eqS (L.getD j E0) s=false from fun h j hj=>by
    by_cases e:j=k
    · subst e;exact h
    · exact hd.out j (by omega))
   generalize L.getD k E0=T at hc H1 H2
   clear hd
   cases hq:(T.toList == s.toList)
   ·
    have E:=hide (uh H2 hq)
    clear H1 H2
    go_wp2
    go_round
    case rel=>exact ⟨k+1,by go_num,by omega,uh E⟩
    case measure=>simp [intOf];omega
   ·
    have E:=hide (uh H1 hq)
    clear H1 H2
    go_wp2
    go_ret
    exact ⟨by rw [←uh E];rfl,rfl⟩
  ·
   have E:=hide (uh MISS (fun j hj=>hd.out j (by omega)))
   clear hd
   go_wp2
   go_ret
   exact ⟨by rw [←uh E];rfl,rfl⟩
theorem kept_any (w:World):Calls Tryz.prog 138 #[] w fun e w'=>e = .returned (.slice (some ⟨w.heap.size,0,none⟩) 31 31)∧RdS w' w.heap.size keptL∧Below w.heap.size w w':=by
 have HR:=hide (show RdS (w.alloc (.cells (keptL.map Value.string).toArray 9)) w.heap.size keptL from fun j hj=>by
  rw [World.cell?_alloc_at _ _ _ _ rfl,List.getElem?_toArray,List.getElem?_map]
  rw [List.getElem?_eq_getElem hj,List.getD_eq_getElem?_getD,List.getElem?_eq_getElem hj]
  rfl)
 have HB:=hide ((Below.refl w.heap.size w).alloc (Nat.le_refl _) (.cells (keptL.map Value.string).toArray 9))
 go_enter Tryz.func138,Tryz.ntmps138
 go_wp2
 go_ret
 exact ⟨rfl,uh HR,uh HB⟩
def opC:Array Value:=(opL.map Value.string).toArray
def rgC:Array Value:=(wRg.map Value.string).toArray
def TabK (w:World):Prop:=(∃ t fr,w.heap[0]?=some (.cells opC t fr))∧(∃ t fr,w.heap[3]?=some (.cells rgC t fr))
theorem TabK.later {w w':World} {B:Nat} (h:TabK w) (hb:Below B w w') (h0:0<B) (h1:3<B):TabK w':=by
 obtain ⟨⟨t,f,e⟩,⟨t',f',e'⟩⟩:=h
 exact ⟨⟨t,f,(hb.block _ h0).trans e⟩,⟨t',f',(hb.block _ h1).trans e'⟩⟩
theorem TabK.lt {w:World} (h:TabK w):0<w.heap.size∧3<w.heap.size:=by
 obtain ⟨⟨t,f,e⟩,⟨t',f',e'⟩⟩:=h
 exact ⟨(Array.getElem?_eq_some_iff.1 e).1,(Array.getElem?_eq_some_iff.1 e').1⟩
theorem TabK.next {w w':World} (h:TabK w) (hb:Below w.heap.size w w'):TabK w':=h.later hb h.lt.1 h.lt.2
theorem ixO_0 (w:World):(Instr.index 137 (.agg opC) (.int .i64 ((0:Nat):Int))).run Tryz.prog w = .ok (.string (opL.getD 0 E0)) w:=by kernel_rfl
theorem ixO_1 (w:World):(Instr.index 137 (.agg opC) (.int .i64 ((1:Nat):Int))).run Tryz.prog w = .ok (.string (opL.getD 1 E0)) w:=by kernel_rfl
theorem ixO_2 (w:World):(Instr.index 137 (.agg opC) (.int .i64 ((2:Nat):Int))).run Tryz.prog w = .ok (.string (opL.getD 2 E0)) w:=by kernel_rfl
theorem ixO_3 (w:World):(Instr.index 137 (.agg opC) (.int .i64 ((3:Nat):Int))).run Tryz.prog w = .ok (.string (opL.getD 3 E0)) w:=by kernel_rfl
theorem ixO_4 (w:World):(Instr.index 137 (.agg opC) (.int .i64 ((4:Nat):Int))).run Tryz.prog w = .ok (.string (opL.getD 4 E0)) w:=by kernel_rfl
theorem ixO_5 (w:World):(Instr.index 137 (.agg opC) (.int .i64 ((5:Nat):Int))).run Tryz.prog w = .ok (.string (opL.getD 5 E0)) w:=by kernel_rfl
theorem ixO_6 (w:World):(Instr.index 137 (.agg opC) (.int .i64 ((6:Nat):Int))).run Tryz.prog w = .ok (.string (opL.getD 6 E0)) w:=by kernel_rfl
theorem ixO_7 (w:World):(Instr.index 137 (.agg opC) (.int .i64 ((7:Nat):Int))).run Tryz.prog w = .ok (.string (opL.getD 7 E0)) w:=by kernel_rfl
theorem ixO_8 (w:World):(Instr.index 137 (.agg opC) (.int .i64 ((8:Nat):Int))).run Tryz.prog w = .ok (.string (opL.getD 8 E0)) w:=by kernel_rfl
theorem ixO_9 (w:World):(Instr.index 137 (.agg opC) (.int .i64 ((9:Nat):Int))).run Tryz.prog w = .ok (.string (opL.getD 9 E0)) w:=by kernel_rfl
theorem ixO_10 (w:World):(Instr.index 137 (.agg opC) (.int .i64 ((10:Nat):Int))).run Tryz.prog w = .ok (.string (opL.getD 10 E0)) w:=by kernel_rfl
theorem ixO_11 (w:World):(Instr.index 137 (.agg opC) (.int .i64 ((11:Nat):Int))).run Tryz.prog w = .ok (.string (opL.getD 11 E0)) w:=by kernel_rfl
theorem ixO_12 (w:World):(Instr.index 137 (.agg opC) (.int .i64 ((12:Nat):Int))).run Tryz.prog w = .ok (.string (opL.getD 12 E0)) w:=by kernel_rfl
theorem ixO_13 (w:World):(Instr.index 137 (.agg opC) (.int .i64 ((13:Nat):Int))).run Tryz.prog w = .ok (.string (opL.getD 13 E0)) w:=by kernel_rfl
theorem ixO_14 (w:World):(Instr.index 137 (.agg opC) (.int .i64 ((14:Nat):Int))).run Tryz.prog w = .ok (.string (opL.getD 14 E0)) w:=by kernel_rfl
theorem ixO_15 (w:World):(Instr.index 137 (.agg opC) (.int .i64 ((15:Nat):Int))).run Tryz.prog w = .ok (.string (opL.getD 15 E0)) w:=by kernel_rfl
theorem ixO_16 (w:World):(Instr.index 137 (.agg opC) (.int .i64 ((16:Nat):Int))).run Tryz.prog w = .ok (.string (opL.getD 16 E0)) w:=by kernel_rfl
theorem ixO_17 (w:World):(Instr.index 137 (.agg opC) (.int .i64 ((17:Nat):Int))).run Tryz.prog w = .ok (.string (opL.getD 17 E0)) w:=by kernel_rfl
theorem ixO_18 (w:World):(Instr.index 137 (.agg opC) (.int .i64 ((18:Nat):Int))).run Tryz.prog w = .ok (.string (opL.getD 18 E0)) w:=by kernel_rfl
theorem ixO_19 (w:World):(Instr.index 137 (.agg opC) (.int .i64 ((19:Nat):Int))).run Tryz.prog w = .ok (.string (opL.getD 19 E0)) w:=by kernel_rfl
theorem ixO_20 (w:World):(Instr.index 137 (.agg opC) (.int .i64 ((20:Nat):Int))).run Tryz.prog w = .ok (.string (opL.getD 20 E0)) w:=by kernel_rfl
theorem ixO_21 (w:World):(Instr.index 137 (.agg opC) (.int .i64 ((21:Nat):Int))).run Tryz.prog w = .ok (.string (opL.getD 21 E0)) w:=by kernel_rfl
theorem ixO_22 (w:World):(Instr.index 137 (.agg opC) (.int .i64 ((22:Nat):Int))).run Tryz.prog w = .ok (.string (opL.getD 22 E0)) w:=by kernel_rfl
theorem ixO_23 (w:World):(Instr.index 137 (.agg opC) (.int .i64 ((23:Nat):Int))).run Tryz.prog w = .ok (.string (opL.getD 23 E0)) w:=by kernel_rfl
theorem ixO (k:Nat) (h:k<24) (w:World):(Instr.index 137 (.agg opC) (.int .i64 k)).run Tryz.prog w = .ok (.string (opL.getD k E0)) w:=by
 have hk:k=0∨k=1∨k=2∨k=3∨k=4∨k=5∨k=6∨k=7∨k=8∨k=9∨k=10∨k=11∨k=12∨k=13∨k=14∨k=15∨k=16∨k=17∨k=18∨k=19∨k=20∨k=21∨k=22∨k=23:=by omega
 rcases hk with rfl|rfl|rfl|rfl|rfl|rfl|rfl|rfl|rfl|rfl|rfl|rfl|rfl|rfl|rfl|rfl|rfl|rfl|rfl|rfl|rfl|rfl|rfl|rfl
 · exact ixO_0 w
 · exact ixO_1 w
 · exact ixO_2 w
 · exact ixO_3 w
 · exact ixO_4 w
 · exact ixO_5 w
 · exact ixO_6 w
 · exact ixO_7 w
 · exact ixO_8 w
 · exact ixO_9 w
 · exact ixO_10 w
 · exact ixO_11 w
 · exact ixO_12 w
 · exact ixO_13 w
 · exact ixO_14 w
 · exact ixO_15 w
 · exact ixO_16 w
 · exact ixO_17 w
 · exact ixO_18 w
 · exact ixO_19 w
 · exact ixO_20 w
 · exact ixO_21 w
 · exact ixO_22 w
 · exact ixO_23 w
theorem ixR_0 (w:World):(Instr.index 178 (.agg rgC) (.int .i64 ((0:Nat):Int))).run Tryz.prog w = .ok (.string (wRg.getD 0 E0)) w:=by kernel_rfl
theorem ixR_1 (w:World):(Instr.index 178 (.agg rgC) (.int .i64 ((1:Nat):Int))).run Tryz.prog w = .ok (.string (wRg.getD 1 E0)) w:=by kernel_rfl
theorem ixR_2 (w:World):(Instr.index 178 (.agg rgC) (.int .i64 ((2:Nat):Int))).run Tryz.prog w = .ok (.string (wRg.getD 2 E0)) w:=by kernel_rfl
theorem ixR_3 (w:World):(Instr.index 178 (.agg rgC) (.int .i64 ((3:Nat):Int))).run Tryz.prog w = .ok (.string (wRg.getD 3 E0)) w:=by kernel_rfl
theorem ixR_4 (w:World):(Instr.index 178 (.agg rgC) (.int .i64 ((4:Nat):Int))).run Tryz.prog w = .ok (.string (wRg.getD 4 E0)) w:=by kernel_rfl
theorem ixR_5 (w:World):(Instr.index 178 (.agg rgC) (.int .i64 ((5:Nat):Int))).run Tryz.prog w = .ok (.string (wRg.getD 5 E0)) w:=by kernel_rfl
theorem ixR_6 (w:World):(Instr.index 178 (.agg rgC) (.int .i64 ((6:Nat):Int))).run Tryz.prog w = .ok (.string (wRg.getD 6 E0)) w:=by kernel_rfl
theorem ixR_7 (w:World):(Instr.index 178 (.agg rgC) (.int .i64 ((7:Nat):Int))).run Tryz.prog w = .ok (.string (wRg.getD 7 E0)) w:=by kernel_rfl
theorem ixR (k:Nat) (h:k<8) (w:World):(Instr.index 178 (.agg rgC) (.int .i64 k)).run Tryz.prog w = .ok (.string (wRg.getD k E0)) w:=by
 have hk:k=0∨k=1∨k=2∨k=3∨k=4∨k=5∨k=6∨k=7:=by omega
 rcases hk with rfl|rfl|rfl|rfl|rfl|rfl|rfl|rfl
 · exact ixR_0 w
 · exact ixR_1 w
 · exact ixR_2 w
 · exact ixR_3 w
 · exact ixR_4 w
 · exact ixR_5 w
 · exact ixR_6 w
 · exact ixR_7 w
theorem szO:(Tryz.prog.info? 137).map (·.size)=some opC.size:=by kernel_rfl
theorem szR:(Tryz.prog.info? 178).map (·.size)=some rgC.size:=by kernel_rfl
theorem keptI_any (s:ByteArray) (w:World) (ht:TabK w):Calls Tryz.prog 128 #[.string s] w fun e w'=>e = .returned (.bool (keptB s))∧w'=w:=by
 by_cases h0:s.size=0
 ·
  obtain rfl:=empty_of s h0
  rw [keptB_empty]
  go_enter Tryz.func128,Tryz.ntmps128
  go_wp2
  go_ret
  exact ⟨rfl,rfl⟩
 ·
  have hemp:=emp_no s h0
  obtain ⟨⟨t0,f0,R0⟩,⟨t1,f1,R1⟩⟩:=ht
  obtain ⟨q,hq⟩:∃ q,keptB s=q:=⟨_,rfl⟩
  have HO:=hide (fun k hk he=>(keptB_op (s:=s) h0 (k:=k) hk he).symm.trans hq)
  have HR:=hide (fun k hk he=>(keptB_rg (s:=s) (k:=k) hk he).symm.trans hq)
  have HN:=hide (fun h1 h2=>(keptB_no (s:=s) h1 h2).symm.trans hq)
  rw [hq]
  have R0':=hide R0
  have R1':=hide R1
  clear hq R0 R1
  go_enter Tryz.func128,Tryz.ntmps128
  go_wp2_with (refine wpList_load_row rfl 137 _ rfl 0 rfl t0 opC f0 _ (uh R0') Tryz.underlying137 rfl szO ?_)
  go_loop [10] (fun i=>∃ k:Nat,i = .int .i64 k∧k≤24∧Hid (∀ j,j<k→eqS (opL.getD j E0) s=false)) (fun i=>24-(intOf i).toNat)
  case atStart=>exact ⟨0,rfl,by omega,fun j hj=>by omega⟩
  case round =>
   obtain ⟨k,rfl,hk,hd⟩:=hrel
   by_cases hlt:k<24
   ·
    have IX:=hide (ixO k hlt)
    have H1:=hide (uh HO k hlt)
    have H2:=hide (show eqS (opL.getD k E0) s=false→∀ j,j<k+1→eqS (opL.getD j E0) s=false from fun h j hj=>by
     by_cases e:j=k
     · subst e;exact h
     · exact hd.out j (by omega))
    generalize opL.getD k E0=T at IX H1 H2
    clear hd HO HR HN
    cases hq:(T.toList == s.toList)
    ·
     have E:=hide (uh H2 hq)
     clear H1 H2
     go_wp2_with (refine wpList_index_at rfl 137 _ _ rfl _ _ _ rfl rfl (uh IX) ?_)
     go_round
     case rel=>exact ⟨k+1,by go_num,by omega,uh E⟩
     case measure=>simp [intOf];omega
    ·
     have E:=hide (uh H1 hq)
     clear H1 H2
     go_wp2_with (refine wpList_index_at rfl 137 _ _ rfl _ _ _ rfl rfl (uh IX) ?_)
     go_ret
     exact ⟨by rw [←uh E];rfl,rfl⟩
   ·
    have HN2:=hide (uh HN (fun j hj=>hd.out j (by omega)))
    clear hd HN HO
    go_wp2_with (refine wpList_load_row rfl 178 _ rfl 3 rfl t1 rgC f1 _ (uh R1') Tryz.underlying178 rfl szR ?_)
    go_loop [18] (fun i=>∃ k:Nat,i = .int .i64 k∧k≤8∧Hid (∀ j,j<k→eqS (wRg.getD j E0) s=false)) (fun i=>8-(intOf i).toNat)
    case atStart=>exact ⟨0,rfl,by omega,fun j hj=>by omega⟩
    case round =>
     clear hlt hk
     obtain ⟨k,rfl,hk,hd⟩:=hrel
     by_cases hlt:k<8
     ·
      have IX:=hide (ixR k hlt)
      have H1:=hide (uh HR k hlt)
      have H2:=hide (show eqS (wRg.getD k E0) s=false→∀ j,j<k+1→eqS (wRg.getD j E0) s=false from fun h j hj=>by
       by_cases e:j=k
       · subst e;exact h
       · exact hd.out j (by omega))
      generalize wRg.getD k E0=T at IX H1 H2
      clear hd HR HN2
      cases hq:(T.toList == s.toList)
      ·
       have E:=hide (uh H2 hq)
       clear H1 H2
       go_wp2_with (refine wpList_index_at rfl 178 _ _ rfl _ _ _ rfl rfl (uh IX) ?_)
       go_round
       case rel=>exact ⟨k+1,by go_num,by omega,uh E⟩
       case measure=>simp [intOf];omega
      ·
       have E:=hide (uh H1 hq)
       clear H1 H2
       go_wp2_with (refine wpList_index_at rfl 178 _ _ rfl _ _ _ rfl rfl (uh IX) ?_)
       go_ret
       exact ⟨by rw [←uh E];rfl,rfl⟩
     ·
      have E:=hide (uh HN2 (fun j hj=>hd.out j (by omega)))
      clear hd HN2 HR
      go_wp2
      go_ret
      exact ⟨by rw [←uh E];rfl,rfl⟩
def mkL:List UInt8:=[58,61,44,40,41,43,45,42,47,38,124,35,64,46,60,62]
def mkA:ByteArray:=⟨#[58,61,44,40,41,43,45,42,47,38,124,35,64,46,60,62]⟩
def markB:List UInt8→Bool
 | [c] => mkL.contains c
 | _ => false
theorem mkA_sub (k:Nat) (h:k<16):(mkA.extract k (k+1)).data.toList = [mkL.getD k 0]:=by
 have hk:k=0∨k=1∨k=2∨k=3∨k=4∨k=5∨k=6∨k=7∨k=8∨k=9∨k=10∨k=11∨k=12∨k=13∨k=14∨k=15:=by omega
 rcases hk with rfl|rfl|rfl|rfl|rfl|rfl|rfl|rfl|rfl|rfl|rfl|rfl|rfl|rfl|rfl|rfl <;> decide +kernel
theorem markB_hit {s:ByteArray} {k:Nat} (h:k<16) (he:eqS s (mkA.extract k (k+1))=true):markB s.data.toList=true:=by
 rw [eqS_iff] at he
 rw [he,mkA_sub k h]
 show mkL.contains _=true
 rw [List.contains_iff_mem,List.getD_eq_getElem?_getD,List.getElem?_eq_getElem (show k<mkL.length from h)]
 exact List.getElem_mem _
theorem markB_miss {s:ByteArray} (h:∀ k,k<16→eqS s (mkA.extract k (k+1))=false):markB s.data.toList=false:=by
 cases hm:markB s.data.toList
 · rfl
 ·
  exfalso
  match hl:s.data.toList,hm with
  | [c], hm =>
   have hm':mkL.contains c=true:=hm
   rw [List.contains_iff_mem] at hm'
   obtain ⟨k,hk,rfl⟩:=List.getElem_of_mem hm'
   have hk':k<16:=hk
   have e:s=mkA.extract k (k+1):=by
    apply bytes_inj
    rw [hl,mkA_sub k hk',List.getD_eq_getElem?_getD,List.getElem?_eq_getElem hk]
    rfl
   have:=h k hk'
   rw [(eqS_iff _ _).2 e] at this
   cases this
theorem mkrS_any (s:ByteArray) (w:World):Calls Tryz.prog 173 #[.string s] w fun e w'=>e = .returned (.bool (markB s.data.toList))∧w'=w:=by
 obtain ⟨q,hq⟩:∃ q,markB s.data.toList=q:=⟨_,rfl⟩
 have HIT:=hide (fun k hk he=>(markB_hit (s:=s) (k:=k) hk he).symm.trans hq)
 have MISS:=hide (fun h=>(markB_miss (s:=s) h).symm.trans hq)
 rw [hq]
 clear hq
 go_enter Tryz.func173,Tryz.ntmps173
 go_wp2
 go_loop [3] (fun i=>∃ k:Nat,i = .int .i64 k∧k≤16∧Hid (∀ j,j<k→eqS s (mkA.extract j (j+1))=false)) (fun i=>16-(intOf i).toNat)
 case atStart=>exact ⟨0,rfl,by omega,fun j hj=>by omega⟩
 case round =>
  obtain ⟨k,rfl,hk,hd⟩:=hrel
  by_cases hlt:k<16
  ·
   have H1:=hide (uh HIT k hlt)
   have H2:=hide (show eqS s (mkA.extract k (k+1))=false→∀ j,j<k+1→eqS s (mkA.extract j (j+1))=false from fun h j hj=>by
    by_cases e:j=k
    · subst e;exact h
    · exact hd.out j (by omega))
   clear hd
   cases hq:(s.toList == ((ByteArray.mk #[58,61,44,40,41,43,45,42,47,38,124,35,64,46,60,62]).extract k (k+1)).toList)
   ·
    have E:=hide (uh H2 hq)
    clear H1 H2
    go_wp2
    go_round
    case rel=>exact ⟨k+1,by go_num,by omega,uh E⟩
    case measure=>simp [intOf];omega
   ·
    have E:=hide (uh H1 hq)
    clear H1 H2
    go_wp2
    go_ret
    exact ⟨by rw [←uh E];rfl,rfl⟩
  ·
   have E:=hide (uh MISS (fun j hj=>hd.out j (by omega)))
   clear hd
   go_wp2
   go_ret
   exact ⟨by rw [←uh E];rfl,rfl⟩
theorem ixLite (s:ByteArray) (c:Int) (w:World):Calls Tryz.prog 214 #[.string s,.int .u8 c] w fun e w'=>e = .returned (.int .i64 (Lib.indexByte s.data.toList c.toNat.toUInt8))∧w'=w:=by
 go_enter Tryz.func214,Tryz.ntmps214
 go_wp2
 rw [run_callFunc_extern Tryz.func232 (by kernel_rfl) (by kernel_rfl) (by kernel_rfl) (e:=Extern.BytealgIndexByte.indexByte) (by kernel_rfl),Lib.run_indexByteString]
 simp only [Result.andThen]
 rw [Oper.upon_value]
 go_wp2
 go_ret
 exact ⟨rfl,rfl⟩
def ixM (c:UInt8):Int:=Lib.indexByte mkL c
theorem ixM_fin:∀ i:Fin 256,(-1≤ixM (UInt8.ofNat i.val))∧decide (0≤ixM (UInt8.ofNat i.val))=mkL.contains (UInt8.ofNat i.val):=by decide +kernel
theorem ixM_all (c:UInt8) : -1≤ixM c∧decide (0≤ixM c)=mkL.contains c:=by
 have h:=ixM_fin ⟨c.toNat,c.toNat_lt⟩
 have e:UInt8.ofNat c.toNat=c:=UInt8.ofNat_toNat
 simp only [e] at h
 exact h
theorem one_of (s:ByteArray) (h:s.size=1):s.data.toList = [s.data.toList.getD 0 0]:=by
 have hl:=size_len s
 match hs:s.data.toList with
 | [] => rw [hs] at hl; simp at hl; omega
 | [c] => rfl
 | _ :: _ :: _ => rw [hs] at hl; simp at hl; omega
theorem index1_any (s:ByteArray) (h1:s.size=1) (w:World):Calls Tryz.prog 188 #[.string mkA,.string s] w fun e w'=>e = .returned (.int .i64 (ixM (s.data.toList.getD 0 0)))∧w'=w:=by
 have he:=sAt s 0 (by omega)
 have hbd:=bAt_bd s.data.toList 0
 have HI:=hide (fun w=>ixLite mkA (bAt s.data.toList 0) w)
 have E:=hide (show Lib.indexByte mkA.data.toList (bAt s.data.toList 0).toNat.toUInt8=ixM (s.data.toList.getD 0 0) by
  unfold ixM bAt
  rw [Int.toNat_natCast]
  have e2:(s.data.toList.getD 0 0).toNat.toUInt8=s.data.toList.getD 0 0:=UInt8.ofNat_toNat
  rw [e2]
  rfl)
 rw [uh E] at HI
 have hne:=str_ne (a:=s) (b:=mkA) (fun e=>by rw [e] at h1;exact absurd h1 (by decide))
 generalize ixM (s.data.toList.getD 0 0)=v at HI ⊢
 generalize bAt s.data.toList 0=c at *
 clear E
 generalize mkA=T at *
 go_enter Tryz.func188,Tryz.ntmps188
 go_wp2_with (go_at_call 214;refine (uh HI _).mono ?_;rintro e w' ⟨rfl,rfl⟩)
 go_ret
 exact ⟨rfl,rfl⟩
theorem contains1_any (s:ByteArray) (h1:s.size=1) (w:World):Calls Tryz.prog 119 #[.string mkA,.string s] w fun e w'=>e = .returned (.bool (markB s.data.toList))∧w'=w:=by
 have HI:=hide (fun w=>index1_any s h1 w)
 have E:=hide (show markB s.data.toList=decide (0≤ixM (s.data.toList.getD 0 0)) by rw [(ixM_all _).2];rw [one_of s h1];rfl)
 rw [uh E]
 generalize ixM (s.data.toList.getD 0 0)=v at HI ⊢
 generalize mkA=T at *
 go_enter Tryz.func119,Tryz.ntmps119
 go_wp2_with (first|(go_at_call 188;refine (uh HI _).mono ?_;rintro e w' ⟨rfl,rfl⟩)|go_in)
 go_ret
 exact ⟨rfl,rfl⟩
theorem mkrI_any (s:ByteArray) (w:World):Calls Tryz.prog 134 #[.string s] w fun e w'=>e = .returned (.bool (markB s.data.toList))∧w'=w:=by
 by_cases h1:s.size=1
 ·
  have HI:=hide (fun w=>contains1_any s h1 w)
  generalize markB s.data.toList=v at HI ⊢
  have hz:((s.size:Int) == 1)=true:=by simp [h1]
  unfold mkA at HI
  go_enter Tryz.func134,Tryz.ntmps134
  go_wp2_with (go_at_call 119;refine (uh HI _).mono ?_;rintro e w' ⟨rfl,rfl⟩)
  go_ret
  exact ⟨rfl,rfl⟩
 ·
  have hz:((s.size:Int) == 1)=false:=beq_eq_false_iff_ne.2 (by omega)
  have E:=hide (show markB s.data.toList=false by
   have hl:=size_len s
   match hs:s.data.toList with
   | [] => rfl
   | [c] => rw [hs] at hl; simp at hl; omega
   | _ :: _ :: _ => rfl)
  rw [uh E]
  go_enter Tryz.func134,Tryz.ntmps134
  go_wp2
  go_ret
  exact ⟨rfl,rfl⟩
def dotB:List UInt8→Bool
 | 46 :: t => formB t
 | _ => false
theorem dotB_cons (c:UInt8) (t:List UInt8):dotB (c::t)=(c == 46&&formB t):=by
 by_cases h:c=46
 · subst h;rfl
 ·
  rw [beq_eq_false_iff_ne.2 h,Bool.false_and]
  unfold dotB
  split
  · rename_i e;exact absurd (List.cons.inj e).1 h
  · rfl
theorem rest_of (s:ByteArray):(s.extract 1 s.size).data.toList=s.data.toList.drop 1:=by
 rw [ByteArray.data_extract,Array.toList_extract,List.extract_eq_take_drop]
 rw [List.take_of_length_le]
 rw [List.length_drop,size_len]
 omega
theorem head_of (s:ByteArray) (h:s.size≠0):s.data.toList=s.data.toList.getD 0 0::s.data.toList.drop 1:=by
 have hl:=size_len s
 match hs:s.data.toList with
 | [] => rw [hs] at hl; simp at hl; omega
 | _ :: _ => rfl
theorem rest_size (s:ByteArray):(s.extract 1 s.size).size=s.size-1:=by
 rw [←size_len,rest_of,List.length_drop,size_len]
theorem first_of (s:ByteArray) (h:s.size≠0):(s.extract 0 1).data.toList = [s.data.toList.getD 0 0]:=by
 rw [ByteArray.data_extract,Array.toList_extract,List.extract_eq_take_drop,List.drop_zero]
 rw [head_of s h]
 rfl
theorem dot_eq (s:ByteArray) (h:s.size≠0):eqS (s.extract 0 1) ⟨#[46]⟩=(bAt s.data.toList 0 == 46):=by
 rw [Bool.eq_iff_iff,eqS_iff,beq_iff_eq]
 unfold bAt
 constructor
 ·
  intro e
  have:=first_of s h
  rw [e] at this
  have h2:(46:UInt8)=s.data.toList.getD 0 0:=by simpa using this
  rw [←h2];rfl
 ·
  intro e
  apply bytes_inj
  rw [first_of s h]
  have:s.data.toList.getD 0 0=46:=by
   apply UInt8.toNat_inj.1
   show _=46
   omega
  rw [this]
theorem cut_yes (s:ByteArray) (w:World) (hmax:s.size≤1099511627776) (h0:s.size≠0) (h46:bAt s.data.toList 0=46):Calls Tryz.prog 132 #[.string s,.string ⟨#[46]⟩] w fun e w'=>e = .returned (.tuple #[.string (s.extract 1 s.size),.bool true])∧w'=w:=by
 have hd:=dot_eq s h0
 unfold eqS at hd
 rw [h46] at hd
 have hd2:((s.extract 0 1).toList == [46])=true:=by rw [show (ByteArray.mk #[46]).toList = [46] by rw [ByteArray.toList_eq]] at hd;exact hd
 clear hd h46
 go_enter Tryz.func132,Tryz.ntmps132
 go_wp2_with go_in
 go_ret2
 exact ⟨rfl,rfl⟩
theorem cut_no (s:ByteArray) (w:World) (hmax:s.size≤1099511627776) (h:s.size=0∨bAt s.data.toList 0≠46):Calls Tryz.prog 132 #[.string s,.string ⟨#[46]⟩] w fun e w'=>e = .returned (.tuple #[.string s,.bool false])∧w'=w:=by
 by_cases h0:s.size=0
 ·
  obtain rfl:=empty_of s h0
  clear h
  go_enter Tryz.func132,Tryz.ntmps132
  go_wp2_with go_in
  go_ret2
  exact ⟨rfl,rfl⟩
 ·
  have hd:=dot_eq s h0
  unfold eqS at hd
  have h46:bAt s.data.toList 0≠46:=h.elim (fun e=>absurd e h0) id
  rw [beq_eq_false_iff_ne.2 h46,show (ByteArray.mk #[46]).toList = [46] by rw [ByteArray.toList_eq]] at hd
  clear h h46
  go_enter Tryz.func132,Tryz.ntmps132
  go_wp2_with go_in
  go_ret2
  exact ⟨rfl,rfl⟩
structure Tk where
 k:Int
 n:Int
 s:ByteArray
def Tk.cs (t:Tk):Array Value:=#[.int .i64 t.k,.int .i64 t.n,.string t.s]
def Tk.v (t:Tk):Value:=.agg t.cs
def nameB (s:ByteArray):Bool:=formB s.data.toList&&!keptB s
def Tk.ok (t:Tk):Bool :=
 if t.k == 2 then inB t.n 0 65535&&decide (t.s.size=0)
 else if t.n != 0 then false
 else if t.k == 1 then nameB t.s
 else if t.k == 3 then dotB t.s.data.toList
 else if t.k == 4 then markB t.s.data.toList
 else if t.k == 5 then keptB t.s
 else false
theorem nameI_any (s:ByteArray) (w:World) (hmax:s.size≤1099511627776) (ht:TabK w):Calls Tryz.prog 131 #[.string s] w fun e w'=>e = .returned (.bool (nameB s))∧w'=w:=by
 have H1:=hide (formI_any s w hmax)
 have H2:=hide (keptI_any s w ht)
 unfold nameB
 generalize formB s.data.toList=p at *
 generalize keptB s=q at *
 clear ht
 cases p
 ·
  go_enter Tryz.func131,Tryz.ntmps131
  go_wp2_with (first|(go_at_call 133;refine (uh H1).mono ?_;rintro e w' ⟨rfl,rfl⟩)|(go_at_call 128;refine (uh H2).mono ?_;rintro e w' ⟨rfl,rfl⟩))
  go_ret
  exact ⟨rfl,rfl⟩
 ·
  go_enter Tryz.func131,Tryz.ntmps131
  go_wp2_with (first|(go_at_call 133;refine (uh H1).mono ?_;rintro e w' ⟨rfl,rfl⟩)|(go_at_call 128;refine (uh H2).mono ?_;rintro e w' ⟨rfl,rfl⟩))
  go_ret
  exact ⟨rfl,rfl⟩
theorem nameS_any (s:ByteArray) (w:World) (hmax:s.size≤1099511627776):Calls Tryz.prog 74 #[.string s] w fun e w'=>e = .returned (.bool (nameB s))∧Below w.heap.size w w':=by
 have H1:=hide (formS_any s w hmax)
 have HY:=hide (fun h=>atV_yes (L:=keptL) (s:=s) h)
 have HN:=hide (fun h=>atV_no (L:=keptL) (s:=s) h)
 have HA:=hide (fun w1 (hr:RdS w1 w.heap.size keptL)=>at_any keptL s w.heap.size 31 31 w1 rfl (by omega) hr)
 have HK:=hide (kept_any w)
 unfold nameB keptB
 generalize formB s.data.toList=p at *
 generalize hasS keptL s=q at *
 generalize atV keptL s=v at *
 cases p
 ·
  go_enter Tryz.func74,Tryz.ntmps74
  go_wp2_with (go_at_call 136;refine (uh H1).mono ?_;rintro e w' ⟨rfl,rfl⟩)
  go_ret
  exact ⟨rfl,Below.refl _ _⟩
 ·
  have E:=hide (show (decide (v<0)) = !q by
   cases q
   · rw [uh HN rfl];rfl
   ·
    have:=uh HY rfl
    simp
    omega)
  go_enter Tryz.func74,Tryz.ntmps74
  go_wp2_with (first|(go_at_call 136;refine (uh H1).mono ?_;rintro e w' ⟨rfl,rfl⟩)|(go_at_call 138;refine (uh HK).mono ?_;rintro e w1 ⟨rfl,hr1,hb1⟩)|(go_at_call 137;refine (uh HA _ hr1).mono ?_;rintro e w' ⟨rfl,rfl⟩))
  go_ret
  exact ⟨by rw [←uh E];rfl,hb1⟩
theorem box3 (w:World) (t:Tk) (ty:TypeId):(w.alloc (.cells t.cs ty)).cell? ⟨w.heap.size,0,none⟩=some (.int .i64 t.k)∧(w.alloc (.cells t.cs ty)).cell? ⟨w.heap.size,1,none⟩=some (.int .i64 t.n)∧(w.alloc (.cells t.cs ty)).cell? ⟨w.heap.size,2,none⟩=some (.string t.s):=by
 refine ⟨?_,?_,?_⟩ <;> (rw [World.cell?_alloc_at _ _ _ _ rfl];rfl)
theorem below_new (w:World) (o:Obj):Below w.heap.size w (w.alloc o):=(Below.refl _ _).alloc (Nat.le_refl _) _
theorem emp_yes (s:ByteArray) (h:s.size=0):s.toList.isEmpty=true:=by rw [←decide_eq_emptyBytes];exact decide_eq_true (empty_of s h)
theorem tokI_any (t:Tk) (w:World) (hmax:t.s.size≤1099511627776) (ht:TabK w):Calls Tryz.prog 70 #[t.v] w fun e w'=>e = .returned (.bool t.ok)∧Below w.heap.size w w':=by
 have hB:=hide (below_new w (.cells t.cs 71))
 have TB:=hide (ht.next (uh hB))
 obtain ⟨c0,c1,c2⟩:=box3 w t 71
 unfold Tk.v Tk.ok
 obtain ⟨k,n,s⟩:=t
 simp only at hmax c0 c1 c2 ⊢
 have HW:=hide (fun w=>isWord_any n w)
 have HN:=hide (fun w (h:TabK w)=>nameI_any s w hmax h)
 have HM:=hide (fun w=>mkrI_any s w)
 have HK:=hide (fun w (h:TabK w)=>keptI_any s w h)
 generalize Tk.cs ⟨k,n,s⟩=cc at *
 clear ht
 by_cases h2:k=2
 ·
  subst h2
  rw [if_pos (by decide)]
  generalize inB n 0 65535=q at *
  cases q
  ·
   go_enter Tryz.func70,Tryz.ntmps70
   go_wp2_with (go_at_call 130;refine (uh HW _).mono ?_;rintro e w' ⟨rfl,rfl⟩)
   go_ret
   exact ⟨rfl,uh hB⟩
  ·
   by_cases hz:s.size=0
   ·
    have he:=emp_yes s hz
    rw [decide_eq_true hz]
    go_enter Tryz.func70,Tryz.ntmps70
    go_wp2_with (go_at_call 130;refine (uh HW _).mono ?_;rintro e w' ⟨rfl,rfl⟩)
    go_ret
    exact ⟨rfl,uh hB⟩
   ·
    have he:=emp_no s hz
    rw [decide_eq_false hz]
    go_enter Tryz.func70,Tryz.ntmps70
    go_wp2_with (go_at_call 130;refine (uh HW _).mono ?_;rintro e w' ⟨rfl,rfl⟩)
    go_ret
    exact ⟨rfl,uh hB⟩
 ·
  have h2b:(k == 2)=false:=beq_eq_false_iff_ne.2 h2
  rw [h2b,if_neg (by decide)]
  by_cases hn:n=0
  ·
   subst hn
   rw [if_neg (by decide)]
   by_cases h1:k=1
   ·
    subst h1
    rw [if_pos (by decide)]
    generalize nameB s=q at *
    clear HW HM HK
    go_enter Tryz.func70,Tryz.ntmps70
    go_wp2_with (go_at_call 131;refine (uh HN _ (uh TB)).mono ?_;rintro e w' ⟨rfl,rfl⟩)
    go_ret
    exact ⟨rfl,uh hB⟩
   ·
    have h1b:(k == 1)=false:=beq_eq_false_iff_ne.2 h1
    rw [h1b,if_neg (by decide)]
    by_cases h3:k=3
    ·
     subst h3
     rw [if_pos (by decide)]
     clear HW HM HK HN
     by_cases hd:s.size≠0∧bAt s.data.toList 0=46
     ·
      have HC:=hide (fun w=>cut_yes s w hmax hd.1 hd.2)
      have HF:=hide (fun w=>formI_any (s.extract 1 s.size) w (by rw [rest_size];omega))
      have E:=hide (show dotB s.data.toList=formB (s.extract 1 s.size).data.toList by
       rw [head_of s hd.1,dotB_cons,rest_of]
       have:s.data.toList.getD 0 0=46:=by
        apply UInt8.toNat_inj.1
        show _=46
        have:=hd.2
        unfold bAt at this
        omega
       rw [this];rfl)
      rw [uh E]
      generalize formB (s.extract 1 s.size).data.toList=q at *
      generalize s.extract 1 s.size=s2 at *
      clear hd E
      go_enter Tryz.func70,Tryz.ntmps70
      go_wp2_with (first|(go_at_call 132;refine (uh HC _).mono ?_;rintro e w' ⟨rfl,rfl⟩)|(go_at_call 133;refine (uh HF _).mono ?_;rintro e w' ⟨rfl,rfl⟩))
      go_ret
      exact ⟨rfl,uh hB⟩
     ·
      have HC:=hide (fun w=>cut_no s w hmax (by by_cases hz:s.size=0;exact .inl hz;exact .inr (fun e=>hd ⟨hz,e⟩)))
      have E:=hide (show dotB s.data.toList=false by
       by_cases hz:s.size=0
       · rw [empty_of s hz];rfl
       ·
        rw [head_of s hz,dotB_cons]
        have:(s.data.toList.getD 0 0 == 46)=false:=beq_eq_false_iff_ne.2 (fun e=>hd ⟨hz,by unfold bAt;rw [e];rfl⟩)
        rw [this,Bool.false_and])
      rw [uh E]
      clear hd E
      go_enter Tryz.func70,Tryz.ntmps70
      go_wp2_with (go_at_call 132;refine (uh HC _).mono ?_;rintro e w' ⟨rfl,rfl⟩)
      go_ret
      exact ⟨rfl,uh hB⟩
    ·
     have h3b:(k == 3)=false:=beq_eq_false_iff_ne.2 h3
     rw [h3b,if_neg (by decide)]
     by_cases h4:k=4
     ·
      subst h4
      rw [if_pos (by decide)]
      generalize markB s.data.toList=q at *
      clear HW HN HK
      go_enter Tryz.func70,Tryz.ntmps70
      go_wp2_with (go_at_call 134;refine (uh HM _).mono ?_;rintro e w' ⟨rfl,rfl⟩)
      go_ret
      exact ⟨rfl,uh hB⟩
     ·
      have h4b:(k == 4)=false:=beq_eq_false_iff_ne.2 h4
      rw [h4b,if_neg (by decide)]
      by_cases h5:k=5
      ·
       subst h5
       rw [if_pos (by decide)]
       generalize keptB s=q at *
       clear HW HN HM
       go_enter Tryz.func70,Tryz.ntmps70
       go_wp2_with (go_at_call 128;refine (uh HK _ (uh TB)).mono ?_;rintro e w' ⟨rfl,rfl⟩)
       go_ret
       exact ⟨rfl,uh hB⟩
      ·
       have h5b:(k == 5)=false:=beq_eq_false_iff_ne.2 h5
       rw [h5b,if_neg (by decide)]
       clear HW HN HM HK
       go_enter Tryz.func70,Tryz.ntmps70
       go_wp2
       go_ret
       exact ⟨rfl,uh hB⟩
  ·
   have hnb:(n != 0)=true:=by simp [hn]
   rw [hnb,if_pos (by decide)]
   clear HW HN HM HK
   go_enter Tryz.func70,Tryz.ntmps70
   go_wp2
   go_ret
   exact ⟨rfl,uh hB⟩
theorem grownBy_trans {a b c:World} {r:Option Nat} (h:a.grownBy b r) (k:b.grownBy c r):a.grownBy c r :=
 ⟨k.os.trans h.os,k.tape.trans h.tape,k.output.trans h.output,Nat.le_trans h.size k.size,fun j hj hn=>(k.block j (Nat.lt_of_lt_of_le hj h.size) hn).trans (h.block j hj hn)⟩
theorem below_drewN {B:Nat} {a w:World} (h:Below B a w) (n:Nat):Below B a (w.drewN n):=h.trans ⟨rfl,rfl,rfl,Nat.le_refl _,fun _ _=>rfl⟩
theorem grownBy_set {w:World} {b o:Nat} (v:Value):w.grownBy (w.setCell ⟨b,o,none⟩ v) (some b) :=
 ⟨rfl,rfl,rfl,by simp,fun k _ hk=>Below.heap_setCell w ⟨b,o,none⟩ v k (fun e=>hk (by simp [e]))⟩
theorem grownBy_below {w w':World} {r:Option Nat} (hb:Below w.heap.size w w'):w.grownBy w' r:=⟨hb.os,hb.tape,hb.output,hb.size,fun k hk _=>hb.block k hk⟩
theorem grownBy_own {w w1 w2:World} {r row:Option Nat} (h:w.grownBy w1 r) (k:w1.grownBy w2 row) (hr:∀ g,row=some g→w.heap.size≤g):w.grownBy w2 r :=
 ⟨k.os.trans h.os,k.tape.trans h.tape,k.output.trans h.output,Nat.le_trans h.size k.size,fun j hj hn=>(k.block j (Nat.lt_of_lt_of_le hj h.size) (fun e=>by have:=hr j e.symm;omega)).trans (h.block j hj hn)⟩
section
structure Sub (B:Nat) (w0:World) where
 w:World
 h:Below B w0 w
theorem Sub.ne (B:Nat) (w0:World):Nonempty (Sub B w0):=⟨⟨w0,Below.refl _ _⟩⟩
section
variable {B:Nat} {w0:World} {P:Program}
theorem Sub.call {f:FuncId} {args:Array Value} {x:Sub B w0} {v:Value} (hB:B≤w0.heap.size) (h:Calls P f args x.w fun e w'=>e = .returned v∧Below x.w.heap.size x.w w'):Calls P f args x.w fun e w'=>e = .returned v∧∃ y:Sub B w0,w'=y.w :=
 h.mono fun e w' ⟨he,hb⟩=>⟨he,⟨w',x.h.trans (hb.mono (Nat.le_trans hB x.h.size))⟩,rfl⟩
theorem wp_region_sub {id:Nat} {Q:Exit→Act→World→Prop} {a:Act} (x:Sub B w0) {l:List Oper} (hm:P.follows .mixedOrders=true) (hB:Region.lexB .any l.toArray=true)
  (h:wpQuiet P l.toArray (fun w'=>∃ y:Sub B w0,w'=y.w) (fun a'=>∀ y:Sub B w0,Q .normal a' y.w) l a):(Code.region id l.toArray true).wp P Q a x.w :=
 wp_region_quiet (C:=fun w'=>∃ y:Sub B w0,w'=y.w) hm hB ⟨⟨_,x.h.drew⟩,rfl⟩ (by
  have e:(fun a'=>∀ w',(∃ y:Sub B w0,w'=y.w)→Q .normal a' w')=(fun a'=>∀ y:Sub B w0,Q .normal a' y.w):=by
   funext a'
   apply propext
   constructor
   · intro h y;exact h _ ⟨y,rfl⟩
   · rintro h _ ⟨y,rfl⟩;exact h y
  rw [e]
  simpa using h)
end
end
section
def T0:Tk:=⟨0,0,E0⟩
def tAt (ts:List Tk) (i:Nat):Tk:=ts.getD i T0
def RdT (w:World) (a:Option Addr) (ts:List Tk):Prop :=
 ts = []∨∃ b off,a=some ⟨b,off,none⟩∧b<w.heap.size∧∀ i,i<ts.length→w.cell? ⟨b,off+i*3,none⟩=some (.int .i64 (tAt ts i).k)∧w.cell? ⟨b,off+i*3+1,none⟩=some (.int .i64 (tAt ts i).n)∧w.cell? ⟨b,off+i*3+2,none⟩=some (.string (tAt ts i).s)
theorem RdT.later {w w':World} {a:Option Addr} {ts:List Tk} (h:RdT w a ts) (hb:Below w.heap.size w w'):RdT w' a ts:=by
 rcases h with h|⟨b,off,ha,hlt,hc⟩
 · exact .inl h
 · exact .inr ⟨b,off,ha,Nat.lt_of_lt_of_le hlt hb.size,fun i hi=>⟨(hb.cell (p:=⟨b,_,none⟩) hlt).trans (hc i hi).1,(hb.cell (p:=⟨b,_,none⟩) hlt).trans (hc i hi).2.1,(hb.cell (p:=⟨b,_,none⟩) hlt).trans (hc i hi).2.2⟩⟩
def cellsT:List Tk→List Value
 | [] => []
 | t :: r => .int .i64 t.k :: .int .i64 t.n :: .string t.s :: cellsT r
theorem cellsT_app (a b:List Tk):cellsT (a++b)=cellsT a++cellsT b:=by
 induction a with
 | nil => rfl
 | cons t r ih => simp only [List.cons_append, cellsT, ih]
theorem cellsT_get (ts:List Tk) (i:Nat) (h:i<ts.length):(cellsT ts)[i*3]?=some (.int .i64 (tAt ts i).k)∧(cellsT ts)[i*3+1]?=some (.int .i64 (tAt ts i).n)∧(cellsT ts)[i*3+2]?=some (.string (tAt ts i).s):=by
 induction ts generalizing i with
 | nil => simp at h
 | cons t r ih =>
  cases i with
  | zero => exact ⟨rfl, rfl, rfl⟩
  | succ i =>
   have:=ih i (by simpa using h)
   have e:(i+1)*3=i*3+3:=by omega
   rw [e]
   exact this
def OwnT (w:World) (B:Nat) (v:Value) (ts:List Tk):Prop:=w.ownsRow B 71 3 v ts.length (cellsT ts)
section
variable {w w':World} {B:Nat} {v:Value} {ts:List Tk}
theorem OwnT.keep (h:OwnT w B v ts) (hs:∀ g,v.ownBlock=some g→g<w.heap.size→w'.heap[g]?=w.heap[g]?):OwnT w' B v ts:=by
 obtain ⟨h1,h2|⟨g,cap,cur,rfl,hg,hh,r⟩⟩:=h
 · exact ⟨h1,.inl h2⟩
 · exact ⟨h1,.inr ⟨g,cap,cur,rfl,hg,(hs g rfl (Array.getElem?_eq_some_iff.1 hh).1).trans hh,r⟩⟩
theorem OwnT.later (h:OwnT w B v ts) (hb:Below w.heap.size w w'):OwnT w' B v ts:=h.keep fun g _ hg=>hb.block g hg
theorem OwnT.lt (h:OwnT w B v ts) {g:Nat} (hg:v.ownBlock=some g):B≤g∧g<w.heap.size:=World.ownsRow.lt h g hg
theorem OwnT.base {B':Nat} (h:OwnT w B v ts) (hB:B'≤B):OwnT w B' v ts:=by
 obtain ⟨h1,h2|⟨g,cap,cur,e,hg,r⟩⟩:=h
 · exact ⟨h1,.inl h2⟩
 · exact ⟨h1,.inr ⟨g,cap,cur,e,Nat.le_trans hB hg,r⟩⟩
theorem OwnT.form (h:OwnT w B v ts):(v = .slice none 0 0∧ts = [])∨∃ g cap,v = .slice (some ⟨g,0,none⟩) ts.length cap∧B≤g∧g<w.heap.size∧ts.length≤cap∧cap≤maxLen:=by
 obtain ⟨_,⟨h1,h2⟩|⟨g,cap,cur,rfl,hg,hh,hn,hm,r⟩⟩:=h
 · exact .inl ⟨h1,List.eq_nil_of_length_eq_zero h2⟩
 · exact .inr ⟨g,cap,rfl,hg,(Array.getElem?_eq_some_iff.1 hh).1,hn,hm⟩
theorem OwnT.rd (h:OwnT w B v ts):∃ a cap,v = .slice a ts.length cap∧RdT w a ts:=by
 rcases h.form with ⟨rfl,rfl⟩|⟨g,cap,rfl,hg,hl,_,_⟩
 · exact ⟨none,0,rfl,.inl rfl⟩
 ·
  refine ⟨_,cap,rfl,.inr ⟨g,0,rfl,hl,fun i hi=>?_⟩⟩
  obtain ⟨e0,e1,e2⟩:=cellsT_get ts i hi
  have c0:=World.ownsRow.cellAt h (i*3) (by omega)
  have c1:=World.ownsRow.cellAt h (i*3+1) (by omega)
  have c2:=World.ownsRow.cellAt h (i*3+2) (by omega)
  simp only [Nat.zero_add]
  exact ⟨c0.trans e0,c1.trans e1,c2.trans e2⟩
end
end
theorem info5:(Tryz.prog.info? 5).map (fun i=>(i.zero,i.size,i.bytes))=some (some (.int .u8 0),1,1):=by kernel_rfl
theorem copy_text (w:World) (s:ByteArray):∃ C:Array Value,C.toList=Lib.byteCells s.data.toList ∧
  (Builtin.copy_ #[22,9] 3 #[.slice (some ⟨w.heap.size,0,none⟩) s.size s.size,.string s]).run Tryz.prog (w.alloc (.cells (madeCells #[.int .u8 0] s.size) 5)) = .ok (goInt s.size) ((w.alloc (.cells (madeCells #[.int .u8 0] s.size) 5)).setRow w.heap.size C):=by
 obtain ⟨i0,hi,_,h1,_⟩:=info_parts info5
 have hn:(madeCells #[Value.int .u8 0] s.size).toList.length=s.size:=by rw [toList_madeCells_one,List.length_replicate]
 have h:=Lib.run_copy_row_string (P:=Tryz.prog) (w.alloc (.cells (madeCells #[.int .u8 0] s.size) 5)) 22 9 3 5 w.heap.size 0 s.size s.size s _ 5 Tryz.underlying22 (by rw [hi];simp [h1]) (heap_alloc_new w _) (Nat.le_refl _) (by rw [←Array.length_toList,hn];omega)
 refine ⟨_,?_,h⟩
 rw [List.toList_toArray,List.take_zero,List.nil_append,List.drop_eq_nil_of_le (by rw [hn];omega),List.append_nil]
theorem text_of_row (W:World) (g:Nat) (C:Array Value) (s:ByteArray) (hC:C.toList=Lib.byteCells s.data.toList) (hg:W.heap[g]?=some (.cells C 5 (0,0))) (h0:s.size≠0) (hlim:s.size≤281474976710656) :
  (Builtin.unsafeString_ #[169,3] 9 #[.pointer (some ⟨g,0,none⟩),.int .i64 (s.size:Int)]).run Tryz.prog W = .ok (.string s) (W.freeze ⟨g,0,none⟩ s.size):=by
 have hl:s.data.toList.length=s.size:=Array.length_toList
 have hCl:C.size=s.size:=by rw [←Array.length_toList,hC,Lib.byteCells_length,hl]
 have h:=Lib.run_unsafeString_row (P:=Tryz.prog) W 169 3 9 5 Tryz.underlying169 (by kernel_rfl) g C.size (by unfold World.shape?;rw [hg]) s.data.toList (fun e=>h0 (by rw [←hl,e];rfl)) (by omega) (by omega) (fun j x hx=>by
  have hc:=Lib.cells_of_row hg C.size j (.int .u8 x.toNat)
  rw [List.take_of_length_le (Nat.le_of_eq Array.length_toList),hC] at hc
  exact hc (by simp only [Lib.byteCells,List.getElem?_map,hx,Option.map_some]))
 rw [hl] at h
 exact h
theorem below_of_row (w:World) (s:ByteArray) (C:Array Value):Below w.heap.size w ((w.alloc (.cells (madeCells #[.int .u8 0] s.size) 5)).setRow w.heap.size C) :=
 ((Below.refl _ w).alloc (Nat.le_refl _) _).trans ⟨rfl,rfl,rfl,by simp [World.setRow],fun k hk=>setRow_other _ _ _ _ (by omega)⟩
set_option maxRecDepth 100000 in
theorem clone_any (s:ByteArray) (w:World) (hlim:s.size≤281474976710656) :
  Calls Tryz.prog 135 #[.string s] w fun e w'=>e = .returned (.string s)∧Below w.heap.size w w':=by
 by_cases h0:s.size=0
 ·
  obtain rfl:s=⟨#[]⟩:=by apply ByteArray.ext;exact Array.eq_empty_of_size_eq_zero h0
  go_enter Tryz.func135,Tryz.ntmps135
  go_wp2
  go_ret
  exact ⟨rfl,Below.refl _ _⟩
 ·
  have hz:((s.size:Int) == 0)=false:=beq_eq_false_iff_ne.2 (by omega)
  have hp:(0:Int)<(s.size:Int):=by omega
  have hmk:=run_make_row' (P:=Tryz.prog) 22 5 (.int .u8 0) 1 Tryz.underlying22 info5 rfl .i64 .i64 s.size (by omega) (by omega)
  obtain ⟨C,hC,hcp⟩:=copy_text w s
  have hrow:=setRow_heap (w.alloc (.cells (madeCells #[.int .u8 0] s.size) 5)) w.heap.size _ C 5 (0,0) (heap_alloc_new w _)
  have hus:=text_of_row _ w.heap.size C s hC hrow h0 hlim
  have hB:=hide (below_of_row w s C)
  clear hC hrow
  go_enter Tryz.func135,Tryz.ntmps135
  go_wp2
  go_ret
  exact ⟨rfl,Lib.below_freeze (uh hB) (p:=⟨w.heap.size,0,none⟩) (Nat.le_refl _) _⟩
set_option maxRecDepth 100000 in
theorem synErr_any (fn s:ByteArray) (te:TypeId) (pe:Value) (w:World) (hlim:s.size≤281474976710656) (hv:w.cell? ⟨8,0,none⟩=some (.iface te pe)) :
  Calls Tryz.prog 228 #[.string fn,.string s] w fun e w'=>∃ v,e = .returned (.pointer (some v))∧Below w.heap.size w w':=by
 have hG:8<w.heap.size:=World.block_lt_of_cell? w _ hv
 have hvd:w.drew.cell? ⟨8,0,none⟩=some _:=hv
 go_enter Tryz.func228,Tryz.ntmps228
 go_wp2
 go_region_with (go_at_call 135;refine (clone_any s _ hlim).mono ?_;rintro e w2 ⟨rfl,hbel⟩;have hv2:w2.cell? ⟨8,0,none⟩=some _:=(hbel.cell (show (⟨8,0,none⟩:Addr).block<w.drew.heap.size from hG)).trans hvd)
 all_goals
  go_wp2
  go_ret
  have hB:Below w.heap.size w w2:=(Below.refl w.heap.size w).drew.trans hbel
  exact ⟨_,rfl,hB.alloc hB.size _⟩
set_option maxRecDepth 100000 in
theorem rngErr_any (fn s:ByteArray) (te:TypeId) (pe:Value) (w:World) (hlim:s.size≤281474976710656) (hv:w.cell? ⟨9,0,none⟩=some (.iface te pe)) :
  Calls Tryz.prog 229 #[.string fn,.string s] w fun e w'=>∃ v,e = .returned (.pointer (some v))∧Below w.heap.size w w':=by
 have hG:9<w.heap.size:=World.block_lt_of_cell? w _ hv
 have hvd:w.drew.cell? ⟨9,0,none⟩=some _:=hv
 go_enter Tryz.func229,Tryz.ntmps229
 go_wp2
 go_region_with (go_at_call 135;refine (clone_any s _ hlim).mono ?_;rintro e w2 ⟨rfl,hbel⟩;have hv2:w2.cell? ⟨9,0,none⟩=some _:=(hbel.cell (show (⟨9,0,none⟩:Addr).block<w.drew.heap.size from hG)).trans hvd)
 all_goals
  go_wp2
  go_ret
  have hB:Below w.heap.size w w2:=(Below.refl w.heap.size w).drew.trans hbel
  exact ⟨_,rfl,hB.alloc hB.size _⟩
theorem eqlErr (a b:Int) (W:World):(binOp .eql 103 (.iface 254 (.int .i64 a)) (.iface 254 (.int .i64 b))).run Tryz.prog W = .ok (.bool (a == b)) W :=
 Lib.run_eql_iface_int W a b Tryz.underlying103 (by kernel_rfl) Tryz.underlying254
set_option maxRecDepth 100000 in
theorem toErr_syn (fn s:ByteArray) (base bs:Int) (te:TypeId) (pe:Value) (w:World) (hlim:s.size≤281474976710656) (hv:w.cell? ⟨8,0,none⟩=some (.iface te pe)) :
  Calls Tryz.prog 212 #[.string fn,.string s,.int .i64 base,.int .i64 bs,.iface 254 (.int .i64 2)] w fun e w'=>∃ t v,e = .returned (.iface t v)∧Below w.heap.size w w':=by
 have h22:=eqlErr 2 2
 have H:=hide (synErr_any fn s te pe w hlim hv)
 clear hv
 go_enter Tryz.func212,Tryz.ntmps212
 go_wp2_with (go_at_call 228;refine (uh H).mono ?_;rintro e w2 ⟨v,rfl,hb⟩)
 go_ret
 exact ⟨_,_,rfl,hb⟩
set_option maxRecDepth 100000 in
theorem toErr_rng (fn s:ByteArray) (base bs:Int) (te:TypeId) (pe:Value) (w:World) (hlim:s.size≤281474976710656) (hv:w.cell? ⟨9,0,none⟩=some (.iface te pe)) :
  Calls Tryz.prog 212 #[.string fn,.string s,.int .i64 base,.int .i64 bs,.iface 254 (.int .i64 1)] w fun e w'=>∃ t v,e = .returned (.iface t v)∧Below w.heap.size w w':=by
 have h12:=eqlErr 1 2
 have h11:=eqlErr 1 1
 have H:=hide (rngErr_any fn s te pe w hlim hv)
 clear hv
 go_enter Tryz.func212,Tryz.ntmps212
 go_wp2_with (go_at_call 229;refine (uh H).mono ?_;rintro e w2 ⟨v,rfl,hb⟩)
 go_ret
 exact ⟨_,_,rfl,hb⟩
def ov (l:List UInt8):Int:=l.foldl (fun a c=>a*8+((c.toNat:Int)-48)) 0
theorem ov_snoc (l:List UInt8) (c:UInt8):ov (l++[c])=ov l*8+((c.toNat:Int)-48):=by unfold ov;rw [List.foldl_append];rfl
theorem ov_take (l:List UInt8) (k:Nat) (h:k<l.length):ov (l.take (k+1))=ov (l.take k)*8+(bAt l k-48):=by
 rw [List.take_succ_eq_append_getElem h,ov_snoc]
 unfold bAt
 rw [List.getD_eq_getElem?_getD,List.getElem?_eq_getElem h]
 rfl
def Bad (l:List UInt8):Prop:=∃ k,k<l.length∧(bAt l k<48∨55<bAt l k∨65535<ov (l.take (k+1)))
def BadEnd (e:Ending):Prop:=∃ y c,(c=1∨c=2)∧e = .returned (.tuple #[.int .u64 y,.iface 254 (.int .i64 c)])
def lowV (c:Int):Int:=bits .or .u8 c 32
theorem lowV_bd (c:Int):0≤lowV c∧lowV c≤255:=⟨bits_lo_u8 .or c 32,bits_hi_u8 .or c 32⟩
theorem lower_any (c:Int) (w:World):Calls Tryz.prog 226 #[.int .u8 c] w fun e w'=>e = .returned (.int .u8 (lowV c))∧w'=w:=by
 go_enter Tryz.func226,Tryz.ntmps226
 go_wp2
 go_ret
 exact ⟨rfl,rfl⟩
set_option maxRecDepth 100000 in
theorem pu_any (s:ByteArray) (hne:s.size≠0) (hmax:s.size≤1099511627776) (w:World) :
  Calls Tryz.prog 211 #[.string s,.int .i64 8,.int .i64 16] w fun e w'=>Below w.heap.size w w' ∧
   ((0≤ov s.data.toList∧ov s.data.toList≤65535∧e = .returned (.tuple #[.int .u64 (ov s.data.toList),.nilIface])) ∨
    (Bad s.data.toList∧BadEnd e)):=by
 have hemp:s.toList.isEmpty=false:=by
  rw [←decide_eq_emptyBytes]
  exact decide_eq_false (fun h=>hne (by rw [h];rfl))
 have hcv:=Lib.run_convert_string_bytes (P:=Tryz.prog) w 9 22 5 s (u:=.string) Tryz.underlying9 Tryz.underlying22 Tryz.underlying5
 have hB:∀ j,j<s.size→(Lib.bytesWorld w 5 s).cell? ⟨w.heap.size,j,none⟩=some (.int .u8 (bAt s.data.toList j)):=fun j hj=>Lib.bytesWorld_cell w 5 s j hj
 have hbel:=hide (Lib.bytesWorld_below w 5 s)
 obtain ⟨W1,hW1⟩:∃ W1,W1=Lib.bytesWorld w 5 s:=⟨_,rfl⟩
 rw [←hW1] at hcv hB hbel
 clear hW1
 obtain ⟨bs,hL⟩:∃ bs,bs=s.data.toList:=⟨_,rfl⟩
 have hLn:bs.length=s.size:=by rw [hL,Lib.size_eq]
 rw [←hL] at hB ⊢
 clear hL
 go_enter Tryz.func211,Tryz.ntmps211
 go_wp2
 clear hcv
 go_loop [12,13,101] (fun vu vn vi=>∃ (k:Nat) (a:Int),vu = .bool false∧vn = .int .u64 a∧vi = .int .i64 k∧k≤s.size∧0≤a∧a≤65535∧Hid (a=ov (bs.take k)))
  (fun _ _ vi=>s.size-(intOf vi).toNat)
 case atStart=>exact ⟨0,0,rfl,rfl,rfl,by omega,by omega,by omega,rfl⟩
 case round =>
  obtain ⟨k,a,rfl,rfl,rfl,hk,a0,a1,ha⟩:=hrel
  by_cases hkn:k<s.size
  ·
   have hc:=hB k hkn
   have hbd:=bAt_bd bs k
   have hT:=ov_take bs k (by omega)
   rw [←ha.out] at hT
   have HT:=hide hT
   clear hB hT
   obtain ⟨c,hcc⟩:∃ c,bAt bs k=c:=⟨_,rfl⟩
   rw [hcc] at hc hbd HT
   have HC:=hide hcc
   clear hcc
   by_cases hdig:48≤c∧c≤55
   ·
    obtain ⟨hd0,hd1⟩:=hdig
    by_cases hov:65535<a*8+(c-48)
    ·
     have hbad:=hide (show Bad bs from ⟨k,by omega,.inr (.inr (by rw [uh HT];exact hov))⟩)
     go_wp2
     go_ret2
     exact ⟨uh hbel,.inr ⟨uh hbad,_,1,.inl rfl,rfl⟩⟩
    ·
     go_wp2
     go_round
     case rel=>exact ⟨k+1,a*8+(c-48),rfl,by go_num,by go_num,by omega,by omega,by omega,(uh HT).symm⟩
     case measure=>simp [intOf];omega
   ·
    have hbad:=hide (show Bad bs from ⟨k,by omega,by rw [uh HC];omega⟩)
    by_cases h57:48≤c∧c≤57
    ·
     obtain ⟨hd0,hd1⟩:=h57
     have hd8:8≤c-48:=by omega
     clear hdig
     go_wp2
     go_ret2
     exact ⟨uh hbel,.inr ⟨uh hbad,_,2,.inr rfl,rfl⟩⟩
    ·
     clear hdig
     have hv:=lowV_bd c
     have hu:=lowV_bd 95
     go_wp2_with (go_at_call 226;refine (lower_any _ _).mono ?_;rintro e w' ⟨rfl,hw'⟩;rw [hw'];clear hw' w')
     all_goals go_ret2
     all_goals exact ⟨uh hbel,.inr ⟨uh hbad,_,2,.inr rfl,rfl⟩⟩
  ·
   have hfin:a=ov bs:=by rw [ha.out,List.take_of_length_le (by omega)]
   have HF:=hide hfin
   clear hfin hB
   go_wp2
   go_ret2
   rw [←uh HF]
   exact ⟨uh hbel,.inl ⟨a0,a1,rfl⟩⟩
theorem octD_dig (m:Nat):∀ c∈octD m,48≤c.toNat∧c.toNat≤55:=by
 induction m using Nat.strongRecOn with
 | ind m ih =>
  intro c hc
  by_cases h:m<8
  ·
   rw [octD_small m h] at hc
   simp only [List.mem_singleton] at hc
   subst hc
   have:=dg_val m h
   omega
  ·
   rw [octD_big m h,List.mem_append] at hc
   rcases hc with hc|hc
   · exact ih (m / 8) (by omega) c hc
   ·
    simp only [List.mem_singleton] at hc
    subst hc
    have:=dg_val (m%8) (by omega)
    omega
theorem octD_ov (m:Nat):ov (octD m)=m:=by
 induction m using Nat.strongRecOn with
 | ind m ih =>
  by_cases h:m<8
  ·
   rw [octD_small m h]
   have:=dg_val m h
   show 0*8+(((dg m).toNat:Int)-48)=m
   omega
  ·
   rw [octD_big m h,ov_snoc,ih (m / 8) (by omega),dg_val (m%8) (by omega)]
   omega
theorem octD_ne (m:Nat):octD m≠[]:=by
 rw [octD_split]
 simp
theorem ov_take_bd (l:List UInt8) (h:∀ c∈l,48≤c.toNat) (k:Nat):0≤ov (l.take k)∧∀ j,k≤j→ov (l.take k)≤ov (l.take j):=by
 have step:∀ k,0≤ov (l.take k)→ov (l.take k)≤ov (l.take (k+1))∧0≤ov (l.take (k+1)):=by
  intro k h0
  by_cases hk:k<l.length
  ·
   rw [ov_take l k hk]
   have:(48:Int)≤bAt l k:=by
    unfold bAt
    rw [List.getD_eq_getElem?_getD,List.getElem?_eq_getElem hk]
    have:=h l[k] (List.getElem_mem _)
    simp
    omega
   omega
  ·
   rw [List.take_of_length_le (by omega),List.take_of_length_le (by omega)] at *
   exact ⟨Int.le_refl _,h0⟩
 have nn:∀ k,0≤ov (l.take k):=by
  intro k
  induction k with
  | zero => exact Int.le_refl _
  | succ k ih => exact (step k ih).2
 refine ⟨nn k,fun j hj=>?_⟩
 induction j with
 | zero => obtain rfl : k = 0 := by omega
           exact Int.le_refl _
 | succ j ih =>
  by_cases e:k=j+1
  · subst e;exact Int.le_refl _
  · exact Int.le_trans (ih (by omega)) (step j (nn j)).1
theorem octD_good (m:Nat) (hm:m<65536):¬ Bad (octD m):=by
 rintro ⟨k,hk,h⟩
 have hd:=octD_dig m (octD m)[k] (List.getElem_mem _)
 have e:bAt (octD m) k=((octD m)[k].toNat:Int):=by unfold bAt;rw [List.getD_eq_getElem?_getD,List.getElem?_eq_getElem hk];rfl
 have h2:=(ov_take_bd (octD m) (fun c hc=>(octD_dig m c hc).1) (k+1)).2 (octD m).length (by omega)
 rw [List.take_of_length_le (Nat.le_refl _),octD_ov] at h2
 rw [e] at h
 omega
set_option maxRecDepth 100000 in
theorem pu_empty (w:World):Calls Tryz.prog 211 #[.string ⟨#[]⟩,.int .i64 8,.int .i64 16] w fun e w'=>BadEnd e∧w'=w:=by
 go_enter Tryz.func211,Tryz.ntmps211
 go_wp2
 go_ret2
 exact ⟨⟨_,2,.inr rfl,rfl⟩,rfl⟩
def PuEnd (l:List UInt8) (e:Ending):Prop :=
 (0≤ov l∧ov l≤65535∧e = .returned (.tuple #[.int .u64 (ov l),.nilIface]))∨((l = []∨Bad l)∧∃ y t v,e = .returned (.tuple #[.int .u64 y,.iface t v]))
set_option maxRecDepth 100000 in
theorem puP_any (s:ByteArray) (hmax:s.size≤1099511627776) (te1 te2:TypeId) (pe1 pe2:Value) (w:World) (hv1:w.cell? ⟨8,0,none⟩=some (.iface te1 pe1)) (hv2:w.cell? ⟨9,0,none⟩=some (.iface te2 pe2)) :
  Calls Tryz.prog 185 #[.string s,.int .i64 8,.int .i64 16] w fun e w'=>PuEnd s.data.toList e∧Below w.heap.size w w':=by
 have g1:8<w.heap.size:=World.block_lt_of_cell? w _ hv1
 have g2:9<w.heap.size:=World.block_lt_of_cell? w _ hv2
 have V1:=hide hv1
 have V2:=hide hv2
 clear hv1 hv2
 have inner:Calls Tryz.prog 211 #[.string s,.int .i64 8,.int .i64 16] w fun e w'=>Below w.heap.size w w' ∧
   ((0≤ov s.data.toList∧ov s.data.toList≤65535∧e = .returned (.tuple #[.int .u64 (ov s.data.toList),.nilIface]))∨((s.data.toList = []∨Bad s.data.toList)∧BadEnd e)):=by
  by_cases h0:s.size=0
  ·
   have hs:s=⟨#[]⟩:=by
    apply ByteArray.ext
    exact Array.eq_empty_of_size_eq_zero h0
   subst hs
   exact (pu_empty w).mono fun e w' ⟨he,hw⟩=>by subst hw;exact ⟨Below.refl _ _,.inr ⟨.inl rfl,he⟩⟩
  · exact (pu_any s h0 hmax w).mono fun e w' ⟨hb,h⟩=>⟨hb,h.elim .inl fun ⟨a,b⟩=>.inr ⟨.inr a,b⟩⟩
 have HI:=hide inner
 clear inner
 go_enter Tryz.func185,Tryz.ntmps185
 go_wp2_with fail
 refine (uh HI).mono ?_
 rintro e w1 ⟨hb,h⟩
 clear HI
 have c1:=hide ((hb.cell (p:=⟨8,0,none⟩) g1).trans (uh V1))
 have c2:=hide ((hb.cell (p:=⟨9,0,none⟩) g2).trans (uh V2))
 have s1:=hb.size
 rcases h with ⟨h0,h1,he⟩|⟨hbad,y,c,hc,he⟩
 ·
  subst he
  go_wp2
  go_ret2
  exact ⟨.inl ⟨h0,h1,rfl⟩,hb⟩
 ·
  subst he
  have HB:=hide hbad
  clear hbad
  rcases hc with rfl|rfl
  ·
   go_wp2_with fail
   refine (toErr_rng _ s 8 16 te2 pe2 w1 (by omega) (uh c2)).mono ?_
   rintro e w2 ⟨t,v,rfl,hb2⟩
   go_wp2
   go_ret2
   exact ⟨.inr ⟨uh HB,_,_,_,rfl⟩,hb.trans (hb2.mono s1)⟩
  ·
   go_wp2_with fail
   refine (toErr_syn _ s 8 16 te1 pe1 w1 (by omega) (uh c1)).mono ?_
   rintro e w2 ⟨t,v,rfl,hb2⟩
   go_wp2
   go_ret2
   exact ⟨.inr ⟨uh HB,_,_,_,rfl⟩,hb.trans (hb2.mono s1)⟩
theorem poI_yes (m:Nat) (hm:m<65536) (te1 te2:TypeId) (pe1 pe2:Value) (w:World) (hv1:w.cell? ⟨8,0,none⟩=some (.iface te1 pe1)) (hv2:w.cell? ⟨9,0,none⟩=some (.iface te2 pe2)) (hg:w.cell? ⟨11,7,none⟩=some (.int .u8 3)) :
  Calls Tryz.prog 129 #[.string (strOf (octD m))] w fun e w'=>e = .returned (.tuple #[.int .i64 m,.bool true])∧Below w.heap.size w w':=by
 have g4:11<w.heap.size:=World.block_lt_of_cell? w _ hg
 have hlen:=octD_len m 5 (by omega)
 have H:=hide (puP_any (strOf (octD m)) (by rw [strOf_size];omega) te1 te2 pe1 pe2 w hv1 hv2)
 have V:=hide hg
 clear hv1 hv2 hg
 go_enter Tryz.func129,Tryz.ntmps129
 go_wp2_with fail
 refine (uh H).mono ?_
 rintro e w1 ⟨h,hb⟩
 have c4:=hide ((hb.cell (p:=⟨11,7,none⟩) g4).trans (uh V))
 rw [strOf_list] at h
 have s1:=hb.size
 rcases h with ⟨h0,h1,he⟩|⟨hbad,_⟩
 ·
  rw [octD_ov] at he
  subst he
  clear h0 h1 H V hlen
  go_wp2_with fail
  refine (octI_any m w1 (uh c4)).mono ?_
  rintro e w2 ⟨he,hb2⟩
  rw [show ((m:Int)%65536).toNat=m by omega] at he
  subst he
  go_wp2
  go_ret2
  exact ⟨rfl,hb.trans (hb2.mono s1)⟩
 ·
  exact absurd hbad (by
   rintro (h|h)
   · exact octD_ne m h
   · exact octD_good m hm h)
theorem poI_no (s:ByteArray) (hs:∀ m,m<65536→s≠strOf (octD m)) (hmax:s.size≤1099511627776) (te1 te2:TypeId) (pe1 pe2:Value) (w:World) (hv1:w.cell? ⟨8,0,none⟩=some (.iface te1 pe1)) (hv2:w.cell? ⟨9,0,none⟩=some (.iface te2 pe2)) (hg:w.cell? ⟨11,7,none⟩=some (.int .u8 3)) :
  Calls Tryz.prog 129 #[.string s] w fun e w'=>e = .returned (.tuple #[.int .i64 0,.bool false])∧Below w.heap.size w w':=by
 have g4:11<w.heap.size:=World.block_lt_of_cell? w _ hg
 have H:=hide (puP_any s hmax te1 te2 pe1 pe2 w hv1 hv2)
 have V:=hide hg
 have HS:=hide hs
 clear hv1 hv2 hg hs
 go_enter Tryz.func129,Tryz.ntmps129
 go_wp2_with fail
 refine (uh H).mono ?_
 rintro e w1 ⟨h,hb⟩
 have c4:=hide ((hb.cell (p:=⟨11,7,none⟩) g4).trans (uh V))
 have s1:=hb.size
 rcases h with ⟨h0,h1,he⟩|⟨_,y,t,v,he⟩
 ·
  subst he
  obtain ⟨x,hx⟩:=Int.eq_ofNat_of_zero_le h0
  rw [hx] at h1 ⊢
  have hne:=str_ne (uh HS x (by omega)).symm
  clear H V hx h0
  go_wp2_with fail
  refine (octI_any x w1 (uh c4)).mono ?_
  rintro e w2 ⟨he,hb2⟩
  rw [show ((x:Int)%65536).toNat=x by omega] at he
  subst he
  go_wp2
  go_ret2
  exact ⟨rfl,hb.trans (hb2.mono s1)⟩
 ·
  subst he
  clear H V
  go_wp2
  go_ret2
  exact ⟨rfl,hb⟩
theorem in_yes (x a b:Int) (w:World) (h1:a≤x) (h2:x≤b):Calls Tryz.prog 61 #[.int .i64 x,.int .i64 a,.int .i64 b] w fun e w'=>e = .returned (.bool true)∧w'=w:=by
 go_enter Tryz.func61,Tryz.ntmps61
 go_wp2
 go_ret
 exact ⟨rfl,rfl⟩
theorem in_no (x a b:Int) (w:World) (h:x<a∨b<x):Calls Tryz.prog 61 #[.int .i64 x,.int .i64 a,.int .i64 b] w fun e w'=>e = .returned (.bool false)∧w'=w:=by
 by_cases h1:x<a
 ·
  clear h
  go_enter Tryz.func61,Tryz.ntmps61
  go_wp2
  go_ret
  exact ⟨rfl,rfl⟩
 ·
  have h2:b<x:=by omega
  have h3:a≤x:=by omega
  have h4:decide (x≤b)=false:=by simp;omega
  clear h h1
  go_enter Tryz.func61,Tryz.ntmps61
  go_wp2
  go_ret
  exact ⟨rfl,rfl⟩
def Digs (l:List UInt8) (k:Nat):Prop:=∀ j,j<k→48≤bAt l j∧bAt l j≤55
theorem ov_lt (l:List UInt8) (k:Nat) (hk:k≤l.length) (h:Digs l k):0≤ov (l.take k)∧ov (l.take k)+1≤((8 ^ k:Nat):Int):=by
 induction k with
 | zero => exact ⟨Int.le_refl _, Int.le_refl _⟩
 | succ k ih =>
  have ih:=ih (by omega) (fun j hj=>h j (by omega))
  have hd:=h k (by omega)
  rw [ov_take l k (by omega),Nat.pow_succ]
  omega
theorem ov_six (l:List UInt8) (k:Nat) (hk:k≤l.length) (h6:k≤6) (h:Digs l k):0≤ov (l.take k)∧ov (l.take k)≤262143:=by
 have h1:=ov_lt l k hk h
 have h2:8 ^ k≤8 ^ 6:=Nat.pow_le_pow_right (by omega) h6
 have h3:(8:Nat) ^ 6=262144:=by decide
 omega
theorem no_dig (s:ByteArray) (k:Nat) (hk:k<s.size) (h:¬ (48≤bAt s.data.toList k∧bAt s.data.toList k≤55)):∀ m,m<65536→s≠strOf (octD m):=by
 intro m _ e
 rw [e,strOf_list] at h
 have hk':k<(octD m).length:=by rw [e,strOf_size] at hk;exact hk
 have hd:=octD_dig m (octD m)[k] (List.getElem_mem _)
 apply h
 unfold bAt
 rw [List.getD_eq_getElem?_getD,List.getElem?_eq_getElem hk']
 simp
 omega
theorem no_ov (s:ByteArray) (h:ov s.data.toList<0∨65535<ov s.data.toList∨s≠strOf (octD (ov s.data.toList).toNat)):∀ m,m<65536→s≠strOf (octD m):=by
 intro m hm e
 have h2:ov s.data.toList=m:=by rw [e,strOf_list,octD_ov]
 rw [h2,Int.toNat_natCast] at h
 rcases h with h|h|h
 · omega
 · omega
 · exact h e
set_option maxRecDepth 100000 in
theorem poS_any (s:ByteArray) (hmax:s.size≤1099511627776) (w:World) :
  Calls Tryz.prog 172 #[.string s] w fun e w'=>Below w.heap.size w w' ∧
   ((∃ m:Nat,m<65536∧s=strOf (octD m)∧e = .returned (.tuple #[.int .i64 m,.bool true]))∨((∀ m,m<65536→s≠strOf (octD m))∧e = .returned (.tuple #[.int .i64 0,.bool false]))):=by
 by_cases h6:s.size≤6
 ·
  go_enter Tryz.func172,Tryz.ntmps172
  go_wp2
  go_loop [4,5] (fun n i=>∃ (k:Nat) (a:Int),n = .int .i64 a∧i = .int .i64 k∧k≤s.size∧0≤a∧a≤262143∧Hid (a=ov (s.data.toList.take k))∧Hid (Digs s.data.toList k)) (fun _ i=>s.size-(intOf i).toNat)
  case atStart=>exact ⟨0,0,rfl,rfl,by omega,by omega,by omega,rfl,fun j hj=>by omega⟩
  case round =>
   obtain ⟨k,a,rfl,rfl,hk,a0,a1,ha,hd⟩:=hrel
   have hsl:s.data.toList.length=s.size:=by simp
   by_cases hlt:k<s.size
   ·
    have he:=sAt s k hlt
    have hbd:=bAt_bd s.data.toList k
    have hT:=ov_take s.data.toList k (by omega)
    rw [←ha.out] at hT
    have HT:=hide hT
    clear hT
    by_cases hdig:48≤bAt s.data.toList k∧bAt s.data.toList k≤55
    ·
     have hd':Digs s.data.toList (k+1):=fun j hj=>by
      by_cases e:j=k
      · subst e;exact hdig
      · exact hd.out j (by omega)
     have hb:=ov_six s.data.toList (k+1) (by omega) (by omega) hd'
     rw [uh HT] at hb
     have HD:=hide hd'
     have hdig0:=hdig.1
     have hdig1:=hdig.2
     clear hd' hdig hsl
     go_wp2_with (go_at_call 61;refine (in_yes _ _ _ _ (by omega) (by omega)).mono ?_;rintro e w' ⟨rfl,hw'⟩;rw [hw'];clear hw' w')
     go_round
     case rel=>exact ⟨k+1,a*8+(bAt s.data.toList k-48),by go_num,by go_num,by omega,hb.1,hb.2,(uh HT).symm,uh HD⟩
     case measure=>simp [intOf];omega
    ·
     have HN:=hide (no_dig s k hlt hdig)
     have hor:bAt s.data.toList k<48∨55<bAt s.data.toList k:=by omega
     have HO:=hide hor
     clear hor hdig hsl
     go_wp2_with (go_at_call 61;refine (in_no _ _ _ _ (uh HO)).mono ?_;rintro e w' ⟨rfl,hw'⟩;rw [hw'];clear hw' w')
     go_ret2
     exact ⟨Below.refl _ _,.inr ⟨uh HN,rfl⟩⟩
   ·
    have hfin:a=ov s.data.toList:=by rw [ha.out,List.take_of_length_le (by omega)]
    have HF:=hide hfin
    clear hfin ha hd hsl
    by_cases hgt:65535<a
    ·
     have HN:=hide (no_ov s (.inr (.inl (by rw [←uh HF];exact hgt))))
     go_wp2
     go_ret2
     exact ⟨Below.refl _ _,.inr ⟨uh HN,rfl⟩⟩
    ·
     obtain ⟨m,rfl⟩:=Int.eq_ofNat_of_zero_le a0
     have hm:m<65536:=by omega
     by_cases heq:s=strOf (octD m)
     ·
      have HE:=hide heq
      clear heq
      go_wp2_with fail
      refine (octS_any m w).mono ?_
      rintro e w2 ⟨he,hb2⟩
      rw [show ((m:Int)%65536).toNat=m by omega,←uh HE] at he
      subst he
      go_wp2
      go_ret2
      exact ⟨hb2,.inl ⟨m,hm,uh HE,rfl⟩⟩
     ·
      have hne:=str_ne (fun e=>heq (Eq.symm e))
      have HN:=hide (no_ov s (.inr (.inr (by rw [←uh HF,Int.toNat_natCast];exact heq))))
      clear heq
      go_wp2_with fail
      refine (octS_any m w).mono ?_
      rintro e w2 ⟨he,hb2⟩
      rw [show ((m:Int)%65536).toNat=m by omega] at he
      subst he
      go_wp2
      go_ret2
      exact ⟨hb2,.inr ⟨uh HN,rfl⟩⟩
 ·
  have HN:=hide (show ∀ m,m<65536→s≠strOf (octD m) from fun m hm e=>by
   have h1:=octD_len m 5 (by omega)
   have h2:=strOf_size (octD m)
   rw [←e] at h2
   omega)
  have hne:=str_ne (a:=strOf (octD 0)) (b:=s) (fun e=>uh HN 0 (by omega) e.symm)
  have h7:decide ((s.size:Int)≤6)=false:=by simp;omega
  go_enter Tryz.func172,Tryz.ntmps172
  go_wp2
  go_loop [4,5] (fun n i=>n = .int .i64 0∧i = .int .i64 0) (fun _ _=>0)
  case atStart=>exact ⟨rfl,rfl⟩
  case round =>
   obtain ⟨rfl,rfl⟩:=hrel
   go_wp2_with fail
   refine (octS_any 0 w).mono ?_
   rintro e w2 ⟨he,hb2⟩
   rw [show ((0:Int)%65536).toNat=0 by decide] at he
   subst he
   go_wp2
   go_ret2
   exact ⟨hb2,.inr ⟨uh HN,rfl⟩⟩
def runN (p:Int→Bool) (l:List UInt8) (at_:Nat):Nat:=at_+((l.drop at_).takeWhile (fun c=>p (c.toNat:Int))).length
theorem drop_bAt {l:List UInt8} {k:Nat} (h:k<l.length):l.drop k=(l.getD k 0)::l.drop (k+1):=by
 rw [List.drop_eq_getElem_cons h,List.getD_eq_getElem?_getD,List.getElem?_eq_getElem h]
 rfl
theorem runN_yes {p:Int→Bool} {l:List UInt8} {k:Nat} (h:k<l.length) (hp:p (bAt l k)=true):runN p l k=runN p l (k+1):=by
 unfold runN
 rw [drop_bAt h,List.takeWhile_cons]
 unfold bAt at hp
 rw [hp]
 simp only [if_true,List.length_cons]
 omega
theorem runN_no {p:Int→Bool} {l:List UInt8} {k:Nat} (h:k<l.length) (hp:p (bAt l k)=false):runN p l k=k:=by
 unfold runN
 rw [drop_bAt h,List.takeWhile_cons]
 unfold bAt at hp
 rw [hp]
 rfl
theorem runN_end {p:Int→Bool} {l:List UInt8} {k:Nat} (h:l.length≤k):runN p l k=k:=by
 unfold runN
 rw [List.drop_eq_nil_of_le h]
 rfl
theorem runN_le {p:Int→Bool} {l:List UInt8} {k:Nat} (h:k≤l.length):k≤runN p l k∧runN p l k≤l.length:=by
 unfold runN
 have h1:=(List.takeWhile_prefix (l:=l.drop k) (fun c=>p (c.toNat:Int))).length_le
 rw [List.length_drop] at h1
 omega
def numV (x:ByteArray):Option Nat:=if (decide ((ov x.data.toList).toNat<65536)&&eqS x (strOf (octD (ov x.data.toList).toNat)))=true then some (ov x.data.toList).toNat else none
theorem numV_yes {x:ByteArray} {m:Nat} (hm:m<65536) (hx:x=strOf (octD m)):numV x=some m:=by
 have e:(ov x.data.toList).toNat=m:=by rw [hx,strOf_list,octD_ov];exact Int.toNat_natCast m
 unfold numV
 rw [e,decide_eq_true hm,(eqS_iff _ _).2 hx]
 rfl
theorem numV_no {x:ByteArray} (h:∀ m,m<65536→x≠strOf (octD m)):numV x=none:=by
 unfold numV
 rw [if_neg]
 intro hc
 rw [Bool.and_eq_true,decide_eq_true_eq,eqS_iff] at hc
 exact h _ hc.1 hc.2
theorem numV_bd {x:ByteArray} {m:Nat} (h:numV x=some m):m<65536∧x=strOf (octD m):=by
 unfold numV at h
 split at h
 ·
  rename_i hc
  rw [Bool.and_eq_true,decide_eq_true_eq,eqS_iff] at hc
  cases h
  exact hc
 · cases h
def wordT (x:ByteArray):Tk:=if keptB x=true then ⟨5,0,x⟩ else ⟨1,0,x⟩
def numT (bad:Tk) (x:ByteArray):Tk:=match numV x with
 | some m => ⟨2, m, ⟨#[]⟩⟩
 | none => bad
def badS:Tk:=⟨2,-1,⟨#[]⟩⟩
def badI:Tk:=⟨0,0,⟨#[]⟩⟩
theorem badS_ok:badS.ok=false:=by decide
theorem badI_ok:badI.ok=false:=by decide
def oneE (s:ByteArray) (k:Nat):Nat :=
 if smB (bAt s.data.toList k)=true then runN ldB s.data.toList k
 else if dgB (bAt s.data.toList k)=true then runN dgB s.data.toList k
 else if (bAt s.data.toList k == 46&&(decide (k+1<s.size)&&smB (bAt s.data.toList (k+1))))=true then runN ldB s.data.toList (k+1)
 else k+1
def oneT (bad:Tk) (s:ByteArray) (k:Nat):Tk :=
 if smB (bAt s.data.toList k)=true then wordT (s.extract k (oneE s k))
 else if dgB (bAt s.data.toList k)=true then numT bad (s.extract k (oneE s k))
 else if (bAt s.data.toList k == 46&&(decide (k+1<s.size)&&smB (bAt s.data.toList (k+1))))=true then ⟨3,0,s.extract k (oneE s k)⟩
 else ⟨4,0,s.extract k (oneE s k)⟩
theorem ld_of_sm {c:Int} (h:smB c=true):ldB c=true:=by unfold ldB;rw [h];rfl
theorem oneE_bd (s:ByteArray) (k:Nat) (h:k<s.size):k<oneE s k∧oneE s k≤s.size:=by
 have hl:=size_len s
 have hk:k<s.data.toList.length:=by omega
 unfold oneE
 split
 ·
  rename_i h1
  rw [runN_yes hk (ld_of_sm h1)]
  have:=runN_le (p:=ldB) (l:=s.data.toList) (k:=k+1) (by omega)
  omega
 ·
  split
  ·
   rename_i h1
   rw [runN_yes hk h1]
   have:=runN_le (p:=dgB) (l:=s.data.toList) (k:=k+1) (by omega)
   omega
  ·
   split
   ·
    have:=runN_le (p:=ldB) (l:=s.data.toList) (k:=k+1) (by omega)
    omega
   · omega
theorem oneT_same (a b:Tk) (ha:a.ok=false) (hb:b.ok=false) (s:ByteArray) (k:Nat):(oneT a s k).ok=(oneT b s k).ok∧((oneT b s k).ok=true→oneT a s k=oneT b s k):=by
 unfold oneT
 split
 · exact ⟨rfl,fun _=>rfl⟩
 ·
  split
  ·
   unfold numT
   cases numV (s.extract k (oneE s k)) with
   | some m => exact ⟨rfl, fun _ => rfl⟩
   | none => exact ⟨ha.trans hb.symm, fun h => by rw [hb] at h; cases h⟩
  · exact ⟨rfl,fun _=>rfl⟩
def lexG (s:ByteArray):Nat→Nat→List Tk→List Tk × Bool
 | 0, _, acc => (acc, true)
 | n + 1, k, acc =>
  if k<s.size then
   if bAt s.data.toList k=59 then (acc,true)
   else if blB (bAt s.data.toList k)=true then lexG s n (k+1) acc
   else if ((!(oneT badS s k).ok) || acc.length == 800)=true then ([],false)
   else lexG s n (oneE s k) (acc++[oneT badS s k])
  else (acc,true)
theorem lexG_more (s:ByteArray):∀ (n m k:Nat) (acc:List Tk),s.size-k≤n→s.size-k≤m→lexG s n k acc=lexG s m k acc:=by
 intro n
 induction n with
 | zero =>
  intro m k acc hn hm
  have hk:¬ k<s.size:=by omega
  cases m with
  | zero => rfl
  | succ m => simp only [lexG, if_neg hk]
 | succ n ih =>
  intro m k acc hn hm
  by_cases hk:k<s.size
  ·
   cases m with
   | zero => omega
   | succ m =>
    have:=oneE_bd s k hk
    simp only [lexG]
    rw [ih m (k+1) acc (by omega) (by omega),ih m (oneE s k) (acc++[oneT badS s k]) (by omega) (by omega)]
  ·
   cases m with
   | zero => simp only [lexG, if_neg hk]
   | succ m => simp only [lexG, if_neg hk]
def lexR (s:ByteArray) (k:Nat) (acc:List Tk):List Tk × Bool:=lexG s (s.size-k) k acc
theorem lexR_eq (s:ByteArray) (k:Nat) (acc:List Tk):lexR s k acc=if k<s.size then if bAt s.data.toList k=59 then (acc,true) else if blB (bAt s.data.toList k)=true then lexR s (k+1) acc else if ((!(oneT badS s k).ok) || acc.length == 800)=true then ([],false) else lexR s (oneE s k) (acc++[oneT badS s k]) else (acc,true):=by
 by_cases hk:k<s.size
 ·
  have hb:=oneE_bd s k hk
  unfold lexR
  obtain ⟨n,hn⟩:∃ n,s.size-k=n+1:=⟨s.size-k-1,by omega⟩
  rw [hn]
  simp only [lexG]
  rw [lexG_more s n (s.size-(k+1)) (k+1) acc (by omega) (by omega),lexG_more s n (s.size-oneE s k) (oneE s k) (acc++[oneT badS s k]) (by omega) (by omega)]
 ·
  unfold lexR
  have e:s.size-k=0:=by omega
  rw [e,if_neg hk]
  rfl
theorem lexR_end {s:ByteArray} {k:Nat} {acc:List Tk} (h:¬ k<s.size):lexR s k acc=(acc,true):=by rw [lexR_eq,if_neg h]
theorem lexR_semi {s:ByteArray} {k:Nat} {acc:List Tk} (h:k<s.size) (h1:bAt s.data.toList k=59):lexR s k acc=(acc,true):=by rw [lexR_eq,if_pos h,if_pos h1]
theorem lexR_blank {s:ByteArray} {k:Nat} {acc:List Tk} (h:k<s.size) (h1:bAt s.data.toList k≠59) (h2:blB (bAt s.data.toList k)=true):lexR s k acc=lexR s (k+1) acc:=by rw [lexR_eq,if_pos h,if_neg h1,if_pos h2]
theorem lexR_bad {s:ByteArray} {k:Nat} {acc:List Tk} (h:k<s.size) (h1:bAt s.data.toList k≠59) (h2:blB (bAt s.data.toList k)=false) (h3:(oneT badS s k).ok=false∨acc.length=800):lexR s k acc=([],false):=by
 rw [lexR_eq,if_pos h,if_neg h1,if_neg (by rw [h2];decide),if_pos]
 rcases h3 with h|h
 · rw [h];rfl
 · rw [h];simp
theorem lexR_next {s:ByteArray} {k:Nat} {acc:List Tk} (h:k<s.size) (h1:bAt s.data.toList k≠59) (h2:blB (bAt s.data.toList k)=false) (h3:(oneT badS s k).ok=true) (h4:acc.length≠800):lexR s k acc=lexR s (oneE s k) (acc++[oneT badS s k]):=by
 rw [lexR_eq,if_pos h,if_neg h1,if_neg (by rw [h2];decide),if_neg]
 rw [h3]
 simp [h4]
theorem tok5 (s:ByteArray) (w:World):Calls Tryz.prog 117 #[.agg (Tk.cs ⟨5,0,s⟩)] w fun e w'=>e = .returned (.bool (keptB s))∧Below w.heap.size w w':=by
 have hB:=hide (below_new w (.cells (Tk.cs ⟨5,0,s⟩) 71))
 obtain ⟨c0,c1,c2⟩:=box3 w ⟨5,0,s⟩ 71
 simp only at c0 c1 c2
 have HZ:=hide (show w.heap.size<(w.alloc (.cells (Tk.cs ⟨5,0,s⟩) 71)).heap.size by simp)
 generalize Tk.cs ⟨5,0,s⟩=cc at *
 have HY:=hide (fun h=>atV_yes (L:=keptL) (s:=s) h)
 have HNo:=hide (fun h=>atV_no (L:=keptL) (s:=s) h)
 have HA:=hide (fun g w1 (hr:RdS w1 g keptL)=>at_any keptL s g 31 31 w1 rfl (by omega) hr)
 unfold keptB
 generalize hasS keptL s=q at *
 generalize atV keptL s=v at *
 have E:=hide (show (decide (0≤v))=q by
  cases q
  · rw [uh HNo rfl];rfl
  ·
   have:=uh HY rfl
   simp
   omega)
 clear HY HNo
 go_enter Tryz.func117,Tryz.ntmps117
 go_wp2
 generalize w.alloc (Obj.cells cc 71)=W at *
 have c2d:W.drew.cell? ⟨w.heap.size,2,none⟩=some (.string s):=c2
 have C2:=hide (fun w1 (hb:Below W.drew.heap.size W.drew w1)=>(hb.cell (p:=⟨w.heap.size,2,none⟩) (uh HZ)).trans c2d)
 have BB:=hide (fun w1 (hb:Below W.drew.heap.size W.drew w1)=>((uh hB).drew).trans (hb.mono (Nat.le_of_lt (uh HZ))))
 clear c0 c1
 go_region_with (first|(go_at_call 138;refine (kept_any _).mono ?_;rintro e w1 ⟨rfl,hr1,hb1⟩;have c2e:=uh C2 w1 hb1;have B1:=hide (uh BB w1 hb1);have R1:=hide hr1;clear hr1 hb1)|(go_at_call 137;refine (uh HA _ _ (uh R1)).mono ?_;rintro e w' ⟨rfl,hw'⟩;rw [hw'];clear hw' w'))
 all_goals
  go_wp2
  go_ret
  exact ⟨by rw [←uh E];rfl,uh B1⟩
theorem tokS_any (t:Tk) (w:World) (hmax:t.s.size≤1099511627776):Calls Tryz.prog 117 #[t.v] w fun e w'=>e = .returned (.bool t.ok)∧Below w.heap.size w w':=by
 have hB:=hide (below_new w (.cells t.cs 71))
 obtain ⟨c0,c1,c2⟩:=box3 w t 71
 unfold Tk.v Tk.ok
 obtain ⟨k,n,s⟩:=t
 simp only at hmax c0 c1 c2 ⊢
 have HW:=hide (fun w=>in_any n 0 65535 w)
 have HN:=hide (nameS_any s (w.alloc (.cells (Tk.cs ⟨k,n,s⟩) 71)) hmax)
 have HM:=hide (fun w=>mkrS_any s w)
 have T5:=hide (show k=5→n=0→Calls Tryz.prog 117 #[.agg (Tk.cs ⟨k,n,s⟩)] w fun e w'=>e = .returned (.bool (keptB s))∧Below w.heap.size w w' from by rintro rfl rfl;exact tok5 s w)
 generalize Tk.cs ⟨k,n,s⟩=cc at *
 by_cases h2:k=2
 ·
  subst h2
  rw [if_pos (by decide)]
  generalize inB n 0 65535=q at *
  cases q
  ·
   go_enter Tryz.func117,Tryz.ntmps117
   go_wp2_with (go_at_call 61;refine (uh HW _).mono ?_;rintro e w' ⟨rfl,rfl⟩)
   go_ret
   exact ⟨rfl,uh hB⟩
  ·
   by_cases hz:s.size=0
   ·
    have he:=emp_yes s hz
    rw [decide_eq_true hz]
    go_enter Tryz.func117,Tryz.ntmps117
    go_wp2_with (go_at_call 61;refine (uh HW _).mono ?_;rintro e w' ⟨rfl,rfl⟩)
    go_ret
    exact ⟨rfl,uh hB⟩
   ·
    have he:=emp_no s hz
    rw [decide_eq_false hz]
    go_enter Tryz.func117,Tryz.ntmps117
    go_wp2_with (go_at_call 61;refine (uh HW _).mono ?_;rintro e w' ⟨rfl,rfl⟩)
    go_ret
    exact ⟨rfl,uh hB⟩
 ·
  have h2b:(k == 2)=false:=beq_eq_false_iff_ne.2 h2
  rw [h2b,if_neg (by decide)]
  by_cases hn:n=0
  ·
   subst hn
   rw [if_neg (by decide)]
   by_cases h1:k=1
   ·
    subst h1
    rw [if_pos (by decide)]
    generalize nameB s=q at *
    clear HW HM
    go_enter Tryz.func117,Tryz.ntmps117
    go_wp2_with (go_at_call 74;refine (uh HN).mono ?_;rintro e w1 ⟨rfl,hb1⟩)
    go_ret
    exact ⟨rfl,(uh hB).trans (hb1.mono (by simp))⟩
   ·
    have h1b:(k == 1)=false:=beq_eq_false_iff_ne.2 h1
    rw [h1b,if_neg (by decide)]
    by_cases h3:k=3
    ·
     subst h3
     rw [if_pos (by decide)]
     clear HW HM HN
     by_cases hz1:s.size≤1
     ·
      have hgt:decide ((1:Int)<(s.size:Int))=false:=by simp;omega
      have E:=hide (show dotB s.data.toList=false by
       by_cases hz:s.size=0
       · rw [empty_of s hz];rfl
       ·
        rw [head_of s hz,dotB_cons]
        have:formB (s.data.toList.drop 1)=false:=by
         rw [List.drop_eq_nil_of_le (by rw [size_len];omega)];rfl
        rw [this,Bool.and_false])
      rw [uh E]
      go_enter Tryz.func117,Tryz.ntmps117
      go_wp2
      go_ret
      exact ⟨rfl,uh hB⟩
     ·
      have hgt:(1:Int)<(s.size:Int):=by omega
      have h0:s.size≠0:=by omega
      have he:=sAt s 0 (by omega)
      have HF:=hide (fun w=>formS_any (s.extract 1 s.size) w (by rw [rest_size];omega))
      have E:=hide (show dotB s.data.toList=(bAt s.data.toList 0 == 46&&formB (s.extract 1 s.size).data.toList) by
       rw [rest_of]
       conv=>lhs;rw [head_of s h0]
       rw [dotB_cons]
       congr 1
       rw [Bool.eq_iff_iff,beq_iff_eq,beq_iff_eq]
       unfold bAt
       constructor
       · intro e;rw [e];rfl
       ·
        intro e
        apply UInt8.toNat_inj.1
        show _=46
        omega)
      rw [uh E]
      generalize formB (s.extract 1 s.size).data.toList=q at *
      generalize bAt s.data.toList 0=c at *
      clear E
      cases hc:(c == 46)
      ·
       go_enter Tryz.func117,Tryz.ntmps117
       go_wp2
       go_ret
       exact ⟨rfl,uh hB⟩
      ·
       go_enter Tryz.func117,Tryz.ntmps117
       go_wp2_with (go_at_call 136;refine (uh HF _).mono ?_;rintro e w' ⟨rfl,rfl⟩)
       go_ret
       exact ⟨rfl,uh hB⟩
    ·
     have h3b:(k == 3)=false:=beq_eq_false_iff_ne.2 h3
     rw [h3b,if_neg (by decide)]
     by_cases h4:k=4
     ·
      subst h4
      rw [if_pos (by decide)]
      generalize markB s.data.toList=q at *
      clear HW HN
      go_enter Tryz.func117,Tryz.ntmps117
      go_wp2_with (go_at_call 173;refine (uh HM _).mono ?_;rintro e w' ⟨rfl,rfl⟩)
      go_ret
      exact ⟨rfl,uh hB⟩
     ·
      have h4b:(k == 4)=false:=beq_eq_false_iff_ne.2 h4
      rw [h4b,if_neg (by decide)]
      by_cases h5:k=5
      ·
       subst h5
       rw [if_pos (by decide)]
       exact uh T5 rfl rfl
      ·
       have h5b:(k == 5)=false:=beq_eq_false_iff_ne.2 h5
       rw [h5b,if_neg (by decide)]
       clear HW HN HM
       go_enter Tryz.func117,Tryz.ntmps117
       go_wp2
       go_ret
       exact ⟨rfl,uh hB⟩
  ·
   have hnb:(n != 0)=true:=by simp [hn]
   rw [hnb,if_pos (by decide)]
   clear HW HN HM
   go_enter Tryz.func117,Tryz.ntmps117
   go_wp2
   go_ret
   exact ⟨rfl,uh hB⟩
theorem results_row2 {P:Program} {fn:Func} {p u:Tmp} {ty:TypeId} (h:fn.results=#[.cell p ty,.tmp u]) (tmps:Array Value) (w:World) (g:Nat) (t:TypeId) (cs:Array Value) (fr:Nat × Nat) (d:TypeDesc)
  (hp:tmps.getD p undef = .pointer (some ⟨g,0,none⟩)) (hg:w.heap[g]?=some (.cells cs t fr))
  (hu:P.underlying ty=some d) (hd:(match d with | .struct _ | .array _ _=>true|_=>false)=true) (hi:(P.info? ty).map (·.size)=some cs.size) :
  (results fn tmps).run P w = .ok (.tuple #[.agg cs,tmps.getD u undef]) w:=by
 have hp':tmps[p]?.getD undef = .pointer (some ⟨g,0,none⟩):=by simpa using hp
 simp [results,h,hp',asAddr,run_loadVar_row w g t ty cs fr d hg hu hd hi]
theorem szK:(Tryz.prog.info? 71).map (·.size)=some 3:=by kernel_rfl
theorem tk_one (k n:Int) (x:ByteArray):(#[Value.int .i64 k,.int .i64 n,.string x]:Array Value).all (·.oneCell')=true:=by simp [Value.oneCell']
def T0c:Array Value:=#[.int .i64 0,.int .i64 0,.string ⟨#[]⟩]
theorem runS_any (letters:Bool) (s:ByteArray) (k:Nat) (w:World) (hz:s.size≤1099511627776) (hk:k≤s.size):Calls Tryz.prog 169 #[.string s,.int .i64 k,.bool letters] w fun e w'=>e = .returned (.int .i64 (runN (if letters then ldB else dgB) s.data.toList k:Nat))∧w'=w:=by
 have hl:=size_len s
 obtain ⟨p,hp⟩:∃ p:Int→Bool,(if letters then ldB else dgB)=p:=⟨_,rfl⟩
 have PP:=hide (show ∀ c,p c=(dgB c || (letters&&smB c)) from fun c=>by
  rw [←hp]
  cases letters
  · simp
  ·
   show ldB c=_
   unfold ldB
   rw [Bool.true_and,Bool.or_comm])
 rw [hp]
 clear hp
 obtain ⟨R,hR⟩:∃ R,runN p s.data.toList k=R:=⟨_,rfl⟩
 have HR:=hide hR
 rw [hR]
 clear hR
 go_enter Tryz.func169,Tryz.ntmps169
 go_wp2
 go_loop [1] (fun i=>∃ j:Nat,i = .int .i64 j∧j≤s.size∧Hid (runN p s.data.toList j=R)) (fun i=>s.size-(intOf i).toNat)
 case atStart=>exact ⟨k,rfl,hk,uh HR⟩
 case round =>
  clear HR
  obtain ⟨j,rfl,hj,hd⟩:=hrel
  by_cases hlt:j<s.size
  ·
   have he:=sAt s j hlt
   have hbd:=bAt_bd s.data.toList j
   have Y:=hide (fun h=>(runN_yes (p:=p) (l:=s.data.toList) (k:=j) (by omega) h).symm.trans hd.out)
   have N:=hide (fun h=>(runN_no (p:=p) (l:=s.data.toList) (k:=j) (by omega) h).symm.trans hd.out)
   have S1:=hide (fun w=>smS_any (bAt s.data.toList j) w hbd.1 hbd.2)
   have D1:=hide (fun w=>dgS_any (bAt s.data.toList j) w hbd.1 hbd.2)
   rw [uh PP] at Y N
   generalize smB (bAt s.data.toList j)=a at S1 Y N
   generalize dgB (bAt s.data.toList j)=b at D1 Y N
   generalize bAt s.data.toList j=c at he hbd S1 D1
   clear hd PP
   cases b
   ·
    cases letters
    ·
     have E:=hide (uh N rfl)
     clear Y N
     go_wp2_with (first|(go_at_call 168;refine (uh S1 _).mono ?_;rintro e w' ⟨rfl,rfl⟩)|(go_at_call 171;refine (uh D1 _).mono ?_;rintro e w' ⟨rfl,rfl⟩))
     go_ret
     exact ⟨by rw [←uh E];rfl,rfl⟩
    ·
     cases a
     ·
      have E:=hide (uh N rfl)
      clear Y N
      go_wp2_with (first|(go_at_call 168;refine (uh S1 _).mono ?_;rintro e w' ⟨rfl,rfl⟩)|(go_at_call 171;refine (uh D1 _).mono ?_;rintro e w' ⟨rfl,rfl⟩))
      go_ret
      exact ⟨by rw [←uh E];rfl,rfl⟩
     ·
      have E:=hide (uh Y rfl)
      clear Y N
      go_wp2_with (first|(go_at_call 168;refine (uh S1 _).mono ?_;rintro e w' ⟨rfl,rfl⟩)|(go_at_call 171;refine (uh D1 _).mono ?_;rintro e w' ⟨rfl,rfl⟩))
      go_round
      case rel=>exact ⟨j+1,by go_num,by omega,uh E⟩
      case measure=>simp [intOf];omega
   ·
    have E:=hide (uh Y rfl)
    clear Y N
    go_wp2_with (first|(go_at_call 168;refine (uh S1 _).mono ?_;rintro e w' ⟨rfl,rfl⟩)|(go_at_call 171;refine (uh D1 _).mono ?_;rintro e w' ⟨rfl,rfl⟩))
    go_round
    case rel=>exact ⟨j+1,by go_num,by omega,uh E⟩
    case measure=>simp [intOf];omega
  ·
   have E:=hide ((runN_end (p:=p) (l:=s.data.toList) (k:=j) (by omega)).symm.trans hd.out)
   clear hd
   go_wp2
   go_ret
   exact ⟨by rw [←uh E];rfl,rfl⟩
theorem wordT_v (x:ByteArray):(keptB x=true→wordT x=⟨5,0,x⟩)∧(keptB x=false→wordT x=⟨1,0,x⟩):=by
 unfold wordT
 constructor
 · intro h;rw [h];rfl
 · intro h;rw [h];rfl
theorem wordS_any (x:ByteArray) (w:World):Calls Tryz.prog 170 #[.string x] w fun e w'=>e = .returned (wordT x).v∧Below w.heap.size w w':=by
 have HY:=hide (fun h=>atV_yes (L:=keptL) (s:=x) h)
 have HN:=hide (fun h=>atV_no (L:=keptL) (s:=x) h)
 have HA:=hide (fun g w1 (hr:RdS w1 g keptL)=>at_any keptL x g 31 31 w1 rfl (by omega) hr)
 have WT:=hide (wordT_v x)
 have HK:=hide kept_any
 have B0:=hide (below_new w (.cells T0c 71))
 have R0:=hide (heap_alloc_new w (.cells T0c 71))
 have Z0:=hide (show w.heap.size≤(w.alloc (.cells T0c 71)).heap.size by simp)
 unfold keptB at WT
 unfold T0c at B0 R0 Z0
 generalize hasS keptL x=q at *
 generalize atV keptL x=v at *
 cases q
 ·
  have hv:=uh HN rfl
  have W1:=hide ((uh WT).2 rfl)
  rw [uh W1]
  unfold Tk.v Tk.cs
  simp only
  clear WT HY HN
  go_enter Tryz.func170,Tryz.ntmps170
  go_wp2_with fail
  generalize w.alloc (Obj.cells #[.int .i64 0,.int .i64 0,.string ⟨#[]⟩] 71)=W at *
  refine (uh HK W).mono ?_
  rintro e w1 ⟨rfl,hr1,hb1⟩
  have R1:=hide ((hb1.block _ (Array.getElem?_eq_some_iff.1 (uh R0)).1).trans (uh R0))
  have B1:=hide ((uh B0).trans (hb1.mono (uh Z0)))
  have A1:=hide (uh HA _ _ hr1)
  clear hr1 hb1 HK HA
  go_wp2_with (first|(go_at_call 137;refine (uh A1).mono ?_;rintro e w' ⟨rfl,rfl⟩)|(refine wpList_store_row rfl 71 _ _ rfl w.heap.size #[.int .i64 1,.int .i64 0,.string x] rfl rfl 71 _ (uh R1) szK rfl (tk_one _ _ _) ?_))
  refine bodyPost_ret (results_cell_row (P:=Tryz.prog) rfl _ _ w.heap.size 71 #[.int .i64 1,.int .i64 0,.string x] (0,0) _ rfl (setRow_heap _ _ _ _ _ _ (uh R1)) Tryz.underlying71 rfl szK) rfl ?_
  exact ⟨rfl,(uh B1).trans ⟨rfl,rfl,rfl,by simp [World.setRow],fun k hk=>setRow_other _ _ _ _ (by omega)⟩⟩
 ·
  have hv:=uh HY rfl
  have W1:=hide ((uh WT).1 rfl)
  rw [uh W1]
  unfold Tk.v Tk.cs
  simp only
  clear WT HY HN
  go_enter Tryz.func170,Tryz.ntmps170
  go_wp2_with fail
  generalize w.alloc (Obj.cells #[.int .i64 0,.int .i64 0,.string ⟨#[]⟩] 71)=W at *
  refine (uh HK W).mono ?_
  rintro e w1 ⟨rfl,hr1,hb1⟩
  have R1:=hide ((hb1.block _ (Array.getElem?_eq_some_iff.1 (uh R0)).1).trans (uh R0))
  have B1:=hide ((uh B0).trans (hb1.mono (uh Z0)))
  have A1:=hide (uh HA _ _ hr1)
  clear hr1 hb1 HK HA
  go_wp2_with (first|(go_at_call 137;refine (uh A1).mono ?_;rintro e w' ⟨rfl,rfl⟩)|(refine wpList_store_row rfl 71 _ _ rfl w.heap.size #[.int .i64 5,.int .i64 0,.string x] rfl rfl 71 _ (uh R1) szK rfl (tk_one _ _ _) ?_))
  refine bodyPost_ret (results_cell_row (P:=Tryz.prog) rfl _ _ w.heap.size 71 #[.int .i64 5,.int .i64 0,.string x] (0,0) _ rfl (setRow_heap _ _ _ _ _ _ (uh R1)) Tryz.underlying71 rfl szK) rfl ?_
  exact ⟨rfl,(uh B1).trans ⟨rfl,rfl,rfl,by simp [World.setRow],fun k hk=>setRow_other _ _ _ _ (by omega)⟩⟩
theorem below_row {w w':World} {cs:Array Value} (h:Below w.heap.size w w'):Below w.heap.size w (w'.setRow w.heap.size cs) :=
 h.trans ⟨rfl,rfl,rfl,by simp [World.setRow],fun k hk=>setRow_other _ _ _ _ (by omega)⟩
theorem extract_size (s:ByteArray) (a b:Nat):(s.extract a b).size≤s.size:=by
 rw [ByteArray.size_extract]
 omega
theorem numT_some {bad:Tk} {x:ByteArray} {m:Nat} (hm:m<65536) (hx:x=strOf (octD m)):numT bad x=⟨2,m,⟨#[]⟩⟩:=by unfold numT;rw [numV_yes hm hx]
theorem numT_none {bad:Tk} {x:ByteArray} (h:∀ m,m<65536→x≠strOf (octD m)):numT bad x=bad:=by unfold numT;rw [numV_no h]
theorem one_sm {s:ByteArray} {k:Nat} (bad:Tk) (h1:smB (bAt s.data.toList k)=true):oneE s k=runN ldB s.data.toList k∧oneT bad s k=wordT (s.extract k (oneE s k)):=by
 constructor
 · unfold oneE;rw [if_pos h1]
 · unfold oneT;rw [if_pos h1]
theorem one_dg {s:ByteArray} {k:Nat} (bad:Tk) (h1:smB (bAt s.data.toList k)=false) (h2:dgB (bAt s.data.toList k)=true):oneE s k=runN dgB s.data.toList k∧oneT bad s k=numT bad (s.extract k (oneE s k)):=by
 have n1:¬ smB (bAt s.data.toList k)=true:=by rw [h1];decide
 constructor
 · unfold oneE;rw [if_neg n1,if_pos h2]
 · unfold oneT;rw [if_neg n1,if_pos h2]
theorem one_dot {s:ByteArray} {k:Nat} (bad:Tk) (h1:smB (bAt s.data.toList k)=false) (h2:dgB (bAt s.data.toList k)=false) (h3:bAt s.data.toList k=46) (h4:k+1<s.size) (h5:smB (bAt s.data.toList (k+1))=true):oneE s k=runN ldB s.data.toList (k+1)∧oneT bad s k=⟨3,0,s.extract k (oneE s k)⟩:=by
 have n1:¬ smB (bAt s.data.toList k)=true:=by rw [h1];decide
 have n2:¬ dgB (bAt s.data.toList k)=true:=by rw [h2];decide
 have n3:(bAt s.data.toList k == 46&&(decide (k+1<s.size)&&smB (bAt s.data.toList (k+1))))=true:=by rw [h3,h5,decide_eq_true h4];rfl
 constructor
 · unfold oneE;rw [if_neg n1,if_neg n2,if_pos n3]
 · unfold oneT;rw [if_neg n1,if_neg n2,if_pos n3]
theorem one_mk {s:ByteArray} {k:Nat} (bad:Tk) (h1:smB (bAt s.data.toList k)=false) (h2:dgB (bAt s.data.toList k)=false) (h3:bAt s.data.toList k=46→k+1<s.size→smB (bAt s.data.toList (k+1))=false):oneE s k=k+1∧oneT bad s k=⟨4,0,s.extract k (k+1)⟩:=by
 have n1:¬ smB (bAt s.data.toList k)=true:=by rw [h1];decide
 have n2:¬ dgB (bAt s.data.toList k)=true:=by rw [h2];decide
 have n3:¬ (bAt s.data.toList k == 46&&(decide (k+1<s.size)&&smB (bAt s.data.toList (k+1))))=true:=by
  intro h
  rw [Bool.and_eq_true,Bool.and_eq_true,beq_iff_eq,decide_eq_true_eq] at h
  rw [h3 h.1 h.2.1] at h
  exact absurd h.2.2 (by decide)
 have e:oneE s k=k+1:=by unfold oneE;rw [if_neg n1,if_neg n2,if_neg n3]
 refine ⟨e,?_⟩
 unfold oneT
 rw [if_neg n1,if_neg n2,if_neg n3,e]
theorem oneS_any (s:ByteArray) (k:Nat) (w:World) (hz:s.size≤1048576) (hk:k<s.size):Calls Tryz.prog 116 #[.string s,.int .i64 k] w fun e w'=>e = .returned (.tuple #[(oneT badS s k).v,.int .i64 (oneE s k:Nat)])∧Below w.heap.size w w':=by
 have hl:=size_len s
 have he:=sAt s k hk
 have hbd:=bAt_bd s.data.toList k
 have HE:=hide (oneE_bd s k hk)
 have B0:=hide (below_new w (.cells T0c 71))
 have R0:=hide (heap_alloc_new w (.cells T0c 71))
 have Z0:=hide (show w.heap.size≤(w.alloc (.cells T0c 71)).heap.size by simp)
 unfold T0c at B0 R0 Z0
 have S1:=hide (fun w=>smS_any (bAt s.data.toList k) w hbd.1 hbd.2)
 have D1:=hide (fun w=>dgS_any (bAt s.data.toList k) w hbd.1 hbd.2)
 cases h1:smB (bAt s.data.toList k)
 ·
  cases h2:dgB (bAt s.data.toList k)
  ·
   by_cases h46:bAt s.data.toList k=46
   ·
    by_cases hk1:k+1<s.size
    ·
     have he1:=sAt s (k+1) hk1
     have hbd1:=bAt_bd s.data.toList (k+1)
     have S2:=hide (fun w=>smS_any (bAt s.data.toList (k+1)) w hbd1.1 hbd1.2)
     cases h3:smB (bAt s.data.toList (k+1))
     ·
      obtain ⟨e1,e2⟩:=one_mk badS h1 h2 (fun _ _=>h3)
      rw [e1,e2]
      rw [h2] at D1
      rw [h46] at he D1 h1
      clear S1 S2
      unfold Tk.v Tk.cs
      simp only
      generalize bAt s.data.toList (k+1)=c1 at *
      clear e1 e2 h2 h46 hbd HE
      go_enter Tryz.func116,Tryz.ntmps116
      go_wp2_with (first|(go_at_call 168;refine (smS_any _ _ (by omega) (by omega)).mono ?_;rintro e w' ⟨rfl,rfl⟩)|(go_at_call 171;refine (uh D1 _).mono ?_;rintro e w' ⟨rfl,rfl⟩)|(refine wpList_store_row rfl 71 _ _ rfl w.heap.size #[.int .i64 4,.int .i64 0,.string (s.extract k (k+1))] rfl rfl 71 _ (uh R0) szK rfl (tk_one _ _ _) ?_))
      refine bodyPost_ret (results_row2 (P:=Tryz.prog) rfl _ _ w.heap.size 71 #[.int .i64 4,.int .i64 0,.string (s.extract k (k+1))] (0,0) _ rfl (setRow_heap _ _ _ _ _ _ (uh R0)) Tryz.underlying71 rfl szK) rfl ?_
      exact ⟨rfl,below_row (uh B0)⟩
     ·
      obtain ⟨e1,e2⟩:=one_dot badS h1 h2 h46 hk1 h3
      have HE2:=hide (show k<oneE s k∧oneE s k≤s.size from uh HE)
      have RN:=hide (fun w=>runS_any true s (k+1) w (by omega) (by omega))
      have RN2:=hide (show ∀ w:World,Calls Tryz.prog 169 #[.string s,.int .i64 ((k+1:Nat):Int),.bool true] w fun e w'=>e = .returned (.int .i64 (oneE s k:Nat))∧w'=w from fun w=>by rw [e1];exact uh RN w)
      rw [e2]
      rw [h2] at D1
      rw [h46] at he D1 h1
      clear S1 S2
      unfold Tk.v Tk.cs
      simp only
      generalize oneE s k=E at *
      obtain ⟨b1,b2⟩:=uh HE2
      generalize bAt s.data.toList (k+1)=c1 at *
      clear e1 e2 h2 h46 hbd HE RN HE2
      go_enter Tryz.func116,Tryz.ntmps116
      go_wp2_with (first|(go_at_call 168;refine (smS_any _ _ (by omega) (by omega)).mono ?_;rintro e w' ⟨rfl,rfl⟩)|(go_at_call 171;refine (uh D1 _).mono ?_;rintro e w' ⟨rfl,rfl⟩)|(go_at_call 169;refine (uh RN2 _).mono ?_;rintro e w' ⟨rfl,rfl⟩)|(refine wpList_store_row rfl 71 _ _ rfl w.heap.size #[.int .i64 3,.int .i64 0,.string (s.extract k E)] rfl rfl 71 _ (uh R0) szK rfl (tk_one _ _ _) ?_))
      refine bodyPost_ret (results_row2 (P:=Tryz.prog) rfl _ _ w.heap.size 71 #[.int .i64 3,.int .i64 0,.string (s.extract k E)] (0,0) _ rfl (setRow_heap _ _ _ _ _ _ (uh R0)) Tryz.underlying71 rfl szK) rfl ?_
      exact ⟨rfl,below_row (uh B0)⟩
    ·
     obtain ⟨e1,e2⟩:=one_mk badS h1 h2 (fun _ h=>absurd h hk1)
     have hk1d:decide ((k:Int)+1<(s.size:Int))=false:=by simp;omega
     rw [e1,e2]
     rw [h1] at S1
     rw [h2] at D1
     rw [h46] at he S1 D1
     unfold Tk.v Tk.cs
     simp only
     clear e1 e2 h1 h2 h46 hbd HE
     go_enter Tryz.func116,Tryz.ntmps116
     go_wp2_with (first|(go_at_call 168;refine (uh S1 _).mono ?_;rintro e w' ⟨rfl,rfl⟩)|(go_at_call 171;refine (uh D1 _).mono ?_;rintro e w' ⟨rfl,rfl⟩)|(refine wpList_store_row rfl 71 _ _ rfl w.heap.size #[.int .i64 4,.int .i64 0,.string (s.extract k (k+1))] rfl rfl 71 _ (uh R0) szK rfl (tk_one _ _ _) ?_))
     refine bodyPost_ret (results_row2 (P:=Tryz.prog) rfl _ _ w.heap.size 71 #[.int .i64 4,.int .i64 0,.string (s.extract k (k+1))] (0,0) _ rfl (setRow_heap _ _ _ _ _ _ (uh R0)) Tryz.underlying71 rfl szK) rfl ?_
     exact ⟨rfl,below_row (uh B0)⟩
   ·
    obtain ⟨e1,e2⟩:=one_mk badS h1 h2 (fun h=>absurd h h46)
    rw [e1,e2]
    rw [h1] at S1
    rw [h2] at D1
    unfold Tk.v Tk.cs
    simp only
    generalize bAt s.data.toList k=c at *
    clear e1 e2 h1 h2 HE
    go_enter Tryz.func116,Tryz.ntmps116
    go_wp2_with (first|(go_at_call 168;refine (uh S1 _).mono ?_;rintro e w' ⟨rfl,rfl⟩)|(go_at_call 171;refine (uh D1 _).mono ?_;rintro e w' ⟨rfl,rfl⟩)|(refine wpList_store_row rfl 71 _ _ rfl w.heap.size #[.int .i64 4,.int .i64 0,.string (s.extract k (k+1))] rfl rfl 71 _ (uh R0) szK rfl (tk_one _ _ _) ?_))
    refine bodyPost_ret (results_row2 (P:=Tryz.prog) rfl _ _ w.heap.size 71 #[.int .i64 4,.int .i64 0,.string (s.extract k (k+1))] (0,0) _ rfl (setRow_heap _ _ _ _ _ _ (uh R0)) Tryz.underlying71 rfl szK) rfl ?_
    exact ⟨rfl,below_row (uh B0)⟩
  ·
   obtain ⟨e1,e2⟩:=one_dg badS h1 h2
   have RN:=hide (show ∀ w:World,Calls Tryz.prog 169 #[.string s,.int .i64 (k:Int),.bool false] w fun e w'=>e = .returned (.int .i64 (oneE s k:Nat))∧w'=w from fun w=>by rw [e1];exact runS_any false s k w (by omega) (by omega))
   rw [e2]
   rw [h1] at S1
   rw [h2] at D1
   generalize oneE s k=E at *
   obtain ⟨b1,b2⟩:=uh HE
   generalize bAt s.data.toList k=c at *
   have PO:=hide (fun w=>poS_any (s.extract k E) (by have:=extract_size s k E;omega) w)
   have NS:=hide (fun m hm hx=>numT_some (bad:=badS) (x:=s.extract k E) (m:=m) hm hx)
   have NN:=hide (fun h=>numT_none (bad:=badS) (x:=s.extract k E) h)
   generalize numT badS (s.extract k E)=T at *
   clear e1 e2 h1 h2 HE
   go_enter Tryz.func116,Tryz.ntmps116
   go_wp2_with (first|(go_at_call 168;refine (uh S1 _).mono ?_;rintro e w' ⟨rfl,rfl⟩)|(go_at_call 171;refine (uh D1 _).mono ?_;rintro e w' ⟨rfl,rfl⟩)|(go_at_call 169;refine (uh RN _).mono ?_;rintro e w' ⟨rfl,rfl⟩))
   generalize w.alloc (Obj.cells #[.int .i64 0,.int .i64 0,.string ⟨#[]⟩] 71)=W at *
   refine (uh PO _).mono ?_
   rintro e w1 ⟨hb1,h⟩
   have R1:=hide ((hb1.block _ (Array.getElem?_eq_some_iff.1 (uh R0)).1).trans (uh R0))
   have B1:=hide ((uh B0).trans (hb1.mono (uh Z0)))
   clear hb1
   rcases h with ⟨m,hm,hx,rfl⟩|⟨hno,rfl⟩
   ·
    have ET:=hide (uh NS m hm hx)
    clear hx NS NN PO
    go_wp2_with (first|(refine wpList_store_row rfl 71 _ _ rfl w.heap.size #[.int .i64 2,.int .i64 m,.string ⟨#[]⟩] rfl rfl 71 _ (uh R1) szK rfl (tk_one _ _ _) ?_))
    refine bodyPost_ret (results_row2 (P:=Tryz.prog) rfl _ _ w.heap.size 71 #[.int .i64 2,.int .i64 m,.string ⟨#[]⟩] (0,0) _ rfl (setRow_heap _ _ _ _ _ _ (uh R1)) Tryz.underlying71 rfl szK) rfl ?_
    exact ⟨by rw [uh ET];rfl,below_row (uh B1)⟩
   ·
    have ET:=hide (uh NN hno)
    clear hno NS NN PO
    go_wp2_with (first|(refine wpList_store_row rfl 71 _ _ rfl w.heap.size #[.int .i64 2,.int .i64 (-1),.string ⟨#[]⟩] rfl rfl 71 _ (uh R1) szK rfl (tk_one _ _ _) ?_))
    refine bodyPost_ret (results_row2 (P:=Tryz.prog) rfl _ _ w.heap.size 71 #[.int .i64 2,.int .i64 (-1),.string ⟨#[]⟩] (0,0) _ rfl (setRow_heap _ _ _ _ _ _ (uh R1)) Tryz.underlying71 rfl szK) rfl ?_
    exact ⟨by rw [uh ET];rfl,below_row (uh B1)⟩
 ·
  obtain ⟨e1,e2⟩:=one_sm badS h1
  have RN:=hide (show ∀ w:World,Calls Tryz.prog 169 #[.string s,.int .i64 (k:Int),.bool true] w fun e w'=>e = .returned (.int .i64 (oneE s k:Nat))∧w'=w from fun w=>by rw [e1];exact runS_any true s k w (by omega) (by omega))
  rw [e2]
  rw [h1] at S1
  generalize oneE s k=E at *
  obtain ⟨b1,b2⟩:=uh HE
  generalize bAt s.data.toList k=c at *
  have WO:=hide (fun w=>wordS_any (s.extract k E) w)
  generalize hT:wordT (s.extract k E)=T at *
  obtain ⟨tk,tn,tx⟩:=T
  unfold Tk.v Tk.cs at *
  simp only at WO ⊢
  clear e1 e2 h1 HE hT D1
  go_enter Tryz.func116,Tryz.ntmps116
  go_wp2_with (first|(go_at_call 168;refine (uh S1 _).mono ?_;rintro e w' ⟨rfl,rfl⟩)|(go_at_call 169;refine (uh RN _).mono ?_;rintro e w' ⟨rfl,rfl⟩))
  generalize w.alloc (Obj.cells #[.int .i64 0,.int .i64 0,.string ⟨#[]⟩] 71)=W at *
  refine (uh WO _).mono ?_
  rintro e w1 ⟨rfl,hb1⟩
  have R1:=hide ((hb1.block _ (Array.getElem?_eq_some_iff.1 (uh R0)).1).trans (uh R0))
  have B1:=hide ((uh B0).trans (hb1.mono (uh Z0)))
  clear hb1 WO
  go_wp2_with (first|(refine wpList_store_row rfl 71 _ _ rfl w.heap.size #[.int .i64 tk,.int .i64 tn,.string tx] rfl rfl 71 _ (uh R1) szK rfl (tk_one _ _ _) ?_))
  refine bodyPost_ret (results_row2 (P:=Tryz.prog) rfl _ _ w.heap.size 71 #[.int .i64 tk,.int .i64 tn,.string tx] (0,0) _ rfl (setRow_heap _ _ _ _ _ _ (uh R1)) Tryz.underlying71 rfl szK) rfl ?_
  exact ⟨rfl,below_row (uh B1)⟩
theorem form_open {l:List UInt8} (h:formB l=true):∃ c r,l=c::r∧smB (c.toNat:Int)=true∧(∀ x∈l,ldB (x.toNat:Int)=true)∧l.length≤6:=by
 unfold formB at h
 rw [Bool.and_eq_true,inB_iff,List.all_eq_true] at h
 obtain ⟨h1,h2,h3⟩:=h
 match l,h2 with
 | c :: r, _ =>
  refine ⟨c,r,rfl,?_,?_,by omega⟩
  ·
   have:=h1 0 (List.mem_range.2 (by simp))
   unfold okAt at this
   rw [show decide (0<0)=false from rfl,Bool.false_and,Bool.or_false] at this
   exact this
  ·
   intro x hx
   obtain ⟨i,hi,rfl⟩:=List.getElem_of_mem hx
   have:=h1 i (List.mem_range.2 hi)
   unfold okAt bAt at this
   rw [List.getD_eq_getElem?_getD,List.getElem?_eq_getElem hi] at this
   simp only [Option.getD_some] at this
   unfold ldB
   rw [Bool.or_eq_true] at this ⊢
   rcases this with h|h
   · exact .inl h
   · rw [Bool.and_eq_true] at h;exact .inr h.2
theorem kept_form:∀ x∈keptL,formB x.data.toList=true:=by decide +kernel
def AllOk (ts:List Tk):Prop:=∀ t∈ts,t.ok=true
theorem AllOk.snoc {ts:List Tk} {t:Tk} (h:AllOk ts) (ht:t.ok=true):AllOk (ts++[t]):=fun x hx=>by
 rcases List.mem_append.1 hx with h1|h1
 · exact h x h1
 · rw [List.mem_singleton] at h1;rw [h1];exact ht
theorem kept_small:∀ x∈keptL,x.size≤7:=by decide +kernel
theorem ok_size {t:Tk} (h:t.ok=true):t.s.size≤7:=by
 obtain ⟨tk,tn,tx⟩:=t
 unfold Tk.ok at h
 simp only at h ⊢
 have hl:=size_len tx
 split at h
 · rw [Bool.and_eq_true,decide_eq_true_eq] at h;omega
 ·
  split at h
  · cases h
  ·
   split at h
   ·
    unfold nameB at h
    rw [Bool.and_eq_true] at h
    obtain ⟨_,_,_,_,_,h6⟩:=form_open h.1
    omega
   ·
    split at h
    ·
     match hx:tx.data.toList with
     | [] => rw [hx] at h; cases h
     | c0 :: q =>
      rw [hx,dotB_cons,Bool.and_eq_true] at h
      obtain ⟨_,_,_,_,_,h6⟩:=form_open h.2
      rw [hx,List.length_cons] at hl
      omega
    ·
     split at h
     ·
      match hx:tx.data.toList,h with
      | [c], _ => rw [hx] at hl; simp at hl; omega
     ·
      split at h
      · exact kept_small tx (hasS_iff.1 h)
      · cases h
theorem lexR_ok (s:ByteArray):∀ (n k:Nat) (acc:List Tk),s.size-k≤n→AllOk acc→AllOk (lexR s k acc).1:=by
 intro n
 induction n with
 | zero =>
  intro k acc hn h8
  rw [lexR_end (by omega)]
  exact h8
 | succ n ih =>
  intro k acc hn h8
  by_cases hlt:k<s.size
  ·
   by_cases h59:bAt s.data.toList k=59
   · rw [lexR_semi hlt h59];exact h8
   ·
    cases hbl:blB (bAt s.data.toList k)
    ·
     cases hok:(oneT badS s k).ok
     · rw [lexR_bad hlt h59 hbl (.inl hok)];intro x hx;cases hx
     ·
      by_cases h800:acc.length=800
      · rw [lexR_bad hlt h59 hbl (.inr h800)];intro x hx;cases hx
      ·
       rw [lexR_next hlt h59 hbl hok h800]
       have:=oneE_bd s k hlt
       exact ih _ _ (by omega) (h8.snoc hok)
    ·
     rw [lexR_blank hlt h59 hbl]
     exact ih _ _ (by omega) h8
  · rw [lexR_end hlt];exact h8
theorem lex_ok (s:ByteArray):AllOk (lexR s 0 []).1:=lexR_ok s s.size 0 [] (by omega) (fun x hx=>by cases hx)
structure Ex where
 k:Int
 n:Int
 s:ByteArray
 l:List Ex
theorem Ex.ind {p:Ex→Prop} (h:∀ k n s l,(∀ e∈l,p e)→p ⟨k,n,s,l⟩) (e:Ex):p e:=by
 obtain ⟨k,n,s,l⟩:=e
 exact h k n s l (fun e he=>Ex.ind h e)
def Ex.sz:Ex→Nat
 | ⟨_, _, s, l⟩ => s.size + l.length + (l.map Ex.sz).sum
theorem Ex.sz_eq (k n:Int) (s:ByteArray) (l:List Ex):(Ex.mk k n s l).sz=s.size+l.length+(l.map Ex.sz).sum:=by rw [Ex.sz]
def X0:Ex:=⟨0,0,⟨#[]⟩,[]⟩
def xAt (l:List Ex) (i:Nat):Ex:=l.getD i X0
def RdX (w:World) (B:Nat):Ex→Option Addr→Prop
 | ⟨_, _, _, l⟩, a => l = [] ∨ ∃ b off, a = some ⟨b, off, none⟩ ∧ B ≤ b ∧ b < w.heap.size ∧ ∀ x ∈ l, ∀ i, l[i]? = some x → w.cell? ⟨b, off + i * 4, none⟩ = some (.int .i64 x.k) ∧ w.cell? ⟨b, off + i * 4 + 1, none⟩ = some (.int .i64 x.n) ∧ w.cell? ⟨b, off + i * 4 + 2, none⟩ = some (.string x.s) ∧ ∃ c cap, w.cell? ⟨b, off + i * 4 + 3, none⟩ = some (.slice c x.l.length cap) ∧ RdX w B x c
def OneX (w:World) (B b at_:Nat) (x:Ex):Prop:=w.cell? ⟨b,at_,none⟩=some (.int .i64 x.k)∧w.cell? ⟨b,at_+1,none⟩=some (.int .i64 x.n)∧w.cell? ⟨b,at_+2,none⟩=some (.string x.s)∧∃ c cap,w.cell? ⟨b,at_+3,none⟩=some (.slice c x.l.length cap)∧RdX w B x c
theorem xAt_get {l:List Ex} {i:Nat} (h:i<l.length):xAt l i=l[i]:=by
 unfold xAt
 rw [List.getD_eq_getElem?_getD,List.getElem?_eq_getElem h]
 rfl
theorem xAt_mem {l:List Ex} {i:Nat} (h:i<l.length):xAt l i∈l:=by rw [xAt_get h];exact List.getElem_mem _
theorem RdX_eq (w:World) (B:Nat) (e:Ex) (a:Option Addr):RdX w B e a↔(e.l = []∨∃ b off,a=some ⟨b,off,none⟩∧B≤b∧b<w.heap.size∧∀ i,i<e.l.length→OneX w B b (off+i*4) (xAt e.l i)):=by
 obtain ⟨k,n,s,l⟩:=e
 rw [RdX]
 refine or_congr Iff.rfl (exists_congr fun b=>exists_congr fun off=>and_congr Iff.rfl (and_congr Iff.rfl (and_congr Iff.rfl ⟨fun h i hi=>?_,fun h x hx i hi=>?_⟩)))
 · exact h _ (xAt_mem hi) i (by rw [xAt_get hi];exact List.getElem?_eq_getElem hi)
 ·
  obtain ⟨hl,e⟩:=List.getElem?_eq_some_iff.1 hi
  have:=h i hl
  rw [xAt_get hl,e] at this
  exact this
theorem RdX.keep {w w':World} {B:Nat} (hs:w.heap.size≤w'.heap.size) (hc:∀ b o v,B≤b→b<w.heap.size→w.cell? ⟨b,o,none⟩=some v→w'.cell? ⟨b,o,none⟩=some v) (e:Ex):∀ a,RdX w B e a→RdX w' B e a:=by
 induction e using Ex.ind with
 | h k n s l ih =>
  intro a h
  rw [RdX_eq] at h ⊢
  rcases h with h|⟨b,off,ha,h1,h2,h3⟩
  · exact .inl h
  ·
   refine .inr ⟨b,off,ha,h1,Nat.lt_of_lt_of_le h2 hs,fun i hi=>?_⟩
   obtain ⟨c1,c2,c3,c,cap,c4,c5⟩:=h3 i hi
   exact ⟨hc _ _ _ h1 h2 c1,hc _ _ _ h1 h2 c2,hc _ _ _ h1 h2 c3,c,cap,hc _ _ _ h1 h2 c4,ih _ (xAt_mem hi) _ c5⟩
theorem RdX.later {w w':World} {B:Nat} {e:Ex} {a:Option Addr} (h:RdX w B e a) (hb:Below w.heap.size w w'):RdX w' B e a :=
 RdX.keep hb.size (fun b o v _ hlt hc=>(hb.cell (p:=⟨b,o,none⟩) hlt).trans hc) e a h
theorem RdX.lower {w:World} {B C:Nat} (hC:C≤B) (e:Ex):∀ a,RdX w B e a→RdX w C e a:=by
 induction e using Ex.ind with
 | h k n s l ih =>
  intro a h
  rw [RdX_eq] at h ⊢
  rcases h with h|⟨b,off,ha,h1,h2,h3⟩
  · exact .inl h
  ·
   refine .inr ⟨b,off,ha,Nat.le_trans hC h1,h2,fun i hi=>?_⟩
   obtain ⟨c1,c2,c3,c,cap,c4,c5⟩:=h3 i hi
   exact ⟨c1,c2,c3,c,cap,c4,ih _ (xAt_mem hi) _ c5⟩
def szX (l:List Ex):Nat:=(l.map Ex.sz).sum
theorem szX_take (l:List Ex) (k:Nat) (h:k<l.length):szX (l.take (k+1))=szX (l.take k)+(xAt l k).sz:=by
 unfold szX
 rw [List.take_succ_eq_append_getElem h,List.map_append,List.sum_append,xAt_get h]
 simp
theorem szX_le (l:List Ex) (k:Nat):szX (l.take k)≤szX l:=by
 induction l generalizing k with
 | nil => simp [szX]
 | cons a r ih =>
  cases k with
  | zero => simp [szX]
  | succ k =>
   have:=ih k
   unfold szX at this ⊢
   simp only [List.take_succ_cons,List.map_cons,List.sum_cons]
   omega
theorem sz_is (e:Ex):e.sz=e.s.size+e.l.length+szX e.l:=by obtain ⟨k,n,s,l⟩:=e;exact Ex.sz_eq k n s l
def Ex.here (e:Ex):Bool :=
 if ((e.k != 1&&(e.k != 11&&e.n != 0)) || (e.k != 2&&(e.k != 12&&!eqS e.s E0)))=true then false
 else if e.k=1 then inB e.n 0 65535&&e.l.length == 0
 else if e.k=2∨e.k=12 then nameB e.s&&e.l.length == 0
 else if e.k=3 then e.l.length == 0
 else if e.k=4 then e.l.length == 1
 else if 5≤e.k∧e.k≤10 then e.l.length == 2
 else if e.k=11 then inB e.n 0 9&&e.l.length == 0
 else false
def okF:Nat→Bool→Ex→Bool
 | 0, _, _ => false
 | d + 1, p, e => e.here && (!(p && (e.k == 11 || e.k == 12)) && e.l.all (okF d p))
def mkS (c:UInt8):ByteArray:=⟨#[c]⟩
def mkT (c:UInt8):Tk:=⟨4,0,mkS c⟩
def sgnC (k:Int):UInt8:=if k=5 then 43 else if k=6 then 45 else if k=7 then 42 else if k=8 then 47 else if k=9 then 38 else 124
def sgnK (s:ByteArray):Option Int :=
 if eqS (mkS 43) s=true then some 5 else if eqS (mkS 45) s=true then some 6 else if eqS (mkS 42) s=true then some 7
 else if eqS (mkS 47) s=true then some 8 else if eqS (mkS 38) s=true then some 9 else if eqS (mkS 124) s=true then some 10 else none
def toksF:Nat→Ex→List Tk
 | 0, _ => []
 | d + 1, e => if e.k = 1 then [⟨2, e.n, E0⟩] else if e.k = 2 then [⟨1, 0, e.s⟩] else if e.k = 3 then [mkT 46]
  else if e.k=4 then mkT 45::toksF d (xAt e.l 0)
  else mkT 60::(toksF d (xAt e.l 0)++(mkT (sgnC e.k)::(toksF d (xAt e.l 1)++[mkT 62])))
def readF:Nat→List Tk→Option (Ex × List Tk)
 | 0, _ => none
 | _ + 1, [] => none
 | d + 1, t :: r =>
  if t.k=2 then some (⟨1,t.n,E0,[]⟩,r) else if t.k=1 then some (⟨2,0,t.s,[]⟩,r)
  else if eqS t.s (mkS 46)=true then some (⟨3,0,E0,[]⟩,r)
  else if eqS t.s (mkS 45)=true then
   match readF d r with
   | none => none
   | some (a, q) => some (⟨4, 0, E0, [a]⟩, q)
  else if eqS t.s (mkS 60)=true then
   match readF d r with
   | none => none
   | some (a, []) => none
   | some (a, t1 :: q1) =>
    match readF d q1 with
    | none => none
    | some (b, []) => none
    | some (b, t2 :: q2) => if eqS t2.s (mkS 62) = true then (match sgnK t1.s with | none => none | some k => some (⟨k, 0, E0, [a, b]⟩, q2)) else none
  else none
theorem sgn_back {k:Int} (h:5≤k∧k≤10):sgnK (mkS (sgnC k))=some k:=by
 have:k=5∨k=6∨k=7∨k=8∨k=9∨k=10:=by omega
 rcases this with rfl|rfl|rfl|rfl|rfl|rfl <;> decide +kernel
theorem sgnK_some {s:ByteArray} {k:Int} (h:sgnK s=some k):(5≤k∧k≤10)∧s=mkS (sgnC k):=by
 unfold sgnK at h
 repeat' (split at h)
 all_goals first
  | (cases h; done)
  | (rename_i he; rw [eqS_iff] at he; cases h; exact ⟨by omega, he.symm⟩)
theorem plain_cases {d:Nat} {e:Ex} (h:okF (d+1) true e=true):(∃ n:Int,(0≤n∧n≤65535)∧e=⟨1,n,E0,[]⟩)∨(∃ s,nameB s=true∧e=⟨2,0,s,[]⟩)∨e=⟨3,0,E0,[]⟩∨(∃ a,okF d true a=true∧e=⟨4,0,E0,[a]⟩)∨(∃ k a b,(5≤k∧k≤10)∧okF d true a=true∧okF d true b=true∧e=⟨k,0,E0,[a,b]⟩):=by
 obtain ⟨k,n,s,l⟩:=e
 simp only [okF,Bool.and_eq_true,Bool.true_and,Bool.not_eq_true',Bool.or_eq_false_iff,beq_eq_false_iff_ne] at h
 obtain ⟨h1,⟨h11,h12⟩,hall⟩:=h
 unfold Ex.here at h1
 simp only at h1
 split at h1
 · cases h1
 ·
  rename_i hg
  have hg:((k != 1&&(k != 11&&n != 0)) || (k != 2&&(k != 12&&!eqS s E0)))=false:=by simpa using hg
  rw [Bool.or_eq_false_iff] at hg
  have hn:k≠1→n=0:=fun hk=>by have:=hg.1;simpa [hk,h11] using this
  have hs:k≠2→s=E0:=fun hk=>by
   have:=hg.2
   have h3:eqS s E0=true:=by simpa [hk,h12] using this
   exact (eqS_iff _ _).1 h3
  split at h1
  ·
   rename_i e;subst e
   rw [Bool.and_eq_true,beq_iff_eq,List.length_eq_zero_iff] at h1
   obtain ⟨hi,rfl⟩:=h1
   exact .inl ⟨n,(inB_iff _ _ _).1 hi,by rw [hs (by decide)]⟩
  ·
   rename_i k1
   split at h1
   ·
    rename_i e
    obtain rfl:k=2:=by rcases e with e|e;exact e;exact absurd e h12
    rw [Bool.and_eq_true,beq_iff_eq,List.length_eq_zero_iff] at h1
    obtain ⟨hi,rfl⟩:=h1
    exact .inr (.inl ⟨s,hi,by rw [hn (by decide)]⟩)
   ·
    rename_i k2
    have k2:k≠2:=fun e=>k2 (.inl e)
    obtain rfl:=hn k1
    obtain rfl:=hs k2
    split at h1
    ·
     rename_i e;subst e
     rw [beq_iff_eq,List.length_eq_zero_iff] at h1
     subst h1
     exact .inr (.inr (.inl rfl))
    ·
     split at h1
     ·
      rename_i e;subst e
      rw [beq_iff_eq] at h1
      match l,h1 with
      | [a], _ => exact .inr (.inr (.inr (.inl ⟨a, by simpa using hall, rfl⟩)))
     ·
      split at h1
      ·
       rename_i e
       rw [beq_iff_eq] at h1
       match l,h1 with
       | [a, b], _ =>
        have:okF d true a=true∧okF d true b=true:=by simpa using hall
        exact .inr (.inr (.inr (.inr ⟨k,a,b,e,this.1,this.2,rfl⟩)))
      · cases h1
theorem plain_num {d:Nat} {n:Int} (h:0≤n∧n≤65535):okF (d+1) true ⟨1,n,E0,[]⟩=true:=by
 have:inB n 0 65535=true:=(inB_iff _ _ _).2 h
 simp [okF,Ex.here,this,show eqS E0 E0=true from (eqS_iff _ _).2 rfl]
theorem plain_sym {d:Nat} {s:ByteArray} (h:nameB s=true):okF (d+1) true ⟨2,0,s,[]⟩=true:=by
 simp [okF,Ex.here,h]
theorem plain_here (d:Nat):okF (d+1) true ⟨3,0,E0,[]⟩=true:=by
 simp [okF,Ex.here,show eqS E0 E0=true from (eqS_iff _ _).2 rfl]
theorem plain_neg {d:Nat} {a:Ex} (h:okF d true a=true):okF (d+1) true ⟨4,0,E0,[a]⟩=true:=by
 simp [okF,Ex.here,h,show eqS E0 E0=true from (eqS_iff _ _).2 rfl]
theorem plain_two {d:Nat} {k:Int} {a b:Ex} (hk:5≤k∧k≤10) (ha:okF d true a=true) (hb:okF d true b=true):okF (d+1) true ⟨k,0,E0,[a,b]⟩=true:=by
 have:k=5∨k=6∨k=7∨k=8∨k=9∨k=10:=by omega
 rcases this with rfl|rfl|rfl|rfl|rfl|rfl <;> simp [okF,Ex.here,ha,hb,show eqS E0 E0=true from (eqS_iff _ _).2 rfl]
theorem toks_num (d:Nat) (n:Int):toksF (d+1) ⟨1,n,E0,[]⟩ = [⟨2,n,E0⟩]:=rfl
theorem toks_sym (d:Nat) (s:ByteArray):toksF (d+1) ⟨2,0,s,[]⟩ = [⟨1,0,s⟩]:=rfl
theorem toks_here (d:Nat):toksF (d+1) ⟨3,0,E0,[]⟩ = [mkT 46]:=rfl
theorem toks_neg (d:Nat) (a:Ex):toksF (d+1) ⟨4,0,E0,[a]⟩=mkT 45::toksF d a:=rfl
theorem toks_two (d:Nat) {k:Int} (hk:5≤k∧k≤10) (a b:Ex):toksF (d+1) ⟨k,0,E0,[a,b]⟩=mkT 60::(toksF d a++(mkT (sgnC k)::(toksF d b++[mkT 62]))):=by
 have:k=5∨k=6∨k=7∨k=8∨k=9∨k=10:=by omega
 rcases this with rfl|rfl|rfl|rfl|rfl|rfl <;> rfl
theorem mark_of {t:Tk} (h:t.ok=true) (h2:t.k≠2) (h1:t.k≠1) {c:UInt8} (hs:t.s=mkS c) (hc:smB (c.toNat:Int)=false) (hm:formB []=false):t=mkT c:=by
 obtain ⟨k,n,s⟩:=t
 simp only at h2 h1 hs
 subst hs
 unfold Tk.ok at h
 simp only at h
 rw [if_neg (by simpa using h2)] at h
 split at h
 · cases h
 ·
  rename_i hn
  have hn:n=0:=by simpa using hn
  subst hn
  rw [if_neg (by simpa using h1)] at h
  split at h
  ·
   have e:dotB [c]=true:=h
   rw [dotB_cons,hm,Bool.and_false] at e
   cases e
  ·
   split at h
   ·
    rename_i e
    have e:k=4:=by simpa using e
    rw [e];rfl
   ·
    split at h
    ·
     have hk:=kept_form _ (hasS_iff.1 h)
     obtain ⟨c0,r,e,h3,_⟩:=form_open hk
     have e2 : [c]=c0::r:=e
     cases e2
     rw [hc] at h3;cases h3
    · cases h
theorem num_of {t:Tk} (h:t.ok=true) (h2:t.k=2):(0≤t.n∧t.n≤65535)∧t=⟨2,t.n,E0⟩:=by
 obtain ⟨k,n,s⟩:=t
 simp only at h2
 subst h2
 unfold Tk.ok at h
 simp only [beq_self_eq_true,if_true,Bool.and_eq_true,decide_eq_true_eq] at h
 refine ⟨(inB_iff _ _ _).1 h.1,?_⟩
 have e:s=E0:=by
  have hl:=size_len s
  rw [h.2,List.length_eq_zero_iff] at hl
  exact bytes_inj (by rw [hl];rfl)
 rw [e]
theorem sym_of {t:Tk} (h:t.ok=true) (h1:t.k=1):nameB t.s=true∧t=⟨1,0,t.s⟩:=by
 obtain ⟨k,n,s⟩:=t
 simp only at h1
 subst h1
 unfold Tk.ok at h
 simp only at h
 rw [if_neg (by decide)] at h
 split at h
 · cases h
 ·
  rename_i hn
  have hn:n=0:=by simpa using hn
  rw [if_pos (by decide)] at h
  exact ⟨h,by rw [hn]⟩
theorem name_one {c:UInt8} (hc:smB (c.toNat:Int)=false):formB [c]=false:=by
 cases h:formB [c] with
 | false => rfl
 | true =>
  obtain ⟨c0,r,e,h3,_⟩:=form_open h
  cases e
  rw [hc] at h3;cases h3
theorem one_mark {t:Tk} (h:t.ok=true) {c:UInt8} (hs:t.s=mkS c) (hc:smB (c.toNat:Int)=false):t=mkT c:=by
 by_cases h2:t.k=2
 ·
  obtain ⟨_,e⟩:=num_of h h2
  rw [e] at hs
  have:(0:Nat)=1:=congrArg ByteArray.size hs
  cases this
 ·
  by_cases h1:t.k=1
  ·
   obtain ⟨hn,_⟩:=sym_of h h1
   rw [hs] at hn
   have e:nameB (mkS c)=(formB [c]&&!keptB (mkS c)):=rfl
   rw [e,name_one hc] at hn
   cases hn
  · exact mark_of h h2 h1 hs hc (by decide)
theorem sgn_small {k:Int} (h:5≤k∧k≤10):smB ((sgnC k).toNat:Int)=false:=by
 have:k=5∨k=6∨k=7∨k=8∨k=9∨k=10:=by omega
 rcases this with rfl|rfl|rfl|rfl|rfl|rfl <;> decide
theorem AllOk.head {t:Tk} {r:List Tk} (h:AllOk (t::r)):t.ok=true∧AllOk r:=⟨h t List.mem_cons_self,fun x hx=>h x (List.mem_cons_of_mem _ hx)⟩
theorem AllOk.right {a b:List Tk} (h:AllOk (a++b)):AllOk b:=fun x hx=>h x (List.mem_append.2 (.inr hx))
theorem form_nil:formB []=false:=by decide
theorem toks_read:∀ (d:Nat) (ts:List Tk) (e:Ex) (r:List Tk),AllOk ts→readF d ts=some (e,r)→okF d true e=true∧ts=toksF d e++r:=by
 intro d
 induction d with
 | zero => intro ts e r _ h; cases h
 | succ d ih =>
  intro ts e r hok h
  match ts with
  | [] => cases h
  | t :: q =>
   obtain ⟨ht,hq⟩:=hok.head
   simp only [readF] at h
   split at h
   ·
    rename_i h2
    obtain ⟨hb,et⟩:=num_of ht h2
    cases h
    exact ⟨plain_num hb,by rw [toks_num,←et];rfl⟩
   ·
    rename_i h2
    split at h
    ·
     rename_i h1
     obtain ⟨hb,et⟩:=sym_of ht h1
     cases h
     exact ⟨plain_sym hb,by rw [toks_sym,←et];rfl⟩
    ·
     rename_i h1
     split at h
     ·
      rename_i hs
      have et:=mark_of ht h2 h1 ((eqS_iff _ _).1 hs) (by decide) form_nil
      cases h
      exact ⟨plain_here d,by rw [toks_here,←et];rfl⟩
     ·
      split at h
      ·
       rename_i hs
       have et:=mark_of ht h2 h1 ((eqS_iff _ _).1 hs) (by decide) form_nil
       split at h
       · cases h
       ·
        rename_i a q1 ha
        cases h
        obtain ⟨p1,p2⟩:=ih _ _ _ hq ha
        exact ⟨plain_neg p1,by rw [toks_neg,←et,p2];rfl⟩
      ·
       split at h
       ·
        rename_i hs
        have et:=mark_of ht h2 h1 ((eqS_iff _ _).1 hs) (by decide) form_nil
        split at h
        · cases h
        · cases h
        ·
         rename_i a t1 q1 ha
         obtain ⟨p1,p2⟩:=ih _ _ _ hq ha
         have hq1:AllOk (t1::q1):=(p2▸hq).right
         obtain ⟨ht1,hq1⟩:=hq1.head
         split at h
         · cases h
         · cases h
         ·
          rename_i b t2 q2 hb
          obtain ⟨p3,p4⟩:=ih _ _ _ hq1 hb
          have hq2:AllOk (t2::q2):=(p4▸hq1).right
          obtain ⟨ht2,hq2⟩:=hq2.head
          split at h
          ·
           rename_i hs2
           split at h
           · cases h
           ·
            rename_i k hk
            obtain ⟨hkb,hks⟩:=sgnK_some hk
            cases h
            have e1:=one_mark ht1 hks (sgn_small hkb)
            have e2:=one_mark ht2 ((eqS_iff _ _).1 hs2) (by decide)
            refine ⟨plain_two hkb p1 p3,?_⟩
            rw [toks_two d hkb,←e1,←e2,←et,p2,p4]
            simp only [List.cons_append,List.append_assoc,List.nil_append]
          · cases h
       · cases h
theorem allOk_nil:AllOk []:=fun x hx=>by cases hx
set_option linter.unusedSimpArgs false
def pReg (t:Tk):Option Nat:=if t.k=5∧23≤atV keptL t.s then some (atV keptL t.s-23).toNat else none
def isM (t:Tk) (c:UInt8):Bool:=eqS t.s (mkS c)
def seeM:List Tk→UInt8→Bool
 | [], _ => false
 | t :: _, c => isM t c
def pRnd:List Tk→Option (Nat × List Tk)
 | t0 :: t1 :: t2 :: r => if isM t0 40 = true ∧ isM t2 41 = true then (match pReg t1 with | none => none | some n => some (n, r)) else none
 | _ => none
def regN (t:Tk):Int:=match pReg t with|some n=>(n:Int)|none=>-1
section
section
variable {w wr w':World} {cb:Nat} {a:Option Addr} {len cap:Nat} {xs:List UInt8}
theorem grownBy_row {W:World} {g:Nat} (cs:Array Value):W.grownBy (W.setRow g cs) (some g):=⟨rfl,rfl,rfl,by simp [World.setRow],fun k _ hk=>setRow_other _ _ _ _ (fun e=>hk (by rw [e]))⟩
end
end
section
def Ex.cs (e:Ex) (b:Option Addr) (cap:Nat):Array Value:=#[.int .i64 e.k,.int .i64 e.n,.string e.s,.slice b e.l.length cap]
section
variable {H:Type} {enc:TypeId × Value→H} {W:World} {b0 base:Nat} {spare:TypeId→Bool} {held:Bool}
end
end
section
def OwX (w:World):Ex→Option Addr→List Nat→Prop
 | ⟨_, _, _, l⟩, a, F => (l = [] ∧ F = []) ∨ ∃ (b : Nat) (cs : Array Value) (t : TypeId) (Fs : List (List Nat)), a = some ⟨b, 0, none⟩ ∧ w.heap[b]? = some (.cells cs t (0, 0)) ∧ l.length * 4 ≤ cs.size ∧ Fs.length = l.length ∧ F = b :: Fs.flatten ∧ ∀ x ∈ l, ∀ i, l[i]? = some x → cs[i * 4]? = some (.int .i64 x.k) ∧ cs[i * 4 + 1]? = some (.int .i64 x.n) ∧ cs[i * 4 + 2]? = some (.string x.s) ∧ ∃ c cap, cs[i * 4 + 3]? = some (.slice c x.l.length cap) ∧ OwX w x c (Fs.getD i [])
def OwOne (w:World) (cs:Array Value) (i:Nat) (x:Ex) (F:List Nat):Prop:=cs[i*4]?=some (.int .i64 x.k)∧cs[i*4+1]?=some (.int .i64 x.n)∧cs[i*4+2]?=some (.string x.s)∧∃ c cap,cs[i*4+3]?=some (.slice c x.l.length cap)∧OwX w x c F
theorem OwX_eq (w:World) (e:Ex) (a:Option Addr) (F:List Nat):OwX w e a F↔((e.l = []∧F = [])∨∃ (b:Nat) (cs:Array Value) (t:TypeId) (Fs:List (List Nat)),a=some ⟨b,0,none⟩∧w.heap[b]?=some (.cells cs t (0,0))∧e.l.length*4≤cs.size∧Fs.length=e.l.length∧F=b::Fs.flatten∧∀ i,i<e.l.length→OwOne w cs i (xAt e.l i) (Fs.getD i [])):=by
 obtain ⟨k,n,s,l⟩:=e
 rw [OwX]
 refine or_congr Iff.rfl (exists_congr fun b=>exists_congr fun cs=>exists_congr fun t=>exists_congr fun Fs=>and_congr Iff.rfl (and_congr Iff.rfl (and_congr Iff.rfl (and_congr Iff.rfl (and_congr Iff.rfl ⟨fun h i hi=>?_,fun h x hx i hi=>?_⟩)))))
 · exact h _ (xAt_mem hi) i (by rw [xAt_get hi];exact List.getElem?_eq_getElem hi)
 ·
  obtain ⟨hl,e⟩:=List.getElem?_eq_some_iff.1 hi
  have:=h i hl
  rw [xAt_get hl,e] at this
  exact this
theorem getD_flat {Fs:List (List Nat)} {i:Nat} {b:Nat} (h:b∈Fs.getD i []):b∈Fs.flatten:=by
 rw [List.getD_eq_getElem?_getD] at h
 by_cases hi:i<Fs.length
 ·
  rw [List.getElem?_eq_getElem hi] at h
  exact List.mem_flatten.2 ⟨_,List.getElem_mem hi,h⟩
 ·
  rw [List.getElem?_eq_none (by omega)] at h
  cases h
theorem OwX.keep {w w':World} (e:Ex):∀ a F,(∀ b∈F,w'.heap[b]?=w.heap[b]?)→OwX w e a F→OwX w' e a F:=by
 induction e using Ex.ind with
 | h k n s l ih =>
  intro a F hk h
  rw [OwX_eq] at h ⊢
  rcases h with h|⟨b,cs,t,Fs,ha,hh,hz,hF,rfl,h3⟩
  · exact .inl h
  ·
   refine .inr ⟨b,cs,t,Fs,ha,(hk b List.mem_cons_self).trans hh,hz,hF,rfl,fun i hi=>?_⟩
   obtain ⟨c1,c2,c3,c,cap,c4,c5⟩:=h3 i hi
   exact ⟨c1,c2,c3,c,cap,c4,ih _ (xAt_mem hi) _ _ (fun b hb=>hk b (List.mem_cons_of_mem _ (getD_flat hb))) c5⟩
theorem OwX.lt {w:World} (e:Ex):∀ a F,OwX w e a F→∀ b∈F,b<w.heap.size:=by
 induction e using Ex.ind with
 | h k n s l ih =>
  intro a F h
  rw [OwX_eq] at h
  rcases h with ⟨_,rfl⟩|⟨b,cs,t,Fs,ha,hh,hz,hF,rfl,h3⟩
  · intro b hb;cases hb
  ·
   intro x hx
   rcases List.mem_cons.1 hx with rfl|hx
   · exact (Array.getElem?_eq_some_iff.1 hh).1
   ·
    obtain ⟨G,hG,hx⟩:=List.mem_flatten.1 hx
    obtain ⟨i,hi,rfl⟩:=List.getElem_of_mem hG
    have hi2:i<l.length:=hF▸hi
    obtain ⟨c1,c2,c3,c,cap,c4,c5⟩:=h3 i hi2
    rw [List.getD_eq_getElem?_getD,List.getElem?_eq_getElem hi] at c5
    exact ih _ (xAt_mem hi2) _ _ c5 _ hx
theorem OwX.later {w w':World} {e:Ex} {a:Option Addr} {F:List Nat} (h:OwX w e a F) (hb:Below w.heap.size w w'):OwX w' e a F :=
 OwX.keep e a F (fun b hF=>hb.block b (OwX.lt e a F h b hF)) h
theorem OwX.rd {w:World} {B:Nat} (e:Ex):∀ a F,(∀ b∈F,B≤b)→OwX w e a F→RdX w B e a:=by
 induction e using Ex.ind with
 | h k n s l ih =>
  intro a F hB h
  rw [OwX_eq] at h
  rw [RdX_eq]
  rcases h with h|⟨b,cs,t,Fs,ha,hh,hz,hF,rfl,h3⟩
  · exact .inl h.1
  ·
   refine .inr ⟨b,0,ha,hB b List.mem_cons_self,(Array.getElem?_eq_some_iff.1 hh).1,fun i hi=>?_⟩
   obtain ⟨c1,c2,c3,c,cap,c4,c5⟩:=h3 i hi
   unfold OneX
   simp only [Nat.zero_add]
   exact ⟨(Lib.cell_of_heap hh _).trans c1,(Lib.cell_of_heap hh _).trans c2,(Lib.cell_of_heap hh _).trans c3,c,cap,(Lib.cell_of_heap hh _).trans c4,ih _ (xAt_mem hi) _ _ (fun b hb=>hB b (List.mem_cons_of_mem _ (getD_flat hb))) c5⟩
def NewX (w:World) (B:Nat) (e:Ex) (a:Option Addr):Prop:=∃ F,OwX w e a F∧F.Nodup∧∀ b∈F,B≤b
section
variable {w w':World} {B C:Nat} {e:Ex} {a:Option Addr}
theorem NewX.rd (h:NewX w B e a):RdX w B e a:=by obtain ⟨F,h1,_,h3⟩:=h;exact OwX.rd e a F h3 h1
theorem NewX.later (h:NewX w B e a) (hb:Below w.heap.size w w'):NewX w' B e a:=by obtain ⟨F,h1,h2,h3⟩:=h;exact ⟨F,h1.later hb,h2,h3⟩
theorem NewX.lower (h:NewX w B e a) (hC:C≤B):NewX w C e a:=by obtain ⟨F,h1,h2,h3⟩:=h;exact ⟨F,h1,h2,fun b hb=>Nat.le_trans hC (h3 b hb)⟩
theorem NewX.nil (w:World) (B:Nat) (k n:Int) (s:ByteArray) (a:Option Addr):NewX w B ⟨k,n,s,[]⟩ a:=⟨[],(OwX_eq _ _ _ _).2 (.inl ⟨rfl,rfl⟩),List.nodup_nil,fun b hb=>by cases hb⟩
end
end
theorem below_drew {w:World}:Below w.heap.size w w.drew:=⟨rfl,rfl,rfl,Nat.le_refl _,fun _ _=>rfl⟩
theorem row_keep {w w':World} {g:Nat} {o:Obj} (h:w.heap[g]?=some o) (hb:Below w.heap.size w w'):w'.heap[g]?=some o:=(hb.block g (Array.getElem?_eq_some_iff.1 h).1).trans h
theorem yields_loadG {P:Program} {ops:Array Oper} {S:World→Prop} {o:Oper} {a:Act} (hw:Region.wanted o (yielded ops a.tmps)=true) (ty:TypeId) (x:Operand) (ho:o.op = .load ty x) (g:Nat) (hx:a.eval x = .pointer (some ⟨g,0,none⟩)) (t:TypeId) (cs:Array Value) (d:TypeDesc)
  (hS:∀ w,S w→w.heap[g]?=some (.cells cs t (0,0))) (hu:P.underlying ty=some d) (hd:(match d with | .struct _ | .array _ _=>true|_=>false)=true) (hi:(P.info? ty).map (·.size)=some cs.size):YieldsIf P ops S o (.agg cs) a:=by
 refine .inl ⟨hw,fun w hw=>?_⟩
 simp only [execOp,ho,hx,Instr.loadAt,Instr.sureAddr,Sem.run_bind,Sem.run_pure,Result.andThen_ok,run_loadVar_row w g t ty cs (0,0) d (hS w hw) hu hd hi]
section
structure Rz (wr:World) (rb:Nat) (la:Option Addr) (cap:Nat) (ts:List Tk) (k:Nat) (bad:Bool):Prop where
 row:wr.heap[rb]?=some (.cells #[.slice la ts.length cap,.int .i64 k,.bool bad] 153 (0,0))
 toks:RdT wr la ts
 far:ts = []∨∀ ad,la=some ad→ad.block≠rb
 le:k≤ts.length
section
variable {wr w':World} {rb:Nat} {la:Option Addr} {cap:Nat} {ts:List Tk} {k:Nat} {bad:Bool}
theorem Rz.lt (h:Rz wr rb la cap ts k bad):rb<wr.heap.size:=(Array.getElem?_eq_some_iff.1 h.row).1
theorem Rz.later (h:Rz wr rb la cap ts k bad) (hb:Below wr.heap.size wr w'):Rz w' rb la cap ts k bad:=⟨(hb.block _ h.lt).trans h.row,h.toks.later hb,h.far,h.le⟩
theorem RdT.past {w w':World} {a:Option Addr} {xs:List Tk} {b:Nat} (h:RdT w a xs) (hb:w.grownBy w' (some b)) (hne:xs = []∨∀ ad,a=some ad→ad.block≠b):RdT w' a xs:=by
 rcases h with h|⟨c,off,ha,hlt,hc⟩
 · exact .inl h
 ·
  rcases hne with h|hne
  · exact .inl h
  ·
   have hn:c≠b:=hne _ ha
   have hk:∀ o,w'.cell? ⟨c,o,none⟩=w.cell? ⟨c,o,none⟩:=fun o=>World.cell?_of_block (hb.block c hlt (by simpa using hn))
   exact .inr ⟨c,off,ha,Nat.lt_of_lt_of_le hlt hb.size,fun i hi=>⟨(hk _).trans (hc i hi).1,(hk _).trans (hc i hi).2.1,(hk _).trans (hc i hi).2.2⟩⟩
theorem Rz.setAt (h:Rz wr rb la cap ts k bad) (j:Nat) (hj:j≤ts.length) (v:Int) (hv:v=(j:Int)):Rz (wr.setCell ⟨rb,1,none⟩ (.int .i64 v)) rb la cap ts j bad:=by
 subst hv
 exact ⟨heap_setCell_same wr rb 1 _ _ _ h.row,h.toks.past (grownBy_set _) h.far,h.far,hj⟩
theorem Rz.setBad (h:Rz wr rb la cap ts k bad):Rz (wr.setCell ⟨rb,2,none⟩ (.bool true)) rb la cap ts k true :=
 ⟨heap_setCell_same wr rb 2 _ _ _ h.row,h.toks.past (grownBy_set _) h.far,h.far,h.le⟩
theorem Rz.cells (h:Rz wr rb la cap ts k bad):wr.cell? ⟨rb,0,none⟩=some (.slice la ts.length cap)∧wr.cell? ⟨rb,1,none⟩=some (.int .i64 k)∧wr.cell? ⟨rb,2,none⟩=some (.bool bad):=⟨Lib.cell_of_heap h.row 0,Lib.cell_of_heap h.row 1,Lib.cell_of_heap h.row 2⟩
theorem Rz.frz (h:Rz wr rb la cap ts k bad) (j:Nat):wr.frozen? ⟨rb,j,none⟩=false:=by simp [World.frozen?,h.row]
theorem Rz.tok (h:Rz wr rb la cap ts k bad) (hk:k<ts.length):∃ b off,la=some ⟨b,off,none⟩∧b≠rb∧wr.cell? ⟨b,off+k*3,none⟩=some (.int .i64 (tAt ts k).k)∧wr.cell? ⟨b,off+k*3+1,none⟩=some (.int .i64 (tAt ts k).n)∧wr.cell? ⟨b,off+k*3+2,none⟩=some (.string (tAt ts k).s):=by
 rcases h.toks with h0|⟨b,off,ha,hlt,hc⟩
 · rw [h0] at hk;simp at hk
 ·
  rcases h.far with h0|hf
  · rw [h0] at hk;simp at hk
  · exact ⟨b,off,ha,hf _ ha,hc k hk⟩
end
def seeB (ts:List Tk) (k:Nat) (bad:Bool) (s:ByteArray):Bool:=!bad&&(decide (k<ts.length)&&eqS (tAt ts k).s s)
theorem seeS_any (rb:Nat) (la:Option Addr) (cap:Nat) (ts:List Tk) (k:Nat) (bad:Bool) (s:ByteArray) (w:World) (hm:ts.length≤1048576) (h:Rz w rb la cap ts k bad) :
  Calls Tryz.prog 207 #[.pointer (some ⟨rb,0,none⟩),.string s] w fun r w'=>r = .returned (.bool (seeB ts k bad s))∧Below w.heap.size w w':=by
 obtain ⟨c0,c1,c2⟩:=h.cells
 unfold seeB eqS
 have hk:=h.le
 have hrl:=h.lt
 cases bad
 case true =>
  clear h
  go_enter Tryz.func207,Tryz.ntmps207
  go_wp2
  go_region
  go_wp2
  go_ret
  exact ⟨rfl,below_drew⟩
 case false =>
  by_cases hlt:k<ts.length
  ·
   obtain ⟨b,off,rfl,hne,t0,t1,t2⟩:=h.tok hlt
   have hbl:=World.block_lt_of_cell? w _ t2
   clear h t0 t1
   rw [decide_eq_true hlt]
   generalize (tAt ts k).s=sx at *
   generalize ts.length=n at *
   have hi:(k:Int)<(n:Int):=by omega
   have hi2:¬ (n:Int)≤(k:Int):=by omega
   go_enter Tryz.func207,Tryz.ntmps207
   go_wp2
   go_region
   go_wp2
   go_ret
   exact ⟨rfl,below_drew⟩
  ·
   have hn:k=ts.length:=by omega
   clear h
   rw [decide_eq_false hlt]
   subst hn
   generalize ts.length=n at *
   go_enter Tryz.func207,Tryz.ntmps207
   go_wp2
   go_region
   go_wp2
   go_ret
   exact ⟨rfl,below_drew⟩
end
section
structure Rq (w wr:World) (rb:Nat) (la:Option Addr) (cap:Nat) (ts:List Tk) (k:Nat) (bad:Bool):Prop where
 rz:Rz wr rb la cap ts k bad
 gr:w.grownBy wr (some rb)
 lt:rb<w.heap.size
 tk:ts = []∨∀ ad,la=some ad→ad.block<w.heap.size
section
variable {w wr w':World} {rb:Nat} {la:Option Addr} {cap:Nat} {ts:List Tk} {k j:Nat} {bad b2:Bool}
theorem Rz.start (h:Rz w rb la cap ts k bad):Rq w w rb la cap ts k bad:=⟨h,grownBy_below (Below.refl _ _),h.lt,by
 rcases h.toks with h|⟨b,off,ha,hl,_⟩
 · exact .inl h
 · exact .inr fun ad e=>by rw [ha] at e;cases e;exact hl⟩
theorem Rq.next (h:Rq w wr rb la cap ts k bad) (hr:Rz w' rb la cap ts j b2) (hg:wr.grownBy w' (some rb)):Rq w w' rb la cap ts j b2:=⟨hr,grownBy_trans h.gr hg,h.lt,h.tk⟩
theorem Rq.later (h:Rq w wr rb la cap ts k bad) (hb:Below wr.heap.size wr w'):Rq w w' rb la cap ts k bad:=h.next (h.rz.later hb) (grownBy_below hb)
theorem Rq.row (h:Rq w wr rb la cap ts k bad) (cs:Array Value):Rq w (wr.setRow w.heap.size cs) rb la cap ts k bad:=by
 have hl:=h.lt
 refine ⟨⟨(setRow_other _ _ _ _ (by omega)).trans h.rz.row,h.rz.toks.past (grownBy_row cs) ?_,h.rz.far,h.rz.le⟩,grownBy_own h.gr (grownBy_row cs) (fun g e=>by cases e;exact Nat.le_refl _),hl,h.tk⟩
 rcases h.tk with h|h
 · exact .inl h
 · exact .inr fun ad e=>by have:=h ad e;omega
theorem Rq.blk {g:Nat} {o:Obj} (h:Rq w wr rb la cap ts k bad) (hg:wr.grownBy w' (some rb)) (hb:wr.heap[g]?=some o) (hge:w.heap.size≤g):w'.heap[g]?=some o :=
 (hg.block g (Array.getElem?_eq_some_iff.1 hb).1 (fun e=>by have:=h.lt;simp at e;omega)).trans hb
theorem Rq.cell (h:Rq w wr rb la cap ts k bad) (i:Nat) (v:Value):Rq w (wr.setCell ⟨w.heap.size,i,none⟩ v) rb la cap ts k bad:=by
 have hl:=h.lt
 refine ⟨⟨(heap_setCell_other wr ⟨w.heap.size,i,none⟩ rb v (by simp;omega)).trans h.rz.row,h.rz.toks.past (grownBy_set (b:=w.heap.size) (o:=i) v) ?_,h.rz.far,h.rz.le⟩,grownBy_own h.gr (grownBy_set (b:=w.heap.size) (o:=i) v) (fun g e=>by cases e;exact Nat.le_refl _),hl,h.tk⟩
 rcases h.tk with h|h
 · exact .inl h
 · exact .inr fun ad e=>by have:=h ad e;omega
theorem row3_set {g:Nat} {u0 u1 u2:Value} {t:TypeId} (h:w.heap[g]?=some (.cells #[u0,u1,u2] t (0,0))) (v0 v1 v2:Value):(((w.setCell ⟨g,0,none⟩ v0).setCell ⟨g,1,none⟩ v1).setCell ⟨g,2,none⟩ v2).heap[g]?=some (.cells #[v0,v1,v2] t (0,0)) :=
 heap_setCell_same _ g 2 _ t v2 (heap_setCell_same _ g 1 _ t v1 (heap_setCell_same _ g 0 _ t v0 h))
end
theorem seeB_bad {ts:List Tk} {k:Nat} {bad:Bool} {s:ByteArray} (h:seeB ts k bad s=true):bad=false∧k<ts.length∧eqS (tAt ts k).s s=true:=by
 unfold seeB at h
 cases bad
 ·
  simp only [Bool.not_false,Bool.true_and,Bool.and_eq_true,decide_eq_true_eq] at h
  exact ⟨rfl,h.1,h.2⟩
 · cases h
theorem isS_any (rb:Nat) (la:Option Addr) (cap:Nat) (ts:List Tk) (k:Nat) (bad:Bool) (s:ByteArray) (w:World) (hm:ts.length≤1048576) (h:Rz w rb la cap ts k bad) :
  Calls Tryz.prog 177 #[.pointer (some ⟨rb,0,none⟩),.string s] w fun r w'=>r = .returned (.bool (seeB ts k bad s))∧Rz w' rb la cap ts (if seeB ts k bad s=true then k+1 else k) bad∧w.grownBy w' (some rb):=by
 have SE:=hide (seeS_any rb la cap ts k bad s w hm h)
 have HR:=hide h
 have hk:=h.le
 clear h
 cases hq:seeB ts k bad s
 case false =>
  rw [hq] at SE
  go_enter Tryz.func177,Tryz.ntmps177
  go_wp2_with fail
  refine (uh SE).mono ?_
  rintro r w1 ⟨rfl,hb1⟩
  have R1:=hide ((uh HR).later hb1)
  have G1:=hide (grownBy_below (r:=some rb) hb1)
  clear hb1 SE HR
  go_wp2
  go_ret
  exact ⟨rfl,uh R1,uh G1⟩
 case true =>
  have hlt:=(seeB_bad hq).2.1
  rw [hq] at SE
  go_enter Tryz.func177,Tryz.ntmps177
  go_wp2_with fail
  refine (uh SE).mono ?_
  rintro r w1 ⟨rfl,hb1⟩
  have R1:=hide ((uh HR).later hb1)
  have G1:=hide (grownBy_below (r:=some rb) hb1)
  obtain ⟨c0,c1,c2⟩:=(uh R1).cells
  have f1:=(uh R1).frz 1
  have R2:=hide ((uh R1).setAt (k+1) (by omega) ((k:Int)+1) (by omega))
  clear hb1 SE HR
  go_wp2
  go_ret
  exact ⟨rfl,uh R2,grownBy_trans (uh G1) (grownBy_set _)⟩
theorem mustS_any (rb:Nat) (la:Option Addr) (cap:Nat) (ts:List Tk) (k:Nat) (bad:Bool) (s:ByteArray) (w:World) (hm:ts.length≤1048576) (h:Rz w rb la cap ts k bad) :
  Calls Tryz.prog 204 #[.pointer (some ⟨rb,0,none⟩),.string s] w fun r w'=>r = .returned (.tuple #[])∧Rz w' rb la cap ts (if seeB ts k bad s=true then k+1 else k) (!seeB ts k bad s)∧w.grownBy w' (some rb):=by
 have SE:=hide (isS_any rb la cap ts k bad s w hm h)
 clear h
 cases hq:seeB ts k bad s
 case false =>
  rw [hq] at SE
  go_enter Tryz.func204,Tryz.ntmps204
  go_wp2_with fail
  refine (uh SE).mono ?_
  rintro r w1 ⟨rfl,h1,hg1⟩
  have R1:=hide h1
  have G1:=hide hg1
  obtain ⟨c0,c1,c2⟩:=h1.cells
  have f1:=h1.frz 2
  have R2:=hide h1.setBad
  clear h1 hg1 SE
  go_wp2
  refine bodyPost_end (results_none rfl _ _ _) rfl ?_
  exact ⟨rfl,uh R2,grownBy_trans (uh G1) (grownBy_set _)⟩
 case true =>
  obtain ⟨rfl,hlt,_⟩:=seeB_bad hq
  rw [hq] at SE
  go_enter Tryz.func204,Tryz.ntmps204
  go_wp2_with fail
  refine (uh SE).mono ?_
  rintro r w1 ⟨rfl,h1,hg1⟩
  have R1:=hide h1
  have G1:=hide hg1
  clear h1 hg1 SE
  go_wp2
  refine bodyPost_end (results_none rfl _ _ _) rfl ?_
  exact ⟨rfl,uh R1,uh G1⟩
def nextB (ts:List Tk) (k:Nat) (bad:Bool):Bool:=!bad&&decide (k<ts.length)
theorem nextS_no (rb:Nat) (la:Option Addr) (cap:Nat) (ts:List Tk) (k:Nat) (bad:Bool) (w:World) (hm:ts.length≤1048576) (h:Rz w rb la cap ts k bad) (hn:nextB ts k bad=false) :
  Calls Tryz.prog 174 #[.pointer (some ⟨rb,0,none⟩)] w fun r w'=>r = .returned (.agg #[.int .i64 0,.int .i64 0,.string ⟨#[]⟩])∧Rz w' rb la cap ts k true∧w.grownBy w' (some rb):=by
 have B0:=below_new w (.cells T0c 71)
 have R0:=hide (heap_alloc_new w (.cells T0c 71))
 have H1:=hide (h.start.later B0)
 have hlt:=h.lt
 unfold T0c at R0 H1
 clear h B0
 go_enter Tryz.func174,Tryz.ntmps174
 go_wp2_with fail
 generalize w.alloc (Obj.cells #[.int .i64 0,.int .i64 0,.string ⟨#[]⟩] 71)=W at *
 obtain ⟨c0,c1,c2⟩:=(uh H1).rz.cells
 have f2:=(uh H1).rz.frz 2
 have hk:=(uh H1).rz.le
 have H2:=hide ((uh H1).next (uh H1).rz.setBad (grownBy_set _))
 have R2:=hide ((uh H1).blk (grownBy_set (w:=W) (b:=rb) (o:=2) (.bool true)) (uh R0) (Nat.le_refl _))
 have H3:=hide ((uh H2).later below_drew)
 have R3:=hide (row_keep (uh R2) below_drew)
 clear H1 H2 R0 R2
 cases bad
 case true =>
  go_region
  go_wp2_with (refine wpList_store_row rfl 71 _ _ rfl w.heap.size #[.int .i64 0,.int .i64 0,.string ⟨#[]⟩] rfl rfl 71 _ (uh R3) szK rfl (tk_one _ _ _) ?_)
  refine bodyPost_ret (results_cell_row (P:=Tryz.prog) rfl _ _ w.heap.size 71 #[.int .i64 0,.int .i64 0,.string ⟨#[]⟩] (0,0) _ rfl (setRow_heap _ _ _ _ _ _ (uh R3)) Tryz.underlying71 rfl szK) rfl ?_
  exact ⟨rfl,((uh H3).row _).rz,((uh H3).row _).gr⟩
 case false =>
  obtain rfl:k=ts.length:=by
   unfold nextB at hn
   simp at hn
   omega
  go_region
  go_wp2_with (refine wpList_store_row rfl 71 _ _ rfl w.heap.size #[.int .i64 0,.int .i64 0,.string ⟨#[]⟩] rfl rfl 71 _ (uh R3) szK rfl (tk_one _ _ _) ?_)
  refine bodyPost_ret (results_cell_row (P:=Tryz.prog) rfl _ _ w.heap.size 71 #[.int .i64 0,.int .i64 0,.string ⟨#[]⟩] (0,0) _ rfl (setRow_heap _ _ _ _ _ _ (uh R3)) Tryz.underlying71 rfl szK) rfl ?_
  exact ⟨rfl,((uh H3).row _).rz,((uh H3).row _).gr⟩
theorem nextS_yes (rb:Nat) (la:Option Addr) (cap:Nat) (ts:List Tk) (k:Nat) (w:World) (hm:ts.length≤1048576) (h:Rz w rb la cap ts k false) (hn:k<ts.length) :
  Calls Tryz.prog 174 #[.pointer (some ⟨rb,0,none⟩)] w fun r w'=>r = .returned (tAt ts k).v∧Rz w' rb la cap ts (k+1) false∧w.grownBy w' (some rb):=by
 have B0:=below_new w (.cells T0c 71)
 have R0:=hide (heap_alloc_new w (.cells T0c 71))
 have H1:=hide (h.start.later B0)
 have hlt:=h.lt
 unfold T0c at R0 H1
 clear h B0
 unfold Tk.v Tk.cs
 go_enter Tryz.func174,Tryz.ntmps174
 go_wp2_with fail
 generalize w.alloc (Obj.cells #[.int .i64 0,.int .i64 0,.string ⟨#[]⟩] 71)=W at *
 obtain ⟨c0,c1,c2⟩:=(uh H1).rz.cells
 have f1:=(uh H1).rz.frz 1
 have H2:=hide ((uh H1).next ((uh H1).rz.setAt (k+1) (by omega) ((k:Int)+1) (by omega)) (grownBy_set _))
 have R2:=hide ((uh H1).blk (grownBy_set (w:=W) (b:=rb) (o:=1) (.int .i64 ((k:Int)+1))) (uh R0) (Nat.le_refl _))
 have H3:=hide ((uh H2).later below_drew)
 have R3:=hide (row_keep (uh R2) below_drew)
 obtain ⟨b,off,rfl,hne,_,_,_⟩:=(uh H1).rz.tok hn
 have TT:=hide (show ∀ i,i<ts.length→(W.setCell ⟨rb,1,none⟩ (.int .i64 ((k:Int)+1))).drew.cell? ⟨b,off+i*3,none⟩=some (.int .i64 (tAt ts i).k)∧(W.setCell ⟨rb,1,none⟩ (.int .i64 ((k:Int)+1))).drew.cell? ⟨b,off+i*3+1,none⟩=some (.int .i64 (tAt ts i).n)∧(W.setCell ⟨rb,1,none⟩ (.int .i64 ((k:Int)+1))).drew.cell? ⟨b,off+i*3+2,none⟩=some (.string (tAt ts i).s) by
  rcases (uh H3).rz.toks with h0|⟨b',off',ha,hl,hc⟩
  · rw [h0] at hn;simp at hn
  · cases ha;exact hc)
 clear H1 H2 R0 R2
 go_region
 go_wp2
 generalize (W.setCell ⟨rb,1,none⟩ (.int .i64 ((k:Int)+1))).drew=V at *
 obtain ⟨t0,t1,t2⟩:=uh TT k hn
 obtain ⟨d0,d1,d2⟩:=(uh H3).rz.cells
 have hV:=below_drew (w:=V)
 have H4:=hide ((uh H3).later hV)
 have R4:=hide (row_keep (uh R3) hV)
 have q0:=Lib.cell_of_heap (uh R3) 0
 have q1:=Lib.cell_of_heap (uh R3) 1
 have q2:=Lib.cell_of_heap (uh R3) 2
 have g0:=Lib.frozen_of_heap (uh R3) 0
 have g1:=Lib.frozen_of_heap (uh R3) 1
 have g2:=Lib.frozen_of_heap (uh R3) 2
 clear hV c0 c1 c2 TT f1
 generalize e0:(tAt ts k).k=tk at *
 generalize e1:(tAt ts k).n=tn at *
 generalize e2:(tAt ts k).s=tx at *
 have E:=hide (And.intro e0 (And.intro e1 e2))
 clear e0 e1 e2
 generalize hn2:ts.length=n at *
 have hi:(k:Int)<(n:Int):=by omega
 have hi2:¬ (n:Int)≤(k:Int):=by omega
 go_region
 go_wp2
 refine bodyPost_ret (results_cell_row (P:=Tryz.prog) rfl _ _ w.heap.size 71 #[.int .i64 tk,.int .i64 tn,.string tx] (0,0) _ rfl (row3_set (uh R4) _ _ _) Tryz.underlying71 rfl szK) rfl ?_
 have H5:=((((uh H4).cell 0 (.int .i64 tk)).cell 1 (.int .i64 tn)).cell 2 (.string tx))
 obtain ⟨e0,e1,e2⟩:=uh E
 exact ⟨by rw [e0,e1,e2],H5.rz,H5.gr⟩
end
def OutO (o:Option (Ex × List Tk)) (ts:List Tk) (bad:Bool) (e:Ex) (k':Nat) (bad':Bool):Prop :=
 (bad=true→bad'=true)∧(bad=false→match o with|none=>bad'=true|some (x,q)=>bad'=false∧e=x∧q=ts.drop k')
def twoF (d:Nat) (r:List Tk):Option (Ex × List Tk) :=
 match readF d r with
 | none => none
 | some (a, []) => none
 | some (a, t1 :: q1) =>
  match readF d q1 with
  | none => none
  | some (b, []) => none
  | some (b, t2 :: q2) => if eqS t2.s (mkS 62) = true then (match sgnK t1.s with | none => none | some k => some (⟨k, 0, E0, [a, b]⟩, q2)) else none
theorem OutO.bad {o:Option (Ex × List Tk)} {ts:List Tk} {bad:Bool} (e:Ex) (k':Nat) (h:bad=false→o=none):OutO o ts bad e k' true:=⟨fun _=>rfl,fun hb=>by rw [h hb]⟩
theorem drop_head {ts:List Tk} {k:Nat} {t:Tk} {q:List Tk} (h:t::q=ts.drop k):k<ts.length∧tAt ts k=t∧q=ts.drop (k+1):=by
 have hk:k<ts.length:=by
  by_cases hk:k<ts.length
  · exact hk
  · rw [List.drop_eq_nil_of_le (by omega)] at h;cases h
 rw [List.drop_eq_getElem_cons hk] at h
 injection h with h1 h2
 refine ⟨hk,?_,h2⟩
 unfold tAt
 rw [List.getD_eq_getElem?_getD,List.getElem?_eq_getElem hk,h1]
 rfl
theorem drop_nil {ts:List Tk} {k:Nat} (h : []=ts.drop k):ts.length≤k:=List.drop_eq_nil_iff.1 h.symm
theorem drop_at {ts:List Tk} {k:Nat} (h:k<ts.length):ts.drop k=tAt ts k::ts.drop (k+1):=by
 rw [List.drop_eq_getElem_cons h]
 unfold tAt
 rw [List.getD_eq_getElem?_getD,List.getElem?_eq_getElem h]
 rfl
theorem next_end {ts:List Tk} {k:Nat} (b:Bool) (h:ts.length≤k):nextB ts k b=false:=by
 unfold nextB
 rw [decide_eq_false (by omega),Bool.and_false]
theorem see_end {ts:List Tk} {k:Nat} (b:Bool) (s:ByteArray) (h:ts.length≤k):seeB ts k b s=false:=by
 unfold seeB
 rw [decide_eq_false (by omega),Bool.false_and,Bool.and_false]
theorem next_in {ts:List Tk} {k:Nat} (h:k<ts.length):nextB ts k false=true:=by
 unfold nextB
 rw [decide_eq_true h]
 rfl
theorem see_in {ts:List Tk} {k:Nat} (s:ByteArray) (h:k<ts.length):seeB ts k false s=eqS (tAt ts k).s s:=by
 unfold seeB
 rw [decide_eq_true h]
 rfl
def nextT (ts:List Tk) (k:Nat) (bad:Bool):Tk:=if nextB ts k bad=true then tAt ts k else ⟨0,0,E0⟩
def nextK (ts:List Tk) (k:Nat) (bad:Bool):Nat:=if nextB ts k bad=true then k+1 else k
theorem two_yes {d:Nat} {ts:List Tk} {k k1 k3:Nat} {bad b1 b3:Bool} {x y:Ex} (h1:OutO (readF d (ts.drop k)) ts bad x k1 b1) (h3:OutO (readF d (ts.drop (nextK ts k1 b1))) ts (!nextB ts k1 b1) y k3 b3) :
  (∀ kk,sgnK (nextT ts k1 b1).s=some kk→OutO (twoF d (ts.drop k)) ts bad ⟨kk,0,E0,[x,y]⟩ (if seeB ts k3 b3 (mkS 62)=true then k3+1 else k3) (!seeB ts k3 b3 (mkS 62)))∧(sgnK (nextT ts k1 b1).s=none→∀ e j,OutO (twoF d (ts.drop k)) ts bad e j true):=by
 cases bad with
 | true =>
  have e1:=h1.1 rfl
  subst e1
  have e3:b3=true:=h3.1 rfl
  subst e3
  refine ⟨fun kk _=>⟨fun _=>rfl,fun h=>by cases h⟩,fun _ e j=>⟨fun _=>rfl,fun h=>by cases h⟩⟩
 | false =>
  have r1:=h1.2 rfl
  cases hr:readF d (ts.drop k) with
  | none =>
   rw [hr] at r1
   simp only at r1
   subst r1
   have e3:b3=true:=h3.1 rfl
   subst e3
   have ht:twoF d (ts.drop k)=none:=by unfold twoF;rw [hr]
   exact ⟨fun kk _=>OutO.bad _ _ (fun _=>ht),fun _ e j=>OutO.bad _ _ (fun _=>ht)⟩
  | some p =>
   obtain ⟨a,q⟩:=p
   rw [hr] at r1
   obtain ⟨rfl,rfl,hq⟩:=r1
   cases q with
   | nil =>
    have hl:=drop_nil hq
    have ht:twoF d (ts.drop k)=none:=by unfold twoF;rw [hr]
    rw [next_end _ hl] at h3
    have e3:b3=true:=h3.1 rfl
    subst e3
    exact ⟨fun kk _=>OutO.bad _ _ (fun _=>ht),fun _ e j=>OutO.bad _ _ (fun _=>ht)⟩
   | cons t1 q1 =>
    obtain ⟨hk,ht1,hq1⟩:=drop_head hq
    subst ht1 hq1
    unfold nextK at h3
    unfold nextT
    rw [next_in hk,if_pos rfl] at h3
    rw [next_in hk,if_pos rfl]
    have r3:=h3.2 rfl
    cases hr3:readF d (ts.drop (k1+1)) with
    | none =>
     rw [hr3] at r3
     simp only at r3
     subst r3
     have ht:twoF d (ts.drop k)=none:=by unfold twoF;rw [hr];simp only [hr3]
     exact ⟨fun kk _=>OutO.bad _ _ (fun _=>ht),fun _ e j=>OutO.bad _ _ (fun _=>ht)⟩
    | some p3 =>
     obtain ⟨b,q3⟩:=p3
     rw [hr3] at r3
     obtain ⟨rfl,rfl,hq3⟩:=r3
     cases q3 with
     | nil =>
      have hl:=drop_nil hq3
      have ht:twoF d (ts.drop k)=none:=by unfold twoF;rw [hr];simp only [hr3]
      rw [see_end _ _ hl]
      exact ⟨fun kk _=>OutO.bad _ _ (fun _=>ht),fun _ e j=>OutO.bad _ _ (fun _=>ht)⟩
     | cons t2 q2 =>
      obtain ⟨hk3,ht2,hq2⟩:=drop_head hq3
      subst ht2 hq2
      have ht:twoF d (ts.drop k)=if eqS (tAt ts k3).s (mkS 62)=true then (match sgnK (tAt ts k1).s with|none=>none|some k=>some (⟨k,0,E0,[x,y]⟩,ts.drop (k3+1))) else none:=by unfold twoF;rw [hr];simp only [hr3]
      rw [see_in _ hk3,ht]
      cases hs:eqS (tAt ts k3).s (mkS 62) with
      | false => exact ⟨fun kk _ => OutO.bad _ _ (fun _ => by simp), fun _ e j => OutO.bad _ _ (fun _ => by simp)⟩
      | true =>
       refine ⟨fun kk hkk=>⟨fun h=>(by cases h),fun _=>?_⟩,fun hn e j=>OutO.bad _ _ (fun _=>by rw [hn];simp)⟩
       rw [hkk]
       exact ⟨rfl,rfl,rfl⟩
theorem szE:(Tryz.prog.info? 26).map (·.size)=some 4:=by kernel_rfl
theorem ex_one (k n:Int) (x:ByteArray) (b:Option Addr) (i j:Nat):(#[Value.int .i64 k,.int .i64 n,.string x,.slice b i j]:Array Value).all (·.oneCell')=true:=by simp [Value.oneCell']
def E0x:Array Value:=#[.int .i64 0,.int .i64 0,.string ⟨#[]⟩,.slice none 0 0]
theorem NewX.drawn {wr w':World} {cb B:Nat} {e:Ex} {c:Option Addr} (h:NewX wr B e c) (hg:wr.grownBy w' (some cb)) (hB:cb<B):NewX w' B e c:=by
 obtain ⟨F,h1,h2,h3⟩:=h
 exact ⟨F,OwX.keep e c F (fun b hF=>hg.block b (OwX.lt e c F h1 b hF) (fun e=>by have:=h3 b hF;simp at e;omega)) h1,h2,h3⟩
theorem NewX.row {wr:World} {B g:Nat} {e:Ex} {c:Option Addr} (h:NewX wr B e c) (cs:Array Value) (hg:g<B):NewX (wr.setRow g cs) B e c:=by
 obtain ⟨F,h1,h2,h3⟩:=h
 exact ⟨F,OwX.keep e c F (fun b hF=>setRow_other _ _ _ _ (by have:=h3 b hF;omega)) h1,h2,h3⟩
def HalfX (w:World) (B C:Nat) (e:Ex) (a:Option Addr):Prop:=∃ F,OwX w e a F∧F.Nodup∧∀ b∈F,B≤b∧b<C
theorem NewX.half {w:World} {B:Nat} {e:Ex} {a:Option Addr} (h:NewX w B e a):HalfX w B w.heap.size e a:=by
 obtain ⟨F,h1,h2,h3⟩:=h
 exact ⟨F,h1,h2,fun b hb=>⟨h3 b hb,OwX.lt e a F h1 b hb⟩⟩
theorem HalfX.upto {w:World} {B C D:Nat} {e:Ex} {a:Option Addr} (h:HalfX w B C e a) (hD:C≤D):HalfX w B D e a:=by
 obtain ⟨F,h1,h2,h3⟩:=h
 exact ⟨F,h1,h2,fun b hb=>⟨(h3 b hb).1,Nat.lt_of_lt_of_le (h3 b hb).2 hD⟩⟩
theorem HalfX.later {w w':World} {B C:Nat} {e:Ex} {a:Option Addr} (h:HalfX w B C e a) (hb:Below w.heap.size w w'):HalfX w' B C e a:=by
 obtain ⟨F,h1,h2,h3⟩:=h
 exact ⟨F,h1.later hb,h2,h3⟩
theorem HalfX.drawn {w w':World} {B C cb:Nat} {e:Ex} {a:Option Addr} (h:HalfX w B C e a) (hg:w.grownBy w' (some cb)) (hB:cb<B):HalfX w' B C e a:=by
 obtain ⟨F,h1,h2,h3⟩:=h
 exact ⟨F,OwX.keep e a F (fun b hF=>hg.block b (OwX.lt e a F h1 b hF) (fun e=>by have:=(h3 b hF).1;simp at e;omega)) h1,h2,h3⟩
theorem HalfX.new {w:World} {B C:Nat} {e:Ex} {a:Option Addr} (h:HalfX w B C e a):NewX w B e a:=by
 obtain ⟨F,h1,h2,h3⟩:=h
 exact ⟨F,h1,h2,fun b hb=>(h3 b hb).1⟩
theorem NewX.one {w:World} {B:Nat} {x:Ex} {c:Option Addr} {cp:Nat} (h:NewX w B x c) (hB:B≤w.heap.size) (k n:Int) (s:ByteArray) (t:TypeId):NewX (w.alloc (.cells #[.int .i64 x.k,.int .i64 x.n,.string x.s,.slice c x.l.length cp] t)) B ⟨k,n,s,[x]⟩ (some ⟨w.heap.size,0,none⟩):=by
 obtain ⟨F,h1,h2,h3⟩:=h
 have hl:=OwX.lt x c F h1
 refine ⟨w.heap.size::F,(OwX_eq _ _ _ _).2 (.inr ⟨w.heap.size,_,t,[F],rfl,Array.getElem?_push_size,by simp,rfl,by simp,fun i hi=>?_⟩),List.nodup_cons.2 ⟨fun h=>by have:=hl _ h;omega,h2⟩,fun b hb=>?_⟩
 ·
  have hi:i<1:=hi
  obtain rfl:i=0:=by omega
  exact ⟨rfl,rfl,rfl,c,cp,rfl,OwX.later h1 ((Below.refl _ _).alloc (Nat.le_refl _) _)⟩
 ·
  rcases List.mem_cons.1 hb with rfl|hb
  · exact hB
  · exact h3 b hb
theorem HalfX.two {w:World} {B C:Nat} {x y:Ex} {c d:Option Addr} {cp dp:Nat} (h:HalfX w B C x c) (k:NewX w C y d) (hB:B≤C) (hC:C≤w.heap.size) (k' n:Int) (s:ByteArray) (t:TypeId):NewX (w.alloc (.cells #[.int .i64 x.k,.int .i64 x.n,.string x.s,.slice c x.l.length cp,.int .i64 y.k,.int .i64 y.n,.string y.s,.slice d y.l.length dp] t)) B ⟨k',n,s,[x,y]⟩ (some ⟨w.heap.size,0,none⟩):=by
 obtain ⟨F,h1,h2,h3⟩:=h
 obtain ⟨G,k1,k2,k3⟩:=k
 have hl:=OwX.lt x c F h1
 have kl:=OwX.lt y d G k1
 refine ⟨w.heap.size::(F++G),(OwX_eq _ _ _ _).2 (.inr ⟨w.heap.size,_,t,[F,G],rfl,Array.getElem?_push_size,by simp,rfl,by simp,fun i hi=>?_⟩),List.nodup_cons.2 ⟨fun h=>?_,List.nodup_append.2 ⟨h2,k2,fun a ha b hb e=>?_⟩⟩,fun b hb=>?_⟩
 ·
  have hi:i<2:=hi
  have hb:=(Below.refl w.heap.size w).alloc (Nat.le_refl _) (.cells #[.int .i64 x.k,.int .i64 x.n,.string x.s,.slice c x.l.length cp,.int .i64 y.k,.int .i64 y.n,.string y.s,.slice d y.l.length dp] t)
  have hi2:i=0∨i=1:=by omega
  rcases hi2 with rfl|rfl
  · exact ⟨rfl,rfl,rfl,c,cp,rfl,OwX.later h1 hb⟩
  · exact ⟨rfl,rfl,rfl,d,dp,rfl,OwX.later k1 hb⟩
 ·
  rcases List.mem_append.1 h with h|h
  · have:=hl _ h;omega
  · have:=kl _ h;omega
 ·
  subst e
  have:=(h3 _ ha).2
  have:=k3 _ hb
  omega
 ·
  rcases List.mem_cons.1 hb with rfl|hb
  · omega
  ·
   rcases List.mem_append.1 hb with hb|hb
   · exact (h3 b hb).1
   · have:=k3 b hb;omega
theorem sz_one (k n:Int) (x:Ex):(Ex.mk k n ⟨#[]⟩ [x]).sz=1+x.sz:=by
 rw [Ex.sz_eq]
 show 0+1+(x.sz+0)=_
 omega
theorem sz_two (k n:Int) (x y:Ex):(Ex.mk k n ⟨#[]⟩ [x,y]).sz=2+x.sz+y.sz:=by
 rw [Ex.sz_eq]
 show 0+2+(x.sz+(y.sz+0))=_
 omega
theorem sz_leaf (k n:Int) (s:ByteArray):(Ex.mk k n s []).sz=s.size:=by
 rw [Ex.sz_eq]
 rfl
def hereV (k n:Int) (s:ByteArray) (ll:Nat):Bool:=Ex.here ⟨k,n,s,List.replicate ll X0⟩
theorem here_is (e:Ex):e.here=hereV e.k e.n e.s e.l.length:=by
 unfold hereV Ex.here
 simp only [List.length_replicate]
theorem emp_E (s:ByteArray) (h:s≠E0):s.toList.isEmpty=false∧eqS s E0=false:=by
 refine ⟨emp_no s (fun e=>h (empty_of s e)),?_⟩
 cases he:eqS s E0 with
 | false => rfl
 | true => exact absurd ((eqS_iff _ _).1 he) h
theorem eqE:eqS E0 E0=true:=(eqS_iff _ _).2 rfl
theorem eqE1:eqS ⟨#[]⟩ E0=true:=eqE
def HereG (k n:Int) (s:ByteArray) (ll:Nat):Prop:=∀ (b:Option Addr) (cap:Nat) (w:World),Calls Tryz.prog 184 #[.agg #[.int .i64 k,.int .i64 n,.string s,.slice b ll cap]] w fun r w'=>r = .returned (.bool (hereV k n s ll))∧Below w.heap.size w w'
theorem here1_s (n:Int) (s:ByteArray) (ll:Nat) (h:s≠E0) (hs:s.size≤1099511627776) (hl:ll≤9223372036854775807):HereG (1) n s ll:=by
 intro b cap w
 have B0:=hide (below_new w (.cells #[.int .i64 1,.int .i64 n,.string s,.slice b ll cap] 26))
 obtain ⟨h1,h2⟩:=emp_E s h
 have V:hereV (1) n s ll=false:=by simp [hereV,Ex.here,eqE,eqE1, *]
 rw [V]
 clear V
 go_enter Tryz.func184,Tryz.ntmps184
 go_wp2
 go_ret
 exact ⟨rfl,uh B0⟩
theorem here1_0 (n:Int) (s:ByteArray) (ll:Nat) (hs:s.size≤1099511627776) (hl:ll≤9223372036854775807):HereG (1) n ⟨#[]⟩ ll:=by
 intro b cap w
 have B0:=hide (below_new w (.cells #[.int .i64 1,.int .i64 n,.string ⟨#[]⟩,.slice b ll cap] 26))
 have V:hereV (1) n ⟨#[]⟩ ll=(inB n 0 65535&&ll == 0):=by simp [hereV,Ex.here,eqE,eqE1, *]
 rw [V]
 clear V
 have Q:=hide (fun w=>in_any n 0 65535 w)
 generalize inB n 0 65535=q at *
 by_cases h0:ll=0
 ·
  subst h0
  cases q <;> (go_enter Tryz.func184,Tryz.ntmps184;go_wp2_with (go_at_call 61;refine (uh Q _).mono ?_;rintro e w' ⟨rfl,hw'⟩;rw [hw'];clear hw' w');go_ret;exact ⟨rfl,uh B0⟩)
 ·
  have h1:(ll == 0)=false:=beq_eq_false_iff_ne.2 h0
  have h2:((ll:Int) == 0)=false:=beq_eq_false_iff_ne.2 (by omega)
  rw [h1]
  clear h1 h0
  cases q <;> (go_enter Tryz.func184,Tryz.ntmps184;go_wp2_with (go_at_call 61;refine (uh Q _).mono ?_;rintro e w' ⟨rfl,hw'⟩;rw [hw'];clear hw' w');go_ret;exact ⟨rfl,uh B0⟩)
theorem here11_s (n:Int) (s:ByteArray) (ll:Nat) (h:s≠E0) (hs:s.size≤1099511627776) (hl:ll≤9223372036854775807):HereG (11) n s ll:=by
 intro b cap w
 have B0:=hide (below_new w (.cells #[.int .i64 11,.int .i64 n,.string s,.slice b ll cap] 26))
 obtain ⟨h1,h2⟩:=emp_E s h
 have V:hereV (11) n s ll=false:=by simp [hereV,Ex.here,eqE,eqE1, *]
 rw [V]
 clear V
 go_enter Tryz.func184,Tryz.ntmps184
 go_wp2
 go_ret
 exact ⟨rfl,uh B0⟩
theorem here11_0 (n:Int) (s:ByteArray) (ll:Nat) (hs:s.size≤1099511627776) (hl:ll≤9223372036854775807):HereG (11) n ⟨#[]⟩ ll:=by
 intro b cap w
 have B0:=hide (below_new w (.cells #[.int .i64 11,.int .i64 n,.string ⟨#[]⟩,.slice b ll cap] 26))
 have V:hereV (11) n ⟨#[]⟩ ll=(inB n 0 9&&ll == 0):=by simp [hereV,Ex.here,eqE,eqE1, *]
 rw [V]
 clear V
 have Q:=hide (fun w=>in_any n 0 9 w)
 generalize inB n 0 9=q at *
 by_cases h0:ll=0
 ·
  subst h0
  cases q <;> (go_enter Tryz.func184,Tryz.ntmps184;go_wp2_with (go_at_call 61;refine (uh Q _).mono ?_;rintro e w' ⟨rfl,hw'⟩;rw [hw'];clear hw' w');go_ret;exact ⟨rfl,uh B0⟩)
 ·
  have h1:(ll == 0)=false:=beq_eq_false_iff_ne.2 h0
  have h2:((ll:Int) == 0)=false:=beq_eq_false_iff_ne.2 (by omega)
  rw [h1]
  clear h1 h0
  cases q <;> (go_enter Tryz.func184,Tryz.ntmps184;go_wp2_with (go_at_call 61;refine (uh Q _).mono ?_;rintro e w' ⟨rfl,hw'⟩;rw [hw'];clear hw' w');go_ret;exact ⟨rfl,uh B0⟩)
theorem here2_n (n:Int) (s:ByteArray) (ll:Nat) (h:n≠0) (hs:s.size≤1099511627776) (hl:ll≤9223372036854775807):HereG (2) n s ll:=by
 intro b cap w
 have B0:=hide (below_new w (.cells #[.int .i64 2,.int .i64 n,.string s,.slice b ll cap] 26))
 have V:hereV (2) n s ll=false:=by simp [hereV,Ex.here,eqE,eqE1, *]
 rw [V]
 clear V
 go_enter Tryz.func184,Tryz.ntmps184
 go_wp2
 go_ret
 exact ⟨rfl,uh B0⟩
theorem here2_0 (n:Int) (s:ByteArray) (ll:Nat) (hs:s.size≤1099511627776) (hl:ll≤9223372036854775807):HereG (2) 0 s ll:=by
 intro b cap w
 have B0:=hide (below_new w (.cells #[.int .i64 2,.int .i64 0,.string s,.slice b ll cap] 26))
 have V:hereV (2) 0 s ll=(nameB s&&ll == 0):=by simp [hereV,Ex.here,eqE,eqE1, *]
 rw [V]
 clear V
 have Q:=hide (nameS_any s (w.alloc (.cells #[.int .i64 2,.int .i64 0,.string s,.slice b ll cap] 26)) hs)
 generalize nameB s=q at *
 by_cases h0:ll=0
 ·
  subst h0
  cases q <;> (go_enter Tryz.func184,Tryz.ntmps184;go_wp2_with (go_at_call 74;refine (uh Q).mono ?_;rintro e w' ⟨rfl,hb⟩);go_ret;exact ⟨rfl,(uh B0).trans (hb.mono (uh B0).size)⟩)
 ·
  have h1:(ll == 0)=false:=beq_eq_false_iff_ne.2 h0
  have h2:((ll:Int) == 0)=false:=beq_eq_false_iff_ne.2 (by omega)
  rw [h1]
  clear h1 h0
  cases q <;> (go_enter Tryz.func184,Tryz.ntmps184;go_wp2_with (go_at_call 74;refine (uh Q).mono ?_;rintro e w' ⟨rfl,hb⟩);go_ret;exact ⟨rfl,(uh B0).trans (hb.mono (uh B0).size)⟩)
theorem here12_n (n:Int) (s:ByteArray) (ll:Nat) (h:n≠0) (hs:s.size≤1099511627776) (hl:ll≤9223372036854775807):HereG (12) n s ll:=by
 intro b cap w
 have B0:=hide (below_new w (.cells #[.int .i64 12,.int .i64 n,.string s,.slice b ll cap] 26))
 have V:hereV (12) n s ll=false:=by simp [hereV,Ex.here,eqE,eqE1, *]
 rw [V]
 clear V
 go_enter Tryz.func184,Tryz.ntmps184
 go_wp2
 go_ret
 exact ⟨rfl,uh B0⟩
theorem here12_0 (n:Int) (s:ByteArray) (ll:Nat) (hs:s.size≤1099511627776) (hl:ll≤9223372036854775807):HereG (12) 0 s ll:=by
 intro b cap w
 have B0:=hide (below_new w (.cells #[.int .i64 12,.int .i64 0,.string s,.slice b ll cap] 26))
 have V:hereV (12) 0 s ll=(nameB s&&ll == 0):=by simp [hereV,Ex.here,eqE,eqE1, *]
 rw [V]
 clear V
 have Q:=hide (nameS_any s (w.alloc (.cells #[.int .i64 12,.int .i64 0,.string s,.slice b ll cap] 26)) hs)
 generalize nameB s=q at *
 by_cases h0:ll=0
 ·
  subst h0
  cases q <;> (go_enter Tryz.func184,Tryz.ntmps184;go_wp2_with (go_at_call 74;refine (uh Q).mono ?_;rintro e w' ⟨rfl,hb⟩);go_ret;exact ⟨rfl,(uh B0).trans (hb.mono (uh B0).size)⟩)
 ·
  have h1:(ll == 0)=false:=beq_eq_false_iff_ne.2 h0
  have h2:((ll:Int) == 0)=false:=beq_eq_false_iff_ne.2 (by omega)
  rw [h1]
  clear h1 h0
  cases q <;> (go_enter Tryz.func184,Tryz.ntmps184;go_wp2_with (go_at_call 74;refine (uh Q).mono ?_;rintro e w' ⟨rfl,hb⟩);go_ret;exact ⟨rfl,(uh B0).trans (hb.mono (uh B0).size)⟩)
theorem here3_n (n:Int) (s:ByteArray) (ll:Nat) (h:n≠0) (hs:s.size≤1099511627776) (hl:ll≤9223372036854775807):HereG (3) n s ll:=by
 intro b cap w
 have B0:=hide (below_new w (.cells #[.int .i64 3,.int .i64 n,.string s,.slice b ll cap] 26))
 have V:hereV (3) n s ll=false:=by simp [hereV,Ex.here,eqE,eqE1, *]
 rw [V]
 clear V
 go_enter Tryz.func184,Tryz.ntmps184
 go_wp2
 go_ret
 exact ⟨rfl,uh B0⟩
theorem here3_s (n:Int) (s:ByteArray) (ll:Nat) (h:s≠E0) (hs:s.size≤1099511627776) (hl:ll≤9223372036854775807):HereG (3) 0 s ll:=by
 intro b cap w
 have B0:=hide (below_new w (.cells #[.int .i64 3,.int .i64 0,.string s,.slice b ll cap] 26))
 obtain ⟨h1,h2⟩:=emp_E s h
 have V:hereV (3) 0 s ll=false:=by simp [hereV,Ex.here,eqE,eqE1, *]
 rw [V]
 clear V
 go_enter Tryz.func184,Tryz.ntmps184
 go_wp2
 go_ret
 exact ⟨rfl,uh B0⟩
theorem here3_0 (n:Int) (s:ByteArray) (ll:Nat) (hs:s.size≤1099511627776) (hl:ll≤9223372036854775807):HereG (3) 0 ⟨#[]⟩ ll:=by
 intro b cap w
 have B0:=hide (below_new w (.cells #[.int .i64 3,.int .i64 0,.string ⟨#[]⟩,.slice b ll cap] 26))
 have V:hereV (3) 0 ⟨#[]⟩ ll=(ll == 0):=by simp [hereV,Ex.here,eqE,eqE1, *]
 rw [V]
 clear V
 by_cases h0:ll=0
 ·
  subst h0
  go_enter Tryz.func184,Tryz.ntmps184
  go_wp2
  go_ret
  exact ⟨rfl,uh B0⟩
 ·
  have h1:(ll == 0)=false:=beq_eq_false_iff_ne.2 h0
  have h2:((ll:Int) == 0)=false:=beq_eq_false_iff_ne.2 (by omega)
  rw [h1]
  clear h1 h0
  go_enter Tryz.func184,Tryz.ntmps184
  go_wp2
  go_ret
  exact ⟨rfl,uh B0⟩
theorem here4_n (n:Int) (s:ByteArray) (ll:Nat) (h:n≠0) (hs:s.size≤1099511627776) (hl:ll≤9223372036854775807):HereG (4) n s ll:=by
 intro b cap w
 have B0:=hide (below_new w (.cells #[.int .i64 4,.int .i64 n,.string s,.slice b ll cap] 26))
 have V:hereV (4) n s ll=false:=by simp [hereV,Ex.here,eqE,eqE1, *]
 rw [V]
 clear V
 go_enter Tryz.func184,Tryz.ntmps184
 go_wp2
 go_ret
 exact ⟨rfl,uh B0⟩
theorem here4_s (n:Int) (s:ByteArray) (ll:Nat) (h:s≠E0) (hs:s.size≤1099511627776) (hl:ll≤9223372036854775807):HereG (4) 0 s ll:=by
 intro b cap w
 have B0:=hide (below_new w (.cells #[.int .i64 4,.int .i64 0,.string s,.slice b ll cap] 26))
 obtain ⟨h1,h2⟩:=emp_E s h
 have V:hereV (4) 0 s ll=false:=by simp [hereV,Ex.here,eqE,eqE1, *]
 rw [V]
 clear V
 go_enter Tryz.func184,Tryz.ntmps184
 go_wp2
 go_ret
 exact ⟨rfl,uh B0⟩
theorem here4_0 (n:Int) (s:ByteArray) (ll:Nat) (hs:s.size≤1099511627776) (hl:ll≤9223372036854775807):HereG (4) 0 ⟨#[]⟩ ll:=by
 intro b cap w
 have B0:=hide (below_new w (.cells #[.int .i64 4,.int .i64 0,.string ⟨#[]⟩,.slice b ll cap] 26))
 have V:hereV (4) 0 ⟨#[]⟩ ll=(ll == 1):=by simp [hereV,Ex.here,eqE,eqE1, *]
 rw [V]
 clear V
 by_cases h0:ll=1
 ·
  subst h0
  go_enter Tryz.func184,Tryz.ntmps184
  go_wp2
  go_ret
  exact ⟨rfl,uh B0⟩
 ·
  have h1:(ll == 1)=false:=beq_eq_false_iff_ne.2 h0
  have h2:((ll:Int) == 1)=false:=beq_eq_false_iff_ne.2 (by omega)
  rw [h1]
  clear h1 h0
  go_enter Tryz.func184,Tryz.ntmps184
  go_wp2
  go_ret
  exact ⟨rfl,uh B0⟩
theorem here5_n (n:Int) (s:ByteArray) (ll:Nat) (h:n≠0) (hs:s.size≤1099511627776) (hl:ll≤9223372036854775807):HereG (5) n s ll:=by
 intro b cap w
 have B0:=hide (below_new w (.cells #[.int .i64 5,.int .i64 n,.string s,.slice b ll cap] 26))
 have V:hereV (5) n s ll=false:=by simp [hereV,Ex.here,eqE,eqE1, *]
 rw [V]
 clear V
 go_enter Tryz.func184,Tryz.ntmps184
 go_wp2
 go_ret
 exact ⟨rfl,uh B0⟩
theorem here5_s (n:Int) (s:ByteArray) (ll:Nat) (h:s≠E0) (hs:s.size≤1099511627776) (hl:ll≤9223372036854775807):HereG (5) 0 s ll:=by
 intro b cap w
 have B0:=hide (below_new w (.cells #[.int .i64 5,.int .i64 0,.string s,.slice b ll cap] 26))
 obtain ⟨h1,h2⟩:=emp_E s h
 have V:hereV (5) 0 s ll=false:=by simp [hereV,Ex.here,eqE,eqE1, *]
 rw [V]
 clear V
 go_enter Tryz.func184,Tryz.ntmps184
 go_wp2
 go_ret
 exact ⟨rfl,uh B0⟩
theorem here5_0 (n:Int) (s:ByteArray) (ll:Nat) (hs:s.size≤1099511627776) (hl:ll≤9223372036854775807):HereG (5) 0 ⟨#[]⟩ ll:=by
 intro b cap w
 have B0:=hide (below_new w (.cells #[.int .i64 5,.int .i64 0,.string ⟨#[]⟩,.slice b ll cap] 26))
 have V:hereV (5) 0 ⟨#[]⟩ ll=(ll == 2):=by simp [hereV,Ex.here,eqE,eqE1, *]
 rw [V]
 clear V
 by_cases h0:ll=2
 ·
  subst h0
  go_enter Tryz.func184,Tryz.ntmps184
  go_wp2
  go_ret
  exact ⟨rfl,uh B0⟩
 ·
  have h1:(ll == 2)=false:=beq_eq_false_iff_ne.2 h0
  have h2:((ll:Int) == 2)=false:=beq_eq_false_iff_ne.2 (by omega)
  rw [h1]
  clear h1 h0
  go_enter Tryz.func184,Tryz.ntmps184
  go_wp2
  go_ret
  exact ⟨rfl,uh B0⟩
theorem here6_n (n:Int) (s:ByteArray) (ll:Nat) (h:n≠0) (hs:s.size≤1099511627776) (hl:ll≤9223372036854775807):HereG (6) n s ll:=by
 intro b cap w
 have B0:=hide (below_new w (.cells #[.int .i64 6,.int .i64 n,.string s,.slice b ll cap] 26))
 have V:hereV (6) n s ll=false:=by simp [hereV,Ex.here,eqE,eqE1, *]
 rw [V]
 clear V
 go_enter Tryz.func184,Tryz.ntmps184
 go_wp2
 go_ret
 exact ⟨rfl,uh B0⟩
theorem here6_s (n:Int) (s:ByteArray) (ll:Nat) (h:s≠E0) (hs:s.size≤1099511627776) (hl:ll≤9223372036854775807):HereG (6) 0 s ll:=by
 intro b cap w
 have B0:=hide (below_new w (.cells #[.int .i64 6,.int .i64 0,.string s,.slice b ll cap] 26))
 obtain ⟨h1,h2⟩:=emp_E s h
 have V:hereV (6) 0 s ll=false:=by simp [hereV,Ex.here,eqE,eqE1, *]
 rw [V]
 clear V
 go_enter Tryz.func184,Tryz.ntmps184
 go_wp2
 go_ret
 exact ⟨rfl,uh B0⟩
theorem here6_0 (n:Int) (s:ByteArray) (ll:Nat) (hs:s.size≤1099511627776) (hl:ll≤9223372036854775807):HereG (6) 0 ⟨#[]⟩ ll:=by
 intro b cap w
 have B0:=hide (below_new w (.cells #[.int .i64 6,.int .i64 0,.string ⟨#[]⟩,.slice b ll cap] 26))
 have V:hereV (6) 0 ⟨#[]⟩ ll=(ll == 2):=by simp [hereV,Ex.here,eqE,eqE1, *]
 rw [V]
 clear V
 by_cases h0:ll=2
 ·
  subst h0
  go_enter Tryz.func184,Tryz.ntmps184
  go_wp2
  go_ret
  exact ⟨rfl,uh B0⟩
 ·
  have h1:(ll == 2)=false:=beq_eq_false_iff_ne.2 h0
  have h2:((ll:Int) == 2)=false:=beq_eq_false_iff_ne.2 (by omega)
  rw [h1]
  clear h1 h0
  go_enter Tryz.func184,Tryz.ntmps184
  go_wp2
  go_ret
  exact ⟨rfl,uh B0⟩
theorem here7_n (n:Int) (s:ByteArray) (ll:Nat) (h:n≠0) (hs:s.size≤1099511627776) (hl:ll≤9223372036854775807):HereG (7) n s ll:=by
 intro b cap w
 have B0:=hide (below_new w (.cells #[.int .i64 7,.int .i64 n,.string s,.slice b ll cap] 26))
 have V:hereV (7) n s ll=false:=by simp [hereV,Ex.here,eqE,eqE1, *]
 rw [V]
 clear V
 go_enter Tryz.func184,Tryz.ntmps184
 go_wp2
 go_ret
 exact ⟨rfl,uh B0⟩
theorem here7_s (n:Int) (s:ByteArray) (ll:Nat) (h:s≠E0) (hs:s.size≤1099511627776) (hl:ll≤9223372036854775807):HereG (7) 0 s ll:=by
 intro b cap w
 have B0:=hide (below_new w (.cells #[.int .i64 7,.int .i64 0,.string s,.slice b ll cap] 26))
 obtain ⟨h1,h2⟩:=emp_E s h
 have V:hereV (7) 0 s ll=false:=by simp [hereV,Ex.here,eqE,eqE1, *]
 rw [V]
 clear V
 go_enter Tryz.func184,Tryz.ntmps184
 go_wp2
 go_ret
 exact ⟨rfl,uh B0⟩
theorem here7_0 (n:Int) (s:ByteArray) (ll:Nat) (hs:s.size≤1099511627776) (hl:ll≤9223372036854775807):HereG (7) 0 ⟨#[]⟩ ll:=by
 intro b cap w
 have B0:=hide (below_new w (.cells #[.int .i64 7,.int .i64 0,.string ⟨#[]⟩,.slice b ll cap] 26))
 have V:hereV (7) 0 ⟨#[]⟩ ll=(ll == 2):=by simp [hereV,Ex.here,eqE,eqE1, *]
 rw [V]
 clear V
 by_cases h0:ll=2
 ·
  subst h0
  go_enter Tryz.func184,Tryz.ntmps184
  go_wp2
  go_ret
  exact ⟨rfl,uh B0⟩
 ·
  have h1:(ll == 2)=false:=beq_eq_false_iff_ne.2 h0
  have h2:((ll:Int) == 2)=false:=beq_eq_false_iff_ne.2 (by omega)
  rw [h1]
  clear h1 h0
  go_enter Tryz.func184,Tryz.ntmps184
  go_wp2
  go_ret
  exact ⟨rfl,uh B0⟩
theorem here8_n (n:Int) (s:ByteArray) (ll:Nat) (h:n≠0) (hs:s.size≤1099511627776) (hl:ll≤9223372036854775807):HereG (8) n s ll:=by
 intro b cap w
 have B0:=hide (below_new w (.cells #[.int .i64 8,.int .i64 n,.string s,.slice b ll cap] 26))
 have V:hereV (8) n s ll=false:=by simp [hereV,Ex.here,eqE,eqE1, *]
 rw [V]
 clear V
 go_enter Tryz.func184,Tryz.ntmps184
 go_wp2
 go_ret
 exact ⟨rfl,uh B0⟩
theorem here8_s (n:Int) (s:ByteArray) (ll:Nat) (h:s≠E0) (hs:s.size≤1099511627776) (hl:ll≤9223372036854775807):HereG (8) 0 s ll:=by
 intro b cap w
 have B0:=hide (below_new w (.cells #[.int .i64 8,.int .i64 0,.string s,.slice b ll cap] 26))
 obtain ⟨h1,h2⟩:=emp_E s h
 have V:hereV (8) 0 s ll=false:=by simp [hereV,Ex.here,eqE,eqE1, *]
 rw [V]
 clear V
 go_enter Tryz.func184,Tryz.ntmps184
 go_wp2
 go_ret
 exact ⟨rfl,uh B0⟩
theorem here8_0 (n:Int) (s:ByteArray) (ll:Nat) (hs:s.size≤1099511627776) (hl:ll≤9223372036854775807):HereG (8) 0 ⟨#[]⟩ ll:=by
 intro b cap w
 have B0:=hide (below_new w (.cells #[.int .i64 8,.int .i64 0,.string ⟨#[]⟩,.slice b ll cap] 26))
 have V:hereV (8) 0 ⟨#[]⟩ ll=(ll == 2):=by simp [hereV,Ex.here,eqE,eqE1, *]
 rw [V]
 clear V
 by_cases h0:ll=2
 ·
  subst h0
  go_enter Tryz.func184,Tryz.ntmps184
  go_wp2
  go_ret
  exact ⟨rfl,uh B0⟩
 ·
  have h1:(ll == 2)=false:=beq_eq_false_iff_ne.2 h0
  have h2:((ll:Int) == 2)=false:=beq_eq_false_iff_ne.2 (by omega)
  rw [h1]
  clear h1 h0
  go_enter Tryz.func184,Tryz.ntmps184
  go_wp2
  go_ret
  exact ⟨rfl,uh B0⟩
theorem here9_n (n:Int) (s:ByteArray) (ll:Nat) (h:n≠0) (hs:s.size≤1099511627776) (hl:ll≤9223372036854775807):HereG (9) n s ll:=by
 intro b cap w
 have B0:=hide (below_new w (.cells #[.int .i64 9,.int .i64 n,.string s,.slice b ll cap] 26))
 have V:hereV (9) n s ll=false:=by simp [hereV,Ex.here,eqE,eqE1, *]
 rw [V]
 clear V
 go_enter Tryz.func184,Tryz.ntmps184
 go_wp2
 go_ret
 exact ⟨rfl,uh B0⟩
theorem here9_s (n:Int) (s:ByteArray) (ll:Nat) (h:s≠E0) (hs:s.size≤1099511627776) (hl:ll≤9223372036854775807):HereG (9) 0 s ll:=by
 intro b cap w
 have B0:=hide (below_new w (.cells #[.int .i64 9,.int .i64 0,.string s,.slice b ll cap] 26))
 obtain ⟨h1,h2⟩:=emp_E s h
 have V:hereV (9) 0 s ll=false:=by simp [hereV,Ex.here,eqE,eqE1, *]
 rw [V]
 clear V
 go_enter Tryz.func184,Tryz.ntmps184
 go_wp2
 go_ret
 exact ⟨rfl,uh B0⟩
theorem here9_0 (n:Int) (s:ByteArray) (ll:Nat) (hs:s.size≤1099511627776) (hl:ll≤9223372036854775807):HereG (9) 0 ⟨#[]⟩ ll:=by
 intro b cap w
 have B0:=hide (below_new w (.cells #[.int .i64 9,.int .i64 0,.string ⟨#[]⟩,.slice b ll cap] 26))
 have V:hereV (9) 0 ⟨#[]⟩ ll=(ll == 2):=by simp [hereV,Ex.here,eqE,eqE1, *]
 rw [V]
 clear V
 by_cases h0:ll=2
 ·
  subst h0
  go_enter Tryz.func184,Tryz.ntmps184
  go_wp2
  go_ret
  exact ⟨rfl,uh B0⟩
 ·
  have h1:(ll == 2)=false:=beq_eq_false_iff_ne.2 h0
  have h2:((ll:Int) == 2)=false:=beq_eq_false_iff_ne.2 (by omega)
  rw [h1]
  clear h1 h0
  go_enter Tryz.func184,Tryz.ntmps184
  go_wp2
  go_ret
  exact ⟨rfl,uh B0⟩
theorem here10_n (n:Int) (s:ByteArray) (ll:Nat) (h:n≠0) (hs:s.size≤1099511627776) (hl:ll≤9223372036854775807):HereG (10) n s ll:=by
 intro b cap w
 have B0:=hide (below_new w (.cells #[.int .i64 10,.int .i64 n,.string s,.slice b ll cap] 26))
 have V:hereV (10) n s ll=false:=by simp [hereV,Ex.here,eqE,eqE1, *]
 rw [V]
 clear V
 go_enter Tryz.func184,Tryz.ntmps184
 go_wp2
 go_ret
 exact ⟨rfl,uh B0⟩
theorem here10_s (n:Int) (s:ByteArray) (ll:Nat) (h:s≠E0) (hs:s.size≤1099511627776) (hl:ll≤9223372036854775807):HereG (10) 0 s ll:=by
 intro b cap w
 have B0:=hide (below_new w (.cells #[.int .i64 10,.int .i64 0,.string s,.slice b ll cap] 26))
 obtain ⟨h1,h2⟩:=emp_E s h
 have V:hereV (10) 0 s ll=false:=by simp [hereV,Ex.here,eqE,eqE1, *]
 rw [V]
 clear V
 go_enter Tryz.func184,Tryz.ntmps184
 go_wp2
 go_ret
 exact ⟨rfl,uh B0⟩
theorem here10_0 (n:Int) (s:ByteArray) (ll:Nat) (hs:s.size≤1099511627776) (hl:ll≤9223372036854775807):HereG (10) 0 ⟨#[]⟩ ll:=by
 intro b cap w
 have B0:=hide (below_new w (.cells #[.int .i64 10,.int .i64 0,.string ⟨#[]⟩,.slice b ll cap] 26))
 have V:hereV (10) 0 ⟨#[]⟩ ll=(ll == 2):=by simp [hereV,Ex.here,eqE,eqE1, *]
 rw [V]
 clear V
 by_cases h0:ll=2
 ·
  subst h0
  go_enter Tryz.func184,Tryz.ntmps184
  go_wp2
  go_ret
  exact ⟨rfl,uh B0⟩
 ·
  have h1:(ll == 2)=false:=beq_eq_false_iff_ne.2 h0
  have h2:((ll:Int) == 2)=false:=beq_eq_false_iff_ne.2 (by omega)
  rw [h1]
  clear h1 h0
  go_enter Tryz.func184,Tryz.ntmps184
  go_wp2
  go_ret
  exact ⟨rfl,uh B0⟩
theorem here_n (n:Int) (s:ByteArray) (ll:Nat) (k:Int) (h1:k≠1) (h2:k≠2) (h3:k≠3) (h4:k≠4) (h5:k≠5) (h6:k≠6) (h7:k≠7) (h8:k≠8) (h9:k≠9) (h10:k≠10) (h11:k≠11) (h12:k≠12) (h:n≠0) (hs:s.size≤1099511627776) (hl:ll≤9223372036854775807):HereG k n s ll:=by
 intro b cap w
 have B0:=hide (below_new w (.cells #[.int .i64 k,.int .i64 n,.string s,.slice b ll cap] 26))
 have g1:(k == 1)=false:=beq_eq_false_iff_ne.2 h1
 have g2:(k == 2)=false:=beq_eq_false_iff_ne.2 h2
 have g3:(k == 3)=false:=beq_eq_false_iff_ne.2 h3
 have g4:(k == 4)=false:=beq_eq_false_iff_ne.2 h4
 have g5:(k == 5)=false:=beq_eq_false_iff_ne.2 h5
 have g6:(k == 6)=false:=beq_eq_false_iff_ne.2 h6
 have g7:(k == 7)=false:=beq_eq_false_iff_ne.2 h7
 have g8:(k == 8)=false:=beq_eq_false_iff_ne.2 h8
 have g9:(k == 9)=false:=beq_eq_false_iff_ne.2 h9
 have g10:(k == 10)=false:=beq_eq_false_iff_ne.2 h10
 have g11:(k == 11)=false:=beq_eq_false_iff_ne.2 h11
 have g12:(k == 12)=false:=beq_eq_false_iff_ne.2 h12
 have m1:(k != 1)=true:=by simp [h1]
 have m2:(k != 2)=true:=by simp [h2]
 have m11:(k != 11)=true:=by simp [h11]
 have m12:(k != 12)=true:=by simp [h12]
 have V:hereV k n s ll=false:=by unfold hereV Ex.here;simp only;split;rfl;repeat (first|rfl|rw [if_neg (by omega)])
 rw [V]
 clear V
 go_enter Tryz.func184,Tryz.ntmps184
 go_wp2
 go_ret
 exact ⟨rfl,uh B0⟩
theorem here_s (n:Int) (s:ByteArray) (ll:Nat) (k:Int) (h1:k≠1) (h2:k≠2) (h3:k≠3) (h4:k≠4) (h5:k≠5) (h6:k≠6) (h7:k≠7) (h8:k≠8) (h9:k≠9) (h10:k≠10) (h11:k≠11) (h12:k≠12) (h:s≠E0) (hs:s.size≤1099511627776) (hl:ll≤9223372036854775807):HereG k 0 s ll:=by
 intro b cap w
 have B0:=hide (below_new w (.cells #[.int .i64 k,.int .i64 0,.string s,.slice b ll cap] 26))
 have g1:(k == 1)=false:=beq_eq_false_iff_ne.2 h1
 have g2:(k == 2)=false:=beq_eq_false_iff_ne.2 h2
 have g3:(k == 3)=false:=beq_eq_false_iff_ne.2 h3
 have g4:(k == 4)=false:=beq_eq_false_iff_ne.2 h4
 have g5:(k == 5)=false:=beq_eq_false_iff_ne.2 h5
 have g6:(k == 6)=false:=beq_eq_false_iff_ne.2 h6
 have g7:(k == 7)=false:=beq_eq_false_iff_ne.2 h7
 have g8:(k == 8)=false:=beq_eq_false_iff_ne.2 h8
 have g9:(k == 9)=false:=beq_eq_false_iff_ne.2 h9
 have g10:(k == 10)=false:=beq_eq_false_iff_ne.2 h10
 have g11:(k == 11)=false:=beq_eq_false_iff_ne.2 h11
 have g12:(k == 12)=false:=beq_eq_false_iff_ne.2 h12
 have m1:(k != 1)=true:=by simp [h1]
 have m2:(k != 2)=true:=by simp [h2]
 have m11:(k != 11)=true:=by simp [h11]
 have m12:(k != 12)=true:=by simp [h12]
 obtain ⟨hh1,hh2⟩:=emp_E s h
 have V:hereV k 0 s ll=false:=by unfold hereV Ex.here;simp only;split;rfl;repeat (first|rfl|rw [if_neg (by omega)])
 rw [V]
 clear V
 go_enter Tryz.func184,Tryz.ntmps184
 go_wp2
 go_ret
 exact ⟨rfl,uh B0⟩
theorem here_0 (n:Int) (s:ByteArray) (ll:Nat) (k:Int) (h1:k≠1) (h2:k≠2) (h3:k≠3) (h4:k≠4) (h5:k≠5) (h6:k≠6) (h7:k≠7) (h8:k≠8) (h9:k≠9) (h10:k≠10) (h11:k≠11) (h12:k≠12) (hs:s.size≤1099511627776) (hl:ll≤9223372036854775807):HereG k 0 ⟨#[]⟩ ll:=by
 intro b cap w
 have B0:=hide (below_new w (.cells #[.int .i64 k,.int .i64 0,.string ⟨#[]⟩,.slice b ll cap] 26))
 have g1:(k == 1)=false:=beq_eq_false_iff_ne.2 h1
 have g2:(k == 2)=false:=beq_eq_false_iff_ne.2 h2
 have g3:(k == 3)=false:=beq_eq_false_iff_ne.2 h3
 have g4:(k == 4)=false:=beq_eq_false_iff_ne.2 h4
 have g5:(k == 5)=false:=beq_eq_false_iff_ne.2 h5
 have g6:(k == 6)=false:=beq_eq_false_iff_ne.2 h6
 have g7:(k == 7)=false:=beq_eq_false_iff_ne.2 h7
 have g8:(k == 8)=false:=beq_eq_false_iff_ne.2 h8
 have g9:(k == 9)=false:=beq_eq_false_iff_ne.2 h9
 have g10:(k == 10)=false:=beq_eq_false_iff_ne.2 h10
 have g11:(k == 11)=false:=beq_eq_false_iff_ne.2 h11
 have g12:(k == 12)=false:=beq_eq_false_iff_ne.2 h12
 have m1:(k != 1)=true:=by simp [h1]
 have m2:(k != 2)=true:=by simp [h2]
 have m11:(k != 11)=true:=by simp [h11]
 have m12:(k != 12)=true:=by simp [h12]
 have V:hereV k 0 ⟨#[]⟩ ll=false:=by unfold hereV Ex.here;simp only;split;rfl;repeat (first|rfl|rw [if_neg (by omega)])
 rw [V]
 clear V
 go_enter Tryz.func184,Tryz.ntmps184
 go_wp2
 go_ret
 exact ⟨rfl,uh B0⟩
theorem hereS_any (e:Ex) (b:Option Addr) (cap:Nat) (w:World) (hs:e.s.size≤1099511627776) (hl:e.l.length≤9223372036854775807):Calls Tryz.prog 184 #[.agg (e.cs b cap)] w fun r w'=>r = .returned (.bool e.here)∧Below w.heap.size w w':=by
 rw [here_is]
 unfold Ex.cs
 obtain ⟨k,n,s,l⟩:=e
 simp only at hs hl ⊢
 generalize l.length=ll at *
 revert b cap w
 show HereG k n s ll
 by_cases c1:k=1
 ·
  subst c1
  by_cases h:s=E0
  · subst h;exact here1_0 n E0 ll hs hl
  · exact here1_s n s ll h hs hl
 by_cases c11:k=11
 ·
  subst c11
  by_cases h:s=E0
  · subst h;exact here11_0 n E0 ll hs hl
  · exact here11_s n s ll h hs hl
 by_cases c2:k=2
 ·
  subst c2
  by_cases h:n=0
  · subst h;exact here2_0 0 s ll hs hl
  · exact here2_n n s ll h hs hl
 by_cases c12:k=12
 ·
  subst c12
  by_cases h:n=0
  · subst h;exact here12_0 0 s ll hs hl
  · exact here12_n n s ll h hs hl
 by_cases c3:k=3
 ·
  subst c3
  by_cases h:n=0
  ·
   subst h
   by_cases h:s=E0
   · subst h;exact here3_0 0 E0 ll hs hl
   · exact here3_s 0 s ll h hs hl
  · exact here3_n n s ll h hs hl
 by_cases c4:k=4
 ·
  subst c4
  by_cases h:n=0
  ·
   subst h
   by_cases h:s=E0
   · subst h;exact here4_0 0 E0 ll hs hl
   · exact here4_s 0 s ll h hs hl
  · exact here4_n n s ll h hs hl
 by_cases c5:k=5
 ·
  subst c5
  by_cases h:n=0
  ·
   subst h
   by_cases h:s=E0
   · subst h;exact here5_0 0 E0 ll hs hl
   · exact here5_s 0 s ll h hs hl
  · exact here5_n n s ll h hs hl
 by_cases c6:k=6
 ·
  subst c6
  by_cases h:n=0
  ·
   subst h
   by_cases h:s=E0
   · subst h;exact here6_0 0 E0 ll hs hl
   · exact here6_s 0 s ll h hs hl
  · exact here6_n n s ll h hs hl
 by_cases c7:k=7
 ·
  subst c7
  by_cases h:n=0
  ·
   subst h
   by_cases h:s=E0
   · subst h;exact here7_0 0 E0 ll hs hl
   · exact here7_s 0 s ll h hs hl
  · exact here7_n n s ll h hs hl
 by_cases c8:k=8
 ·
  subst c8
  by_cases h:n=0
  ·
   subst h
   by_cases h:s=E0
   · subst h;exact here8_0 0 E0 ll hs hl
   · exact here8_s 0 s ll h hs hl
  · exact here8_n n s ll h hs hl
 by_cases c9:k=9
 ·
  subst c9
  by_cases h:n=0
  ·
   subst h
   by_cases h:s=E0
   · subst h;exact here9_0 0 E0 ll hs hl
   · exact here9_s 0 s ll h hs hl
  · exact here9_n n s ll h hs hl
 by_cases c10:k=10
 ·
  subst c10
  by_cases h:n=0
  ·
   subst h
   by_cases h:s=E0
   · subst h;exact here10_0 0 E0 ll hs hl
   · exact here10_s 0 s ll h hs hl
  · exact here10_n n s ll h hs hl
 by_cases h:n=0
 ·
  subst h
  by_cases h:s=E0
  · subst h;exact here_0 0 E0 ll k c1 c2 c3 c4 c5 c6 c7 c8 c9 c10 c11 c12 hs hl
  · exact here_s 0 s ll k c1 c2 c3 c4 c5 c6 c7 c8 c9 c10 c11 c12 h hs hl
 · exact here_n n s ll k c1 c2 c3 c4 c5 c6 c7 c8 c9 c10 c11 c12 h hs hl
theorem infoX:(Tryz.prog.info? 26).map (fun i=>(i.zero,i.size,i.bytes))=some (some (.agg #[.int .i64 0,.int .i64 0,.string ⟨#[]⟩,.slice none 0 0]),4,56):=by kernel_rfl
theorem sz_part {l:List Ex} {i:Nat} (h:i<l.length):(xAt l i).sz≤szX l:=by
 have h1:=szX_take l i h
 have h2:=szX_le l (i+1)
 omega
def OwIn (w:World) (cs:List Value) (i:Nat) (x:Ex) (F:List Nat):Prop:=cs[i*4]?=some (.int .i64 x.k)∧cs[i*4+1]?=some (.int .i64 x.n)∧cs[i*4+2]?=some (.string x.s)∧∃ c cap,cs[i*4+3]?=some (.slice c x.l.length cap)∧OwX w x c F
theorem OwIn.keep {w w':World} {cs:List Value} {i:Nat} {x:Ex} {F:List Nat} (h:OwIn w cs i x F) (hk:∀ b∈F,w'.heap[b]?=w.heap[b]?):OwIn w' cs i x F:=by
 obtain ⟨h0,h1,h2,c,cap,h3,h4⟩:=h
 exact ⟨h0,h1,h2,c,cap,h3,OwX.keep _ _ _ hk h4⟩
theorem ownsRow_later {w w':World} {B g n cap m:Nat} {t:TypeId} {cs:List Value} (h:w.ownsRow B t m (.slice (some ⟨g,0,none⟩) n cap) n cs) (hb:Below w.heap.size w w'):w'.ownsRow B t m (.slice (some ⟨g,0,none⟩) n cap) n cs:=by
 obtain ⟨h1,h2|⟨g,cap,cur,e,hg,hh,r⟩⟩:=h
 · exact ⟨h1,.inl h2⟩
 · exact ⟨h1,.inr ⟨g,cap,cur,e,hg,(hb.block g (Array.getElem?_eq_some_iff.1 hh).1).trans hh,r⟩⟩
theorem flat_snoc (Fs:List (List Nat)) (F:List Nat):(Fs++[F]).flatten=Fs.flatten++F:=by simp
theorem getD_snoc_lt {Fs:List (List Nat)} {F:List Nat} {i:Nat} (h:i<Fs.length):(Fs++[F]).getD i []=Fs.getD i []:=by
 rw [List.getD_eq_getElem?_getD,List.getD_eq_getElem?_getD,List.getElem?_append_left h]
theorem getD_snoc_eq {Fs:List (List Nat)} {F:List Nat} {i:Nat} (h:i=Fs.length):(Fs++[F]).getD i []=F:=by
 rw [List.getD_eq_getElem?_getD,h,List.getElem?_append_right (Nat.le_refl _)]
 simp
theorem nodup_snoc {a b:List Nat} {M:Nat} (ha:a.Nodup) (hb:b.Nodup) (h1:∀ x∈a,x<M) (h2:∀ x∈b,M≤x):(a++b).Nodup:=by
 rw [List.nodup_append]
 exact ⟨ha,hb,fun x hx y hy e=>by have:=h1 x hx;have:=h2 y hy;omega⟩
theorem box4 (w:World) (e:Ex) (b:Option Addr) (cap:Nat) (ty:TypeId):(w.alloc (.cells (e.cs b cap) ty)).cell? ⟨w.heap.size,0,none⟩=some (.int .i64 e.k)∧(w.alloc (.cells (e.cs b cap) ty)).cell? ⟨w.heap.size,1,none⟩=some (.int .i64 e.n)∧(w.alloc (.cells (e.cs b cap) ty)).cell? ⟨w.heap.size,2,none⟩=some (.string e.s)∧(w.alloc (.cells (e.cs b cap) ty)).cell? ⟨w.heap.size,3,none⟩=some (.slice b e.l.length cap):=by
 have h:(w.alloc (.cells (e.cs b cap) ty)).heap[w.heap.size]?=some (.cells (e.cs b cap) ty (0,0)):=Array.getElem?_push_size
 exact ⟨Lib.cell_of_heap h 0,Lib.cell_of_heap h 1,Lib.cell_of_heap h 2,Lib.cell_of_heap h 3⟩
theorem all_take (l:List Ex) (f:Ex→Bool) (k:Nat) (h:k<l.length):(l.take (k+1)).all f=((l.take k).all f&&f (xAt l k)):=by
 rw [List.take_succ_eq_append_getElem h,List.all_append,xAt_get h]
 simp
theorem all_part {l:List Ex} {f:Ex→Bool} {k:Nat} (h:k<l.length) (hf:f (xAt l k)=false):l.all f=false:=by
 rw [List.all_eq_false]
 exact ⟨_,xAt_mem h,by rw [hf];decide⟩
theorem okF_s (d:Nat) (p:Bool) (e:Ex):okF (d+1) p e=(e.here&&(!(p&&(e.k == 11 || e.k == 12))&&e.l.all (okF d p))):=rfl
theorem okS_all:∀ d:Nat,d≤6→∀ (e:Ex) (b:Option Addr) (cap:Nat) (p:Bool) (w:World),RdX w 0 e b→e.sz≤1048576→Calls Tryz.prog 127 #[.agg (e.cs b cap),.int .i64 (7-(d:Int)),.bool p] w fun r w'=>r = .returned (.bool (okF d p e))∧Below w.heap.size w w':=by
 intro d
 induction d with
 | zero =>
  intro _ e b cap p w hr hz
  have B0:=hide (below_new w (.cells (e.cs b cap) 26))
  rw [show okF 0 p e=false from rfl]
  unfold Ex.cs at B0 ⊢
  go_enter Tryz.func127,Tryz.ntmps127
  go_wp2
  go_ret
  exact ⟨rfl,uh B0⟩
 | succ d ih =>
  intro hd e b cap p w hr hz
  have hsz:=sz_is e
  rw [okF_s]
  have hbW:=below_new w (.cells (e.cs b cap) 26)
  have B0:=hide hbW
  have HH:=hereS_any e b cap (w.alloc (.cells (e.cs b cap) 26)) (by omega) (by omega)
  obtain ⟨x0,x1,x2,x3⟩:=box4 w e b cap 26
  have xl:w.heap.size<(w.alloc (.cells (e.cs b cap) 26)).heap.size:=by simp
  have hrW:=hr.later hbW
  rw [RdX_eq] at hrW
  have hp:∀ i,i<e.l.length→(xAt e.l i).sz≤1048576:=fun i hi=>by have:=sz_part hi;omega
  have hm:e.l.length≤1048576:=by omega
  have ihd:=ih (by omega)
  have hD:(7:Int)-((d+1:Nat):Int)+1=7-(d:Int):=by omega
  have hD6:¬ (6<(7:Int)-((d+1:Nat):Int)):=by omega
  have hDb : -100≤(7:Int)-((d+1:Nat):Int)∧(7:Int)-((d+1:Nat):Int)≤100:=by omega
  generalize hDD:(7:Int)-((d+1:Nat):Int)=DD at *
  clear hr hsz hz hbW ih hDD
  generalize e.here=hq at *
  unfold Ex.cs at B0 HH x0 x1 x2 x3 xl hrW ⊢
  generalize e.l=l at *
  generalize e.k=k at *
  generalize e.n=n at *
  generalize e.s=s at *
  obtain ⟨len,hl⟩:∃ len,l.length=len:=⟨_,rfl⟩
  rw [hl] at hm hp HH x0 x1 x2 x3 B0 xl hrW ⊢
  obtain ⟨W,hW⟩:∃ W,w.alloc (.cells #[.int .i64 k,.int .i64 n,.string s,.slice b len cap] 26)=W:=⟨_,rfl⟩
  rw [hW] at HH x0 x1 x2 x3 B0 xl hrW
  have HC:=hide HH
  have E0:∀ y:Sub W.heap.size W,y.w.cell? ⟨w.heap.size,0,none⟩=_:=fun y=>(y.h.cell (p:=⟨w.heap.size,_,none⟩) xl).trans x0
  have E3:∀ y:Sub W.heap.size W,y.w.cell? ⟨w.heap.size,3,none⟩=_:=fun y=>(y.h.cell (p:=⟨w.heap.size,_,none⟩) xl).trans x3
  have ne:=Sub.ne W.heap.size W
  have HZ:=hide (Nat.le_refl W.heap.size)
  have HB:=hide (fun y:Sub W.heap.size W=>(uh B0).trans (y.h.mono (uh B0).size))
  clear HH xl
  obtain ⟨T,hT⟩:∃ T,(hq&&(!(p&&(k == 11 || k == 12))&&l.all (okF d p)))=T:=⟨_,rfl⟩
  have HT:=hide hT
  rw [hT]
  clear hT
  go_enter Tryz.func127,Tryz.ntmps127
  go_wp2_with fail
  refine (Sub.call (x:=⟨W,Below.refl _ _⟩) (uh HZ) (uh HC)).mono ?_
  rintro r _ ⟨rfl,y,rfl⟩
  clear HC x0 x1 x2 x3
  cases hq with
  | false =>
   have EF:=hide ((uh HT).symm.trans (Bool.false_and _))
   go_wp2
   go_ret
   exact ⟨by rw [uh EF];rfl,uh HB _⟩
  | true =>
   by_cases hx:(p&&(k == 11 || k == 12))=true
   ·
    have EF:=hide (show T=false by rw [←uh HT,hx];rfl)
    have hpp:p=true:=by cases p with|true=>rfl|false=>simp at hx
    subst hpp
    by_cases h11:k=11
    ·
     subst h11
     go_wp2
     go_ret
     exact ⟨by rw [uh EF];rfl,uh HB _⟩
    ·
     have h12:k=12:=by simpa [h11] using hx
     subst h12
     go_wp2
     go_ret
     exact ⟨by rw [uh EF];rfl,uh HB _⟩
   ·
    have hxf:(p&&(k == 11 || k == 12))=false:=by simpa using hx
    rw [hxf] at HT
    have HT:=hide (show l.all (okF d p)=T by rw [←uh HT];simp)
    clear hxf
    cases p with
    | false =>
     clear hx
     go_wp2
     go_loopw [7] (fun i wr=>∃ (j:Nat) (z:Sub W.heap.size W),j≤len∧i = .int .i64 j∧(l.take j).all (okF d false)=true∧wr=z.w) (fun i _=>len-(intOf i).toNat)
     case atStart=>exact ⟨0,y,Nat.zero_le _,rfl,rfl,rfl⟩
     case round =>
      obtain ⟨j,z,hj,rfl,hdone,rfl⟩:=hrel
      have HD:=hide hdone
      clear hdone
      by_cases hlt:j<len
      ·
       rcases hrW with h0|⟨p1,po,hb1,_,hp1,hpc⟩
       · rw [h0] at hl;simp at hl;omega
       subst hb1
       obtain ⟨e0,e1,e2,pc,pp,e3,e4⟩:=hpc j (by omega)
       have d0:∀ y:Sub W.heap.size W,y.w.cell? ⟨p1,po+j*4,none⟩=_:=fun y=>(y.h.cell (p:=⟨p1,_,none⟩) hp1).trans e0
       have d1:∀ y:Sub W.heap.size W,y.w.cell? ⟨p1,po+j*4+1,none⟩=_:=fun y=>(y.h.cell (p:=⟨p1,_,none⟩) hp1).trans e1
       have d2:∀ y:Sub W.heap.size W,y.w.cell? ⟨p1,po+j*4+2,none⟩=_:=fun y=>(y.h.cell (p:=⟨p1,_,none⟩) hp1).trans e2
       have d3:∀ y:Sub W.heap.size W,y.w.cell? ⟨p1,po+j*4+3,none⟩=_:=fun y=>(y.h.cell (p:=⟨p1,_,none⟩) hp1).trans e3
       have HE:=hide (fun y:Sub W.heap.size W=>ihd (xAt l j) pc pp false y.w (e4.later y.h) (hp j hlt))
       have AT:=hide (all_take l (okF d false) j (by omega))
       have AP:=hide (fun h=>all_part (f:=okF d false) (show j<l.length by omega) h)
       clear e0 e1 e2 e3 e4 hpc ihd hp
       unfold Ex.cs at HE
       generalize okF d false (xAt l j)=q at *
       generalize (xAt l j).s=ss at *
       generalize (xAt l j).k=kk at *
       generalize (xAt l j).n=nn at *
       generalize (xAt l j).l.length=ll at *
       cases q with
       | false =>
        have EF:=hide ((uh HT).symm.trans (uh AP rfl))
        go_wp2_with (go_at_call 127;refine (Sub.call (uh HZ) (uh HE _)).mono ?_;rintro r _ ⟨rfl,z2,rfl⟩)
        go_ret
        exact ⟨by rw [uh EF];rfl,uh HB _⟩
       | true =>
        go_wp2_with (go_at_call 127;refine (Sub.call (uh HZ) (uh HE _)).mono ?_;rintro r _ ⟨rfl,z2,rfl⟩)
        go_roundw
        case rel=>exact ⟨j+1,z2,by omega,by go_num,by rw [uh AT,uh HD];rfl,rfl⟩
        case measure=>simp [intOf];omega
      ·
       obtain rfl:j=len:=by omega
       have EF:=hide ((uh HT).symm.trans ((show l.all (okF d false)=(l.take j).all (okF d false) by rw [←hl,List.take_length]).trans (uh HD)))
       go_wp2
       go_ret
       exact ⟨by rw [uh EF];rfl,uh HB _⟩
    | true =>
     have h11:(k == 11)=false:=by simp at hx;simp [hx.1]
     have h12:(k == 12)=false:=by simp at hx;simp [hx.2]
     clear hx
     go_wp2
     go_loopw [7] (fun i wr=>∃ (j:Nat) (z:Sub W.heap.size W),j≤len∧i = .int .i64 j∧(l.take j).all (okF d true)=true∧wr=z.w) (fun i _=>len-(intOf i).toNat)
     case atStart=>exact ⟨0,y,Nat.zero_le _,rfl,rfl,rfl⟩
     case round =>
      obtain ⟨j,z,hj,rfl,hdone,rfl⟩:=hrel
      have HD:=hide hdone
      clear hdone
      by_cases hlt:j<len
      ·
       rcases hrW with h0|⟨p1,po,hb1,_,hp1,hpc⟩
       · rw [h0] at hl;simp at hl;omega
       subst hb1
       obtain ⟨e0,e1,e2,pc,pp,e3,e4⟩:=hpc j (by omega)
       have d0:∀ y:Sub W.heap.size W,y.w.cell? ⟨p1,po+j*4,none⟩=_:=fun y=>(y.h.cell (p:=⟨p1,_,none⟩) hp1).trans e0
       have d1:∀ y:Sub W.heap.size W,y.w.cell? ⟨p1,po+j*4+1,none⟩=_:=fun y=>(y.h.cell (p:=⟨p1,_,none⟩) hp1).trans e1
       have d2:∀ y:Sub W.heap.size W,y.w.cell? ⟨p1,po+j*4+2,none⟩=_:=fun y=>(y.h.cell (p:=⟨p1,_,none⟩) hp1).trans e2
       have d3:∀ y:Sub W.heap.size W,y.w.cell? ⟨p1,po+j*4+3,none⟩=_:=fun y=>(y.h.cell (p:=⟨p1,_,none⟩) hp1).trans e3
       have HE:=hide (fun y:Sub W.heap.size W=>ihd (xAt l j) pc pp true y.w (e4.later y.h) (hp j hlt))
       have AT:=hide (all_take l (okF d true) j (by omega))
       have AP:=hide (fun h=>all_part (f:=okF d true) (show j<l.length by omega) h)
       clear e0 e1 e2 e3 e4 hpc ihd hp
       unfold Ex.cs at HE
       generalize okF d true (xAt l j)=q at *
       generalize (xAt l j).s=ss at *
       generalize (xAt l j).k=kk at *
       generalize (xAt l j).n=nn at *
       generalize (xAt l j).l.length=ll at *
       cases q with
       | false =>
        have EF:=hide ((uh HT).symm.trans (uh AP rfl))
        go_wp2_with (go_at_call 127;refine (Sub.call (uh HZ) (uh HE _)).mono ?_;rintro r _ ⟨rfl,z2,rfl⟩)
        go_ret
        exact ⟨by rw [uh EF];rfl,uh HB _⟩
       | true =>
        go_wp2_with (go_at_call 127;refine (Sub.call (uh HZ) (uh HE _)).mono ?_;rintro r _ ⟨rfl,z2,rfl⟩)
        go_roundw
        case rel=>exact ⟨j+1,z2,by omega,by go_num,by rw [uh AT,uh HD];rfl,rfl⟩
        case measure=>simp [intOf];omega
      ·
       obtain rfl:j=len:=by omega
       have EF:=hide ((uh HT).symm.trans ((show l.all (okF d true)=(l.take j).all (okF d true) by rw [←hl,List.take_length]).trans (uh HD)))
       go_wp2
       go_ret
       exact ⟨by rw [uh EF];rfl,uh HB _⟩
theorem plainS_any (e:Ex) (b:Option Addr) (cap:Nat) (w:World) (hr:RdX w 0 e b) (hz:e.sz≤1048576):Calls Tryz.prog 63 #[.agg (e.cs b cap)] w fun r w'=>r = .returned (.bool (okF 6 true e))∧Below w.heap.size w w':=by
 have B0:=below_new w (.cells (e.cs b cap) 26)
 have H:=(okS_all 6 (by omega) e b cap true _ (hr.later B0) hz).mono (R':=fun r w'=>r = .returned (.bool (okF 6 true e))∧Below w.heap.size w w') (fun r w' h=>⟨h.1,B0.trans (h.2.mono B0.size)⟩)
 rw [show (7:Int)-((6:Nat):Int)=1 by omega] at H
 have HH:=hide H
 clear H hr B0
 unfold Ex.cs at HH ⊢
 generalize okF 6 true e=q at *
 generalize e.l.length=ll at *
 go_enter Tryz.func63,Tryz.ntmps63
 go_wp2_with (go_at_call 127;refine (uh HH).mono ?_;rintro r w1 ⟨rfl,hb1⟩)
 go_ret
 exact ⟨rfl,hb1⟩
theorem infoT:(Tryz.prog.info? 71).map (fun i=>(i.zero,i.size,i.bytes))=some (some (.agg #[.int .i64 0,.int .i64 0,.string ⟨#[]⟩]),3,32):=by kernel_rfl
section
section
variable {w wr w':World} {bs cs:List UInt8}
end
theorem tri_cells {W:World} {g:Nat} {t:Tk} {ty:TypeId} (h:W.heap[g]?=some (.cells t.cs ty (0,0))):W.cell? ⟨g,0,none⟩=some (.int .i64 t.k)∧W.cell? ⟨g,1,none⟩=some (.int .i64 t.n)∧W.cell? ⟨g,2,none⟩=some (.string t.s) :=
 ⟨Lib.cell_of_heap h 0,Lib.cell_of_heap h 1,Lib.cell_of_heap h 2⟩
end
end Go.Proofs.YtjnblcgekpgkoaaGreatDoor
