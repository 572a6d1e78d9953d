import Derived.Test.YtpdahhnjhggocaaGreatDoorMu2
import Derived.Lib.ItoaMem
import Derived.Lib.AtoiAllCases
import Derived.Deep.RegionWith
import Derived.Shelf.Strconv.ErrVarAll
import Derived.Shelf.Strconv.Itoa3
import Derived.Shelf.LaysC
import Derived.Lib.AppendIntMem
open Go.Proofs.Tryz
open Go.Ending renaming returned->aa
open Go.RowKit.Below renaming refl->ab
open Bool renaming and_eq_true->ac,or_eq_true->ah,eq_iff_iff->aK
open Go.Value renaming string->ad,tuple->aW,pointer->bL
open Go.ByteArray renaming toList_eq->ae
open Option renaming some->af
open Go.Lib renaming atoiAll->ag,itoa->am,pow10Tab->bK
open UInt8 renaming ofNat->ai
open Nat renaming le_refl->aj,zero_le->al,strongRecOn->aU
open List renaming all_cons->ak,length_cons->aA,head?_cons->aI,all_append->aJ
open Go.IntKind renaming wrap_i64->an,i64->aV
open Go.Proofs.Tryz renaming zeroValue359->ao,zeroValue358->ap,zeroValue339->aq,zeroValue331->ar,zeroValue329->au,zeroValue279->av,zeroValue277->aw,zeroValue215->ax,zeroValue22->ay,zeroValue20->az,zeroValue9->aC,zeroValue5->aD,zeroValue4->aE,zeroValue3->aF,zeroValue2->aG,zeroValue0->aH,sizeOf359->aL,sizeOf358->aM,sizeOf340->aN,sizeOf339->aO,sizeOf331->aP,sizeOf329->aQ,sizeOf279->aR,sizeOf277->aS,sizeOf215->aT,sizeOf22->aX,sizeOf20->aY,isAgg359->aZ,isAgg358->a6,isAgg340->a7,isAgg339->a8,isAgg331->ba,isAgg329->bb,isAgg279->bc,isAgg277->bd,isAgg215->be,sizeOf9->bh,sizeOf5->bi,sizeOf4->bj,sizeOf3->bk,sizeOf2->bl,sizeOf0->bm,isAgg22->bn,isAgg20->bo,func291->bp,func290->bq,func282->br,func281->bs,func280->bt,func279->bu,func272->bv,func271->bw,func270->bx,func269->bz,func260->bA,func242->bB,func216->bC,func201->bD,isAgg9->bE,isAgg5->bF,isAgg4->bG,isAgg3->bH,isAgg2->bI,isAgg0->bJ
open Go.Shelf renaming Ren->aB
open Go.Proofs.LaysM renaming n171->bf
open Go.Proofs.LaysC renaming n172->bg
open Go.Obj renaming cells->bM
namespace Go.Proofs.YtpdahhnjhggocaaGreatDoor
open Go.RowKit
set_option maxHeartbeats 16000000
set_option maxRecDepth 100000
section
open Go.Lib
def DO(c:UInt8):Bool:=decide (48<=c.toNat)&&decide (c.toNat<=57)
def Ad8(a:Nat)(c:UInt8):Nat:=a*10+(c.toNat-48)
def C6(a:Nat)(l:List UInt8):Nat:=l.foldl Ad8 a
theorem Di(a:Nat):C6 a []=a:=by rw[C6,List.foldl_nil]
theorem Dz(a:Nat)(c:UInt8)(r:List UInt8):C6 a (c::r)=C6 (a*10+(c.toNat-48)) r:=by
 rw[C6,List.foldl_cons,C6,Ad8]
def Hd(l:List UInt8):Nat:=C6 0 l
def CQ(l:List UInt8):Bool:=(decide (1<=l.length)&&decide (l.length<=7))&&l.all DO&&(decDigits (Hd l)==l&&decide (Hd l<=1000000))
def E8(l:List UInt8):Bool:=CQ l || (decide (1<l.length)&&l.head? == af 45&&l.tail != [48]&&CQ l.tail)
def decB(least:Int)(l:List UInt8):Bool:=match atoiAll l with
 | .ok v=>decide (least<=v)&&decide (v<=1000000)&&itoa v==l
 | _=>false
theorem He(l m:List UInt8)(a:Nat):C6 a (l++m)=C6 (C6 a l) m:=by
 rw[C6,List.foldl_append,C6,C6]
theorem UG(l:List UInt8)(a:Nat):a<=C6 a l:=by
 induction l generalizing a with
 | nil=>rw[Di];exact aj _
 | cons c l b=>rw[Dz];exact Nat.le_trans (by omega) (b _)
theorem UH(d:Nat)(h:d<10):(ai (48+d)).toNat=48+d:=by rw[UInt8.toNat_ofNat'];omega
theorem Jh(u:Nat):(decDigits u).all DO=true/\Hd (decDigits u)=u:=by
 induction u using aU with
 | _ u a =>
  by_cases h:u<10
  ·rw[decDigits,dif_pos h];have:=UH u h;refine⟨?_,?_⟩
   ·simp[DO];omega
   ·rw[Hd,Dz,Di,this];omega
  ·rw[decDigits,dif_neg h];obtain⟨b,i2⟩:=a (u/10) (by omega);have:=UH (u%10) (by omega);refine⟨?_,?_⟩
   ·rw[aJ,b];simp[DO];omega
   ·unfold Hd at i2⊢;rw[He,i2];rw[Dz,Di,this];omega
theorem Hf(u:Nat)(h:u<=1000000):nDigits u<=7:=by
 by_cases a:u<10
 ·rw[nDigits_small a];omega
 ·rw[nDigits_big a];by_cases h1:u/10<10
  ·rw[nDigits_small h1];omega
  ·rw[nDigits_big h1];by_cases b:u/10/10<10
   ·rw[nDigits_small b];omega
   ·rw[nDigits_big b];by_cases c:u/10/10/10<10
    ·rw[nDigits_small c];omega
    ·rw[nDigits_big c];by_cases d:u/10/10/10/10<10
     ·rw[nDigits_small d];omega
     ·rw[nDigits_big d];by_cases e:u/10/10/10/10/10<10
      ·rw[nDigits_small e];omega
      ·rw[nDigits_big e,nDigits_small (by omega)];omega
theorem St(u:Nat)(h:u<=1000000):CQ (decDigits u)=true:=by
 have a:=Jh u;have b:=decDigits_length u;have h1:=nDigits_pos u;have c:=Hf u h;unfold CQ;rw[a.1,a.2,b];simp[h1,c,h]
theorem E9(l:List UInt8):CQ l=true↔∃u,u<=1000000/\l=decDigits u:=by
 constructor
 ·intro h;unfold CQ at h;simp only[ac,beq_iff_eq,decide_eq_true_eq]at h;exact⟨Hd l,h.2.2,h.2.1.symm⟩
 ·rintro⟨u,h,rfl⟩;exact St u h
theorem UI(l:List UInt8)(a:Nat)(b:l.all DO=true)(d:C6 a l<10000000):parseUint10 a l=.ok (C6 a l):=by
 induction l generalizing a with
 | nil=>rw[Di];rfl
 | cons c l e =>
  simp only[ak,ac,DO,decide_eq_true_eq]at b;rw[Dz]at d⊢;have f:=UG l (a*10+(c.toNat-48));simp only[parseUint10];rw[if_pos (by omega),if_neg (by omega),if_neg (by omega)];exact e _ b.2 d
theorem OQ(u:Nat)(h:u<=1000000):parseMag (decDigits u)=.ok u:=by
 have a:=Jh u;have b:decDigits u≠[]:=fun e=>by have:=decDigits_length u;rw[e]at this;have:=nDigits_pos u;simp at *;omega
 unfold parseMag;rw[if_neg b,UI _ 0 a.1 (by have:=a.2;unfold Hd at this;omega)];exact congrArg _ a.2
theorem Su(u:Nat)(h:u<=1000000):atoiAll (decDigits u)=.ok (u:Int):=by
 have a:=OQ u h;have b:=(Jh u).1;cases d:decDigits u with
 | nil=>have:=decDigits_length u;rw[d]at this;have:=nDigits_pos u;simp at *;omega
 | cons c r =>
  rw[d]at b a;simp only[ak,ac,DO,decide_eq_true_eq]at b;rw[atoiAll_plain c r (by omega) (by omega),a];unfold signless;dsimp only;rw[if_neg (by omega)]
theorem Zb(u:Nat)(h:u<=1000000):atoiAll (45::decDigits u)=.ok (-(u:Int)):=by
 rw[atoiAll_minus,OQ u h];unfold signed;dsimp only;rw[if_neg (by omega)]
theorem Xs(l:List UInt8):decB 0 l=CQ l:=by
 rw[aK,E9];constructor
 ·intro h;unfold decB at h;split at h
  ·rename_i v b;simp only[ac,beq_iff_eq,decide_eq_true_eq]at h;obtain⟨⟨h1,c⟩,a⟩:=h;obtain⟨u,rfl⟩:∃u:Nat,v=(u:Int):=⟨v.toNat,by omega⟩;exact⟨u,by omega,by rw[<-a,itoa_nonneg]⟩
  ·cases h
 ·rintro⟨u,h,rfl⟩;unfold decB;rw[Su u h];simp only[ac,beq_iff_eq,decide_eq_true_eq];exact⟨⟨by omega,by omega⟩,itoa_nonneg u⟩
theorem Zc:decDigits 0=[48]:=by rw[decDigits,dif_pos (by omega)];rfl
theorem Sv(l:List UInt8):decB (-1000000) l=E8 l:=by
 rw[aK];constructor
 ·intro h;unfold decB at h;split at h
  ·rename_i v o;simp only[ac,beq_iff_eq,decide_eq_true_eq]at h;obtain⟨⟨h1,d⟩,a⟩:=h;unfold E8;rw[ah];by_cases b:0<=v
   ·left;rw[E9];obtain⟨u,rfl⟩:∃u:Nat,v=(u:Int):=⟨v.toNat,by omega⟩;exact⟨u,by omega,by rw[<-a,itoa_nonneg]⟩
   ·right;have j:v=-((v.natAbs:Nat):Int):=by omega
    rw[j,itoa_neg _ (by omega)]at a;rw[<-a];have f:=decDigits_length v.natAbs;have p:=nDigits_pos v.natAbs;have k:decDigits v.natAbs≠[48]:=fun e=>by
     have:=(Jh v.natAbs).2;rw[e]at this;have b:Hd [48]=0:=by decide
     omega
    simp only[aA,f,aI,List.tail_cons,St _ (show v.natAbs<=1000000 by omega),Bool.and_true,ac,decide_eq_true_eq,beq_self_eq_true];exact⟨by omega,by simpa using k⟩
  ·cases h
 ·intro h;unfold E8 at h;rw[ah]at h;rcases h with h | h
  ·obtain⟨u,g,rfl⟩:=(E9 l).1 h;unfold decB;rw[Su u g];simp only[ac,beq_iff_eq,decide_eq_true_eq];exact⟨⟨by omega,by omega⟩,itoa_nonneg u⟩
  ·simp only[ac,decide_eq_true_eq,beq_iff_eq,bne_iff_ne]at h;obtain⟨⟨⟨h1,d⟩,a⟩,m⟩:=h;obtain⟨u,g,i⟩:=(E9 l.tail).1 m;have f:l=45::decDigits u:=by
    cases l with
    | nil=>simp at d
    | cons c r=>simp only[aI,Option.some.injEq]at d;rw[d,<-i];rfl
   have n:1<=u:=by
    rcases Nat.eq_zero_or_pos u with b | b
    ·subst b;rw[i,Zc]at a;exact absurd rfl a
    ·exact b
   subst f;unfold decB;rw[Zb u g];simp only[ac,beq_iff_eq,decide_eq_true_eq];exact⟨⟨by omega,by omega⟩,itoa_neg u n⟩
end
variable {w w1:World}
section
open Go.Lib (decDigits)
theorem Sy(d:Nat)(h:d<10):((ai (48+d)).toNat:Int)=48+(d:Int):=by rw[UH d h];omega
theorem OS{d:Int}(c:UInt8)(a:(c.toNat:Int)=d)(b:Below (w.alloc (bM #[.int .u8 d] 5)).drew.heap.size (w.alloc (bM #[.int .u8 d] 5)).drew w1):(convert 22 9 (.slice (af ⟨w.heap.size,0,none⟩) 1 1)).run prog w1=.ok (ad ⟨#[c]⟩) w1:=by
 subst a;exact Jk _ _ w.heap.size [c] 1 (AL (World.ownsRow_lit w #[.int .u8 (c.toNat:Int)] 1 (aj _) (by decide) rfl).drew b)
theorem OT(n:Nat):∀(w:World),n<=9999999->Calls prog 85 #[.int .i64 (n:Int)] w fun e w'=>e=aa (ad ⟨(decDigits n).toArray⟩)/\Below w.heap.size w w':=by
 induction n using aU with
 | _ n g =>
 intro w l;by_cases h:n<10
 ·have a:=MD w (ai (48+n));rw[Sy n h]at a;have i:¬((n:Int)<0):=by omega
  have j:(n:Int)<10:=by omega
  rw[decDigits,dif_pos h];go_enter func85,ntmps85;go_wp2;go_ret;exact⟨rfl,(ab _ w).alloc (aj _) _⟩
 ·have i:¬((n:Int)<0):=by omega
  have j:¬((n:Int)<10):=by omega
  have f:=fun W=>g (n/10) (by omega) W (by omega)
  rw[show ((n/10:Nat):Int)=(n:Int)/10 from by omega]at f;have a:=fun W=>MD W (ai (48+n%10))
  have b:=Sy (n%10) (by omega);rw[b]at a;rw[show ((n%10:Nat):Int)=(n:Int)%10 from by omega]at a b;rw[decDigits,dif_neg h];have k:(decDigits (n/10)).length<=7:=by rw[Lib.decDigits_length];exact Hf _ (by omega)
  generalize decDigits (n/10)=D at f k⊢;generalize ai (48+n%10)=c at a b⊢;have m:=OS (w:=w) _ b (ab _ _);have o:aV.wrap ((n:Int)/10)=(n:Int)/10:=by rw[an];omega
  have p:(n:Int).tmod 10=(n:Int)%10:=Int.tmod_eq_emod_of_nonneg (by omega);have q:aV.wrap (48+(n:Int)%10)=48+(n:Int)%10:=by rw[an];omega
  have r:IntKind.u8.wrap (48+(n:Int)%10)=48+(n:Int)%10:=by rw[IntKind.wrap_u8];omega
  go_enter func85,ntmps85;go_wp2;go_region_with (first | (go_at_call 85;refine(f _).mono ?_;rintro e w1 ⟨rfl,d⟩;have s:=OS _ b d) | (go_at_call 85;refine(f _).mono ?_;rintro e w1 ⟨rfl,d⟩))
  all_goals
   go_wp2;go_ret;refine⟨WM (congrArg Value.string (Xv D [c])),?_⟩
   first
    | exact((ab w.heap.size w).drew.trans d).alloc d.size _
    | exact((ab w.heap.size w).alloc (aj _) _).drew.trans (d.mono (by simp))
end
variable {k:Nat}
section
open Go.Lib (decDigits)
theorem OU(p:UInt8->Bool)(s:ByteArray)(k:Nat)(h:k<s.size):(s.data.toList.take (k+1)).all p=((s.data.toList.take k).all p&&p s[k]):=by
 rw[Ia s k h,aJ];simp
theorem UK(p:UInt8->Bool)(s:ByteArray)(k:Nat)(a:k<s.size)(h:p s[k]=false):s.data.toList.all p=false:=by
 rw[List.all_eq_false];exact⟨s[k],by simp[ByteArray.getElem_eq_getElem_data],by simp[h]⟩
theorem Aek(l:List UInt8)(b:l.all DO=true)(a n:Nat)(d:a<10 ^ n):C6 a l<10 ^ (n+l.length):=by
 induction l generalizing a n with
 | nil=>rw[Di];simpa using d
 | cons c l e =>
  simp only[ak,ac,DO,decide_eq_true_eq]at b;rw[Dz,aA,show n+(l.length+1)=(n+1)+l.length from by omega];exact e b.2 _ _ (by rw[Nat.pow_succ];omega)
theorem Acj(s:ByteArray)(k:Nat)(b:s.size<=7)(a:(s.data.toList.take k).all DO=true):Hd (s.data.toList.take k)<=9999999:=by
 have h:=Aek _ a 0 0 (by decide);have e:s.data.toList.length=s.size:=by simp
 have c:(s.data.toList.take k).length<=7:=by rw[List.length_take,e];omega
 have d:10 ^ (0+(s.data.toList.take k).length)<=10 ^ 7:=Nat.pow_le_pow_right (by decide) (by omega);unfold Hd;omega
theorem Zg(s:ByteArray)(k:Nat)(h:k<s.size):Hd (s.data.toList.take (k+1))=Hd (s.data.toList.take k)*10+(s[k].toNat-48):=by
 unfold Hd;rw[Ia s k h,He,Dz,Di]
theorem Sz(s:ByteArray)(h:¬(1<=s.size/\s.size<=7)):CQ s.data.toList=false:=by
 have:s.data.toList.length=s.size:=by simp
 unfold CQ;rw[this];by_cases h1:1<=s.size
 ·simp[h1,show ¬s.size<=7 from fun a=>h ⟨h1,a⟩]
 ·simp[h1]
theorem Zh(s:ByteArray)(h:s.data.toList.all DO=false):CQ s.data.toList=false:=by
 unfold CQ;rw[h];simp
theorem Zi(s:ByteArray)(h1:1<=s.size)(b:s.size<=7)(h:s.data.toList.all DO=true)(a:Nat)(c:Hd s.data.toList=a):CQ s.data.toList=(decDigits a==s.data.toList&&decide (a<=1000000)):=by
 have:s.data.toList.length=s.size:=by simp
 unfold CQ;rw[h,c,this];simp[h1,b]
theorem Ack{s:ByteArray}{a:Nat}{x:Bool}(b:x=(decDigits a==s.data.toList&&decide (a<=1000000)))(h:decDigits a=s.toList):decide ((a:Int)<=1000000)=x:=by
 rw[b,h,ae];simp;omega
theorem Ael{s:ByteArray}{a:Nat}{x:Bool}(b:x=(decDigits a==s.data.toList&&decide (a<=1000000)))(h:¬decDigits a=s.toList):false=x:=by
 rw[ae]at h;rw[b,beq_eq_false_iff_ne.2 h];rfl
theorem Hh(s:ByteArray)(w:World)(t:s.size<=1048576):Calls prog 222 #[ad s] w fun e w'=>e=aa (.bool (CQ s.data.toList))/\Below w.heap.size w w':=by
 by_cases h1:1<=s.size
 ·by_cases h:s.size<=7
  ·have j:(1:Int)<=(s.size:Int):=by omega
   have p:(s.size:Int)<=7:=by omega
   go_enter func222,ntmps222;go_wp2;go_loop [3,4] (fun x i=>∃k a:Nat,k<=s.size/\a<=9999999/\x=.int .i64 (a:Int)/\i=.int .i64 (k:Int)/\Hid ((s.data.toList.take k).all DO=true)/\Hid (Hd (s.data.toList.take k)=a)) (fun _ i=>s.size-(intOf i).toNat)
   case atStart=>exact⟨0,0,al _,by omega,rfl,rfl,by show _=_;simp,by show _=_;simp[Hd,Di]⟩
   case round =>
    obtain⟨k,a,u,q,rfl,rfl,c,d⟩:=hrel;by_cases g:k<s.size
    ·have v:s[k].toNat<256:=s[k].toNat_lt;by_cases r:48<=s[k].toNat/\s[k].toNat<=57
     ·have f:DO s[k]=true:=by unfold DO;simp[r]
      have l:Hid ((s.data.toList.take (k+1)).all DO=true):=by show _=_;rw[OU DO s k g,c.out,f];rfl
      have m:Hid (Hd (s.data.toList.take (k+1))=a*10+(s[k].toNat-48)):=by show _=_;rw[Zg s k g,d.out]
      have n:=Acj s (k+1) h l.out;rw[m.out]at n;have y:¬((s[k].toNat:Int)<48):=by omega
      have z:¬((57:Int)<(s[k].toNat:Int)):=by omega
      clear c d f;go_wp2;go_round
      case rel=>exact⟨k+1,a*10+(s[k].toNat-48),by omega,n,by go_num,by go_num,l,m⟩
      case measure=>simp[intOf];omega
     ·have f:DO s[k]=false:=by unfold DO;rw[Bool.and_eq_false_iff];simp;omega
      have b:Hid (CQ s.data.toList=false):=Zh s (UK DO s k g f);clear c d f;go_wp2
      all_goals
       go_ret;exact⟨Au b.out.symm,ab _ _⟩
    ·obtain rfl:k=s.size:=by omega
     have b:Hid (CQ s.data.toList=(decDigits a==s.data.toList&&decide (a<=1000000))):=by
      have e:s.data.toList.take s.size=s.data.toList:=Jj s;exact Zi s h1 h (by rw[<-e];exact c.out) a (by rw[<-e];exact d.out)
     clear c d;go_wp2_with (go_at_call 85;refine(OT a _ q).mono ?_;rintro e w1 ⟨rfl,o⟩)
     ·go_ret;exact⟨Au (Ack b.out ‹_›),o⟩
     ·go_ret;exact⟨Au (Ael b.out ‹_›),o⟩
  ·have p:¬((s.size:Int)<=7):=by omega
   have j:(1:Int)<=(s.size:Int):=by omega
   have b:Hid (CQ s.data.toList=false):=Sz s (by omega);go_enter func222,ntmps222;go_wp2;go_ret;exact⟨Au b.out.symm,ab _ _⟩
 ·have j:¬((1:Int)<=(s.size:Int)):=by omega
  have b:Hid (CQ s.data.toList=false):=Sz s (by omega);go_enter func222,ntmps222;go_wp2;go_ret;exact⟨Au b.out.symm,ab _ _⟩
def nameByte(c:UInt8):Bool:=(decide (97<=c.toNat)&&decide (c.toNat<=122)) || (decide (48<=c.toNat)&&decide (c.toNat<=57)) || decide (c.toNat=45)
def nameB(l:List UInt8):Bool:=l.all nameByte&&(decide (1<=l.length)&&decide (l.length<=20))
theorem Gz{c:UInt8}(h:(97<=c.toNat/\c.toNat<=122)\/(48<=c.toNat/\c.toNat<=57)\/c.toNat=45):nameByte c=true:=by
 unfold nameByte;simp only[ah,ac,decide_eq_true_eq];omega
theorem Hi{c:UInt8}(h:¬((97<=c.toNat/\c.toNat<=122)\/(48<=c.toNat/\c.toNat<=57)\/c.toNat=45)):nameByte c=false:=by
 rw[Bool.eq_false_iff];unfold nameByte;simp only[ne_eq,ah,ac,decide_eq_true_eq];omega
theorem OV(s:ByteArray)(h:¬(1<=s.size/\s.size<=20)):nameB s.data.toList=false:=by
 have e:s.data.toList.length=s.size:=by simp
 unfold nameB;rw[e];by_cases h1:1<=s.size
 ·simp[h1,show ¬s.size<=20 from fun a=>h ⟨h1,a⟩]
 ·simp[h1]
theorem S0(s:ByteArray)(h:s.data.toList.all nameByte=false):nameB s.data.toList=false:=by unfold nameB;rw[h];rfl
theorem OW(s:ByteArray)(h:s.data.toList.all nameByte=true):nameB s.data.toList=(decide (1<=s.size)&&decide (s.size<=20)):=by
 have e:s.data.toList.length=s.size:=by simp
 unfold nameB;rw[h,e];rfl
def Df(s:ByteArray)(k:Nat):Prop:=(s.data.toList.take k).all nameByte=true
theorem Df.zero(s:ByteArray):Df s 0:=by simp[Df]
theorem Df.succ{s:ByteArray}(h:Df s k)(a:k<s.size)(b:nameByte s[k]=true):Df s (k+1):=by
 unfold Df at h⊢;rw[OU nameByte s k a,h,b];rfl
theorem Df.all{s:ByteArray}(h:Df s s.size):s.data.toList.all nameByte=true:=by rw[<-Jj s];exact h
inductive Fi (c:UInt8):Bool->Prop
 | letter (h1:(97:Int)<=(c.toNat:Int)) (h2:(c.toNat:Int)<=122):Fi c true
 | digit (h1:¬(97:Int)<=(c.toNat:Int)) (h2:(48:Int)<=(c.toNat:Int)) (h3:(c.toNat:Int)<=57):Fi c true
 | hyphen (h1:¬(97:Int)<=(c.toNat:Int)) (h2:¬(48:Int)<=(c.toNat:Int)) (h3:((c.toNat:Int)==45)=true):Fi c true
 | low (h1:¬(97:Int)<=(c.toNat:Int)) (h2:¬(48:Int)<=(c.toNat:Int)) (h3:((c.toNat:Int)==45)=false):Fi c false
 | mid (h1:¬(97:Int)<=(c.toNat:Int)) (h2:(48:Int)<=(c.toNat:Int)) (h3:¬(c.toNat:Int)<=57) (h4:((c.toNat:Int)==45)=false):Fi c false
 | high (h1:(97:Int)<=(c.toNat:Int)) (h2:¬(c.toNat:Int)<=122) (h3:(48:Int)<=(c.toNat:Int)) (h4:¬(c.toNat:Int)<=57) (h5:((c.toNat:Int)==45)=false):Fi c false
theorem S3(c:UInt8):Fi c (nameByte c):=by
 by_cases a1:97<=c.toNat
 ·by_cases a2:c.toNat<=122
  ·rw[Gz (by omega)];exact .letter (by omega) (by omega)
  ·rw[Hi (by omega)];exact .high (by omega) (by omega) (by omega) (by omega) (by rw[beq_eq_false_iff_ne];omega)
 ·by_cases a:48<=c.toNat
  ·by_cases b:c.toNat<=57
   ·rw[Gz (by omega)];exact .digit (by omega) (by omega) (by omega)
   ·rw[Hi (by omega)];exact .mid (by omega) (by omega) (by omega) (by rw[beq_eq_false_iff_ne];omega)
  ·by_cases d:c.toNat=45
   ·rw[Gz (by omega)];exact .hyphen (by omega) (by omega) (by rw[beq_iff_eq];omega)
   ·rw[Hi (by omega)];exact .low (by omega) (by omega) (by rw[beq_eq_false_iff_ne];omega)
theorem Jl(s:ByteArray)(w:World)(m:s.size<=1048576):Calls prog 57 #[ad s] w fun e w'=>e=aa (.bool (nameB s.data.toList))/\w'=w:=by
 by_cases h1:1<=s.size
 ·by_cases h:s.size<=20
  ·have f:(1:Int)<=(s.size:Int):=by omega
   have j:(s.size:Int)<=20:=by omega
   go_enter func57,ntmps57;go_wp2;go_loop [3,4] (fun i _=>∃k:Nat,k<=s.size/\i=.int .i64 (k:Int)/\Df s k) (fun i _=>s.size-(intOf i).toNat)
   case atStart=>exact⟨0,al _,rfl,Df.zero s⟩
   case round =>
    obtain⟨k,n,rfl,c⟩:=hrel;by_cases g:k<s.size
    ·have o:s[k].toNat<256:=s[k].toNat_lt;have d:=S3 s[k];cases b:nameByte s[k]
     ·have a:Hid (nameB s.data.toList=false):=S0 s (UK nameByte s k g b);rw[b]at d;clear c b;cases d
      all_goals
       go_wp2;go_ret;exact⟨Au a.out.symm,rfl⟩
     ·have l:=c.succ g b;rw[b]at d;clear c b;cases d
      all_goals
       go_wp2;go_round
       case rel=>exact⟨k+1,by omega,by go_num,l⟩
       case measure=>simp[intOf];omega
    ·obtain rfl:k=s.size:=by omega
     have a:Hid (nameB s.data.toList=true):=by show _=_;rw[OW s c.all];simp[h1,h]
     clear c;go_wp2;go_ret;exact⟨Au a.out.symm,rfl⟩
  ·have j:¬((s.size:Int)<=20):=by omega
   have f:(1:Int)<=(s.size:Int):=by omega
   have a:Hid (nameB s.data.toList=false):=OV s (by omega);go_enter func57,ntmps57;go_wp2;go_ret;exact⟨Au a.out.symm,rfl⟩
 ·have f:¬((1:Int)<=(s.size:Int)):=by omega
  have a:Hid (nameB s.data.toList=false):=OV s (by omega);go_enter func57,ntmps57;go_wp2;go_ret;exact⟨Au a.out.symm,rfl⟩
end
def UL(l:List UInt8):Bool:=l==[121,101,115] || l==[110,111]
def GA(l:List UInt8):Bool:=l==[110,111,110,101] || l==[98,101,114,116,104] || l==[122,111,110,101]
def Fj(t:Int)(l:List UInt8):Bool :=
 if t=1 then CQ l else if t=2 then E8 l else if t=3 then nameB l else if t=4 then decide (l.length<=200) else if t=5 then UL l else GA l
theorem six{t:Int}(h1:1<=t)(a:t<=6):t=1\/t=2\/t=3\/t=4\/t=5\/t=6:=by omega
theorem Zj(s:ByteArray)(w:World)(a:s.size<=1048576):Calls prog 171 #[.int .i64 1,ad s] w fun e w'=>e=aa (.bool (CQ s.data.toList))/\Below w.heap.size w w':=by
 go_enter func171,ntmps171;go_wp2_with (go_at_call 222;refine(Hh s _ a).mono ?_;rintro e w1 ⟨rfl,b⟩)
 go_ret;exact⟨rfl,b⟩
theorem Zk(s:ByteArray)(w:World)(a:s.size<=1048576):Calls prog 171 #[.int .i64 3,ad s] w fun e w'=>e=aa (.bool (nameB s.data.toList))/\Below w.heap.size w w':=by
 go_enter func171,ntmps171;go_wp2_with (go_at_call 57;refine(Jl s _ a).mono ?_;rintro e w ⟨rfl,rfl⟩)
 go_ret;exact⟨rfl,ab _ _⟩
theorem Zl(s:ByteArray)(w:World):Calls prog 171 #[.int .i64 4,ad s] w fun e w'=>e=aa (.bool (decide (s.data.toList.length<=200)))/\Below w.heap.size w w':=by
 have e:s.data.toList.length=s.size:=by simp
 rw[e];go_enter func171,ntmps171;go_wp2;go_ret;exact⟨Au (decide_eq_decide.2 (by omega)),ab _ _⟩
theorem Zm(s:ByteArray)(w:World):Calls prog 171 #[.int .i64 5,ad s] w fun e w'=>e=aa (.bool (UL s.data.toList))/\Below w.heap.size w w':=by
 rw[<-ae];generalize a:s.toList=L;by_cases h1:L=[121,101,115]
 ·have b:(s.toList==[121,101,115])=true:=by rw[a,beq_iff_eq];exact h1
  have c:UL L=true:=by subst h1;decide
  go_enter func171,ntmps171;go_wp2;go_ret;exact⟨Au c.symm,ab _ _⟩
 ·have b:(s.toList==[121,101,115])=false:=by rw[a,beq_eq_false_iff_ne];exact h1
  go_enter func171,ntmps171;go_wp2;go_ret;exact⟨Au rfl,ab _ _⟩
theorem Zn(s:ByteArray)(w:World):Calls prog 171 #[.int .i64 6,ad s] w fun e w'=>e=aa (.bool (GA s.data.toList))/\Below w.heap.size w w':=by
 rw[<-ae];generalize a:s.toList=L;by_cases h1:L=[110,111,110,101]
 ·have d:(s.toList==[110,111,110,101])=true:=by rw[a,beq_iff_eq];exact h1
  have b:GA L=true:=by subst h1;decide
  go_enter func171,ntmps171;go_wp2;go_ret;exact⟨Au b.symm,ab _ _⟩
 ·have d:(s.toList==[110,111,110,101])=false:=by rw[a,beq_eq_false_iff_ne];exact h1
  by_cases c:L=[98,101,114,116,104]
  ·have f:(s.toList==[98,101,114,116,104])=true:=by rw[a,beq_iff_eq];exact c
   have b:GA L=true:=by subst c;decide
   go_enter func171,ntmps171;go_wp2;go_ret;exact⟨Au b.symm,ab _ _⟩
  ·have f:(s.toList==[98,101,114,116,104])=false:=by rw[a,beq_eq_false_iff_ne];exact c
   go_enter func171,ntmps171;go_wp2;go_ret;exact⟨Au rfl,ab _ _⟩
theorem Xw{l:List UInt8}(h:CQ l=true):E8 l=true:=by unfold E8;rw[h];rfl
theorem ME{l:List UInt8}(h:CQ l=false)(a:(decide (1<l.length)&&l.head? == af 45&&l.tail != [48])=false):E8 l=false:=by unfold E8;rw[h,a];rfl
theorem UM{l:List UInt8}(h:CQ l=false)(a:(decide (1<l.length)&&l.head? == af 45&&l.tail != [48])=true):E8 l=CQ l.tail:=by unfold E8;rw[h,a];simp
theorem Aa{p:Prop}(h:p):Hid p:=h
theorem Acl(s:ByteArray)(h:0<s.size):s.data.toList.head?=af s[0]:=by
 have:=CH s 0 h;rw[List.drop_zero]at this;rw[this];rfl
theorem CZ(s:ByteArray)(w:World)(a:s.size<=1048576)(b:Bool)(h:CQ s.data.toList=b):Calls prog 222 #[ad s] w fun e w'=>e=aa (.bool b)/\Below w.heap.size w w':=by
 rw[<-h];exact Hh s w a
theorem UN(s:ByteArray):(s.extract 1 s.size).data.toList=s.data.toList.tail:=by
 rw[En];simp
theorem Xx{l:List UInt8}{b:Bool}(h:CQ l=false)(h1:1<l.length)(a:l.head?=af 45)(c:¬l.tail=[48])(d:CQ l.tail=b):b=E8 l:=by
 rw[UM h (by rw[a];simp[h1,c]),d]
theorem UO{l:List UInt8}(h:CQ l=false)(a:l.tail=[48]):false=E8 l:=by
 rw[ME h (by rw[a];simp)]
theorem S4{l:List UInt8}(h:CQ l=false)(h1:¬ 1<l.length):false=E8 l:=by
 rw[ME h (by simp[h1])]
theorem UP{l:List UInt8}(h:CQ l=false)(a:¬l.head?=af 45):false=E8 l:=by
 rw[ME h (by simp[a])]
theorem Zo(s:ByteArray)(w:World)(i:s.size<=1048576):Calls prog 171 #[.int .i64 2,ad s] w fun e w'=>e=aa (.bool (E8 s.data.toList))/\Below w.heap.size w w':=by
 cases a:CQ s.data.toList
 ·by_cases h1:1<s.size
  ·have o:(1:Int)<(s.size:Int):=by omega
   have j:=Acl s (by omega);have k:1<s.data.toList.length:=by
    have v:s.data.toList.length=s.size:=by simp
    omega
   have f:=UN s;have p:(s.extract 1 s.size).size<=1048576:=by rw[ByteArray.size_extract];omega
   by_cases n:s[0].toNat=45
   ·have q:((s[0].toNat:Int)==45)=true:=by rw[beq_iff_eq];omega
    have l:s.data.toList.head?=af 45:=by rw[j];congr 1;exact UInt8.toNat_inj.1 n
    by_cases g:s.data.toList.tail=[48]
    ·have c:=Aa (UO a g);have r:((s.extract 1 s.size).toList==[48])=true:=by rw[ae,f,g];rfl
     have d:=fun W=>CZ s W i false a
     clear j l g f a k;go_enter func171,ntmps171;go_wp2_with (go_at_call 222;refine(d _).mono ?_;rintro e w1 ⟨rfl,b⟩)
     go_ret;exact⟨Au c.out,b⟩
    ·have r:((s.extract 1 s.size).toList==[48])=false:=by rw[ae,f,beq_eq_false_iff_ne];exact g
     cases m:CQ s.data.toList.tail
     all_goals
      have c:=Aa (Xx a k l g m);have d:=fun W=>CZ s W i false a
      have t:=fun W=>CZ (s.extract 1 s.size) W p _ (f▸m)
      clear j l g f a k m;go_enter func171,ntmps171;go_wp2_with (go_at_call 222;refine(d _).mono ?_)
      rintro e w1 ⟨rfl,b⟩;go_wp2_with (go_at_call 222;refine(t _).mono ?_)
      rintro e w2 ⟨rfl,u⟩;go_wp2;go_ret;exact⟨Au c.out,b.trans (u.mono b.size)⟩
   ·have q:((s[0].toNat:Int)==45)=false:=by rw[beq_eq_false_iff_ne];omega
    have c:=Aa (UP a (by rw[j];intro h;exact n (by rw[Option.some.inj h];rfl)));have d:=fun W=>CZ s W i false a
    clear j f a k;go_enter func171,ntmps171;go_wp2_with (go_at_call 222;refine(d _).mono ?_;rintro e w1 ⟨rfl,b⟩)
    go_ret;exact⟨Au c.out,b⟩
  ·have o:¬((1:Int)<(s.size:Int)):=by omega
   have c:=Aa (S4 a (by rw[Array.length_toList];exact h1));have d:=fun W=>CZ s W i false a
   clear a;go_enter func171,ntmps171;go_wp2_with (go_at_call 222;refine(d _).mono ?_;rintro e w1 ⟨rfl,b⟩)
   go_ret;exact⟨Au c.out,b⟩
 ·have c:=Aa (Xw a).symm;have d:=fun W=>CZ s W i true a
  clear a;go_enter func171,ntmps171;go_wp2_with (go_at_call 222;refine(d _).mono ?_;rintro e w1 ⟨rfl,b⟩)
  go_ret;exact⟨Au c.out,b⟩
theorem UQ(t:Int)(h1:1<=t)(b:t<=6)(s:ByteArray)(w:World)(a:s.size<=1048576):Calls prog 171 #[.int .i64 t,ad s] w fun e w'=>e=aa (.bool (Fj t s.data.toList))/\Below w.heap.size w w':=by
 rcases six h1 b with rfl | rfl | rfl | rfl | rfl | rfl
 ·exact Zj s w a
 ·exact Zo s w a
 ·exact Zk s w a
 ·exact Zl s w
 ·exact Zm s w
 ·exact Zn s w
section
open Go.Shelf
def laysC172_ren:aB:=⟨fun | 172=>262 | 244=>274 | 245=>275 | 247=>283 | 279=>284 | 280=>285 | 281=>286 | 282=>287 | 287=>292 | 316=>248 | 171=>216 | 205=>293 | 321=>296 | 322=>297 | 243=>242 | 246=>260 | 283=>269 | 284=>270 | 285=>271 | 286=>272 | 129=>201 | 317=>279 | 318=>280 | 319=>281 | 320=>282 | 337=>290 | 338=>291 | n=>n,fun | 9=>9 | 3=>3 | 75=>106 | 76=>147 | 4=>4 | 5=>5 | 167=>341 | 37=>22 | 0=>0 | 85=>342 | 2=>2 | 168=>344 | 53=>279 | 175=>348 | 46=>215 | 210=>351 | 127=>196 | 145=>363 | 143=>361 | 21=>21 | 171=>329 | 173=>331 | 212=>339 | 51=>277 | 20=>20 | 213=>340 | 232=>358 | 233=>359 | 80=>104 | n=>n,fun | 15=>4 | 16=>5 | 17=>3 | 18=>8 | 19=>9 | n=>n⟩
theorem MF:bg prog laysC172_ren:={
 mixed:=by kernel_rfl
 f129:=bD.trans (congrArg af (by kernel_rfl))
 f171:=bC.trans (congrArg af (by kernel_rfl))
 f172:=Tryz.func262.trans (congrArg af (by kernel_rfl))
 f205:=Tryz.func293.trans (congrArg af (by kernel_rfl))
 f243:=bB.trans (congrArg af (by kernel_rfl))
 f244:=Tryz.func274.trans (congrArg af (by kernel_rfl))
 f245:=Tryz.func275.trans (congrArg af (by kernel_rfl))
 f246:=bA.trans (congrArg af (by kernel_rfl))
 f247:=Tryz.func283.trans (congrArg af (by kernel_rfl))
 f279:=Tryz.func284.trans (congrArg af (by kernel_rfl))
 f280:=Tryz.func285.trans (congrArg af (by kernel_rfl))
 f281:=Tryz.func286.trans (congrArg af (by kernel_rfl))
 f282:=Tryz.func287.trans (congrArg af (by kernel_rfl))
 f283:=bz.trans (congrArg af (by kernel_rfl))
 f284:=bx.trans (congrArg af (by kernel_rfl))
 f285:=bw.trans (congrArg af (by kernel_rfl))
 f286:=bv.trans (congrArg af (by kernel_rfl))
 f287:=Tryz.func292.trans (congrArg af (by kernel_rfl))
 f316:=Tryz.func248.trans (congrArg af (by kernel_rfl))
 f317:=bu.trans (congrArg af (by kernel_rfl))
 f318:=bt.trans (congrArg af (by kernel_rfl))
 f319:=bs.trans (congrArg af (by kernel_rfl))
 f320:=br.trans (congrArg af (by kernel_rfl))
 f321:=Tryz.func296.trans (congrArg af (by kernel_rfl))
 f322:=Tryz.func297.trans (congrArg af (by kernel_rfl))
 f337:=bq.trans (congrArg af (by kernel_rfl))
 f338:=bp.trans (congrArg af (by kernel_rfl))
 t0:=underlying0
 a0:=bJ
 z0:=bm
 v0:=aH
 t2:=underlying2
 a2:=bI
 z2:=bl
 v2:=aG
 t3:=underlying3
 a3:=bH
 z3:=bk
 v3:=aF
 t4:=underlying4
 a4:=bG
 z4:=bj
 v4:=aE
 t5:=underlying5
 a5:=bF
 z5:=bi
 v5:=aD
 t9:=underlying9
 a9:=bE
 z9:=bh
 v9:=aC
 t20:=underlying20
 a20:=bo
 z20:=aY
 v20:=az
 t21:=underlying21
 a21:=Tryz.isAgg21
 z21:=Tryz.sizeOf21
 v21:=Tryz.zeroValue21
 t37:=underlying22
 a37:=bn
 z37:=aX
 v37:=ay
 t46:=underlying215
 a46:=be
 z46:=aT
 v46:=ax
 t51:=underlying277
 a51:=bd
 z51:=aS
 v51:=aw
 t53:=underlying279
 a53:=bc
 z53:=aR
 v53:=av
 t75:=underlying106
 a75:=Tryz.isAgg106
 z75:=Tryz.sizeOf106
 v75:=Tryz.zeroValue106
 t76:=underlying147
 a76:=Tryz.isAgg147
 z76:=Tryz.sizeOf147
 v76:=Tryz.zeroValue147
 t85:=underlying342
 a85:=Tryz.isAgg342
 z85:=Tryz.sizeOf342
 v85:=Tryz.zeroValue342
 t127:=underlying196
 a127:=Tryz.isAgg196
 z127:=Tryz.sizeOf196
 v127:=Tryz.zeroValue196
 t143:=underlying361
 a143:=Tryz.isAgg361
 z143:=Tryz.sizeOf361
 v143:=Tryz.zeroValue361
 t145:=underlying363
 a145:=Tryz.isAgg363
 z145:=Tryz.sizeOf363
 v145:=Tryz.zeroValue363
 t167:=underlying341
 a167:=Tryz.isAgg341
 z167:=Tryz.sizeOf341
 v167:=Tryz.zeroValue341
 t168:=underlying344
 a168:=Tryz.isAgg344
 z168:=Tryz.sizeOf344
 v168:=Tryz.zeroValue344
 t171:=underlying329
 a171:=bb
 z171:=aQ
 v171:=au
 t173:=underlying331
 a173:=ba
 z173:=aP
 v173:=ar
 t175:=underlying348
 a175:=Tryz.isAgg348
 z175:=Tryz.sizeOf348
 v175:=Tryz.zeroValue348
 t210:=underlying351
 a210:=Tryz.isAgg351
 z210:=Tryz.sizeOf351
 v210:=Tryz.zeroValue351
 t212:=underlying339
 a212:=a8
 z212:=aO
 v212:=aq
 t213:=underlying340
 a213:=a7
 z213:=aN
 t232:=underlying358
 a232:=a6
 z232:=aM
 v232:=ap
 t233:=underlying359
 a233:=aZ
 z233:=aL
 v233:=ao
 g15:=by kernel_rfl
 g16:=by kernel_rfl
 g17:=by kernel_rfl
 g18:=by kernel_rfl
 g19:=by kernel_rfl
 t80:=underlying104
 a80:=Tryz.isAgg104
 z80:=Tryz.sizeOf104
 v80:=Tryz.zeroValue104
 i0:=by kernel_rfl
 i2:=by kernel_rfl
 i3:=by kernel_rfl
 i4:=by kernel_rfl
 i5:=by kernel_rfl
 i9:=by kernel_rfl
 i20:=by kernel_rfl
 i21:=by kernel_rfl
 i37:=by kernel_rfl
 i46:=by kernel_rfl
 i51:=by kernel_rfl
 i53:=by kernel_rfl
 i75:=by kernel_rfl
 i76:=by kernel_rfl
 i80:=by kernel_rfl
 i85:=by kernel_rfl
 i127:=by kernel_rfl
 i143:=by kernel_rfl
 i145:=by kernel_rfl
 i167:=by kernel_rfl
 i168:=by kernel_rfl
 i171:=by kernel_rfl
 i173:=by kernel_rfl
 i175:=by kernel_rfl
 i210:=by kernel_rfl
 i212:=by kernel_rfl
 i232:=by kernel_rfl
 i233:=by kernel_rfl
 m15:=by kernel_rfl
 m16:=by kernel_rfl
 m17:=by kernel_rfl
 m18:=by kernel_rfl
 m19:=by kernel_rfl
 c0:=by kernel_rfl
 c2:=by kernel_rfl
 c3:=by kernel_rfl
 c4:=by kernel_rfl
 c5:=by kernel_rfl
 c9:=by kernel_rfl
 c20:=by kernel_rfl
 c21:=by kernel_rfl
 c37:=by kernel_rfl
 c46:=by kernel_rfl
 c51:=by kernel_rfl
 c53:=by kernel_rfl
 c75:=by kernel_rfl
 c76:=by kernel_rfl
 c80:=by kernel_rfl
 c85:=by kernel_rfl
 c127:=by kernel_rfl
 c143:=by kernel_rfl
 c145:=by kernel_rfl
 c167:=by kernel_rfl
 c168:=by kernel_rfl
 c171:=by kernel_rfl
 c173:=by kernel_rfl
 c175:=by kernel_rfl
 c210:=by kernel_rfl
 c212:=by kernel_rfl
 c213:=by kernel_rfl
 c232:=by kernel_rfl
 c233:=by kernel_rfl }
open Go.RowKit in
theorem strconv_Atoi_ok(s:ByteArray)(a:s.size<=9223372036854775806)(v:Int)(h:ag s.data.toList=.ok v)(w:World):
  Calls prog 262 #[ad s] w fun e w'=>e=aa (aW #[.int .i64 v,.nilIface])/\(w'=w\/∃t,w'=Lib.bytesWorld w 5 t):=Any.strconv_Atoi_ok MF s a v h w
open Go.RowKit in
theorem strconv_Atoi_syntax_var(s : ByteArray)(b : s.size <= 281474976710656)(h : ag s.data.toList = .«syntax»)(a : TypeId)(p : Value)(w : World)(c : w.var? prog "strconv.ErrSyntax" = af #[.iface a p]):
  Calls prog 262 #[ad s] w fun e w'=>∃N,e=aa (aW #[.int .i64 0,.iface 344 (bL (af ⟨N,0,none⟩))])/\w.heap.size<=N/\w'.heap[N]?=af (bM #[ad ⟨#[65,116,111,105]⟩,ad s,.iface a p] 351 (0,0))/\Below w.heap.size w w':=Any.strconv_Atoi_syntax_var MF s b h a p w c
open Go.RowKit in
theorem strconv_Atoi_range_var(s : ByteArray)(b : s.size <= 281474976710656)(h : ag s.data.toList = .range)(a : TypeId)(p : Value)(w : World)(c : w.var? prog "strconv.ErrRange" = af #[.iface a p]):
  Calls prog 262 #[ad s] w fun e w'=>∃N,e=aa (aW #[.int .i64 (Lib.atoiSat s.data.toList),.iface 344 (bL (af ⟨N,0,none⟩))])/\w.heap.size<=N/\w'.heap[N]?=af (bM #[ad ⟨#[65,116,111,105]⟩,ad s,.iface a p] 351 (0,0))/\Below w.heap.size w w':=Any.strconv_Atoi_range_var MF s b h a p w c
def laysM171_ren:aB:=⟨fun | 171=>216 | 243=>242 | 246=>260 | 283=>269 | 284=>270 | 285=>271 | 286=>272 | 129=>201 | 317=>279 | 318=>280 | 319=>281 | 320=>282 | 337=>290 | 338=>291 | n=>n,fun | 3=>3 | 9=>9 | 2=>2 | 4=>4 | 171=>329 | 0=>0 | 53=>279 | 37=>22 | 5=>5 | 173=>331 | 212=>339 | 51=>277 | 20=>20 | 213=>340 | 46=>215 | 232=>358 | 233=>359 | n=>n,fun | 17=>3 | 18=>8 | 19=>9 | n=>n⟩
theorem Zp:bf prog laysM171_ren:={
 mixed:=by kernel_rfl
 f129:=bD.trans (congrArg af (by kernel_rfl))
 f171:=bC.trans (congrArg af (by kernel_rfl))
 f243:=bB.trans (congrArg af (by kernel_rfl))
 f246:=bA.trans (congrArg af (by kernel_rfl))
 f283:=bz.trans (congrArg af (by kernel_rfl))
 f284:=bx.trans (congrArg af (by kernel_rfl))
 f285:=bw.trans (congrArg af (by kernel_rfl))
 f286:=bv.trans (congrArg af (by kernel_rfl))
 f317:=bu.trans (congrArg af (by kernel_rfl))
 f318:=bt.trans (congrArg af (by kernel_rfl))
 f319:=bs.trans (congrArg af (by kernel_rfl))
 f320:=br.trans (congrArg af (by kernel_rfl))
 f337:=bq.trans (congrArg af (by kernel_rfl))
 f338:=bp.trans (congrArg af (by kernel_rfl))
 t0:=underlying0
 a0:=bJ
 z0:=bm
 v0:=aH
 t2:=underlying2
 a2:=bI
 z2:=bl
 v2:=aG
 t3:=underlying3
 a3:=bH
 z3:=bk
 v3:=aF
 t4:=underlying4
 a4:=bG
 z4:=bj
 v4:=aE
 t5:=underlying5
 a5:=bF
 z5:=bi
 v5:=aD
 t9:=underlying9
 a9:=bE
 z9:=bh
 v9:=aC
 t20:=underlying20
 a20:=bo
 z20:=aY
 v20:=az
 t37:=underlying22
 a37:=bn
 z37:=aX
 v37:=ay
 t46:=underlying215
 a46:=be
 z46:=aT
 v46:=ax
 t51:=underlying277
 a51:=bd
 z51:=aS
 v51:=aw
 t53:=underlying279
 a53:=bc
 z53:=aR
 v53:=av
 t171:=underlying329
 a171:=bb
 z171:=aQ
 v171:=au
 t173:=underlying331
 a173:=ba
 z173:=aP
 v173:=ar
 t212:=underlying339
 a212:=a8
 z212:=aO
 v212:=aq
 t213:=underlying340
 a213:=a7
 z213:=aN
 t232:=underlying358
 a232:=a6
 z232:=aM
 v232:=ap
 t233:=underlying359
 a233:=aZ
 z233:=aL
 v233:=ao
 g17:=by kernel_rfl
 g18:=by kernel_rfl
 g19:=by kernel_rfl
 i0:=by kernel_rfl
 i2:=by kernel_rfl
 i3:=by kernel_rfl
 i4:=by kernel_rfl
 i5:=by kernel_rfl
 i9:=by kernel_rfl
 i20:=by kernel_rfl
 i37:=by kernel_rfl
 i46:=by kernel_rfl
 i51:=by kernel_rfl
 i53:=by kernel_rfl
 i171:=by kernel_rfl
 i173:=by kernel_rfl
 i212:=by kernel_rfl
 i232:=by kernel_rfl
 i233:=by kernel_rfl
 m17:=by kernel_rfl
 m18:=by kernel_rfl
 m19:=by kernel_rfl }
open Go.RowKit Go.Sort Go.Lib in
theorem strconv_Itoa(n : Int)(a : -9223372036854775808 <= n)(h1 : n <= 9223372036854775807)(w : World)(b : Lib.TabIs prog w "internal/strconv.uint64pow10" .u64 bK):
  Calls prog 216 #[.int .i64 n] w fun e w'=>e=aa (ad ⟨(am n).toArray⟩)/\∃k os,w'=grow (w.drewN k) os:=Any.strconv_Itoa Zp n a h1 w b
end
variable {g:Nat}{cs:Array Value}{w':World}
structure BJ(w:World):Prop where
 syn : ∃tp p, w.var? prog "strconv.ErrSyntax" = af #[.iface tp p]
 ran : ∃tp p, w.var? prog "strconv.ErrRange" = af #[.iface tp p]
 tab : Lib.TabIs prog w "internal/strconv.uint64pow10" .u64 bK
theorem Kj{n:String}(b:Tryz.prog.globalNamed n=af g)(a:w.var? prog n=af cs)(c:Below w.heap.size w w'):w'.var? prog n=af cs:=by
 refine var?_below c b ?_ a;unfold World.var? at a;rw[b,Option.bind_some]at a;rcases Nat.lt_or_ge g w.heap.size with h | h
 ·exact h
 ·rw[Array.getElem?_eq_none h]at a;simp at a
theorem BJ.V(h:BJ w)(a:Below w.heap.size w w'):BJ w':=by
 obtain⟨⟨b,p,h1⟩,⟨c,q,d⟩,e⟩:=h;exact⟨⟨b,p,Kj (g:=4) (by kernel_rfl) h1 a⟩,⟨c,q,Kj (g:=5) (by kernel_rfl) d a⟩,Kj (g:=3) (by kernel_rfl) e a⟩
theorem Acm(s:ByteArray)(d:s.size<=1048576)(v:Int)(h:ag s.data.toList=.ok v)(w:World)(b:BJ w):Calls prog 262 #[ad s] w fun e w'=>e=aa (aW #[.int .i64 v,.nilIface])/\Below w.heap.size w w'/\BJ w':=by
 refine(strconv_Atoi_ok s (by omega) v h w).mono ?_;rintro e w' ⟨rfl,c⟩;have a:Below w.heap.size w w':=by
  rcases c with rfl | ⟨t,rfl⟩
  ·exact ab _ _
  ·exact⟨rfl,rfl,rfl,by rw[Lib.bytesWorld_size];omega,fun k f=>Lib.bytesWorld_at_old w 5 t k (by omega)⟩
 exact⟨rfl,a,b.V a⟩
theorem Zq(s:ByteArray)(i:s.size<=1048576)(h:∀v,ag s.data.toList≠.ok v)(w:World)(c:BJ w):Calls prog 262 #[ad s] w fun e w'=>∃v N,e=aa (aW #[.int .i64 v,.iface 344 (bL (af ⟨N,0,none⟩))])/\Below w.heap.size w w':=by
 obtain⟨⟨d,p,h1⟩,⟨f,q,g⟩,j⟩:=c;cases a:ag s.data.toList with
 | ok v=>exact absurd a (h v)
 | «syntax» =>
  refine(strconv_Atoi_syntax_var s (by omega) a d p w h1).mono ?_;rintro e w' ⟨N,rfl,_,_,b⟩;exact⟨_,N,rfl,b⟩
 | range =>
  refine(strconv_Atoi_range_var s (by omega) a f q w g).mono ?_;rintro e w' ⟨N,rfl,_,_,b⟩;exact⟨_,N,rfl,b⟩
theorem Zr(n:Int)(a:-9223372036854775808<=n)(h1:n<=9223372036854775807)(w:World)(b:BJ w):Calls prog 216 #[.int .i64 n] w fun e w'=>e=aa (ad ⟨(am n).toArray⟩)/\Below w.heap.size w w':=by
 refine(strconv_Itoa n a h1 w b.tab).mono ?_;rintro e w' ⟨rfl,k,os,rfl⟩;exact⟨rfl,Lib.below_grow _ _ (aj _) _ _⟩
theorem Acn{least v:Int}{l:List UInt8}(h:ag l=.ok v):decB least l=(decide (least<=v)&&decide (v<=1000000)&&am v==l):=by unfold decB;rw[h]
theorem Zs{least:Int}{l:List UInt8}(h:∀v,ag l≠.ok v):decB least l=false:=by
 unfold decB;split
 ·rename_i v a;exact absurd a (h v)
 ·rfl
theorem Iu(s:ByteArray)(least:Int)(w:World)(k:s.size<=1048576)(d:BJ w):Calls prog 246 #[ad s,.int .i64 least] w fun e w'=>e=aa (.bool (decB least s.data.toList))/\Below w.heap.size w w':=by
 by_cases l:∃v,ag s.data.toList=.ok v
 ·obtain⟨v,f⟩:=l;obtain⟨o,p⟩:=Lib.atoiAll_bounds f;have a:=Acn (least:=least) f;have g:=fun W i=>Acm s k v f W i
  have m:=fun W i=>Zr v o p W i
  rw[<-ae]at a⊢;generalize decB least s.toList=B at a⊢;generalize q:am v=r at a m;clear f q;by_cases h1:v<least
  ·have t:¬least<=v:=by omega
   have c:=Aa (show false=B by rw[a];simp[t]);clear a;go_enter func246,ntmps246;go_wp2_with (go_at_call 262;refine(g _ d).mono ?_;rintro e w1 ⟨rfl,b,j⟩)
   go_ret;exact⟨Au c.out,b⟩
  ·by_cases y:(1000000:Int)<v
   ·have u:¬v<=1000000:=by omega
    have c:=Aa (show false=B by rw[a];simp[u]);clear a;go_enter func246,ntmps246;go_wp2_with (go_at_call 262;refine(g _ d).mono ?_;rintro e w1 ⟨rfl,b,j⟩)
    go_ret;exact⟨Au c.out,b⟩
   ·have c:=Aa (show (r==s.toList)=B by rw[a,decide_eq_true (by omega:least<=v),decide_eq_true (by omega:v<=1000000)];rfl);clear a;go_enter func246,ntmps246;go_wp2_with (first | (go_at_call 262;refine(g _ d).mono ?_;rintro e w1 ⟨rfl,b,j⟩) | (go_at_call 216;refine(m _ j).mono ?_;rintro e w2 ⟨rfl,x⟩))
    go_ret;exact⟨Au c.out,b.trans (x.mono b.size)⟩
 ·have n:∀v,ag s.data.toList≠.ok v:=fun v h=>l ⟨v,h⟩
  rw[Zs n];go_enter func246,ntmps246;go_wp2_with (go_at_call 262;refine(Zq s k n _ d).mono ?_;rintro e w1 ⟨v,N,rfl,b⟩)
  go_ret;exact⟨rfl,b⟩
theorem Hj(c:UInt8)(w:World):Calls prog 179 #[.int .u8 (c.toNat:Int)] w fun e w'=>e=aa (.bool (nameByte c))/\w'=w:=by
 have b:c.toNat<256:=c.toNat_lt;have a:=S3 c;generalize nameByte c=B at a⊢;cases a
 all_goals
  go_enter func179,ntmps179;go_wp2;go_ret;exact⟨Au (by simp_all),rfl⟩
theorem Zt{s:ByteArray}(h:Df s s.size):nameB s.data.toList=(decide ((1:Int)<=(s.size:Int))&&decide ((s.size:Int)<=20)):=by
 rw[OW s h.all];congr 1 <;> exact decide_eq_decide.2 (by omega)
theorem MG(s:ByteArray)(w:World)(j:s.size<=1048576):Calls prog 134 #[ad s] w fun e w'=>e=aa (.bool (nameB s.data.toList))/\w'=w:=by
 go_enter func134,ntmps134;go_wp2;go_loop [6] (fun i=>∃k:Nat,k<=s.size/\i=.int .i64 (k:Int)/\Df s k) (fun i=>s.size-(intOf i).toNat)
 case atStart=>exact⟨0,al _,rfl,Df.zero s⟩
 case round =>
  obtain⟨k,l,rfl,c⟩:=hrel;by_cases g:k<s.size
  ·have m:s[k].toNat<256:=s[k].toNat_lt;cases a:nameByte s[k]
   ·have b:=Aa (S0 s (UK nameByte s k g a)).symm;have d:=fun W=>Hj s[k] W
    rw[a]at d;clear c a;go_wp2_with (go_at_call 179;refine(d _).mono ?_;rintro e w ⟨rfl,rfl⟩)
    go_ret;exact⟨Au b.out,rfl⟩
   ·have h:=c.succ g a;have d:=fun W=>Hj s[k] W
    rw[a]at d;clear c a;go_wp2_with (go_at_call 179;refine(d _).mono ?_;rintro e w ⟨rfl,rfl⟩)
    go_round
    case rel=>exact⟨k+1,by omega,by go_num,h⟩
    case measure=>simp[intOf];omega
  ·obtain rfl:k=s.size:=by omega
   have b:=Aa (Zt c).symm;clear c;by_cases h1:(1:Int)<=(s.size:Int)
   ·have f:=Aa (show decide ((s.size:Int)<=20)=nameB s.data.toList by rw[<-b.out,decide_eq_true h1,Bool.true_and]);clear b;go_wp2;go_ret;exact⟨Au f.out,rfl⟩
   ·have f:=Aa (show false=nameB s.data.toList by rw[<-b.out,decide_eq_false h1,Bool.false_and]);clear b;go_wp2;go_ret;exact⟨Au f.out,rfl⟩
theorem Aco(s:ByteArray)(w:World)(b:s.size<=1048576)(c:BJ w):Calls prog 225 #[.int .i64 1,ad s] w fun e w'=>e=aa (.bool (CQ s.data.toList))/\Below w.heap.size w w':=by
 have a:=Iu s 0 w b c;rw[Xs]at a;go_enter func225,ntmps225;go_wp2_with (go_at_call 246;refine a.mono ?_;rintro e w1 ⟨rfl,d⟩)
 go_ret;exact⟨rfl,d⟩
theorem Acp(s:ByteArray)(w:World)(b:s.size<=1048576)(c:BJ w):Calls prog 225 #[.int .i64 2,ad s] w fun e w'=>e=aa (.bool (E8 s.data.toList))/\Below w.heap.size w w':=by
 have a:=Iu s (-1000000) w b c;rw[Sv]at a;go_enter func225,ntmps225;go_wp2_with (go_at_call 246;refine a.mono ?_;rintro e w1 ⟨rfl,d⟩)
 go_ret;exact⟨rfl,d⟩
theorem Acq(s:ByteArray)(w:World)(a:s.size<=1048576):Calls prog 225 #[.int .i64 3,ad s] w fun e w'=>e=aa (.bool (nameB s.data.toList))/\Below w.heap.size w w':=by
 go_enter func225,ntmps225;go_wp2_with (go_at_call 134;refine(MG s _ a).mono ?_;rintro e w1 ⟨rfl,rfl⟩)
 go_ret;exact⟨rfl,ab _ _⟩
theorem Acr(s:ByteArray)(w:World):Calls prog 225 #[.int .i64 4,ad s] w fun e w'=>e=aa (.bool (decide (s.data.toList.length<=200)))/\Below w.heap.size w w':=by
 have e:s.data.toList.length=s.size:=by simp
 rw[e];go_enter func225,ntmps225;go_wp2;go_ret;exact⟨Au (decide_eq_decide.2 (by omega)),ab _ _⟩
theorem Acs(s:ByteArray)(w:World):Calls prog 225 #[.int .i64 5,ad s] w fun e w'=>e=aa (.bool (UL s.data.toList))/\Below w.heap.size w w':=by
 rw[<-ae];generalize a:s.toList=L;by_cases h1:L=[121,101,115]
 ·have b:(s.toList==[121,101,115])=true:=by rw[a,beq_iff_eq];exact h1
  have c:UL L=true:=by subst h1;decide
  go_enter func225,ntmps225;go_wp2;go_ret;exact⟨Au c.symm,ab _ _⟩
 ·have b:(s.toList==[121,101,115])=false:=by rw[a,beq_eq_false_iff_ne];exact h1
  go_enter func225,ntmps225;go_wp2;go_ret;exact⟨Au rfl,ab _ _⟩
theorem Acu(s:ByteArray)(w:World):Calls prog 225 #[.int .i64 6,ad s] w fun e w'=>e=aa (.bool (GA s.data.toList))/\Below w.heap.size w w':=by
 rw[<-ae];generalize a:s.toList=L;by_cases h1:L=[110,111,110,101]
 ·have d:(s.toList==[110,111,110,101])=true:=by rw[a,beq_iff_eq];exact h1
  have b:GA L=true:=by subst h1;decide
  go_enter func225,ntmps225;go_wp2;go_ret;exact⟨Au b.symm,ab _ _⟩
 ·have d:(s.toList==[110,111,110,101])=false:=by rw[a,beq_eq_false_iff_ne];exact h1
  by_cases c:L=[98,101,114,116,104]
  ·have f:(s.toList==[98,101,114,116,104])=true:=by rw[a,beq_iff_eq];exact c
   have b:GA L=true:=by subst c;decide
   go_enter func225,ntmps225;go_wp2;go_ret;exact⟨Au b.symm,ab _ _⟩
  ·have f:(s.toList==[98,101,114,116,104])=false:=by rw[a,beq_eq_false_iff_ne];exact c
   go_enter func225,ntmps225;go_wp2;go_ret;exact⟨Au rfl,ab _ _⟩
theorem Xy(t:Int)(h1:1<=t)(c:t<=6)(s:ByteArray)(w:World)(a:s.size<=1048576)(b:BJ w):Calls prog 225 #[.int .i64 t,ad s] w fun e w'=>e=aa (.bool (Fj t s.data.toList))/\Below w.heap.size w w':=by
 rcases six h1 c with rfl | rfl | rfl | rfl | rfl | rfl
 ·exact Aco s w a b
 ·exact Acp s w a b
 ·exact Acq s w a
 ·exact Acr s w
 ·exact Acs s w
 ·exact Acu s w
