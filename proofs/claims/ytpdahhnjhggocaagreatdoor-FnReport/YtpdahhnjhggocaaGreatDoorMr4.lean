import Derived.Test.YtpdahhnjhggocaaGreatDoorMr1
import Derived.Lib.ItoaMem
import Derived.Lib.AtoiAllCases
import Derived.Deep.RegionWith
import Derived.Shelf.Strconv.ErrVarAll
import Derived.Shelf.Strconv.Itoa3
import Derived.Shelf.LaysC
import Derived.Lib.AppendIntMem
open Go.Proofs.Tryz
open Go.Lib renaming decDigits->aa,atoiAll->ah,nDigits_small->ai,nDigits_big->aj,decDigits_length->al,nDigits_pos->ao,itoa_nonneg->ap,itoa->au,pow10Tab->bQ
open Go.Ending renaming returned->ab
open Go.RowKit.Below renaming refl->ac
open Bool renaming and_eq_true->ad,or_eq_true->ak,eq_iff_iff->aQ
open Go.Value renaming string->ae,tuple->a8,pointer->bR
open Go.ByteArray renaming toList_eq->af
open Option renaming some->ag
open UInt8 renaming ofNat->am
open Nat renaming le_refl->an,zero_le->ar,strongRecOn->a6
open List renaming all_cons->aq,length_cons->aG,head?_cons->aO,all_append->aP
open Go.IntKind renaming wrap_i64->av,i64->a7
open Go.Proofs.Tryz renaming zeroValue359->aw,zeroValue358->ax,zeroValue339->ay,zeroValue331->az,zeroValue329->aA,zeroValue279->aB,zeroValue277->aC,zeroValue215->aD,zeroValue22->aE,zeroValue20->aF,zeroValue9->aI,zeroValue5->aJ,zeroValue4->aK,zeroValue3->aL,zeroValue2->aM,zeroValue0->aN,sizeOf359->aR,sizeOf358->aS,sizeOf340->aT,sizeOf339->aU,sizeOf331->aV,sizeOf329->aW,sizeOf279->aX,sizeOf277->aY,sizeOf215->aZ,sizeOf22->ba,sizeOf20->bb,isAgg359->bc,isAgg358->bd,isAgg340->be,isAgg339->bf,isAgg331->bg,isAgg329->bh,isAgg279->bi,isAgg277->bj,isAgg215->bk,sizeOf9->bn,sizeOf5->bo,sizeOf4->bp,sizeOf3->bq,sizeOf2->br,sizeOf0->bs,isAgg22->bt,isAgg20->bu,func291->bv,func290->bw,func282->bx,func281->bz,func280->bA,func279->bB,func272->bC,func271->bD,func270->bE,func269->bF,func260->bG,func242->bH,func216->bI,func201->bJ,isAgg9->bK,isAgg5->bL,isAgg4->bM,isAgg3->bN,isAgg2->bO,isAgg0->bP
open Go.Shelf renaming Ren->aH
open Go.Proofs.LaysM renaming n171->bl
open Go.Proofs.LaysC renaming n172->bm
open Go.Obj renaming cells->bS
namespace Go.Proofs.YtpdahhnjhggocaaGreatDoor
open Go.RowKit
set_option maxHeartbeats 16000000
set_option maxRecDepth 100000
section
open Go.Lib
def DG(c:UInt8):Bool:=decide (48<=c.toNat)&&decide (c.toNat<=57)
def Ac2(a:Nat)(c:UInt8):Nat:=a*10+(c.toNat-48)
def C0(a:Nat)(l:List UInt8):Nat:=l.foldl Ac2 a
theorem Dc(a:Nat):C0 a []=a:=by rw[C0,List.foldl_nil]
theorem Dm(a:Nat)(c:UInt8)(r:List UInt8):C0 a (c::r)=C0 (a*10+(c.toNat-48)) r:=by
 rw[C0,List.foldl_cons,C0,Ac2]
def GR(l:List UInt8):Nat:=C0 0 l
def CI(l:List UInt8):Bool:=(decide (1<=l.length)&&decide (l.length<=7))&&l.all DG&&(aa (GR l)==l&&decide (GR l<=1000000))
def Et(l:List UInt8):Bool:=CI l || (decide (1<l.length)&&l.head? == ag 45&&l.tail != [48]&&CI l.tail)
def decB(least:Int)(l:List UInt8):Bool:=match atoiAll l with
 | .ok v=>decide (least<=v)&&decide (v<=1000000)&&itoa v==l
 | _=>false
theorem GS(l m:List UInt8)(a:Nat):C0 a (l++m)=C0 (C0 a l) m:=by
 rw[C0,List.foldl_append,C0,C0]
theorem TZ(l:List UInt8)(a:Nat):a<=C0 a l:=by
 induction l generalizing a with
 | nil=>rw[Dc];exact an _
 | cons c l b=>rw[Dm];exact Nat.le_trans (by omega) (b _)
theorem Ua(d:Nat)(h:d<10):(am (48+d)).toNat=48+d:=by rw[UInt8.toNat_ofNat'];omega
theorem Jb(u:Nat):(aa u).all DG=true/\GR (aa u)=u:=by
 induction u using a6 with
 | _ u a =>
  by_cases h:u<10
  ·rw[aa,dif_pos h];have:=Ua u h;refine⟨?_,?_⟩
   ·simp[DG];omega
   ·rw[GR,Dm,Dc,this];omega
  ·rw[aa,dif_neg h];obtain⟨b,i2⟩:=a (u/10) (by omega);have:=Ua (u%10) (by omega);refine⟨?_,?_⟩
   ·rw[aP,b];simp[DG];omega
   ·unfold GR at i2⊢;rw[GS,i2];rw[Dm,Dc,this];omega
theorem Fm(u:Nat)(h:u<=1000000):nDigits u<=7:=by
 by_cases a:u<10
 ·rw[ai a];omega
 ·rw[aj a];by_cases h1:u/10<10
  ·rw[ai h1];omega
  ·rw[aj h1];by_cases b:u/10/10<10
   ·rw[ai b];omega
   ·rw[aj b];by_cases c:u/10/10/10<10
    ·rw[ai c];omega
    ·rw[aj c];by_cases d:u/10/10/10/10<10
     ·rw[ai d];omega
     ·rw[aj d];by_cases e:u/10/10/10/10/10<10
      ·rw[ai e];omega
      ·rw[aj e,ai (by omega)];omega
theorem RO(u:Nat)(h:u<=1000000):CI (aa u)=true:=by
 have hd:=Jb u;have a:=al u;have h1:=ao u;have b:=Fm u h;unfold CI;rw[hd.1,hd.2,a];simp[h1,b,h]
theorem Eu(l:List UInt8):CI l=true↔∃u,u<=1000000/\l=aa u:=by
 constructor
 ·intro h;unfold CI at h;simp only[ad,beq_iff_eq,decide_eq_true_eq]at h;exact⟨GR l,h.2.2,h.2.1.symm⟩
 ·rintro⟨u,h,rfl⟩;exact RO u h
theorem Ub(l:List UInt8)(a:Nat)(hd:l.all DG=true)(b:C0 a l<10000000):parseUint10 a l=.ok (C0 a l):=by
 induction l generalizing a with
 | nil=>rw[Dc];rfl
 | cons c l d =>
  simp only[aq,ad,DG,decide_eq_true_eq]at hd;rw[Dm]at b⊢;have e:=TZ l (a*10+(c.toNat-48));simp only[parseUint10];rw[if_pos (by omega),if_neg (by omega),if_neg (by omega)];exact d _ hd.2 b
theorem Oi(u:Nat)(h:u<=1000000):parseMag (aa u)=.ok u:=by
 have hd:=Jb u;have a:aa u≠[]:=fun e=>by have:=al u;rw[e]at this;have:=ao u;simp at *;omega
 unfold parseMag;rw[if_neg a,Ub _ 0 hd.1 (by have:=hd.2;unfold GR at this;omega)];exact congrArg _ hd.2
theorem RP(u:Nat)(h:u<=1000000):atoiAll (aa u)=.ok (u:Int):=by
 have a:=Oi u h;have hd:=(Jb u).1;cases b:aa u with
 | nil=>have:=al u;rw[b]at this;have:=ao u;simp at *;omega
 | cons c r =>
  rw[b]at hd a;simp only[aq,ad,DG,decide_eq_true_eq]at hd;rw[atoiAll_plain c r (by omega) (by omega),a];unfold signless;dsimp only;rw[if_neg (by omega)]
theorem Yf(u:Nat)(h:u<=1000000):atoiAll (45::aa u)=.ok (-(u:Int)):=by
 rw[atoiAll_minus,Oi u h];unfold signed;dsimp only;rw[if_neg (by omega)]
theorem Wr(l:List UInt8):decB 0 l=CI l:=by
 rw[aQ,Eu];constructor
 ·intro h;unfold decB at h;split at h
  ·rename_i v b;simp only[ad,beq_iff_eq,decide_eq_true_eq]at h;obtain⟨⟨h1,c⟩,a⟩:=h;obtain⟨u,rfl⟩:∃u:Nat,v=(u:Int):=⟨v.toNat,by omega⟩;exact⟨u,by omega,by rw[<-a,ap]⟩
  ·cases h
 ·rintro⟨u,h,rfl⟩;unfold decB;rw[RP u h];simp only[ad,beq_iff_eq,decide_eq_true_eq];exact⟨⟨by omega,by omega⟩,ap u⟩
theorem Yg:aa 0=[48]:=by rw[aa,dif_pos (by omega)];rfl
theorem RQ(l:List UInt8):decB (-1000000) l=Et l:=by
 rw[aQ];constructor
 ·intro h;unfold decB at h;split at h
  ·rename_i v o;simp only[ad,beq_iff_eq,decide_eq_true_eq]at h;obtain⟨⟨h1,d⟩,a⟩:=h;unfold Et;rw[ak];by_cases b:0<=v
   ·left;rw[Eu];obtain⟨u,rfl⟩:∃u:Nat,v=(u:Int):=⟨v.toNat,by omega⟩;exact⟨u,by omega,by rw[<-a,ap]⟩
   ·right;have j:v=-((v.natAbs:Nat):Int):=by omega
    rw[j,itoa_neg _ (by omega)]at a;rw[<-a];have f:=al v.natAbs;have p:=ao v.natAbs;have k:aa v.natAbs≠[48]:=fun e=>by
     have:=(Jb v.natAbs).2;rw[e]at this;have b:GR [48]=0:=by decide
     omega
    simp only[aG,f,aO,List.tail_cons,RO _ (show v.natAbs<=1000000 by omega),Bool.and_true,ad,decide_eq_true_eq,beq_self_eq_true];exact⟨by omega,by simpa using k⟩
  ·cases h
 ·intro h;unfold Et at h;rw[ak]at h;rcases h with h|h
  ·obtain⟨u,g,rfl⟩:=(Eu l).1 h;unfold decB;rw[RP u g];simp only[ad,beq_iff_eq,decide_eq_true_eq];exact⟨⟨by omega,by omega⟩,ap u⟩
  ·simp only[ad,decide_eq_true_eq,beq_iff_eq,bne_iff_ne]at h;obtain⟨⟨⟨h1,d⟩,a⟩,m⟩:=h;obtain⟨u,g,i⟩:=(Eu l.tail).1 m;have f:l=45::aa u:=by
    cases l with
    | nil=>simp at d
    | cons c r=>simp only[aO,Option.some.injEq]at d;rw[d,<-i];rfl
   have n:1<=u:=by
    rcases Nat.eq_zero_or_pos u with b|b
    ·subst b;rw[i,Yg]at a;exact absurd rfl a
    ·exact b
   subst f;unfold decB;rw[Yf u g];simp only[ad,beq_iff_eq,decide_eq_true_eq];exact⟨⟨by omega,by omega⟩,itoa_neg u n⟩
end
variable {w w1:World}
section
open Go.Lib (decDigits)
theorem RV(d:Nat)(h:d<10):((am (48+d)).toNat:Int)=48+(d:Int):=by rw[Ua d h];omega
theorem Ol{d:Int}(c:UInt8)(hd:(c.toNat:Int)=d)(b:Below (w.alloc (bS #[.int .u8 d] 5)).drew.heap.size (w.alloc (bS #[.int .u8 d] 5)).drew w1):(convert 22 9 (.slice (ag ⟨w.heap.size,0,none⟩) 1 1)).run prog w1=.ok (ae ⟨#[c]⟩) w1:=by
 subst hd;exact FJ _ _ w.heap.size [c] 1 (AI (World.ownsRow_lit w #[.int .u8 (c.toNat:Int)] 1 (an _) (by decide) rfl).drew b)
theorem JQ(n:Nat):∀(w:World),n<=9999999->Calls prog 85 #[.int .i64 (n:Int)] w fun e w'=>e=ab (ae ⟨(aa n).toArray⟩)/\Below w.heap.size w w':=by
 induction n using a6 with
 | _ n g =>
 intro w l;by_cases h:n<10
 ·have a:=Jd w (am (48+n));rw[RV n h]at a;have i:¬((n:Int)<0):=by omega
  have j:(n:Int)<10:=by omega
  rw[aa,dif_pos h];go_enter func85,ntmps85;go_wp2;go_ret;exact⟨rfl,(ac _ w).alloc (an _) _⟩
 ·have i:¬((n:Int)<0):=by omega
  have j:¬((n:Int)<10):=by omega
  have f:=fun W=>g (n/10) (by omega) W (by omega)
  rw[show ((n/10:Nat):Int)=(n:Int)/10 from by omega]at f;have a:=fun W=>Jd W (am (48+n%10))
  have b:=RV (n%10) (by omega);rw[b]at a;rw[show ((n%10:Nat):Int)=(n:Int)%10 from by omega]at a b;rw[aa,dif_neg h];have k:(aa (n/10)).length<=7:=by rw[Lib.decDigits_length];exact Fm _ (by omega)
  generalize aa (n/10)=D at f k⊢;generalize am (48+n%10)=c at a b⊢;have m:=Ol (w:=w) _ b (ac _ _);have o:a7.wrap ((n:Int)/10)=(n:Int)/10:=by rw[av];omega
  have p:(n:Int).tmod 10=(n:Int)%10:=Int.tmod_eq_emod_of_nonneg (by omega);have q:a7.wrap (48+(n:Int)%10)=48+(n:Int)%10:=by rw[av];omega
  have r:IntKind.u8.wrap (48+(n:Int)%10)=48+(n:Int)%10:=by rw[IntKind.wrap_u8];omega
  go_enter func85,ntmps85;go_wp2;go_region_with (first|(go_at_call 85;refine(f _).mono ?_;rintro e w1 ⟨rfl,d⟩;have s:=Ol _ b d)|(go_at_call 85;refine(f _).mono ?_;rintro e w1 ⟨rfl,d⟩))
  all_goals
   go_wp2;go_ret;refine⟨Fo (congrArg Value.string (Wt D [c])),?_⟩
   first
    | exact((ac w.heap.size w).drew.trans d).alloc d.size _
    | exact((ac w.heap.size w).alloc (an _) _).drew.trans (d.mono (by simp))
end
variable {s:ByteArray}{k:Nat}
section
open Go.Lib (decDigits)
theorem Om(p:UInt8->Bool)(s:ByteArray)(k:Nat)(h:k<s.size):(s.data.toList.take (k+1)).all p=((s.data.toList.take k).all p&&p s[k]):=by
 rw[Hu s k h,aP];simp
theorem Ue(p:UInt8->Bool)(s:ByteArray)(k:Nat)(a:k<s.size)(h:p s[k]=false):s.data.toList.all p=false:=by
 rw[List.all_eq_false];exact⟨s[k],by simp[ByteArray.getElem_eq_getElem_data],by simp[h]⟩
theorem Adf(l:List UInt8)(hd:l.all DG=true)(a n:Nat)(b:a<10 ^ n):C0 a l<10 ^ (n+l.length):=by
 induction l generalizing a n with
 | nil=>rw[Dc];simpa using b
 | cons c l d =>
  simp only[aq,ad,DG,decide_eq_true_eq]at hd;rw[Dm,aG,show n+(l.length+1)=(n+1)+l.length from by omega];exact d hd.2 _ _ (by rw[Nat.pow_succ];omega)
theorem Aau(s:ByteArray)(k:Nat)(a:s.size<=7)(hd:(s.data.toList.take k).all DG=true):GR (s.data.toList.take k)<=9999999:=by
 have h:=Adf _ hd 0 0 (by decide);have e:s.data.toList.length=s.size:=by simp
 have b:(s.data.toList.take k).length<=7:=by rw[List.length_take,e];omega
 have c:10 ^ (0+(s.data.toList.take k).length)<=10 ^ 7:=Nat.pow_le_pow_right (by decide) (by omega);unfold GR;omega
theorem Yl(s:ByteArray)(k:Nat)(h:k<s.size):GR (s.data.toList.take (k+1))=GR (s.data.toList.take k)*10+(s[k].toNat-48):=by
 unfold GR;rw[Hu s k h,GS,Dm,Dc]
theorem RW(s:ByteArray)(h:¬(1<=s.size/\s.size<=7)):CI s.data.toList=false:=by
 have:s.data.toList.length=s.size:=by simp
 unfold CI;rw[this];by_cases h1:1<=s.size
 ·simp[h1,show ¬s.size<=7 from fun a=>h ⟨h1,a⟩]
 ·simp[h1]
theorem Ym(s:ByteArray)(h:s.data.toList.all DG=false):CI s.data.toList=false:=by
 unfold CI;rw[h];simp
theorem Yn(s:ByteArray)(h1:1<=s.size)(b:s.size<=7)(h:s.data.toList.all DG=true)(a:Nat)(c:GR s.data.toList=a):CI s.data.toList=(aa a==s.data.toList&&decide (a<=1000000)):=by
 have:s.data.toList.length=s.size:=by simp
 unfold CI;rw[h,c,this];simp[h1,b]
theorem Aav{a:Nat}{x:Bool}(b:x=(aa a==s.data.toList&&decide (a<=1000000)))(h:aa a=s.toList):decide ((a:Int)<=1000000)=x:=by
 rw[b,h,af];simp;omega
theorem Adg{a:Nat}{x:Bool}(b:x=(aa a==s.data.toList&&decide (a<=1000000)))(h:¬aa a=s.toList):false=x:=by
 rw[af]at h;rw[b,beq_eq_false_iff_ne.2 h];rfl
theorem GX(s:ByteArray)(w:World)(r:s.size<=1048576):Calls prog 222 #[ae s] w fun e w'=>e=ab (.bool (CI s.data.toList))/\Below w.heap.size w w':=by
 by_cases h1:1<=s.size
 ·by_cases h:s.size<=7
  ·have j:(1:Int)<=(s.size:Int):=by omega
   have p:(s.size:Int)<=7:=by omega
   go_enter func222,ntmps222;go_wp2;go_loop [3,4] (fun x i=>∃k a:Nat,k<=s.size/\a<=9999999/\x=.int .i64 (a:Int)/\i=.int .i64 (k:Int)/\Hid ((s.data.toList.take k).all DG=true)/\Hid (GR (s.data.toList.take k)=a)) (fun _ i=>s.size-(intOf i).toNat)
   case atStart=>exact⟨0,0,ar _,by omega,rfl,rfl,by show _=_;simp,by show _=_;simp[GR,Dc]⟩
   case round =>
    obtain⟨k,a,t,q,rfl,rfl,c,d⟩:=hrel;by_cases g:k<s.size
    ·have u:s[k].toNat<256:=s[k].toNat_lt;by_cases hd:48<=s[k].toNat/\s[k].toNat<=57
     ·have f:DG s[k]=true:=by unfold DG;simp[hd]
      have l:Hid ((s.data.toList.take (k+1)).all DG=true):=by show _=_;rw[Om DG s k g,c.out,f];rfl
      have m:Hid (GR (s.data.toList.take (k+1))=a*10+(s[k].toNat-48)):=by show _=_;rw[Yl s k g,d.out]
      have n:=Aau s (k+1) h l.out;rw[m.out]at n;have v:¬((s[k].toNat:Int)<48):=by omega
      have y:¬((57:Int)<(s[k].toNat:Int)):=by omega
      clear c d f;go_wp2;go_round
      case rel=>exact⟨k+1,a*10+(s[k].toNat-48),by omega,n,by go_num,by go_num,l,m⟩
      case measure=>simp[intOf];omega
     ·have f:DG s[k]=false:=by unfold DG;rw[Bool.and_eq_false_iff];simp;omega
      have b:Hid (CI s.data.toList=false):=Ym s (Ue DG s k g f);clear c d f;go_wp2
      all_goals
       go_ret;exact⟨As b.out.symm,ac _ _⟩
    ·obtain rfl:k=s.size:=by omega
     have b:Hid (CI s.data.toList=(aa a==s.data.toList&&decide (a<=1000000))):=by
      have e:s.data.toList.take s.size=s.data.toList:=FI s;exact Yn s h1 h (by rw[<-e];exact c.out) a (by rw[<-e];exact d.out)
     clear c d;go_wp2_with (go_at_call 85;refine(JQ a _ q).mono ?_;rintro e w1 ⟨rfl,o⟩)
     ·go_ret;exact⟨As (Aav b.out ‹_›),o⟩
     ·go_ret;exact⟨As (Adg b.out ‹_›),o⟩
  ·have p:¬((s.size:Int)<=7):=by omega
   have j:(1:Int)<=(s.size:Int):=by omega
   have b:Hid (CI s.data.toList=false):=RW s (by omega);go_enter func222,ntmps222;go_wp2;go_ret;exact⟨As b.out.symm,ac _ _⟩
 ·have j:¬((1:Int)<=(s.size:Int)):=by omega
  have b:Hid (CI s.data.toList=false):=RW s (by omega);go_enter func222,ntmps222;go_wp2;go_ret;exact⟨As b.out.symm,ac _ _⟩
def nameByte(c:UInt8):Bool:=(decide (97<=c.toNat)&&decide (c.toNat<=122)) || (decide (48<=c.toNat)&&decide (c.toNat<=57)) || decide (c.toNat=45)
def nameB(l:List UInt8):Bool:=l.all nameByte&&(decide (1<=l.length)&&decide (l.length<=20))
theorem Ga{c:UInt8}(h:(97<=c.toNat/\c.toNat<=122)\/(48<=c.toNat/\c.toNat<=57)\/c.toNat=45):nameByte c=true:=by
 unfold nameByte;simp only[ak,ad,decide_eq_true_eq];omega
theorem GY{c:UInt8}(h:¬((97<=c.toNat/\c.toNat<=122)\/(48<=c.toNat/\c.toNat<=57)\/c.toNat=45)):nameByte c=false:=by
 rw[Bool.eq_false_iff];unfold nameByte;simp only[ne_eq,ak,ad,decide_eq_true_eq];omega
theorem On(s:ByteArray)(h:¬(1<=s.size/\s.size<=20)):nameB s.data.toList=false:=by
 have e:s.data.toList.length=s.size:=by simp
 unfold nameB;rw[e];by_cases h1:1<=s.size
 ·simp[h1,show ¬s.size<=20 from fun a=>h ⟨h1,a⟩]
 ·simp[h1]
theorem RX(s:ByteArray)(h:s.data.toList.all nameByte=false):nameB s.data.toList=false:=by unfold nameB;rw[h];rfl
theorem Oo(s:ByteArray)(h:s.data.toList.all nameByte=true):nameB s.data.toList=(decide (1<=s.size)&&decide (s.size<=20)):=by
 have e:s.data.toList.length=s.size:=by simp
 unfold nameB;rw[h,e];rfl
def Da(s:ByteArray)(k:Nat):Prop:=(s.data.toList.take k).all nameByte=true
theorem Da.zero(s:ByteArray):Da s 0:=by simp[Da]
theorem Da.succ(h:Da s k)(a:k<s.size)(b:nameByte s[k]=true):Da s (k+1):=by
 unfold Da at h⊢;rw[Om nameByte s k a,h,b];rfl
theorem Da.all(h:Da s s.size):s.data.toList.all nameByte=true:=by rw[<-FI s];exact h
inductive EU (c:UInt8):Bool->Prop
 | letter (h1:(97:Int)<=(c.toNat:Int)) (h2:(c.toNat:Int)<=122):EU c true
 | digit (h1:¬(97:Int)<=(c.toNat:Int)) (h2:(48:Int)<=(c.toNat:Int)) (h3:(c.toNat:Int)<=57):EU c true
 | hyphen (h1:¬(97:Int)<=(c.toNat:Int)) (h2:¬(48:Int)<=(c.toNat:Int)) (h3:((c.toNat:Int)==45)=true):EU c true
 | low (h1:¬(97:Int)<=(c.toNat:Int)) (h2:¬(48:Int)<=(c.toNat:Int)) (h3:((c.toNat:Int)==45)=false):EU c false
 | mid (h1:¬(97:Int)<=(c.toNat:Int)) (h2:(48:Int)<=(c.toNat:Int)) (h3:¬(c.toNat:Int)<=57) (h4:((c.toNat:Int)==45)=false):EU c false
 | high (h1:(97:Int)<=(c.toNat:Int)) (h2:¬(c.toNat:Int)<=122) (h3:(48:Int)<=(c.toNat:Int)) (h4:¬(c.toNat:Int)<=57) (h5:((c.toNat:Int)==45)=false):EU c false
theorem RY(c:UInt8):EU c (nameByte c):=by
 by_cases a1:97<=c.toNat
 ·by_cases a2:c.toNat<=122
  ·rw[Ga (by omega)];exact .letter (by omega) (by omega)
  ·rw[GY (by omega)];exact .high (by omega) (by omega) (by omega) (by omega) (by rw[beq_eq_false_iff_ne];omega)
 ·by_cases a:48<=c.toNat
  ·by_cases b:c.toNat<=57
   ·rw[Ga (by omega)];exact .digit (by omega) (by omega) (by omega)
   ·rw[GY (by omega)];exact .mid (by omega) (by omega) (by omega) (by rw[beq_eq_false_iff_ne];omega)
  ·by_cases d:c.toNat=45
   ·rw[Ga (by omega)];exact .hyphen (by omega) (by omega) (by rw[beq_iff_eq];omega)
   ·rw[GY (by omega)];exact .low (by omega) (by omega) (by rw[beq_eq_false_iff_ne];omega)
theorem Gb(s:ByteArray)(w:World)(m:s.size<=1048576):Calls prog 57 #[ae s] w fun e w'=>e=ab (.bool (nameB s.data.toList))/\w'=w:=by
 by_cases h1:1<=s.size
 ·by_cases h:s.size<=20
  ·have f:(1:Int)<=(s.size:Int):=by omega
   have j:(s.size:Int)<=20:=by omega
   go_enter func57,ntmps57;go_wp2;go_loop [3,4] (fun i _=>∃k:Nat,k<=s.size/\i=.int .i64 (k:Int)/\Da s k) (fun i _=>s.size-(intOf i).toNat)
   case atStart=>exact⟨0,ar _,rfl,Da.zero s⟩
   case round =>
    obtain⟨k,n,rfl,c⟩:=hrel;by_cases g:k<s.size
    ·have o:s[k].toNat<256:=s[k].toNat_lt;have d:=RY s[k];cases b:nameByte s[k]
     ·have a:Hid (nameB s.data.toList=false):=RX s (Ue nameByte s k g b);rw[b]at d;clear c b;cases d
      all_goals
       go_wp2;go_ret;exact⟨As a.out.symm,rfl⟩
     ·have l:=c.succ g b;rw[b]at d;clear c b;cases d
      all_goals
       go_wp2;go_round
       case rel=>exact⟨k+1,by omega,by go_num,l⟩
       case measure=>simp[intOf];omega
    ·obtain rfl:k=s.size:=by omega
     have a:Hid (nameB s.data.toList=true):=by show _=_;rw[Oo s c.all];simp[h1,h]
     clear c;go_wp2;go_ret;exact⟨As a.out.symm,rfl⟩
  ·have j:¬((s.size:Int)<=20):=by omega
   have f:(1:Int)<=(s.size:Int):=by omega
   have a:Hid (nameB s.data.toList=false):=On s (by omega);go_enter func57,ntmps57;go_wp2;go_ret;exact⟨As a.out.symm,rfl⟩
 ·have f:¬((1:Int)<=(s.size:Int)):=by omega
  have a:Hid (nameB s.data.toList=false):=On s (by omega);go_enter func57,ntmps57;go_wp2;go_ret;exact⟨As a.out.symm,rfl⟩
end
def Uf(l:List UInt8):Bool:=l==[121,101,115] || l==[110,111]
def Gc(l:List UInt8):Bool:=l==[110,111,110,101] || l==[98,101,114,116,104] || l==[122,111,110,101]
def EV(t:Int)(l:List UInt8):Bool :=
 if t=1 then CI l else if t=2 then Et l else if t=3 then nameB l else if t=4 then decide (l.length<=200) else if t=5 then Uf l else Gc l
theorem six{t:Int}(h1:1<=t)(a:t<=6):t=1\/t=2\/t=3\/t=4\/t=5\/t=6:=by omega
theorem Yo(s:ByteArray)(w:World)(a:s.size<=1048576):Calls prog 171 #[.int .i64 1,ae s] w fun e w'=>e=ab (.bool (CI s.data.toList))/\Below w.heap.size w w':=by
 go_enter func171,ntmps171;go_wp2_with (go_at_call 222;refine(GX s _ a).mono ?_;rintro e w1 ⟨rfl,b⟩)
 go_ret;exact⟨rfl,b⟩
theorem Yp(s:ByteArray)(w:World)(a:s.size<=1048576):Calls prog 171 #[.int .i64 3,ae s] w fun e w'=>e=ab (.bool (nameB s.data.toList))/\Below w.heap.size w w':=by
 go_enter func171,ntmps171;go_wp2_with (go_at_call 57;refine(Gb s _ a).mono ?_;rintro e w ⟨rfl,rfl⟩)
 go_ret;exact⟨rfl,ac _ _⟩
theorem Yq(s:ByteArray)(w:World):Calls prog 171 #[.int .i64 4,ae s] w fun e w'=>e=ab (.bool (decide (s.data.toList.length<=200)))/\Below w.heap.size w w':=by
 have e:s.data.toList.length=s.size:=by simp
 rw[e];go_enter func171,ntmps171;go_wp2;go_ret;exact⟨As (decide_eq_decide.2 (by omega)),ac _ _⟩
theorem Yr(s:ByteArray)(w:World):Calls prog 171 #[.int .i64 5,ae s] w fun e w'=>e=ab (.bool (Uf s.data.toList))/\Below w.heap.size w w':=by
 rw[<-af];generalize a:s.toList=L;by_cases h1:L=[121,101,115]
 ·have b:(s.toList==[121,101,115])=true:=by rw[a,beq_iff_eq];exact h1
  have c:Uf L=true:=by subst h1;decide
  go_enter func171,ntmps171;go_wp2;go_ret;exact⟨As c.symm,ac _ _⟩
 ·have b:(s.toList==[121,101,115])=false:=by rw[a,beq_eq_false_iff_ne];exact h1
  go_enter func171,ntmps171;go_wp2;go_ret;exact⟨As rfl,ac _ _⟩
theorem Ys(s:ByteArray)(w:World):Calls prog 171 #[.int .i64 6,ae s] w fun e w'=>e=ab (.bool (Gc s.data.toList))/\Below w.heap.size w w':=by
 rw[<-af];generalize a:s.toList=L;by_cases h1:L=[110,111,110,101]
 ·have d:(s.toList==[110,111,110,101])=true:=by rw[a,beq_iff_eq];exact h1
  have b:Gc L=true:=by subst h1;decide
  go_enter func171,ntmps171;go_wp2;go_ret;exact⟨As b.symm,ac _ _⟩
 ·have d:(s.toList==[110,111,110,101])=false:=by rw[a,beq_eq_false_iff_ne];exact h1
  by_cases c:L=[98,101,114,116,104]
  ·have f:(s.toList==[98,101,114,116,104])=true:=by rw[a,beq_iff_eq];exact c
   have b:Gc L=true:=by subst c;decide
   go_enter func171,ntmps171;go_wp2;go_ret;exact⟨As b.symm,ac _ _⟩
  ·have f:(s.toList==[98,101,114,116,104])=false:=by rw[a,beq_eq_false_iff_ne];exact c
   go_enter func171,ntmps171;go_wp2;go_ret;exact⟨As rfl,ac _ _⟩
theorem Wu{l:List UInt8}(h:CI l=true):Et l=true:=by unfold Et;rw[h];rfl
theorem LO{l:List UInt8}(h:CI l=false)(a:(decide (1<l.length)&&l.head? == ag 45&&l.tail != [48])=false):Et l=false:=by unfold Et;rw[h,a];rfl
theorem Ug{l:List UInt8}(h:CI l=false)(a:(decide (1<l.length)&&l.head? == ag 45&&l.tail != [48])=true):Et l=CI l.tail:=by unfold Et;rw[h,a];simp
theorem Ab{p:Prop}(h:p):Hid p:=h
theorem Aaw(s:ByteArray)(h:0<s.size):s.data.toList.head?=ag s[0]:=by
 have:=Bj s 0 h;rw[List.drop_zero]at this;rw[this];rfl
theorem CS(s:ByteArray)(w:World)(a:s.size<=1048576)(b:Bool)(h:CI s.data.toList=b):Calls prog 222 #[ae s] w fun e w'=>e=ab (.bool b)/\Below w.heap.size w w':=by
 rw[<-h];exact GX s w a
theorem Uh(s:ByteArray):(s.extract 1 s.size).data.toList=s.data.toList.tail:=by
 rw[DC];simp
theorem Wv{l:List UInt8}{b:Bool}(h:CI l=false)(h1:1<l.length)(a:l.head?=ag 45)(c:¬l.tail=[48])(d:CI l.tail=b):b=Et l:=by
 rw[Ug h (by rw[a];simp[h1,c]),d]
theorem Ui{l:List UInt8}(h:CI l=false)(a:l.tail=[48]):false=Et l:=by
 rw[LO h (by rw[a];simp)]
theorem RZ{l:List UInt8}(h:CI l=false)(h1:¬ 1<l.length):false=Et l:=by
 rw[LO h (by simp[h1])]
theorem Uj{l:List UInt8}(h:CI l=false)(a:¬l.head?=ag 45):false=Et l:=by
 rw[LO h (by simp[a])]
theorem Yt(s:ByteArray)(w:World)(i:s.size<=1048576):Calls prog 171 #[.int .i64 2,ae s] w fun e w'=>e=ab (.bool (Et s.data.toList))/\Below w.heap.size w w':=by
 cases a:CI s.data.toList
 ·by_cases h1:1<s.size
  ·have o:(1:Int)<(s.size:Int):=by omega
   have j:=Aaw s (by omega);have k:1<s.data.toList.length:=by
    have v:s.data.toList.length=s.size:=by simp
    omega
   have f:=Uh s;have p:(s.extract 1 s.size).size<=1048576:=by rw[ByteArray.size_extract];omega
   by_cases n:s[0].toNat=45
   ·have q:((s[0].toNat:Int)==45)=true:=by rw[beq_iff_eq];omega
    have l:s.data.toList.head?=ag 45:=by rw[j];congr 1;exact UInt8.toNat_inj.1 n
    by_cases g:s.data.toList.tail=[48]
    ·have c:=Ab (Ui a g);have r:((s.extract 1 s.size).toList==[48])=true:=by rw[af,f,g];rfl
     have d:=fun W=>CS s W i false a
     clear j l g f a k;go_enter func171,ntmps171;go_wp2_with (go_at_call 222;refine(d _).mono ?_;rintro e w1 ⟨rfl,b⟩)
     go_ret;exact⟨As c.out,b⟩
    ·have r:((s.extract 1 s.size).toList==[48])=false:=by rw[af,f,beq_eq_false_iff_ne];exact g
     cases m:CI s.data.toList.tail
     all_goals
      have c:=Ab (Wv a k l g m);have d:=fun W=>CS s W i false a
      have t:=fun W=>CS (s.extract 1 s.size) W p _ (f▸m)
      clear j l g f a k m;go_enter func171,ntmps171;go_wp2_with (go_at_call 222;refine(d _).mono ?_)
      rintro e w1 ⟨rfl,b⟩;go_wp2_with (go_at_call 222;refine(t _).mono ?_)
      rintro e w2 ⟨rfl,u⟩;go_wp2;go_ret;exact⟨As c.out,b.trans (u.mono b.size)⟩
   ·have q:((s[0].toNat:Int)==45)=false:=by rw[beq_eq_false_iff_ne];omega
    have c:=Ab (Uj a (by rw[j];intro h;exact n (by rw[Option.some.inj h];rfl)));have d:=fun W=>CS s W i false a
    clear j f a k;go_enter func171,ntmps171;go_wp2_with (go_at_call 222;refine(d _).mono ?_;rintro e w1 ⟨rfl,b⟩)
    go_ret;exact⟨As c.out,b⟩
  ·have o:¬((1:Int)<(s.size:Int)):=by omega
   have c:=Ab (RZ a (by rw[Array.length_toList];exact h1));have d:=fun W=>CS s W i false a
   clear a;go_enter func171,ntmps171;go_wp2_with (go_at_call 222;refine(d _).mono ?_;rintro e w1 ⟨rfl,b⟩)
   go_ret;exact⟨As c.out,b⟩
 ·have c:=Ab (Wu a).symm;have d:=fun W=>CS s W i true a
  clear a;go_enter func171,ntmps171;go_wp2_with (go_at_call 222;refine(d _).mono ?_;rintro e w1 ⟨rfl,b⟩)
  go_ret;exact⟨As c.out,b⟩
theorem Uk(t:Int)(h1:1<=t)(b:t<=6)(s:ByteArray)(w:World)(a:s.size<=1048576):Calls prog 171 #[.int .i64 t,ae s] w fun e w'=>e=ab (.bool (EV t s.data.toList))/\Below w.heap.size w w':=by
 rcases six h1 b with rfl|rfl|rfl|rfl|rfl|rfl
 ·exact Yo s w a
 ·exact Yt s w a
 ·exact Yp s w a
 ·exact Yq s w
 ·exact Yr s w
 ·exact Ys s w
section
open Go.Shelf
def laysC172_ren:aH:=⟨fun|172=>262|244=>274|245=>275|247=>283|279=>284|280=>285|281=>286|282=>287|287=>292|316=>248|171=>216|205=>293|321=>296|322=>297|243=>242|246=>260|283=>269|284=>270|285=>271|286=>272|129=>201|317=>279|318=>280|319=>281|320=>282|337=>290|338=>291|n=>n,fun|9=>9|3=>3|75=>106|76=>147|4=>4|5=>5|167=>341|37=>22|0=>0|85=>342|2=>2|168=>344|53=>279|175=>348|46=>215|210=>351|127=>196|145=>363|143=>361|21=>21|171=>329|173=>331|212=>339|51=>277|20=>20|213=>340|232=>358|233=>359|80=>104|n=>n,fun|15=>4|16=>5|17=>3|18=>8|19=>9|n=>n⟩
theorem LP:bm prog laysC172_ren:={
 mixed:=by kernel_rfl
 f129:=bJ.trans (congrArg ag (by kernel_rfl))
 f171:=bI.trans (congrArg ag (by kernel_rfl))
 f172:=Tryz.func262.trans (congrArg ag (by kernel_rfl))
 f205:=Tryz.func293.trans (congrArg ag (by kernel_rfl))
 f243:=bH.trans (congrArg ag (by kernel_rfl))
 f244:=Tryz.func274.trans (congrArg ag (by kernel_rfl))
 f245:=Tryz.func275.trans (congrArg ag (by kernel_rfl))
 f246:=bG.trans (congrArg ag (by kernel_rfl))
 f247:=Tryz.func283.trans (congrArg ag (by kernel_rfl))
 f279:=Tryz.func284.trans (congrArg ag (by kernel_rfl))
 f280:=Tryz.func285.trans (congrArg ag (by kernel_rfl))
 f281:=Tryz.func286.trans (congrArg ag (by kernel_rfl))
 f282:=Tryz.func287.trans (congrArg ag (by kernel_rfl))
 f283:=bF.trans (congrArg ag (by kernel_rfl))
 f284:=bE.trans (congrArg ag (by kernel_rfl))
 f285:=bD.trans (congrArg ag (by kernel_rfl))
 f286:=bC.trans (congrArg ag (by kernel_rfl))
 f287:=Tryz.func292.trans (congrArg ag (by kernel_rfl))
 f316:=Tryz.func248.trans (congrArg ag (by kernel_rfl))
 f317:=bB.trans (congrArg ag (by kernel_rfl))
 f318:=bA.trans (congrArg ag (by kernel_rfl))
 f319:=bz.trans (congrArg ag (by kernel_rfl))
 f320:=bx.trans (congrArg ag (by kernel_rfl))
 f321:=Tryz.func296.trans (congrArg ag (by kernel_rfl))
 f322:=Tryz.func297.trans (congrArg ag (by kernel_rfl))
 f337:=bw.trans (congrArg ag (by kernel_rfl))
 f338:=bv.trans (congrArg ag (by kernel_rfl))
 t0:=underlying0
 a0:=bP
 z0:=bs
 v0:=aN
 t2:=underlying2
 a2:=bO
 z2:=br
 v2:=aM
 t3:=underlying3
 a3:=bN
 z3:=bq
 v3:=aL
 t4:=underlying4
 a4:=bM
 z4:=bp
 v4:=aK
 t5:=underlying5
 a5:=bL
 z5:=bo
 v5:=aJ
 t9:=underlying9
 a9:=bK
 z9:=bn
 v9:=aI
 t20:=underlying20
 a20:=bu
 z20:=bb
 v20:=aF
 t21:=underlying21
 a21:=Tryz.isAgg21
 z21:=Tryz.sizeOf21
 v21:=Tryz.zeroValue21
 t37:=underlying22
 a37:=bt
 z37:=ba
 v37:=aE
 t46:=underlying215
 a46:=bk
 z46:=aZ
 v46:=aD
 t51:=underlying277
 a51:=bj
 z51:=aY
 v51:=aC
 t53:=underlying279
 a53:=bi
 z53:=aX
 v53:=aB
 t75:=underlying106
 a75:=Tryz.isAgg106
 z75:=Tryz.sizeOf106
 v75:=Tryz.zeroValue106
 t76:=underlying147
 a76:=Tryz.isAgg147
 z76:=Tryz.sizeOf147
 v76:=Tryz.zeroValue147
 t85:=underlying342
 a85:=Tryz.isAgg342
 z85:=Tryz.sizeOf342
 v85:=Tryz.zeroValue342
 t127:=underlying196
 a127:=Tryz.isAgg196
 z127:=Tryz.sizeOf196
 v127:=Tryz.zeroValue196
 t143:=underlying361
 a143:=Tryz.isAgg361
 z143:=Tryz.sizeOf361
 v143:=Tryz.zeroValue361
 t145:=underlying363
 a145:=Tryz.isAgg363
 z145:=Tryz.sizeOf363
 v145:=Tryz.zeroValue363
 t167:=underlying341
 a167:=Tryz.isAgg341
 z167:=Tryz.sizeOf341
 v167:=Tryz.zeroValue341
 t168:=underlying344
 a168:=Tryz.isAgg344
 z168:=Tryz.sizeOf344
 v168:=Tryz.zeroValue344
 t171:=underlying329
 a171:=bh
 z171:=aW
 v171:=aA
 t173:=underlying331
 a173:=bg
 z173:=aV
 v173:=az
 t175:=underlying348
 a175:=Tryz.isAgg348
 z175:=Tryz.sizeOf348
 v175:=Tryz.zeroValue348
 t210:=underlying351
 a210:=Tryz.isAgg351
 z210:=Tryz.sizeOf351
 v210:=Tryz.zeroValue351
 t212:=underlying339
 a212:=bf
 z212:=aU
 v212:=ay
 t213:=underlying340
 a213:=be
 z213:=aT
 t232:=underlying358
 a232:=bd
 z232:=aS
 v232:=ax
 t233:=underlying359
 a233:=bc
 z233:=aR
 v233:=aw
 g15:=by kernel_rfl
 g16:=by kernel_rfl
 g17:=by kernel_rfl
 g18:=by kernel_rfl
 g19:=by kernel_rfl
 t80:=underlying104
 a80:=Tryz.isAgg104
 z80:=Tryz.sizeOf104
 v80:=Tryz.zeroValue104
 i0:=by kernel_rfl
 i2:=by kernel_rfl
 i3:=by kernel_rfl
 i4:=by kernel_rfl
 i5:=by kernel_rfl
 i9:=by kernel_rfl
 i20:=by kernel_rfl
 i21:=by kernel_rfl
 i37:=by kernel_rfl
 i46:=by kernel_rfl
 i51:=by kernel_rfl
 i53:=by kernel_rfl
 i75:=by kernel_rfl
 i76:=by kernel_rfl
 i80:=by kernel_rfl
 i85:=by kernel_rfl
 i127:=by kernel_rfl
 i143:=by kernel_rfl
 i145:=by kernel_rfl
 i167:=by kernel_rfl
 i168:=by kernel_rfl
 i171:=by kernel_rfl
 i173:=by kernel_rfl
 i175:=by kernel_rfl
 i210:=by kernel_rfl
 i212:=by kernel_rfl
 i232:=by kernel_rfl
 i233:=by kernel_rfl
 m15:=by kernel_rfl
 m16:=by kernel_rfl
 m17:=by kernel_rfl
 m18:=by kernel_rfl
 m19:=by kernel_rfl
 c0:=by kernel_rfl
 c2:=by kernel_rfl
 c3:=by kernel_rfl
 c4:=by kernel_rfl
 c5:=by kernel_rfl
 c9:=by kernel_rfl
 c20:=by kernel_rfl
 c21:=by kernel_rfl
 c37:=by kernel_rfl
 c46:=by kernel_rfl
 c51:=by kernel_rfl
 c53:=by kernel_rfl
 c75:=by kernel_rfl
 c76:=by kernel_rfl
 c80:=by kernel_rfl
 c85:=by kernel_rfl
 c127:=by kernel_rfl
 c143:=by kernel_rfl
 c145:=by kernel_rfl
 c167:=by kernel_rfl
 c168:=by kernel_rfl
 c171:=by kernel_rfl
 c173:=by kernel_rfl
 c175:=by kernel_rfl
 c210:=by kernel_rfl
 c212:=by kernel_rfl
 c213:=by kernel_rfl
 c232:=by kernel_rfl
 c233:=by kernel_rfl }
open Go.RowKit in
theorem strconv_Atoi_ok(s:ByteArray)(a:s.size<=9223372036854775806)(v:Int)(h:ah s.data.toList=.ok v)(w:World):
  Calls prog 262 #[ae s] w fun e w'=>e=ab (a8 #[.int .i64 v,.nilIface])/\(w'=w\/∃t,w'=Lib.bytesWorld w 5 t):=Any.strconv_Atoi_ok LP s a v h w
open Go.RowKit in
theorem strconv_Atoi_syntax_var(s : ByteArray)(b : s.size <= 281474976710656)(h : ah s.data.toList = .«syntax»)(a : TypeId)(p : Value)(w : World)(c : w.var? prog "strconv.ErrSyntax" = ag #[.iface a p]):
  Calls prog 262 #[ae s] w fun e w'=>∃N,e=ab (a8 #[.int .i64 0,.iface 344 (bR (ag ⟨N,0,none⟩))])/\w.heap.size<=N/\w'.heap[N]?=ag (bS #[ae ⟨#[65,116,111,105]⟩,ae s,.iface a p] 351 (0,0))/\Below w.heap.size w w':=Any.strconv_Atoi_syntax_var LP s b h a p w c
open Go.RowKit in
theorem strconv_Atoi_range_var(s : ByteArray)(b : s.size <= 281474976710656)(h : ah s.data.toList = .range)(a : TypeId)(p : Value)(w : World)(c : w.var? prog "strconv.ErrRange" = ag #[.iface a p]):
  Calls prog 262 #[ae s] w fun e w'=>∃N,e=ab (a8 #[.int .i64 (Lib.atoiSat s.data.toList),.iface 344 (bR (ag ⟨N,0,none⟩))])/\w.heap.size<=N/\w'.heap[N]?=ag (bS #[ae ⟨#[65,116,111,105]⟩,ae s,.iface a p] 351 (0,0))/\Below w.heap.size w w':=Any.strconv_Atoi_range_var LP s b h a p w c
def laysM171_ren:aH:=⟨fun|171=>216|243=>242|246=>260|283=>269|284=>270|285=>271|286=>272|129=>201|317=>279|318=>280|319=>281|320=>282|337=>290|338=>291|n=>n,fun|3=>3|9=>9|2=>2|4=>4|171=>329|0=>0|53=>279|37=>22|5=>5|173=>331|212=>339|51=>277|20=>20|213=>340|46=>215|232=>358|233=>359|n=>n,fun|17=>3|18=>8|19=>9|n=>n⟩
theorem Yu:bl prog laysM171_ren:={
 mixed:=by kernel_rfl
 f129:=bJ.trans (congrArg ag (by kernel_rfl))
 f171:=bI.trans (congrArg ag (by kernel_rfl))
 f243:=bH.trans (congrArg ag (by kernel_rfl))
 f246:=bG.trans (congrArg ag (by kernel_rfl))
 f283:=bF.trans (congrArg ag (by kernel_rfl))
 f284:=bE.trans (congrArg ag (by kernel_rfl))
 f285:=bD.trans (congrArg ag (by kernel_rfl))
 f286:=bC.trans (congrArg ag (by kernel_rfl))
 f317:=bB.trans (congrArg ag (by kernel_rfl))
 f318:=bA.trans (congrArg ag (by kernel_rfl))
 f319:=bz.trans (congrArg ag (by kernel_rfl))
 f320:=bx.trans (congrArg ag (by kernel_rfl))
 f337:=bw.trans (congrArg ag (by kernel_rfl))
 f338:=bv.trans (congrArg ag (by kernel_rfl))
 t0:=underlying0
 a0:=bP
 z0:=bs
 v0:=aN
 t2:=underlying2
 a2:=bO
 z2:=br
 v2:=aM
 t3:=underlying3
 a3:=bN
 z3:=bq
 v3:=aL
 t4:=underlying4
 a4:=bM
 z4:=bp
 v4:=aK
 t5:=underlying5
 a5:=bL
 z5:=bo
 v5:=aJ
 t9:=underlying9
 a9:=bK
 z9:=bn
 v9:=aI
 t20:=underlying20
 a20:=bu
 z20:=bb
 v20:=aF
 t37:=underlying22
 a37:=bt
 z37:=ba
 v37:=aE
 t46:=underlying215
 a46:=bk
 z46:=aZ
 v46:=aD
 t51:=underlying277
 a51:=bj
 z51:=aY
 v51:=aC
 t53:=underlying279
 a53:=bi
 z53:=aX
 v53:=aB
 t171:=underlying329
 a171:=bh
 z171:=aW
 v171:=aA
 t173:=underlying331
 a173:=bg
 z173:=aV
 v173:=az
 t212:=underlying339
 a212:=bf
 z212:=aU
 v212:=ay
 t213:=underlying340
 a213:=be
 z213:=aT
 t232:=underlying358
 a232:=bd
 z232:=aS
 v232:=ax
 t233:=underlying359
 a233:=bc
 z233:=aR
 v233:=aw
 g17:=by kernel_rfl
 g18:=by kernel_rfl
 g19:=by kernel_rfl
 i0:=by kernel_rfl
 i2:=by kernel_rfl
 i3:=by kernel_rfl
 i4:=by kernel_rfl
 i5:=by kernel_rfl
 i9:=by kernel_rfl
 i20:=by kernel_rfl
 i37:=by kernel_rfl
 i46:=by kernel_rfl
 i51:=by kernel_rfl
 i53:=by kernel_rfl
 i171:=by kernel_rfl
 i173:=by kernel_rfl
 i212:=by kernel_rfl
 i232:=by kernel_rfl
 i233:=by kernel_rfl
 m17:=by kernel_rfl
 m18:=by kernel_rfl
 m19:=by kernel_rfl }
open Go.RowKit Go.Sort Go.Lib in
theorem strconv_Itoa(n : Int)(a : -9223372036854775808 <= n)(h1 : n <= 9223372036854775807)(w : World)(b : Lib.TabIs prog w "internal/strconv.uint64pow10" .u64 bQ):
  Calls prog 216 #[.int .i64 n] w fun e w'=>e=ab (ae ⟨(au n).toArray⟩)/\∃k c,w'=grow (w.drewN k) c:=Any.strconv_Itoa Yu n a h1 w b
end
variable {g:Nat}{cs:Array Value}{w':World}
structure BZ(w:World):Prop where
 syn : ∃tp p, w.var? prog "strconv.ErrSyntax" = ag #[.iface tp p]
 ran : ∃tp p, w.var? prog "strconv.ErrRange" = ag #[.iface tp p]
 tab : Lib.TabIs prog w "internal/strconv.uint64pow10" .u64 bQ
theorem JR{n:String}(b:Tryz.prog.globalNamed n=ag g)(a:w.var? prog n=ag cs)(c:Below w.heap.size w w'):w'.var? prog n=ag cs:=by
 refine var?_below c b ?_ a;unfold World.var? at a;rw[b,Option.bind_some]at a;rcases Nat.lt_or_ge g w.heap.size with h|h
 ·exact h
 ·rw[Array.getElem?_eq_none h]at a;simp at a
theorem BZ.V(h:BZ w)(a:Below w.heap.size w w'):BZ w':=by
 obtain⟨⟨b,p,h1⟩,⟨c,q,d⟩,e⟩:=h;exact⟨⟨b,p,JR (g:=4) (by kernel_rfl) h1 a⟩,⟨c,q,JR (g:=5) (by kernel_rfl) d a⟩,JR (g:=3) (by kernel_rfl) e a⟩
theorem Aax(s:ByteArray)(d:s.size<=1048576)(v:Int)(h:ah s.data.toList=.ok v)(w:World)(b:BZ w):Calls prog 262 #[ae s] w fun e w'=>e=ab (a8 #[.int .i64 v,.nilIface])/\Below w.heap.size w w'/\BZ w':=by
 refine(strconv_Atoi_ok s (by omega) v h w).mono ?_;rintro e w' ⟨rfl,c⟩;have a:Below w.heap.size w w':=by
  rcases c with rfl|⟨t,rfl⟩
  ·exact ac _ _
  ·exact⟨rfl,rfl,rfl,by rw[Lib.bytesWorld_size];omega,fun k f=>Lib.bytesWorld_at_old w 5 t k (by omega)⟩
 exact⟨rfl,a,b.V a⟩
theorem Yv(s:ByteArray)(i:s.size<=1048576)(h:∀v,ah s.data.toList≠.ok v)(w:World)(c:BZ w):Calls prog 262 #[ae s] w fun e w'=>∃v N,e=ab (a8 #[.int .i64 v,.iface 344 (bR (ag ⟨N,0,none⟩))])/\Below w.heap.size w w':=by
 obtain⟨⟨d,p,h1⟩,⟨f,q,g⟩,j⟩:=c;cases a:ah s.data.toList with
 | ok v=>exact absurd a (h v)
 | «syntax» =>
  refine(strconv_Atoi_syntax_var s (by omega) a d p w h1).mono ?_;rintro e w' ⟨N,rfl,_,_,b⟩;exact⟨_,N,rfl,b⟩
 | range =>
  refine(strconv_Atoi_range_var s (by omega) a f q w g).mono ?_;rintro e w' ⟨N,rfl,_,_,b⟩;exact⟨_,N,rfl,b⟩
theorem Sa(n:Int)(a:-9223372036854775808<=n)(h1:n<=9223372036854775807)(w:World)(b:BZ w):Calls prog 216 #[.int .i64 n] w fun e w'=>e=ab (ae ⟨(au n).toArray⟩)/\Below w.heap.size w w':=by
 refine(strconv_Itoa n a h1 w b.tab).mono ?_;rintro e w' ⟨rfl,k,c,rfl⟩;exact⟨rfl,Lib.below_grow _ _ (an _) _ _⟩
theorem Aay{least v:Int}{l:List UInt8}(h:ah l=.ok v):decB least l=(decide (least<=v)&&decide (v<=1000000)&&au v==l):=by unfold decB;rw[h]
theorem Yw{least:Int}{l:List UInt8}(h:∀v,ah l≠.ok v):decB least l=false:=by
 unfold decB;split
 ·rename_i v a;exact absurd a (h v)
 ·rfl
theorem Ij(s:ByteArray)(least:Int)(w:World)(k:s.size<=1048576)(d:BZ w):Calls prog 246 #[ae s,.int .i64 least] w fun e w'=>e=ab (.bool (decB least s.data.toList))/\Below w.heap.size w w':=by
 by_cases l:∃v,ah s.data.toList=.ok v
 ·obtain⟨v,f⟩:=l;obtain⟨o,p⟩:=Lib.atoiAll_bounds f;have a:=Aay (least:=least) f;have g:=fun W i=>Aax s k v f W i
  have m:=fun W i=>Sa v o p W i
  rw[<-af]at a⊢;generalize decB least s.toList=B at a⊢;generalize q:au v=I at a m;clear f q;by_cases h1:v<least
  ·have r:¬least<=v:=by omega
   have c:=Ab (show false=B by rw[a];simp[r]);clear a;go_enter func246,ntmps246;go_wp2_with (go_at_call 262;refine(g _ d).mono ?_;rintro e w1 ⟨rfl,b,j⟩)
   go_ret;exact⟨As c.out,b⟩
  ·by_cases x:(1000000:Int)<v
   ·have t:¬v<=1000000:=by omega
    have c:=Ab (show false=B by rw[a];simp[t]);clear a;go_enter func246,ntmps246;go_wp2_with (go_at_call 262;refine(g _ d).mono ?_;rintro e w1 ⟨rfl,b,j⟩)
    go_ret;exact⟨As c.out,b⟩
   ·have c:=Ab (show (I==s.toList)=B by rw[a,decide_eq_true (by omega:least<=v),decide_eq_true (by omega:v<=1000000)];rfl);clear a;go_enter func246,ntmps246;go_wp2_with (first|(go_at_call 262;refine(g _ d).mono ?_;rintro e w1 ⟨rfl,b,j⟩)|(go_at_call 216;refine(m _ j).mono ?_;rintro e w2 ⟨rfl,u⟩))
    go_ret;exact⟨As c.out,b.trans (u.mono b.size)⟩
 ·have n:∀v,ah s.data.toList≠.ok v:=fun v h=>l ⟨v,h⟩
  rw[Yw n];go_enter func246,ntmps246;go_wp2_with (go_at_call 262;refine(Yv s k n _ d).mono ?_;rintro e w1 ⟨v,N,rfl,b⟩)
  go_ret;exact⟨rfl,b⟩
theorem GZ(c:UInt8)(w:World):Calls prog 179 #[.int .u8 (c.toNat:Int)] w fun e w'=>e=ab (.bool (nameByte c))/\w'=w:=by
 have b:c.toNat<256:=c.toNat_lt;have a:=RY c;generalize nameByte c=B at a⊢;cases a
 all_goals
  go_enter func179,ntmps179;go_wp2;go_ret;exact⟨As (by simp_all),rfl⟩
theorem Yx(h:Da s s.size):nameB s.data.toList=(decide ((1:Int)<=(s.size:Int))&&decide ((s.size:Int)<=20)):=by
 rw[Oo s h.all];congr 1 <;> exact decide_eq_decide.2 (by omega)
theorem LQ(s:ByteArray)(w:World)(j:s.size<=1048576):Calls prog 134 #[ae s] w fun e w'=>e=ab (.bool (nameB s.data.toList))/\w'=w:=by
 go_enter func134,ntmps134;go_wp2;go_loop [6] (fun i=>∃k:Nat,k<=s.size/\i=.int .i64 (k:Int)/\Da s k) (fun i=>s.size-(intOf i).toNat)
 case atStart=>exact⟨0,ar _,rfl,Da.zero s⟩
 case round =>
  obtain⟨k,l,rfl,c⟩:=hrel;by_cases g:k<s.size
  ·have m:s[k].toNat<256:=s[k].toNat_lt;cases a:nameByte s[k]
   ·have b:=Ab (RX s (Ue nameByte s k g a)).symm;have d:=fun W=>GZ s[k] W
    rw[a]at d;clear c a;go_wp2_with (go_at_call 179;refine(d _).mono ?_;rintro e w ⟨rfl,rfl⟩)
    go_ret;exact⟨As b.out,rfl⟩
   ·have h:=c.succ g a;have d:=fun W=>GZ s[k] W
    rw[a]at d;clear c a;go_wp2_with (go_at_call 179;refine(d _).mono ?_;rintro e w ⟨rfl,rfl⟩)
    go_round
    case rel=>exact⟨k+1,by omega,by go_num,h⟩
    case measure=>simp[intOf];omega
  ·obtain rfl:k=s.size:=by omega
   have b:=Ab (Yx c).symm;clear c;by_cases h1:(1:Int)<=(s.size:Int)
   ·have f:=Ab (show decide ((s.size:Int)<=20)=nameB s.data.toList by rw[<-b.out,decide_eq_true h1,Bool.true_and]);clear b;go_wp2;go_ret;exact⟨As f.out,rfl⟩
   ·have f:=Ab (show false=nameB s.data.toList by rw[<-b.out,decide_eq_false h1,Bool.false_and]);clear b;go_wp2;go_ret;exact⟨As f.out,rfl⟩
theorem Aaz(s:ByteArray)(w:World)(b:s.size<=1048576)(c:BZ w):Calls prog 225 #[.int .i64 1,ae s] w fun e w'=>e=ab (.bool (CI s.data.toList))/\Below w.heap.size w w':=by
 have a:=Ij s 0 w b c;rw[Wr]at a;go_enter func225,ntmps225;go_wp2_with (go_at_call 246;refine a.mono ?_;rintro e w1 ⟨rfl,d⟩)
 go_ret;exact⟨rfl,d⟩
theorem Aa0(s:ByteArray)(w:World)(b:s.size<=1048576)(c:BZ w):Calls prog 225 #[.int .i64 2,ae s] w fun e w'=>e=ab (.bool (Et s.data.toList))/\Below w.heap.size w w':=by
 have a:=Ij s (-1000000) w b c;rw[RQ]at a;go_enter func225,ntmps225;go_wp2_with (go_at_call 246;refine a.mono ?_;rintro e w1 ⟨rfl,d⟩)
 go_ret;exact⟨rfl,d⟩
theorem Aa1(s:ByteArray)(w:World)(a:s.size<=1048576):Calls prog 225 #[.int .i64 3,ae s] w fun e w'=>e=ab (.bool (nameB s.data.toList))/\Below w.heap.size w w':=by
 go_enter func225,ntmps225;go_wp2_with (go_at_call 134;refine(LQ s _ a).mono ?_;rintro e w1 ⟨rfl,rfl⟩)
 go_ret;exact⟨rfl,ac _ _⟩
theorem Aa2(s:ByteArray)(w:World):Calls prog 225 #[.int .i64 4,ae s] w fun e w'=>e=ab (.bool (decide (s.data.toList.length<=200)))/\Below w.heap.size w w':=by
 have e:s.data.toList.length=s.size:=by simp
 rw[e];go_enter func225,ntmps225;go_wp2;go_ret;exact⟨As (decide_eq_decide.2 (by omega)),ac _ _⟩
theorem Aa3(s:ByteArray)(w:World):Calls prog 225 #[.int .i64 5,ae s] w fun e w'=>e=ab (.bool (Uf s.data.toList))/\Below w.heap.size w w':=by
 rw[<-af];generalize a:s.toList=L;by_cases h1:L=[121,101,115]
 ·have b:(s.toList==[121,101,115])=true:=by rw[a,beq_iff_eq];exact h1
  have c:Uf L=true:=by subst h1;decide
  go_enter func225,ntmps225;go_wp2;go_ret;exact⟨As c.symm,ac _ _⟩
 ·have b:(s.toList==[121,101,115])=false:=by rw[a,beq_eq_false_iff_ne];exact h1
  go_enter func225,ntmps225;go_wp2;go_ret;exact⟨As rfl,ac _ _⟩
theorem Aa4(s:ByteArray)(w:World):Calls prog 225 #[.int .i64 6,ae s] w fun e w'=>e=ab (.bool (Gc s.data.toList))/\Below w.heap.size w w':=by
 rw[<-af];generalize a:s.toList=L;by_cases h1:L=[110,111,110,101]
 ·have d:(s.toList==[110,111,110,101])=true:=by rw[a,beq_iff_eq];exact h1
  have b:Gc L=true:=by subst h1;decide
  go_enter func225,ntmps225;go_wp2;go_ret;exact⟨As b.symm,ac _ _⟩
 ·have d:(s.toList==[110,111,110,101])=false:=by rw[a,beq_eq_false_iff_ne];exact h1
  by_cases c:L=[98,101,114,116,104]
  ·have f:(s.toList==[98,101,114,116,104])=true:=by rw[a,beq_iff_eq];exact c
   have b:Gc L=true:=by subst c;decide
   go_enter func225,ntmps225;go_wp2;go_ret;exact⟨As b.symm,ac _ _⟩
  ·have f:(s.toList==[98,101,114,116,104])=false:=by rw[a,beq_eq_false_iff_ne];exact c
   go_enter func225,ntmps225;go_wp2;go_ret;exact⟨As rfl,ac _ _⟩
theorem Ww(t:Int)(h1:1<=t)(c:t<=6)(s:ByteArray)(w:World)(a:s.size<=1048576)(b:BZ w):Calls prog 225 #[.int .i64 t,ae s] w fun e w'=>e=ab (.bool (EV t s.data.toList))/\Below w.heap.size w w':=by
 rcases six h1 c with rfl|rfl|rfl|rfl|rfl|rfl
 ·exact Aaz s w a b
 ·exact Aa0 s w a b
 ·exact Aa1 s w a
 ·exact Aa2 s w
 ·exact Aa3 s w
 ·exact Aa4 s w
