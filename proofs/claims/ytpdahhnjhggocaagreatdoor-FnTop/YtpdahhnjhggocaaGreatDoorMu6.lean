import Derived.Test.YtpdahhnjhggocaaGreatDoorMu1
import Derived.Test.YtpdahhnjhggocaaGreatDoorMu5
open List renaming getElem?_eq_getElem->ab,append_assoc->ad,take_append_of_le_length->ae,mem_iff_getElem->af,mem_filter->ag,mem_append->ah,mem_cons->ai,pairwise_iff_getElem->al,getElem?_eq_some_iff->am,getElem_mem->an,filter_sublist->aq,flatMap_cons->ar,length_append->au,take_length->av,cons_append->aw,getElem?_append_right->ax,pairwise_cons->ay,mem_singleton->az,length_cons->aA,pairwise_append->aC,any_eq_true->aD,length_map->aE,all_eq_true->aG,getElem?_append_left->aH,map_congr_left->aI,mem_append_left->aJ,countP_eq_zero->aK,mem_of_find?_eq_some->aM,length_take->aN,filter_cons_of_neg->aO,mem_map->aP,append_nil->aQ,singleton_append->aT,mem_of_getElem?->aU,mem_filterMap->aW,find?_eq_none->aX,pairwise_map->aY,getElem_take->aZ,isEmpty_iff->a2,map_id->a3,find?_some->a4,countP_eq_length_filter->a5,perm_ext_iff_of_nodup->a6,map_cons->a8,filter_cons_of_pos->a9,length_filter_le->ba,getElem?_eq_none->bb,mem_cons_of_mem->bd,filter_eq_self->be,take_add_one->bh,not_mem_nil->bj,mem_flatMap->bk,nil_append->bl,map_map->bm
open Option renaming some->aj,none->aF,ne_none_iff_exists'->aL
open Bool renaming and_eq_true->ao,not_eq_true->ap,or_eq_true->aS,not_eq_true'->bi
open Nat renaming le_refl->aB,le_trans->a0,lt_or_gt_of_ne->bf,add_sub_cancel->bg,add_zero->bn
open Go.ByteArray renaming toList_eq->aR
open Option.some renaming inj->aV
open List.Pairwise renaming nil->a7
open Iff renaming rfl->bc
open List.Sublist renaming refl->bo,countP_le->bp,append->bq
namespace Go.Proofs.YtpdahhnjhggocaaGreatDoor
set_option maxHeartbeats 16000000
set_option maxRecDepth 100000
variable {R:List Plain}{i:Nat}{α:Type}{kind name:ByteArray}
structure PLine where
 key:ByteArray
 ws:List (List UInt8)
structure PBlock where
 aa:ByteArray
 name:ByteArray
 ac:List PLine
theorem toList_inj{a b:ByteArray}(h:a.toList=b.toList):a=b:=by
 rw[aR,aR]at h;exact ByteArray.ext (Array.toList_inj.1 h)
def placeI(R:List Plain)(key:ByteArray):Int:=match R.findIdx? (fun p=>p.1.toList==key.toList) with
 | some i=>(i:Int)
 | none=>-1
def Dj(R:List Plain)(key:ByteArray):Bool:=match Bt R key with
 | some p=>p.2.2.1
 | none=>false
theorem Dk{key:ByteArray}{p:Plain}(h:Bt R key=aj p):∃i:Nat,placeI R key=(i:Int)/\R[i]?=aj p/\p.1=key:=by
 unfold Bt at h;obtain⟨a,i,b,rfl,c⟩:=List.find?_eq_some_iff_getElem.1 h;refine⟨i,?_,ab b,toList_inj (by simpa using a)⟩;unfold placeI;rw[List.findIdx?_eq_some_iff_getElem.2 ⟨b,a,fun j d=>by simpa using c j d⟩]
theorem MN{a b:ByteArray}(d:Bt R a≠aF)(e:Bt R b≠aF)(h:placeI R a=placeI R b):a=b:=by
 obtain⟨p,f⟩:=aL.1 d;obtain⟨q,g⟩:=aL.1 e;obtain⟨i,l,k,rfl⟩:=Dk f;obtain⟨j,m,c,rfl⟩:=Dk g;have:i=j:=by omega
 subst this;rw[k]at c;rw[aV c]
def lineLt(R:List Plain)(a b:PLine):Bool:=decide (placeI R a.key<placeI R b.key) || (decide (placeI R a.key=placeI R b.key)&&decide (a.ws<b.ws))
theorem CR{a b:PLine}:lineLt R a b=true↔placeI R a.key<placeI R b.key\/placeI R a.key=placeI R b.key/\a.ws<b.ws:=by simp[lineLt]
theorem Dl(R:List Plain)(a:PLine):¬lineLt R a a=true:=by
 rw[CR];rintro(h | ⟨_,h⟩)
 ·omega
 ·exact FJ.irr _ h
theorem CS(R:List Plain)(a b c:PLine)(h:lineLt R a b=true)(k:lineLt R b c=true):lineLt R a c=true:=by
 rw[CR]at *;rcases h with h | ⟨h,d⟩ <;> rcases k with k | ⟨k,k'⟩
 ·left;omega
 ·left;omega
 ·left;omega
 ·right;exact⟨by omega,FJ.trans _ _ _ d k'⟩
def keyN(ls:List PLine)(k:ByteArray):Nat:=ls.countP (fun a=>a.key.toList==k.toList)
def lineFault(R:List Plain)(es:List PLine)(a:PLine):Int :=
 if Bt R a.key=aF then 5 else if BR R a.key a.ws=false then 7
 else if es.any (fun o=>o.key.toList==a.key.toList&&(!Dj R a.key || decide (o.ws=a.ws)))=true then 6
 else if 10<=keyN es a.key then 10 else 0
theorem Bw{es:List PLine}{a:PLine}:lineFault R es a=0↔BR R a.key a.ws=true/\(∀o∈es,o.key=a.key->Dj R a.key=true/\o.ws≠a.ws)/\keyN es a.key<10:=by
 unfold lineFault;constructor
 ·intro h;split at h
  ·omega
  split at h
  ·omega
  split at h
  ·omega
  split at h
  ·omega
  rename_i h1 c d i;refine⟨by simpa using c,fun o f b=>?_,by omega⟩;simp only[aD,not_exists,not_and,ap]at d;have:=d o f;rw[b]at this;simpa using this
 ·rintro⟨h1,c,d⟩;have g:¬Bt R a.key=aF:=fun h=>by rw[Cq _ h]at h1;cases h1
  rw[if_neg g,if_neg (by simp[h1]),if_neg ?_,if_neg (by omega)];simp only[aD,not_exists,not_and,ap];intro o f;by_cases b:o.key=a.key
  ·have:=c o f b;simp[this.1,this.2]
  ·have:(o.key.toList==a.key.toList)=false:=by
    rw[beq_eq_false_iff_ne];exact fun e=>b (toList_inj e)
   simp[this]
def Aw(R:List Plain)(ls:List PLine):Prop:=(∀a∈ls,BR R a.key a.ws=true)/\ls.Pairwise (fun a b=>lineLt R a b=true)/\∀a∈ls,(Dj R a.key=true\/keyN ls a.key<=1)/\keyN ls a.key<=10
def UU(R:List Plain)(ls:List PLine)(i:Nat):Prop:=∃a,ls[i]?=aj a/\BR R a.key a.ws=true/\(i=0\/∃b,ls[i-1]?=aj b/\lineLt R b a=true)/\(Dj R a.key=true\/keyN (ls.take (i+1)) a.key<=1)/\keyN (ls.take (i+1)) a.key<=10
theorem Dm(l m:List PLine)(k:ByteArray):keyN (l++m) k=keyN l k+keyN m k:=by simp[keyN]
theorem Ib(ls:List PLine)(i:Nat)(k:ByteArray):keyN (ls.take i) k<=keyN ls k:=by
 have:=Dm (ls.take i) (ls.drop i) k;rw[List.take_append_drop]at this;omega
theorem Hk(a:PLine)(k:ByteArray):keyN [a] k=if a.key=k then 1 else 0:=by
 unfold keyN;by_cases h:a.key=k
 ·simp[h]
 ·have:(a.key.toList==k.toList)=false:=by
   rw[beq_eq_false_iff_ne];exact fun e=>h (toList_inj e)
  simp[h,this]
theorem Gm{ls:List PLine}{a:PLine}(h:ls[i]?=aj a)(k:ByteArray):keyN (ls.take (i+1)) k=keyN (ls.take i) k+if a.key=k then 1 else 0:=by
 rw[bh,h,Dm];simp only[Option.toList,Hk]
theorem Oq{ls:List α}{a b:α}(h:ls[i]?=aj a):b∈ls.take (i+1)↔b∈ls.take i\/b=a:=by
 rw[bh,h];simp
theorem Jp{ls:List PLine}(h:∀i,i<ls.length->UU R ls i):Aw R ls:=by
 refine⟨fun a d=>?_,?_,?_⟩
 ·obtain⟨i,f,rfl⟩:=af.1 d;obtain⟨b,e,m,_⟩:=h i f;rw[ab f]at e;rw[aV e];exact m
 ·refine GB (CS R) ls fun i a b d e=>?_
  obtain⟨f,_⟩:=am.1 e;obtain⟨b',k,_,n,_⟩:=h (i+1) f;rw[e]at k;cases k
  rcases n with r | ⟨c,l,o⟩
  ·omega
  ·rw[bg,d]at l;cases l;exact o
 ·have key:∀j,j<=ls.length->∀a∈ls.take j,(Dj R a.key=true\/keyN (ls.take j) a.key<=1)/\keyN (ls.take j) a.key<=10:=by
   intro j
   induction j with
   | zero=>intro _ a d;simp at d
   | succ j p =>
    intro s a d;obtain⟨b,e,q⟩:=h j (by omega);by_cases g:b.key=a.key
    ·rw[<-g];exact q.2.2
    ·have:=Gm e a.key;rw[if_neg g,bn]at this;rw[this];rcases(Oq e).1 d with h1 | rfl
     ·exact p (by omega) a h1
     ·exact absurd rfl g
  intro a d;have:=key ls.length (aB _) a (by rw[av];exact d)
  rwa [av]at this
theorem Jq{ls:List PLine}(h:Aw R ls)(i:Nat)(a:i<ls.length):UU R ls i:=by
 refine⟨ls[i],ab a,h.1 _ (an _),?_,?_,?_⟩
 ·by_cases b:i=0
  ·exact .inl b
  ·exact .inr ⟨ls[i-1],ab _,D1 h.2.1 (i-1) i (by omega) _ _ (ab _) (ab a)⟩
 ·have:=Ib ls (i+1) ls[i].key;rcases(h.2.2 ls[i] (an _)).1 with h1 | h1
  ·exact .inl h1
  ·exact .inr (by omega)
 ·have:=Ib ls (i+1) ls[i].key;have:=(h.2.2 ls[i] (an _)).2;omega
theorem PT{ls:List PLine}(h:∀i a,ls[i]?=aj a->lineFault R (ls.take i) a=0)(m:∀i a b,ls[i]?=aj a->ls[i+1]?=aj b->lineLt R b a=false):Aw R ls:=by
 refine Jp fun i c=>?_
 have d:=Bw.1 (h i ls[i] (ab c));refine⟨ls[i],ab c,d.1,?_,?_,?_⟩
 ·by_cases n:i=0
  ·exact .inl n
  right;have p:=Bw.1 (h (i-1) ls[i-1] (ab (by omega)));refine⟨ls[i-1],ab _,?_⟩;have g:=m (i-1) ls[i-1] ls[i] (ab _) (by rw[show i-1+1=i by omega];exact ab c);have f:ls[i-1]∈ls.take i:=by
   rw[af];exact⟨i-1,by simp;omega,by simp⟩
  have r:=d.2.1 _ f;generalize ls[i-1]=b at *;generalize ls[i]=a at *;rw[<-ap,CR]at g;rw[CR];have s:Bt R a.key≠aF:=fun e=>by have:=d.1;rw[Cq _ e]at this;cases this
  have t:Bt R b.key≠aF:=fun e=>by have:=p.1;rw[Cq _ e]at this;cases this
  by_cases j:placeI R b.key=placeI R a.key
  ·have k:=MN t s j;have u:=(r k).2;refine .inr ⟨j,?_⟩;by_cases l:b.ws<a.ws
   ·exact l
   ·exact absurd (FJ.tri _ _ l (fun q=>g (.inr ⟨j.symm,q⟩))) u
  ·left;have:¬placeI R a.key<placeI R b.key:=fun q=>g (.inl q)
   omega
 ·rw[Gm (ab c),if_pos rfl];by_cases f:Dj R ls[i].key=true
  ·exact .inl f
  ·right;have:keyN (ls.take i) ls[i].key=0:=by
    unfold keyN;rw[aK];intro o v k;exact f (d.2.1 o v (toList_inj (by simpa using k))).1
   omega
 ·rw[Gm (ab c),if_pos rfl];have:=d.2.2;omega
theorem DW{ls:List PLine}(h:Aw R ls):(∀i a,ls[i]?=aj a->lineFault R (ls.take i) a=0)/\∀i a b,ls[i]?=aj a->ls[i+1]?=aj b->lineLt R b a=false:=by
 constructor
 ·intro i a c;obtain⟨f,rfl⟩:=am.1 c;have m:=h.2.2 ls[i] (an _);have h1:=Ib ls (i+1) ls[i].key;rw[Gm (ab f),if_pos rfl]at h1;refine Bw.2 ⟨h.1 _ (an _),fun o g d=>⟨?_,?_⟩,by omega⟩
  ·rcases m.1 with l | l
   ·exact l
   ·have:keyN (ls.take i) ls[i].key=0:=by omega
    unfold keyN at this;rw[aK]at this;exact absurd (by simp[d]) (this o g)
  ·intro e;obtain⟨j,n,rfl⟩:=af.1 g;simp only[aN,aZ]at n e d;have:=D1 h.2.1 j i (by omega) _ _ (ab (by omega)) (ab f);rw[CR,d,e]at this;rcases this with q | ⟨_,q⟩
   ·omega
   ·exact FJ.irr _ q
 ·intro i a b c p;have:=D1 h.2.1 i (i+1) (by omega) a b c p;rw[<-ap];exact fun k=>Dl R _ (CS R _ _ _ this k)
def blockLt(a b:PBlock):Bool:=decide (a.aa.toList<b.aa.toList) || (decide (a.aa.toList=b.aa.toList)&&decide (a.name.toList<b.name.toList))
theorem Ci{a b:PBlock}:blockLt a b=true↔a.aa.toList<b.aa.toList\/a.aa.toList=b.aa.toList/\a.name.toList<b.name.toList:=by simp[blockLt]
theorem Dn(a:PBlock):¬blockLt a a=true:=by
 rw[Ci];rintro(h | ⟨_,h⟩)
 ·exact FJ.irr _ h
 ·exact FJ.irr _ h
theorem Ch(a b c:PBlock)(h:blockLt a b=true)(k:blockLt b c=true):blockLt a c=true:=by
 rw[Ci]at *;rcases h with h | ⟨h,d⟩ <;> rcases k with k | ⟨k,k'⟩
 ·exact .inl (FJ.trans _ _ _ h k)
 ·exact .inl (k▸h)
 ·exact .inl (h▸k)
 ·exact .inr ⟨h.trans k,FJ.trans _ _ _ d k'⟩
def headFault(es:List PBlock)(kind name:ByteArray):Int :=
 if (rulesOf kind).length=0 then 3 else if nameB name.data.toList=false then 4
 else if es.any (fun o=>o.aa.toList==kind.toList&&o.name.toList==name.toList)=true then 9
 else if 60<=es.length then 10 else 0
theorem By{es:List PBlock}:headFault es kind name=0↔(rulesOf kind).length≠0/\nameB name.data.toList=true/\(∀o∈es,¬(o.aa=kind/\o.name=name))/\es.length<60:=by
 unfold headFault;constructor
 ·intro h;split at h
  ·omega
  split at h
  ·omega
  split at h
  ·omega
  split at h
  ·omega
  rename_i h1 b c e;refine⟨h1,by simpa using b,fun o d a=>?_,by omega⟩;apply c;rw[aD];exact⟨o,d,by simp[a.1,a.2]⟩
 ·rintro⟨h1,b,c,e⟩;rw[if_neg h1,if_neg (by simp[b]),if_neg ?_,if_neg (by omega)];rw[aD];rintro⟨o,d,a⟩;simp only[ao,beq_iff_eq]at a;exact c o d ⟨toList_inj a.1,toList_inj a.2⟩
def Am(bs:List PBlock):Prop:=bs.length<=60/\(∀b∈bs,(rulesOf b.aa).length≠0/\nameB b.name.data.toList=true/\Aw (rulesOf b.aa) b.ac)/\bs.Pairwise (fun a b=>blockLt a b=true)
def Kl(bs:List PBlock)(i:Nat):Prop:=∃b,bs[i]?=aj b/\(rulesOf b.aa).length≠0/\nameB b.name.data.toList=true/\Aw (rulesOf b.aa) b.ac/\(i=0\/∃a,bs[i-1]?=aj a/\blockLt a b=true)
theorem Jr{bs:List PBlock}(g:bs.length<=60)(h:∀i,i<bs.length->Kl bs i):Am bs:=by
 refine⟨g,fun b e=>?_,?_⟩
 ·obtain⟨i,f,rfl⟩:=af.1 e;obtain⟨c,d,h1,k,l,_⟩:=h i f;rw[ab f]at d;rw[aV d];exact⟨h1,k,l⟩
 ·refine GB Ch bs fun i a b m e=>?_
  obtain⟨f,_⟩:=am.1 e;obtain⟨b',j,_,_,_,n⟩:=h (i+1) f;rw[e]at j;cases j
  rcases n with o | ⟨c,d,g⟩
  ·omega
  ·rw[bg,m]at d;cases d;exact g
theorem PU{bs:List PBlock}(h:Am bs)(i:Nat)(b:i<bs.length):Kl bs i:=by
 have a:=h.2.1 bs[i] (an _);refine⟨bs[i],ab b,a.1,a.2.1,a.2.2,?_⟩;by_cases c:i=0
 ·exact .inl c
 ·exact .inr ⟨bs[i-1],ab _,D1 h.2.2 (i-1) i (by omega) _ _ (ab _) (ab b)⟩
theorem PV{bs:List PBlock}(h:∀i b,bs[i]?=aj b->headFault (bs.take i) b.aa b.name=0/\Aw (rulesOf b.aa) b.ac)(m:∀i a b,bs[i]?=aj a->bs[i+1]?=aj b->blockLt b a=false):Am bs:=by
 have n:bs.length<=60:=by
  by_cases g:bs.length=0
  ·omega
  ·have:=(By.1 (h (bs.length-1) bs[bs.length-1] (ab (by omega))).1).2.2.2;simp at this;omega
 refine Jr n fun i c=>?_
 have j:=h i bs[i] (ab c);have d:=By.1 j.1;refine⟨bs[i],ab c,d.1,d.2.1,j.2,?_⟩;by_cases g:i=0
 ·exact .inl g
 right;refine⟨bs[i-1],ab _,?_⟩;have e:=m (i-1) bs[i-1] bs[i] (ab _) (by rw[show i-1+1=i by omega];exact ab c);have o:bs[i-1]∈bs.take i:=by
  rw[af];exact⟨i-1,by simp;omega,by simp⟩
 have p:=d.2.2.1 _ o;generalize bs[i-1]=a at *;generalize bs[i]=b at *;rw[<-ap,Ci]at e;rw[Ci];by_cases k:a.aa.toList<b.aa.toList
 ·exact .inl k
 ·have f:=FJ.tri _ _ k (fun q=>e (.inl q));refine .inr ⟨f,?_⟩;by_cases l:a.name.toList<b.name.toList
  ·exact l
  ·have r:=FJ.tri _ _ l (fun q=>e (.inr ⟨f.symm,q⟩));exact absurd ⟨toList_inj f,toList_inj r⟩ p
theorem EV{bs:List PBlock}(h:Am bs):(∀i b,bs[i]?=aj b->headFault (bs.take i) b.aa b.name=0/\Aw (rulesOf b.aa) b.ac)/\∀i a b,bs[i]?=aj a->bs[i+1]?=aj b->blockLt b a=false:=by
 constructor
 ·intro i b c;obtain⟨f,rfl⟩:=am.1 c;have d:=h.2.1 bs[i] (an _);refine⟨By.2 ⟨d.1,d.2.1,fun o g e=>?_,by have:=h.1;simp;omega⟩,d.2.2⟩;obtain⟨j,l,rfl⟩:=af.1 g;simp only[aN,aZ]at l e;have:=D1 h.2.2 j i (by omega) _ _ (ab (by omega)) (ab f);rw[Ci,e.1,e.2]at this;rcases this with q | ⟨_,q⟩ <;> exact FJ.irr _ q
 ·intro i a b m c;have:=D1 h.2.2 i (i+1) (by omega) a b m c;rw[<-ap];exact fun k=>Dn _ (Ch _ _ _ this k)
open Classical in
noncomputable def linesB(R:List Plain)(ls:List PLine):Bool:=decide (Aw R ls)
open Classical in
noncomputable def AJ(bs:List PBlock):Bool:=decide (Am bs)
theorem Bs{ls:List PLine}:linesB R ls=true↔Aw R ls:=by simp[linesB]
theorem A0{bs:List PBlock}:AJ bs=true↔Am bs:=by simp[AJ]
variable {ms:List PLine}{es:List PBlock}{ws:List (List UInt8)}
def Bj(R:List Plain)(ls:List PLine):Prop:=∀i a,ls[i]?=aj a->lineFault R (ls.take i) a=0
theorem Bj.nil(R:List Plain):Bj R []:=by intro i a h;simp at h
theorem Bj.snoc{ls:List PLine}{a:PLine}(h:Bj R ls)(e:lineFault R ls a=0):Bj R (ls++[a]):=by
 intro i b c;by_cases f:i<ls.length
 ·rw[aH f]at c;rw[ae (by omega)];exact h i b c
 ·rw[ax (by omega)]at c;have d:i-ls.length=0:=by
   by_cases d:i-ls.length=0
   ·exact d
   ·rw[bb (by simp;omega)]at c;cases c
  rw[d]at c;cases c
  rw[show i=ls.length by omega,ae (aB _),av];exact e
theorem Bj.front{ls:List PLine}{a:PLine}(h:Bj R (ls++[a])):Bj R ls/\lineFault R ls a=0:=by
 constructor
 ·intro i b c;have d:=(am.1 c).1;have:=h i b (by rw[aH d];exact c)
  rwa [ae (by omega)]at this
 ·have:=h ls.length a (by rw[ax (aB _)];simp)
  rwa [ae (aB _),av]at this
theorem Pa{l m:List PLine}(h:l.Perm m)(k:ByteArray):keyN l k=keyN m k:=h.countP_eq _
theorem Zx{l m:List α}(h:l.Perm m)(p:α->Bool):l.any p=m.any p:=by
 rw[Bool.eq_iff_iff,aD,aD];exact⟨fun⟨x,a,b⟩=>⟨x,h.mem_iff.1 a,b⟩,fun⟨x,a,b⟩=>⟨x,h.mem_iff.2 a,b⟩⟩
def BS(R:List Plain)(ls:List PLine):List PLine:=ls.foldl (fun acc a=>Cb (lineLt R) a acc) []
theorem Hl(R:List Plain)(ls:List PLine)(a:PLine):BS R (ls++[a])=Cb (lineLt R) a (BS R ls):=by simp[BS]
theorem Km{α:Type}(b:α->α->Bool):∀(ls acc:List α),(ls.foldl (fun acc a=>Cb b a acc) acc).Perm (acc++ls)
 | [],acc=>by simp
 | a::ls,acc=>by
  rw[List.foldl_cons];refine(Km b ls _).trans ?_;refine((DN b a acc).append_right ls).trans ?_;exact(List.perm_middle (a:=a) (l₁:=acc) (l₂:=ls)).symm
theorem BZ(R:List Plain)(ls:List PLine):(BS R ls).Perm ls:=by
 have:=Km (lineLt R) ls [];simpa [BS] using this
theorem DX{α:Type}{d:α->α->Bool}(i:∀a b c,d a b=true->d b c=true->d a c=true)(x:α):∀(l:List α),l.Pairwise (fun a b=>d a b=true)->(∀y∈l,d y x=false->d x y=true)->(Cb d x l).Pairwise (fun a b=>d a b=true)
 | [],_,_=>List.pairwise_singleton _ _
 | y::l,h,j=>by
  have h1:=ay.1 h;unfold Cb;split
  ·rename_i g;refine ay.2 ⟨fun f e=>?_,DX i x l h1.2 fun f e=>j f (bd _ e)⟩;rcases ai.1 ((DN d x l).mem_iff.1 e) with rfl | e
   ·exact g
   ·exact h1.1 f e
  ·rename_i g;have k:=j y (List.mem_cons_self ..) (by simpa using g);refine ay.2 ⟨fun f e=>?_,h⟩;rcases ai.1 e with rfl | e
   ·exact k
   ·exact i _ _ _ k (h1.1 f e)
theorem UV{es:List PLine}{a b:PLine}(j:b∈es)(f:BR R b.key b.ws=true)(h:lineFault R es a=0)(c:lineLt R b a=false):lineLt R a b=true:=by
 have g:=Bw.1 h;rw[<-ap,CR]at c;rw[CR];have k:Bt R a.key≠aF:=fun e=>by have:=g.1;rw[Cq _ e]at this;cases this
 have l:Bt R b.key≠aF:=fun e=>by rw[Cq _ e]at f;cases f
 by_cases d:placeI R a.key=placeI R b.key
 ·have m:=MN k l d;have n:=(g.2.1 b j m.symm).2;refine .inr ⟨d,?_⟩;by_cases i:a.ws<b.ws
  ·exact i
  ·exact absurd (FJ.tri _ _ (fun q=>c (.inr ⟨d.symm,q⟩)) i) n
 ·left;have:¬placeI R b.key<placeI R a.key:=fun q=>c (.inl q)
  omega
theorem Bj.fits{ls:List PLine}(h:Bj R ls):∀a∈ls,BR R a.key a.ws=true:=by
 intro a b;obtain⟨i,c,rfl⟩:=af.1 b;exact(Bw.1 (h i _ (ab c))).1
theorem FL{P:List α->Prop}(b:P [])(h1:∀l a,P l->P (l++[a]))(l:List α):P l:=by
 rw[<-List.reverse_reverse l]
 induction l.reverse with
 | nil=>exact b
 | cons a m c=>rw[List.reverse_cons];exact h1 _ _ c
theorem Gb(ls:List PLine):Bj R ls->(BS R ls).Pairwise (fun a b=>lineLt R a b=true):=by
 refine FL (P:=fun ls=>Bj R ls->(BS R ls).Pairwise (fun a b=>lineLt R a b=true)) (fun _=>.nil) (fun l a e h=>?_) ls;have c:=h.front;rw[Hl];refine DX (CS R) a _ (e c.1) fun y f g=>?_
 have d:=(BZ R l).mem_iff.1 f;exact UV d (c.1.fits y d) c.2 g
theorem Bj.counts(ls:List PLine):Bj R ls->∀a∈ls,(Dj R a.key=true\/keyN ls a.key<=1)/\keyN ls a.key<=10:=by
 refine FL (P:=fun ls=>Bj R ls->∀a∈ls,(Dj R a.key=true\/keyN ls a.key<=1)/\keyN ls a.key<=10) (fun _ a d=>by simp at d) (fun l b i h a d=>?_) ls;have f:=h.front;rw[Dm,Hk];by_cases c:b.key=a.key
 ·rw[if_pos c,<-c];have j:=Bw.1 f.2;refine⟨?_,by omega⟩;by_cases g:Dj R b.key=true
  ·exact .inl g
  ·right;have:keyN l b.key=0:=by
    unfold keyN;rw[aK];intro o k m;exact g (j.2.1 o k (toList_inj (by simpa using m))).1
   omega
 ·rw[if_neg c,bn];rcases ah.1 d with h1 | h1
  ·exact i f.1 a h1
  ·exact absurd (az.1 h1).symm (fun e=>c (by rw[e]))
theorem Fd{ls:List PLine}(h:Bj R ls):Aw R (BS R ls):=by
 have b:=BZ R ls;refine⟨fun a c=>h.fits a (b.mem_iff.1 c),Gb ls h,fun a c=>?_⟩;rw[Pa b];exact h.counts ls a (b.mem_iff.1 c)
theorem Ew{ls:List PLine}(h:Bj R ls)(c:ms.Perm ls)(r:∀i j:Nat,i<j->∀a b,ms[i]?=aj a->ms[j]?=aj b->lineLt R b a=false):ms=BS R ls:=by
 have s:ms.Pairwise (fun a b=>lineLt R a b=true):=by
  have d:=Fd h;have l:∀a∈ms,a∈BS R ls:=fun a t=>(BZ R ls).mem_iff.2 (c.mem_iff.1 t)
  have u:ms.Nodup:=by
   have v:(BS R ls).Nodup:=d.2.1.imp (fun {a b} w e=>by subst e;exact Dl R _ w);exact(c.trans (BZ R ls).symm).nodup_iff.2 v
  rw[al];intro i j f g m;have k:=r i j m _ _ (ab f) (ab g);obtain⟨x,n,o⟩:=af.1 (l _ (an f));obtain⟨y,p,q⟩:=af.1 (l _ (an g));have z:x≠y:=by
   intro e;subst e;have:ms[i]=ms[j]:=o.symm.trans q;exact(al.1 u) i j f g m this
  rw[<-o,<-q]at k⊢;rcases bf z with h1 | h1
  ·exact(al.1 d.2.1) x y n p h1
  ·rw[(al.1 d.2.1) y x p n h1]at k;cases k
 exact C9 (Dl R) (CS R) s (Gb ls h) (c.trans (BZ R ls).symm)
def CA(bs:List PBlock):Prop:=(∀i b,bs[i]?=aj b->headFault (bs.take i) b.aa b.name=0)/\∀b∈bs,Bj (rulesOf b.aa) b.ac
theorem CA.nil:CA []:=⟨by intro i a h;simp at h,by simp⟩
theorem CA.snoc{bs:List PBlock}{b:PBlock}(h:CA bs)(e:headFault bs b.aa b.name=0)(f:Bj (rulesOf b.aa) b.ac):CA (bs++[b]):=by
 refine⟨?_,fun c a=>?_⟩
 ·intro i c a;by_cases g:i<bs.length
  ·rw[aH g]at a;rw[ae (by omega)];exact h.1 i c a
  ·rw[ax (by omega)]at a;have d:i-bs.length=0:=by
    by_cases d:i-bs.length=0
    ·exact d
    ·rw[bb (by simp;omega)]at a;cases a
   rw[d]at a;cases a
   rw[show i=bs.length by omega,ae (aB _),av];exact e
 ·rcases ah.1 a with h1 | h1
  ·exact h.2 c h1
  ·rw[az.1 h1];exact f
theorem CA.front{bs:List PBlock}{b:PBlock}(h:CA (bs++[b])):CA bs/\headFault bs b.aa b.name=0/\Bj (rulesOf b.aa) b.ac:=by
 refine⟨⟨?_,fun c a=>h.2 c (aJ _ a)⟩,?_,h.2 b (by simp)⟩
 ·intro i c a;have d:=(am.1 a).1;have:=h.1 i c (by rw[aH d];exact a)
  rwa [ae (by omega)]at this
 ·have:=h.1 bs.length b (by rw[ax (aB _)];simp)
  rwa [ae (aB _),av]at this
def FM(b:PBlock):PBlock:=⟨b.aa,b.name,BS (rulesOf b.aa) b.ac⟩
def Cv(bs:List PBlock):List PBlock:=(bs.map FM).foldl (fun acc a=>Cb blockLt a acc) []
theorem SG(bs:List PBlock)(b:PBlock):Cv (bs++[b])=Cb blockLt (FM b) (Cv bs):=by simp[Cv]
theorem C7(bs:List PBlock):(Cv bs).Perm (bs.map FM):=by
 have:=Km blockLt (bs.map FM) [];simpa [Cv] using this
theorem MO{l m:List PBlock}(h:(l.map fun b=>(b.aa,b.name)).Perm (m.map fun b=>(b.aa,b.name)))(kind name:ByteArray):headFault l kind name=headFault m kind name:=by
 have a:∀l:List PBlock,l.any (fun o=>o.aa.toList==kind.toList&&o.name.toList==name.toList)=(l.map fun b=>(b.aa,b.name)).any (fun p=>p.1.toList==kind.toList&&p.2.toList==name.toList):=by
  intro l;rw[List.any_map];rfl
 have c:l.length=m.length:=by have:=h.length_eq;simpa using this
 unfold headFault;rw[a l,a m,Zx h,c]
theorem MP(bs:List PBlock)(kind name:ByteArray):headFault (Cv bs) kind name=headFault bs kind name:=by
 refine MO ?_ kind name;refine((C7 bs).map _).trans ?_;rw[bm];exact .refl _
theorem KR{a b:PBlock}(g:b∈es)(h:headFault es a.aa a.name=0)(c:blockLt b a=false):blockLt a b=true:=by
 have i:=(By.1 h).2.2.1 b g;rw[<-ap,Ci]at c;rw[Ci];by_cases e:a.aa.toList<b.aa.toList
 ·exact .inl e
 ·have d:=FJ.tri _ _ (fun q=>c (.inl q)) e;refine .inr ⟨d.symm,?_⟩;by_cases f:a.name.toList<b.name.toList
  ·exact f
  ·have j:=FJ.tri _ _ (fun q=>c (.inr ⟨d,q⟩)) f;exact absurd ⟨toList_inj d,toList_inj j⟩ i
theorem Ex(bs:List PBlock):CA bs->(Cv bs).Pairwise (fun a b=>blockLt a b=true):=by
 refine FL (P:=fun bs=>CA bs->(Cv bs).Pairwise (fun a b=>blockLt a b=true)) (fun _=>.nil) (fun l a d h=>?_) bs;have c:=h.front;rw[SG];refine DX Ch _ _ (d c.1) fun y e f=>?_
 have:=MP l a.aa a.name;rw[c.2.1]at this;exact KR (a:=FM a) e this f
theorem X1{bs:List PBlock}(h:CA bs):Am (Cv bs):=by
 have a:=C7 bs;refine⟨?_,fun b f=>?_,Ex bs h⟩
 ·rw[a.length_eq,aE];by_cases j:bs.length=0
  ·omega
  ·have:=(By.1 (h.1 (bs.length-1) bs[bs.length-1] (ab (by omega)))).2.2.2;simp at this;omega
 ·obtain⟨c,d,rfl⟩:=aP.1 (a.mem_iff.1 f);obtain⟨i,g,rfl⟩:=af.1 d;have e:=By.1 (h.1 i _ (ab g));exact⟨e.1,e.2.1,Fd (h.2 _ d)⟩
theorem Iw{bs ms:List PBlock}(h:CA bs)(c:ms.Perm (bs.map FM))(r:∀i j:Nat,i<j->∀a b,ms[i]?=aj a->ms[j]?=aj b->blockLt b a=false):ms=Cv bs:=by
 have s:ms.Pairwise (fun a b=>blockLt a b=true):=by
  have d:=Ex bs h;have l:∀a∈ms,a∈Cv bs:=fun a t=>(C7 bs).mem_iff.2 (c.mem_iff.1 t)
  have u:ms.Nodup:=by
   have v:(Cv bs).Nodup:=d.imp (fun {a b} w e=>by subst e;exact Dn _ w);exact(c.trans (C7 bs).symm).nodup_iff.2 v
  rw[al];intro i j f g m;have k:=r i j m _ _ (ab f) (ab g);obtain⟨x,n,o⟩:=af.1 (l _ (an f));obtain⟨y,p,q⟩:=af.1 (l _ (an g));have z:x≠y:=by
   intro e;subst e;have:ms[i]=ms[j]:=o.symm.trans q;exact(al.1 u) i j f g m this
  rw[<-o,<-q]at k⊢;rcases bf z with h1 | h1
  ·exact(al.1 d) x y n p h1
  ·rw[(al.1 d) y x p n h1]at k;cases k
 exact C9 Dn Ch s (Ex bs h) (c.trans (C7 bs).symm)
def Cd:List UInt8->List UInt8->List (List UInt8)
 | acc,[]=>if acc=[] then [] else [acc]
 | acc,c::l=>if c=10 then acc::Cd [] l else Cd (acc++[c]) l
def A9(l:List UInt8):List (List UInt8):=Cd [] l
inductive PRes where
 | bad (line:Nat) (code:Int)
 | good (bs:List PBlock)
def Bu(w:List UInt8):ByteArray:=⟨w.toArray⟩
def Cl(done:List PBlock):Option PBlock->List UInt8->List (List UInt8)->Int × List PBlock × Option PBlock
 | none,w,ws=>match ws with
  | [n]=>(headFault done (Bu w) (Bu n),done,aj ⟨Bu w,Bu n,[]⟩)
  | _=>(2,done,aF)
 | some b,w,ws=>if w=[101,110,100]/\ws=[] then (0,done++[b],aF) else (lineFault (rulesOf b.aa) b.ac ⟨Bu w,ws⟩,done,aj ⟨b.aa,b.name,b.ac++[⟨Bu w,ws⟩]⟩)
def Bv:Nat->List PBlock->Option PBlock->List (List UInt8)->PRes
 | n,done,a,[]=>match a with
  | none=>.good done
  | some _=>.bad (n+1) 8
 | n,done,a,l::rest=>match cutL l with
  | none=>.bad (n+1) 1
  | some []=>Bv (n+1) done a rest
  | some (w::ws)=>if (Cl done a w ws).1≠0 then .bad (n+1) (Cl done a w ws).1 else Bv (n+1) (Cl done a w ws).2.1 (Cl done a w ws).2.2 rest
def Ep(a:List UInt8):PRes:=if 20000<a.length\/400<(A9 a).length then .bad 0 11 else Bv 0 [] aF (A9 a)
def PW(done:List PBlock):Option PBlock->Prop
 | none=>CA done
 | some b=>CA done/\headFault done b.aa b.name=0/\Bj (rulesOf b.aa) b.ac
theorem Kn(done:List PBlock)(b:PBlock):Cl done (aj b) [101,110,100] []=(0,done++[b],aF):=rfl
theorem MQ{done:List PBlock}{b:PBlock}{w:List UInt8}(h:¬(w=[101,110,100]/\ws=[])):Cl done (aj b) w ws=(lineFault (rulesOf b.aa) b.ac ⟨Bu w,ws⟩,done,aj ⟨b.aa,b.name,b.ac++[⟨Bu w,ws⟩]⟩):=by
 show (if _ then _ else _)=_
 rw[if_neg h]
theorem Pb{done:List PBlock}{w:List UInt8}(h:ws.length≠1):Cl done aF w ws=(2,done,aF):=by
 match ws,h with
 | [],_=>rfl
 | _::_::_,_=>rfl
theorem GC(done:List PBlock)(w n:List UInt8):Cl done aF w [n]=(headFault done (Bu w) (Bu n),done,aj ⟨Bu w,Bu n,[]⟩):=rfl
theorem PW.step{done:List PBlock}{a:Option PBlock}{w:List UInt8}(h:PW done a)(c:(Cl done a w ws).1=0):PW (Cl done a w ws).2.1 (Cl done a w ws).2.2:=by
 cases a with
 | none =>
  by_cases d:ws.length=1
  ·match ws,d with
   | [n],_=>exact⟨h,c,Bj.nil _⟩
  ·rw[Pb d]at c;cases c
 | some b =>
  obtain⟨h1,e,f⟩:=h;by_cases g:w=[101,110,100]/\ws=[]
  ·obtain⟨rfl,rfl⟩:=g;exact h1.snoc e f
  ·rw[MQ g]at c⊢;exact⟨h1,e,f.snoc c⟩
theorem GD:∀(ls:List (List UInt8)) (n:Nat) (done:List PBlock) (a:Option PBlock),PW done a->∀bs,Bv n done a ls=.good bs->CA bs
 | [],n,done,aF,h,bs,e=>by cases e;exact h
 | [],n,done,aj b,h,bs,e=>by cases e
 | l::rest,n,done,a,h,bs,e=>by
  unfold Bv at e;split at e
  ·cases e
  ·exact GD rest _ _ _ h bs e
  ·split at e
   ·cases e
   ·rename_i c;exact GD rest _ _ _ (h.step (by simpa using c)) bs e
theorem SH{a:List UInt8}{bs:List PBlock}(h:Ep a=.good bs):CA bs:=by
 unfold Ep at h;split at h
 ·cases h
 ·exact GD _ _ [] aF CA.nil bs h
variable {n:Nat}
def Ej(a:PLine):List UInt8:=a.key.data.toList++a.ws.flatMap (fun w=>32::Ck w)
def Ix(b:PBlock):List UInt8:=b.aa.data.toList++32::b.name.data.toList
def blockL(b:PBlock):List UInt8:=Ix b++10::(b.ac.flatMap (fun a=>32::32::Ej a++[10])++[101,110,100,10])
def sheetL(bs:List PBlock):List UInt8:=bs.flatMap blockL
def Bi(t:List UInt8):Prop:=20000<t.length\/400<(A9 t).length
instance (t:List UInt8):Decidable (Bi t):=by unfold Bi;infer_instance
noncomputable def printL(bs:List PBlock):List UInt8:=if AJ bs=false\/Bi (sheetL bs) then [] else sheetL bs
theorem SJ{t:List UInt8}(h:Bi t):Ep t=.bad 0 11:=if_pos h
theorem Ko{t:List UInt8}(h:¬Bi t):Ep t=Bv 0 [] aF (A9 t):=if_neg h
theorem MS(l rest:List UInt8)(h:(10:UInt8) ∉ l):∀acc,Cd acc (l++10::rest)=(acc++l)::Cd [] rest:=by
 induction l with
 | nil=>intro acc;simp[Cd]
 | cons c l a =>
  intro acc;have b:¬c=10:=fun e=>h (by simp[e])
  rw[aw,Cd,if_neg b,a (fun e=>h (by simp[e]))];simp
theorem DY(l rest:List UInt8)(h:(10:UInt8) ∉ l):A9 (l++10::rest)=l::A9 rest:=by
 unfold A9;rw[MS l rest h];rfl
theorem Pd{l:List UInt8}(h:l.all BI=true):(10:UInt8) ∉ l:=by
 intro e;have:=MB (aG.1 h _ e);simp at this
theorem SK(n:Nat)(h:n<16):Hg n≠10:=by
 have:∀n,n<16->Hg n≠10:=by decide
 exact this n h
theorem Aem(c:UInt8):(10:UInt8) ∉ qb c:=by
 have b:=c.toNat_lt;unfold qb;split
 ·rename_i a;have:=FI a;intro e;rw[<-az.1 e]at this;simp at this
 ·intro e;simp only[ai,bj,or_false]at e;rcases e with e | e | e
  ·cases e
  ·exact SK _ (by omega) e.symm
  ·exact SK _ (by omega) e.symm
theorem X3(w:List UInt8):(10:UInt8) ∉ Ck w:=by
 unfold Ck;split
 ·rename_i h;unfold CW at h;rw[ao]at h;exact Pd h.2
 ·intro e;simp only[FZ,aw,ai,ah,bk,bj,or_false]at e;rcases e with e | ⟨c,_,e⟩ | e
  ·cases e
  ·exact Aem c e
  ·cases e
theorem UW(w:List UInt8)(rest:List UInt8)(g:Fh rest=true):∃c r,Ck w++rest=c::r/\c.toNat≠32/\c.toNat≠35/\DM (c::r)=aj (w,(Ck w).length)/\(c::r).drop (Ck w).length=rest:=by
 have i:∀l:List UInt8,l.all BI=true->(l++rest).takeWhile BI=l:=by
  intro l d;rw[List.takeWhile_append_of_pos (aG.1 d)];cases rest with
  | nil=>simp
  | cons c r =>
   have e:BI c=false:=by
    simp only[Fh,decide_eq_true_eq]at g;exact Ji (by omega)
   rw[List.takeWhile_cons,e];simp
 by_cases a:CW w=true
 ·have b:Ck w=w:=by simp[Ck,a]
  unfold CW at a;rw[ao]at a;rw[b]
  match w,a with
  | c::r,a =>
   have e:BI c=true:=aG.1 a.2 c (by simp);have h:=MB e;refine⟨c,r++rest,rfl,by omega,by omega,?_,?_⟩
   ·have f:=i (c::r) a.2;rw[aw]at f;rw[DM,if_neg (by omega),if_neg (by rw[e];decide),f]
   ·rw[<-aw,List.drop_left]
  | [],a=>simp at a
 ·have b:Ck w=FZ w:=by simp[Ck,a]
  have d:(FZ w).length=(w.flatMap qb).length+2:=by
   simp only[FZ,au,aA,List.length_nil]
  refine⟨34,w.flatMap qb++34::rest,?_,by decide,by decide,?_,?_⟩
  ·rw[b];simp[FZ]
  ·rw[DM,if_pos (by decide),SI,b,d];simp
  ·rw[b,d,show (w.flatMap qb).length+2=((w.flatMap qb).length+1)+1 from rfl,List.drop_succ_cons,List.drop_append];simp
theorem Hc.tail{R:Option (List (List UInt8))}:∀(ws acc:List (List UInt8)),(∀w∈ws,w.length<=200)->acc.length+ws.length<=8->Hc acc (ws.flatMap fun w=>32::Ck w) R->R=aj (acc++ws)
 | [],acc,_,_,h=>by rw[aQ];exact Hc.nil h
 | w::ws,acc,a,b,h=>by
  rw[ar,aw]at h;have h:=h.space (by decide);have d:Fh (ws.flatMap fun w=>32::Ck w)=true:=by
   cases ws with
   | nil=>rfl
   | cons x ws=>rw[ar,aw];rfl
  obtain⟨c,r,g,h1,i,j,e⟩:=UW w _ d;rw[g]at h;have k:Fh ((c::r).drop (Ck w).length)=true/\w.length<=200/\acc.length<8:=⟨by rw[e];exact d,a w (by simp),by simp at b;omega⟩;have f:=h.word h1 i j k;rw[e]at f;have:=Hc.tail ws (acc++[w]) (fun x l=>a x (by simp[l])) (by simp at b⊢;omega) f;rw[this,ad];rfl
theorem Kp(pre k:List UInt8)(ws:List (List UInt8))(b:∀c∈pre,c=32)(e:CW k=true)(i:k.length<=200)(j:∀w∈ws,w.length<=200)(p:ws.length<=7):cutL (pre++(k++ws.flatMap fun w=>32::Ck w))=aj (k::ws):=by
 have g:=Hc.start (pre++(k++ws.flatMap fun w=>32::Ck w));generalize d:cutL (pre++(k++ws.flatMap fun w=>32::Ck w))=R at g;clear d;have l:∀(pre:List UInt8),(∀c∈pre,c=32)->Hc [] (pre++(k++ws.flatMap fun w=>32::Ck w)) R->Hc [] (k++ws.flatMap fun w=>32::Ck w) R:=by
  intro pre
  induction pre with
  | nil=>intro _ h;exact h
  | cons c pre m =>
   intro b h;refine m (fun x a=>b x (by simp[a])) (Hc.space h ?_);rw[b c (by simp)];decide
 have h:=l pre b g;have n:Hc [] ((k::ws).flatMap fun w=>32::Ck w) R:=by
  obtain⟨f,o,d⟩:=h;refine⟨f+1,?_,?_⟩
  ·rw[ar,show Ck k=k from by simp[Ck,e]];simp at o⊢;omega
  ·rw[ar,aw,Ga,if_pos (by decide),show Ck k=k from by simp[Ck,e]];exact d
 have:=Hc.tail (k::ws) [] (fun x a=>by rcases ai.1 a with rfl | a;exact i;exact j x a) (by simp;omega) n
 simpa using this
def Aen(R:List Plain):Prop:=∀p∈R,CW p.1.data.toList=true/\p.1.data.toList.length<=200/\p.1.data.toList≠[101,110,100]/\p.2.1.length<=3/\∀t∈p.2.1,1<=t/\t<=6
theorem Aeo(kind:ByteArray):Aen (rulesOf kind):=by
 have:=Bf kind;have b:∀p∈rulesOf kind,CW p.1.data.toList=true/\p.1.data.toList.length<=200/\p.1.data.toList≠[101,110,100]:=by
  unfold rulesOf;split
  ·unfold teamRules;decide
  ·split
   ·unfold berthRules;decide
   ·split
    ·unfold serviceRules;decide
    ·simp
 intro p a;exact⟨(b p a).1,(b p a).2.1,(b p a).2.2,(this.2 p a).1,(this.2 p a).2⟩
theorem Kq(h:(rulesOf kind).length≠0):CW kind.data.toList=true/\kind.data.toList.length<=200:=by
 rw[<-aR];unfold rulesOf at h;split at h
 ·rename_i e;rw[e];decide
 ·split at h
  ·rename_i e;rw[e];decide
  ·split at h
   ·rename_i e;rw[e];decide
   ·simp at h
theorem Gn{l:List UInt8}(h:nameB l=true):CW l=true/\l.length<=200:=by
 unfold nameB at h;rw[ao,ao,decide_eq_true_eq,decide_eq_true_eq]at h;refine⟨?_,by omega⟩;unfold CW;rw[ao];refine⟨?_,?_⟩
 ·cases l with
  | nil=>simp at h
  | cons c l=>rfl
 ·rw[aG];intro c a;have:=aG.1 h.1 c a;unfold nameByte at this;simp only[aS,ao,decide_eq_true_eq]at this;exact Sw (by omega)
theorem Kr{l:List UInt8}(h:CQ l=true):l.length<=7:=by
 unfold CQ at h;simp only[ao,decide_eq_true_eq]at h;exact h.1.1.2
theorem X4{t:Int}{w:List UInt8}(h1:1<=t)(a:t<=6)(h:Fj t w=true):w.length<=200:=by
 rcases six h1 a with rfl | rfl | rfl | rfl | rfl | rfl <;> unfold Fj at h <;> simp at h
 ·have:=Kr h;omega
 ·unfold E8 at h;simp only[aS,ao]at h;rcases h with h | h
  ·have:=Kr h;omega
  ·have:=Kr h.2;simp at this;omega
 ·have:=(Gn h).2;exact this
 ·exact h
 ·unfold UL at h;simp only[aS,beq_iff_eq]at h;rcases h with rfl | rfl <;> decide
 ·unfold GA at h;simp only[aS,beq_iff_eq]at h;rcases h with (rfl | rfl) | rfl <;> decide
theorem Gp{a:PLine}(h:BR (rulesOf kind) a.key a.ws=true):CW a.key.data.toList=true/\a.key.data.toList.length<=200/\a.key.data.toList≠[101,110,100]/\a.ws.length<=3/\∀w∈a.ws,w.length<=200:=by
 cases b:Bt (rulesOf kind) a.key with
 | none=>rw[Cq _ b]at h;cases h
 | some p =>
  obtain⟨i,_,g,k⟩:=Dk b;have l:p∈rulesOf kind:=aU g;obtain⟨c,d,e,q,m⟩:=Aeo kind p l;rw[EA _ b]at h;unfold BD at h;rw[ao,decide_eq_true_eq]at h;rw[k]at c d e;refine⟨c,d,e,by omega,fun w n=>?_⟩;obtain⟨j,r,rfl⟩:=af.1 n;have o:Fj (p.2.1[j]'(by omega)) a.ws[j]=true:=by
   have:=aG.1 h.2 (Fj (p.2.1[j]'(by omega)) a.ws[j]) (af.2 ⟨j,by simp;omega,by simp⟩);simpa using this
  have f:=m _ (an (by omega:j<p.2.1.length));exact X4 f.1 f.2 o
theorem IM(k:ByteArray):Bu k.data.toList=k:=by
 unfold Bu;simp
def Js(b:PBlock):List (List UInt8):=Ix b::(b.ac.map (fun a=>32::32::Ej a)++[[101,110,100]])
def Ic(b:PBlock):Prop:=(rulesOf b.aa).length≠0/\nameB b.name.data.toList=true/\∀a∈b.ac,BR (rulesOf b.aa) a.key a.ws=true
theorem Ks{l:List UInt8}(h:CW l=true):(10:UInt8) ∉ l:=by
 unfold CW at h;rw[ao]at h;exact Pd h.2
theorem X5{a:PLine}(h:CW a.key.data.toList=true):(10:UInt8) ∉ Ej a:=by
 unfold Ej;intro e;rcases ah.1 e with e | e
 ·exact Ks h e
 ·obtain⟨w,_,b⟩:=bk.1 e;rcases ai.1 b with b | b
  ·cases b
  ·exact X3 w b
theorem L1(ls:List PLine)(h:∀a∈ls,CW a.key.data.toList=true)(rest:List UInt8):A9 (ls.flatMap (fun a=>32::32::Ej a++[10])++rest)=ls.map (fun a=>32::32::Ej a)++A9 rest:=by
 induction ls with
 | nil=>rfl
 | cons a ls c =>
  rw[ar,ad,ad,aT,DY,c (fun b d=>h b (by simp[d]))]
  ·rfl
  ·intro e;rcases ai.1 e with e | e
   ·cases e
   rcases ai.1 e with e | e
   ·cases e
   exact X5 (h a (by simp)) e
theorem L2(b:PBlock)(h:Ic b)(rest:List UInt8):A9 (blockL b++rest)=Js b++A9 rest:=by
 unfold blockL Js;rw[ad,aw,DY,ad,L1]
 ·rw[show ([101,110,100,10]++rest:List UInt8)=[101,110,100]++10::rest from rfl,DY _ _ (by decide)];simp
 ·intro a c;exact(Gp (h.2.2 a c)).1
 ·intro e;rcases ah.1 e with e | e
  ·exact Ks (Kq h.1).1 e
  ·rcases ai.1 e with e | e
   ·cases e
   ·exact Ks (Gn h.2.1).1 e
theorem GW:∀(bs:List PBlock),(∀b∈bs,Ic b)->A9 (sheetL bs)=bs.flatMap Js
 | [],_=>rfl
 | b::bs,h=>by
  rw[sheetL,ar,L2 b (h b (by simp)),<-sheetL,GW bs (fun c a=>h c (by simp[a])),ar]
theorem X6{b:PBlock}(h:Ic b):cutL (Ix b)=aj [b.aa.data.toList,b.name.data.toList]:=by
 have h1:=Kq h.1;have a:=Gn h.2.1;have:=Kp [] b.aa.data.toList [b.name.data.toList] (by simp) h1.1 h1.2 (by simpa using a.2) (by simp);rw[<-this];simp[Ix,Ck,a.1]
theorem Acv{a:PLine}(h:BR (rulesOf kind) a.key a.ws=true):cutL (32::32::Ej a)=aj (a.key.data.toList::a.ws):=by
 obtain⟨h1,b,_,d,c⟩:=Gp h;exact Kp [32,32] a.key.data.toList a.ws (by simp) h1 b c (by omega)
theorem Zz:cutL [101,110,100]=aj [[101,110,100]]:=by
 have:=Kp [] [101,110,100] [] (by simp) (by decide) (by decide) (by simp) (by simp);simpa using this
theorem Gc{done:List PBlock}{a:Option PBlock}{l w:List UInt8}{rest:List (List UInt8)}(b:cutL l=aj (w::ws))(c:(Cl done a w ws).1=0):Bv n done a (l::rest)=Bv (n+1) (Cl done a w ws).2.1 (Cl done a w ws).2.2 rest:=by
 rw[Bv,b];simp only;rw[if_neg (by simp[c])]
theorem KS:∀(ls es:List PLine) (n:Nat) (done:List PBlock) (kind name:ByteArray) (rest:List (List UInt8)),Bj (rulesOf kind) (es++ls)->Bv n done (aj ⟨kind,name,es⟩) (ls.map (fun a=>32::32::Ej a)++rest)=Bv (n+ls.length) done (aj ⟨kind,name,es++ls⟩) rest
 | [],es,n,done,kind,name,rest,_=>by simp
 | a::ls,es,n,done,kind,name,rest,h=>by
  have g:Bj (rulesOf kind) ((es++[a])++ls):=by rw[ad];exact h
  have d:lineFault (rulesOf kind) es a=0:=by
   have:=h es.length a (by rw[ax (aB _)];simp)
   rwa [ae (aB _),av]at this
  have f:=(Bw.1 d).1;have i:=(Gp f).2.2.1;have c:=MQ (done:=done) (b:=⟨kind,name,es⟩) (w:=a.key.data.toList) (ws:=a.ws) (fun e=>i e.1);rw[IM]at c;rw[a8,aw,Gc (Acv f) (by rw[c];exact d),c];show Bv (n+1) done (aj ⟨kind,name,es++[a]⟩) _=_
  rw[KS ls (es++[a]) (n+1) done kind name rest g,ad];simp only[aT,aA];rw[show n+1+ls.length=n+(ls.length+1) by omega]
theorem Jt:∀(bs done:List PBlock) (n:Nat),CA (done++bs)->Bv n done aF (bs.flatMap Js)=.good (done++bs)
 | [],done,n,_=>by simp[Bv]
 | b::bs,done,n,h=>by
  have f:CA ((done++[b])++bs):=by rw[ad];exact h
  have c:headFault done b.aa b.name=0:=by
   have:=h.1 done.length b (by rw[ax (aB _)];simp)
   rwa [ae (aB _),av]at this
  have d:Bj (rulesOf b.aa) b.ac:=h.2 b (by simp);have e:=By.1 c;have g:Ic b:=⟨e.1,e.2.1,d.fits⟩;have a:=GC done b.aa.data.toList b.name.data.toList;rw[IM,IM]at a;rw[ar,Js,aw,Gc (X6 g) (by rw[a];exact c),a,ad];show Bv (n+1) done (aj ⟨b.aa,b.name,[]⟩) _=_
  rw[KS b.ac [] (n+1) done b.aa b.name _ (by simpa using d),bl,aT,Gc Zz (by rw[Kn]),Kn];show Bv _ (done++[b]) aF _=_
  rw[Jt bs (done++[b]) _ f,ad];rfl
theorem Am.good{bs:List PBlock}(h:Am bs):CA bs:=by
 have c:=(EV h).1;refine⟨fun i b a=>(c i b a).1,fun b a=>?_⟩;exact(DW (h.2.1 b a).2.2).1
theorem Pe{ls:List PLine}(h:Aw R ls):BS R ls=ls :=
 (C9 (Dl R) (CS R) h.2.1 (Gb ls (DW h).1) (BZ R ls).symm).symm
theorem X8{bs:List PBlock}(h:Am bs):Cv bs=bs:=by
 have c:bs.map FM=bs:=by
  conv=>rhs;rw[<-a3 bs]
  refine aI fun b d=>?_
  show FM b=b
  unfold FM;rw[Pe (h.2.1 b d).2.2]
 have a:=C7 bs;rw[c]at a;exact(C9 Dn Ch h.2.2 (Ex bs h.good) a.symm).symm
theorem SM{bs:List PBlock}(h:Am bs)(c:¬Bi (sheetL bs)):Ep (sheetL bs)=.good bs:=by
 have d:∀b∈bs,Ic b:=fun b a=>⟨(h.2.1 b a).1,(h.2.1 b a).2.1,(h.2.1 b a).2.2.1⟩
 rw[Ko c,GW bs d];exact Jt bs [] 0 h.good
def DE(R:List Plain)(a:PLine):Bool:=match Bt R a.key with
 | some p=>p.2.2.1 || !decide (a.ws=p.2.2.2)
 | none=>true
def trimP(b:PBlock):PBlock:=⟨b.aa,b.name,b.ac.filter (DE (rulesOf b.aa))⟩
noncomputable def trimS(bs:List PBlock):List PBlock:=if AJ bs=true then bs.map trimP else []
def hasK(ls:List PLine)(k:ByteArray):Bool:=ls.any (fun a=>a.key.toList==k.toList)
def L3(p:Plain):PLine:=⟨p.1,p.2.2.2⟩
def DF(ls:List PLine)(p:Plain):Bool:=!p.2.2.1 && !hasK ls p.1
def IN(R:List Plain)(ls:List PLine):List PLine:=(R.filter (DF ls)).map L3
def Ek(R:List Plain)(ls:List PLine):List PLine:=BS R (ls++IN R ls)
def fillP(b:PBlock):PBlock:=⟨b.aa,b.name,Ek (rulesOf b.aa) b.ac⟩
noncomputable def fillS(bs:List PBlock):List PBlock:=if AJ bs=true then bs.map fillP else []
def Iy(ls:List PLine)(k:ByteArray):List PLine:=ls.filter (fun a=>a.key.toList==k.toList)
def Ea(R:List Plain):Prop:=R.Pairwise (fun p q=>p.1≠q.1)
theorem Cw(kind:ByteArray):Ea (rulesOf kind):=by
 unfold rulesOf;split
 ·unfold Ea;decide
 ·split
  ·unfold Ea;decide
  ·split
   ·unfold Ea;decide
   ·exact .nil
theorem DG{ls:List PLine}{k:ByteArray}:hasK ls k=true↔∃a∈ls,a.key=k:=by
 unfold hasK;rw[aD];constructor
 ·rintro⟨a,b,h⟩;exact⟨a,b,toList_inj (by simpa using h)⟩
 ·rintro⟨a,b,rfl⟩;exact⟨a,b,by simp⟩
theorem Dp{ls:List PLine}{k:ByteArray}:hasK ls k=false↔∀a∈ls,a.key≠k:=by
 rw[<-ap,DG];constructor
 ·exact fun h a b e=>h ⟨a,b,e⟩
 ·rintro h ⟨a,b,e⟩;exact h a b e
theorem Kt{ls:List PLine}{k:ByteArray}(h:∀a∈ls,a.key≠k):keyN ls k=0:=by
 unfold keyN;rw[aK];intro a b e;exact h a b (toList_inj (by simpa using e))
theorem Pf{R:List Plain}:∀(us ls:List PLine),Bj R ls->(∀a∈us,BR R a.key a.ws=true/\∀o∈ls,o.key≠a.key)->us.Pairwise (fun a b=>a.key≠b.key)->Bj R (ls++us)
 | [],ls,h,_,_=>by rw[aQ];exact h
 | u::us,ls,h,d,i=>by
  have g:=ay.1 i;have h1:lineFault R ls u=0:=by
   refine Bw.2 ⟨(d u (by simp)).1,fun o c e=>absurd e ((d u (by simp)).2 o c),?_⟩;rw[Kt (d u (by simp)).2];omega
  have:=Pf us (ls++[u]) (h.snoc h1) (fun a f=>⟨(d a (by simp[f])).1,fun o c=>by
   rcases ah.1 c with c | c
   ·exact(d a (by simp[f])).2 o c
   ·rw[az.1 c];exact g.1 a f⟩) g.2
  rwa [ad]at this
theorem MU{ls:List PLine}{a:PLine}(h:a∈IN R ls):∃p∈R,p.2.2.1=false/\hasK ls p.1=false/\a=L3 p:=by
 obtain⟨p,b,rfl⟩:=aP.1 h;rw[ag]at b;have:=b.2;simp only[DF,ao,bi]at this;exact⟨p,b.1,this.1,this.2,rfl⟩
theorem Aw.good{ls:List PLine}(h:Aw R ls):Bj R ls:=(DW h).1
theorem Pg{ls:List PLine}(h:Aw R ls)(b:Ju R)(c:Ea R):Bj R (ls++IN R ls):=by
 refine Pf _ _ h.good (fun a d=>?_) ?_
 ·obtain⟨p,e,f,g,rfl⟩:=MU d;exact⟨b p e f,Dp.1 g⟩
 ·unfold IN;rw[aY];exact(c.filter _).imp fun h=>h
theorem FN{ls:List PLine}(h:Aw R ls)(a:Ju R)(b:Ea R):Aw R (Ek R ls):=Fd (Pg h a b)
theorem Acy(ls:List PLine)(k:ByteArray):(Iy ls k).isEmpty=!hasK ls k:=by
 unfold Iy hasK
 induction ls with
 | nil=>rfl
 | cons a l b =>
  rw[List.filter_cons,List.any_cons];cases (a.key.toList==k.toList)
  ·simpa using b
  ·rfl
def AE(kind name:ByteArray)(b:PBlock):Bool:=(b.aa.toList==kind.toList)&&(b.name.toList==name.toList)
def De(bs:List PBlock)(kind name:ByteArray)(k:Nat):Prop:=∀b∈bs.take k,AE kind name b=false
theorem De.zero(bs:List PBlock)(kind name:ByteArray):De bs kind name 0:=by simp[De]
theorem De.succ{D T:List PBlock}{b:PBlock}(h:De (D++b::T) kind name D.length)(c:AE kind name b=false):De (D++b::T) kind name (D.length+1):=by
 unfold De at *;rw[ae (aB _),av]at h;rw[List.take_append,List.take_of_length_le (by omega),show D.length+1-D.length=1 from by omega];intro s a;simp only[List.take_succ_cons,List.take_zero,ah,az]at a;rcases a with a | rfl
 ·exact h s a
 ·exact c
theorem De.none{bs:List PBlock}(h:De bs kind name bs.length):bs.find? (AE kind name)=aF:=by
 unfold De at h;rw[av]at h;rw[aX];intro b a;rw[h b a];decide
theorem De.hit{D T:List PBlock}{b:PBlock}(h:De (D++b::T) kind name D.length)(a:AE kind name b=true):(D++b::T).find? (AE kind name)=aj b:=by
 unfold De at h;rw[ae (aB _),av]at h;rw[List.find?_append,aX.2 (fun x c=>by rw[h x c];decide),Option.none_or,List.find?_cons_of_pos a]
structure PChange where
 ak:Int
 aa:ByteArray
 name:ByteArray
 key:ByteArray
 ac:List PLine
open Classical in
noncomputable def FO(kind name:ByteArray)(x y:List PLine)(key:ByteArray):List PChange:=if Iy x key=Iy y key then [] else [⟨if (Iy y key).isEmpty=true then 4 else 3,kind,name,key,Iy y key⟩]
noncomputable def Ph(x y:PBlock):List PChange:=(rulesOf x.aa).flatMap fun p=>FO x.aa x.name x.ac y.ac p.1
def Gd(b:PBlock):PChange:=⟨1,b.aa,b.name,⟨#[]⟩,[]⟩
def SN(b:PBlock):PChange:=⟨2,b.aa,b.name,⟨#[]⟩,b.ac⟩
def goneS(A B:List PBlock):List PChange:=(A.filter fun a=>(B.find? (AE a.aa a.name)).isNone).map Gd
noncomputable def El(A:List PBlock)(y:PBlock):List PChange:=match A.find? (AE y.aa y.name) with
 | none=>[SN y]
 | some x=>Ph x y
noncomputable def diffS(A B:List PBlock):List PChange:=if AJ A=true/\AJ B=true then goneS A B++B.flatMap (El A) else []
theorem Ku{α β:Type}(f:α->List β)(k:Nat):∀l:List α,(∀x∈l,(f x).length<=k)->(l.flatMap f).length<=k*l.length
 | [],_=>by simp
 | a::l,h=>by
  have h1:=h a (by simp);have c:=Ku f k l (fun x b=>h x (by simp[b]));rw[ar,au,aA,Nat.mul_add];omega
theorem XB(kind name:ByteArray)(x y:List PLine)(key:ByteArray):(FO kind name x y key).length<=1:=by
 unfold FO;split <;> simp
theorem XC(x y:PBlock):(Ph x y).length<=(rulesOf x.aa).length:=by
 have:=Ku (fun p:Plain=>FO x.aa x.name x.ac y.ac p.1) 1 (rulesOf x.aa) (fun p _=>XB _ _ _ _ _);unfold Ph;omega
theorem XD(A:List PBlock)(y:PBlock):(El A y).length<=12:=by
 unfold El;split
 ·simp
 ·exact a0 (XC _ _) (Bf _).1
theorem XE(A B:List PBlock):(goneS A B).length<=A.length:=by
 unfold goneS;rw[aE];exact ba _ _
theorem XF(A B:List PBlock):(diffS A B).length<=780:=by
 unfold diffS;split
 ·rename_i h;have h1:=(A0.1 h.1).1;have a:=(A0.1 h.2).1;have b:=XE A B;have c:=Ku (El A) 12 B (fun y _=>XD A y);rw[au];omega
 ·simp
theorem IQ{l m:List PLine}(c:l.Pairwise (fun a b=>lineLt R a b=true))(d:m.Pairwise (fun a b=>lineLt R a b=true))(h:∀a,a∈l↔a∈m):l=m:=by
 have f:∀ {l:List PLine},l.Pairwise (fun a b=>lineLt R a b=true)->l.Nodup:=fun h=>h.imp (fun {a b} g e=>by subst e;exact Dl R _ g)
 exact C9 (Dl R) (CS R) c d ((a6 (f c) (f d)).2 h)
def Z3(R:List Plain)(ls:List PLine):List PLine:=ls.filter (DE R)
theorem Aw.sub{l m:List PLine}(h:Aw R m)(b:l.Sublist m):Aw R l:=by
 refine⟨fun a c=>h.1 a (b.subset c),h.2.1.sublist b,fun a c=>?_⟩;have d:=h.2.2 a (b.subset c);have e:keyN l a.key<=keyN m a.key:=b.countP_le;exact⟨d.1.imp id (fun h=>a0 e h),a0 e d.2⟩
theorem WO{ls:List PLine}(h:Aw R ls):Aw R (Z3 R ls):=h.sub aq
theorem fill_mem{ls:List PLine}{a:PLine}:a∈Ek R ls↔a∈ls\/∃p∈R,p.2.2.1=false/\hasK ls p.1=false/\a=L3 p:=by
 unfold Ek;rw[(BZ _ _).mem_iff,ah];refine or_congr bc ⟨MU,?_⟩;rintro⟨p,b,h1,c,rfl⟩;unfold IN;refine List.mem_map_of_mem (ag.2 ⟨b,?_⟩);simp[DF,h1,c]
theorem Z4(g:Ea R){p q:Plain}(c:p∈R)(d:q∈R)(e:p.1=q.1):p=q:=by
 induction R with
 | nil=>cases c
 | cons r R i =>
  have h:=ay.1 g;rcases ai.1 c with f | h1
  ·rcases ai.1 d with a | b
   ·rw[f,a]
   ·exact absurd (f▸e) (h.1 q b)
  ·rcases ai.1 d with a | b
   ·exact absurd (a▸e.symm) (h.1 p h1)
   ·exact i h.2 h1 b
theorem PZ(c:Ea R){p:Plain}(b:p∈R):Bt R p.1=aj p:=by
 unfold Bt;have:(R.find? (fun q=>q.1.toList==p.1.toList)).isSome=true:=by
  rw[List.find?_isSome];exact⟨p,b,by simp⟩
 obtain⟨q,a⟩:=Option.isSome_iff_exists.1 this;have h1:=aM a;have d:=a4 a;have e:q.1=p.1:=toList_inj (by simpa using d);rw[a,Z4 c h1 b e]
theorem picked{key:ByteArray}{p:Plain}(h:Bt R key=aj p):p∈R/\p.1=key:=by
 unfold Bt at h;have a:=a4 h;exact⟨aM h,toList_inj (by simpa using a)⟩
theorem MV(b:Ea R){p:Plain}(c:p∈R){a:PLine}(d:a.key=p.1):DE R a=(p.2.2.1 || !decide (a.ws=p.2.2.2)):=by
 unfold DE;rw[d,PZ b c]
theorem Aw.rule{ls:List PLine}(h:Aw R ls){a:PLine}(c:a∈ls):∃p∈R,p.1=a.key:=by
 have:=h.1 a c;unfold BR at this;cases b:Bt R a.key with
 | none=>rw[b]at this;cases this
 | some p=>exact⟨p,(picked b).1,(picked b).2⟩
theorem Aw.once(e:Ea R){ls:List PLine}(h:Aw R ls){p:Plain}(f:p∈R)(g:p.2.2.1=false){a b:PLine}(d:a∈ls)(i:b∈ls)(c:a.key=p.1)(j:b.key=p.1):a=b:=by
 have h1:keyN ls p.1<=1:=by
  rcases(h.2.2 a d).1 with h1 | h1
  ·unfold Dj at h1;rw[c,PZ e f]at h1;simp[g]at h1
  ·rw[<-c];exact h1
 unfold keyN at h1;rw[a5]at h1;have a1:a∈ls.filter (fun a=>a.key.toList==p.1.toList):=ag.2 ⟨d,by simp[c]⟩;have k:b∈ls.filter (fun a=>a.key.toList==p.1.toList):=ag.2 ⟨i,by simp[j]⟩;generalize ls.filter (fun a=>a.key.toList==p.1.toList)=F at *
 match F,h1 with
 | [],_=>cases a1
 | [x],_=>rw[az.1 a1,az.1 k]
 | _::_::_,h1=>simp at h1
theorem Z5(b:Ea R){p:Plain}(c:p∈R)(d:p.2.2.1=false):DE R (L3 p)=false:=by
 rw[MV b c (a:=L3 p) rfl,d];simp[L3]
theorem XG{ls:List PLine}(h:Aw R ls)(c:Ju R)(d:Ea R):Ek R (Ek R ls)=Ek R ls:=by
 have h1:=FN h c d;have g:=FN h1 c d;refine IQ g.2.1 h1.2.1 fun a=>?_
 rw[fill_mem];refine⟨?_,.inl⟩;rintro(i | ⟨p,j,k,l,rfl⟩)
 ·exact i
 ·exfalso;have:=Dp.1 l;cases f:hasK ls p.1
  ·exact this (L3 p) (fill_mem.2 (.inr ⟨p,j,k,f,rfl⟩)) rfl
  ·obtain⟨b,m,e⟩:=DG.1 f;exact this b (fill_mem.2 (.inl m)) e
theorem XH{ls:List PLine}(h:Aw R ls)(n:Ju R)(f:Ea R):Ek R (Z3 R ls)=Ek R ls:=by
 have h1:=FN h n f;have q:=FN (WO h) n f;refine IQ q.2.1 h1.2.1 fun a=>?_
 rw[fill_mem,fill_mem];unfold Z3;constructor
 ·rintro(i | ⟨p,c,j,l,rfl⟩)
  ·exact .inl (ag.1 i).1
  ·cases o:hasK ls p.1
   ·exact .inr ⟨p,c,j,o,rfl⟩
   ·obtain⟨b,g,e⟩:=DG.1 o;have r:=Dp.1 l b;left;have k:DE R b=false:=by
     cases k:DE R b
     ·rfl
     ·exact absurd e (r (ag.2 ⟨g,k⟩))
    rw[MV f c e,j]at k;have:b.ws=p.2.2.2:=by simpa using k
    have:b=L3 p:=by cases b;simp only[L3]at *;subst e this;rfl
    rw[<-this];exact g
 ·rintro(i | ⟨p,c,j,l,rfl⟩)
  ·cases d:DE R a
   ·obtain⟨p,c,e⟩:=h.rule i;rw[MV f c e.symm]at d;simp only[Bool.or_eq_false_iff,Bool.not_eq_false',decide_eq_true_eq]at d;have ea:a=L3 p:=by cases a;simp only[L3]at *;obtain⟨_,rfl⟩:=d;subst e;rfl
    refine .inr ⟨p,c,d.1,Dp.2 fun b g s=>?_,ea⟩;have m:=ag.1 g;have:=h.once f c d.1 i m.1 e.symm s;rw[<-this,ea,Z5 f c d.1]at m;exact absurd m.2 (by decide)
   ·exact .inl (ag.2 ⟨i,d⟩)
  ·exact .inr ⟨p,c,j,Dp.2 fun b g=>Dp.1 l b (ag.1 g).1,rfl⟩
theorem IR{ls:List PLine}{k:ByteArray}{a:PLine}:a∈Iy ls k↔a∈ls/\a.key=k:=by
 unfold Iy;rw[ag];refine and_congr bc ⟨fun h=>toList_inj (by simpa using h),fun h=>by simp[h]⟩
theorem Z6{f:PBlock->PBlock}(c:∀b,(f b).aa=b.aa)(d:∀b,(f b).name=b.name){bs:List PBlock}(h:Am bs)(g:∀b∈bs,Aw (rulesOf b.aa) (f b).ac):Am (bs.map f):=by
 refine⟨by simpa using h.1,fun b i=>?_,?_⟩
 ·obtain⟨a,e,rfl⟩:=aP.1 i;have:=h.2.1 a e;rw[c,d];exact⟨this.1,this.2.1,g a e⟩
 ·rw[aY];refine h.2.2.imp fun {a b} j=>?_
  rw[Ci]at *;rw[c,c,d,d];exact j
theorem Jv{bs:List PBlock}(h:Am bs):Am (bs.map fillP):=Z6 (f:=fillP) (fun _=>rfl) (fun _=>rfl) h fun b a=>FN (h.2.1 b a).2.2 (DZ b.aa) (Cw b.aa)
theorem SO{bs:List PBlock}(h:Am bs):Am (bs.map trimP):=Z6 (f:=trimP) (fun _=>rfl) (fun _=>rfl) h fun b a=>WO (h.2.1 b a).2.2
theorem Fk{bs:List PBlock}(h:Am bs):fillS bs=bs.map fillP:=by unfold fillS;rw[if_pos (A0.2 h)]
theorem Z7{bs:List PBlock}(h:Am bs):trimS bs=bs.map trimP:=by unfold trimS;rw[if_pos (A0.2 h)]
theorem UY{bs:List PBlock}(h:Am bs):fillS (trimS bs)=fillS bs:=by
 rw[Fk h,Z7 h,Fk (SO h),bm];refine aI fun b a=>?_
 show PBlock.mk _ _ _=PBlock.mk _ _ _
 congr 1;exact XH (h.2.1 b a).2.2 (DZ b.aa) (Cw b.aa)
theorem Z8{f:PBlock->PBlock}(a:∀b,(f b).aa=b.aa)(c:∀b,(f b).name=b.name)(bs:List PBlock)(kind name:ByteArray):(bs.map f).find? (AE kind name)=(bs.find? (AE kind name)).map f:=by
 rw[List.find?_map];congr 2
 funext b
 show AE kind name (f b)=AE kind name b
 unfold AE;rw[a,c]
theorem MW:∀(R:List Plain) (ls:List PLine),(∀a∈ls,∃p∈R,p.1=a.key)->(∀k,keyN ls k<=10)->ls.length<=10*R.length
 | [],ls,h,_=>by
  cases ls with
  | nil=>simp
  | cons a ls=>obtain⟨p,g,_⟩:=h a (by simp);cases g
 | p::R,ls,h,d=>by
  have h1:=MW R (ls.filter (fun a=>!(a.key.toList==p.1.toList))) (fun a i=>by
   have f:=ag.1 i;obtain⟨q,b,e⟩:=h a f.1;rcases ai.1 b with rfl | b
   ·have:=f.2;rw[e]at this;simp at this
   ·exact⟨q,b,e⟩) (fun k=>by
    unfold keyN;have:=bp (p:=fun a:PLine=>a.key.toList==k.toList) (aq (p:=fun a:PLine=>!(a.key.toList==p.1.toList)) (l:=ls));have c:=d k;unfold keyN at c;omega)
  have c:=d p.1;unfold keyN at c;have m:=List.length_eq_countP_add_countP (fun a:PLine=>a.key.toList==p.1.toList) (l:=ls);rw[<-a5]at h1;have j:ls.countP (fun a=>!(a.key.toList==p.1.toList))=ls.countP (fun a=>decide ¬((a.key.toList==p.1.toList)=true)):=by
   congr 1;funext a;cases (a.key.toList==p.1.toList) <;> rfl
  rw[j]at h1;rw[aA];omega
theorem Aw.few{ls:List PLine}(h:Aw R ls):ls.length<=10*R.length:=by
 refine MW R ls (fun a b=>?_) (fun k=>?_)
 ·have d:=h.1 a b;have c:Bt R a.key≠aF:=fun e=>by rw[Cq _ e]at d;cases d
  obtain⟨p,c⟩:=aL.1 c;obtain⟨i,_,g,e⟩:=Dk c;exact⟨p,aU g,e⟩
 ·by_cases f:∃a∈ls,a.key=k
  ·obtain⟨a,b,rfl⟩:=f;exact(h.2.2 a b).2
  ·rw[Kt (fun a b e=>f ⟨a,b,e⟩)];omega
def EC(u o:List PLine):List PLine:=u.filter (fun a=>!hasK o a.key)
def DA(R:List Plain)(u o:List PLine):List PLine:=BS R (o++EC u o)
theorem Pi{ls:List PLine}(h:Bj R ls):∀us:List PLine,Bj R us->(∀a∈us,∀o∈ls,o.key≠a.key)->Bj R (ls++us):=by
 refine FL (fun _ _=>by rw[aQ];exact h) ?_;intro us a f g d;obtain⟨h1,i⟩:=g.front;rw[<-ad];refine(f h1 (fun b j=>d b (by simp[j]))).snoc ?_;obtain⟨k,l,m⟩:=Bw.1 i;refine Bw.2 ⟨k,fun o c=>?_,?_⟩
 ·rcases ah.1 c with c | c
  ·exact fun e=>absurd e (d a (by simp) o c)
  ·exact l o c
 ·rw[Dm,Kt (d a (by simp)),Nat.zero_add];exact m
theorem Pj{u o:List PLine}{a:PLine}:a∈EC u o↔a∈u/\hasK o a.key=false:=by
 unfold EC;rw[ag];simp
theorem Pk{u o:List PLine}(c:Aw R u)(d:Aw R o):Bj R (o++EC u o):=by
 refine Pi d.good _ (c.sub aq).good fun a e b f=>?_
 exact Dp.1 (Pj.1 e).2 b f
theorem Jw{u o:List PLine}(a:Aw R u)(b:Aw R o):Aw R (DA R u o):=Fd (Pk a b)
theorem over_mem{u o:List PLine}{a:PLine}:a∈DA R u o↔a∈o\/a∈u/\hasK o a.key=false:=by
 unfold DA;rw[(BZ _ _).mem_iff,ah,Pj]
theorem Z9{u o:List PLine}{k:ByteArray}:hasK (DA R u o) k=true↔hasK o k=true\/hasK u k=true:=by
 rw[DG,DG,DG];constructor
 ·rintro⟨a,c,e⟩;rcases over_mem.1 c with h | h
  ·exact .inl ⟨a,h,e⟩
  ·exact .inr ⟨a,h.1,e⟩
 ·rintro(⟨a,c,e⟩ | ⟨a,c,e⟩)
  ·exact⟨a,over_mem.2 (.inl c),e⟩
  ·cases d:hasK o a.key
   ·exact⟨a,over_mem.2 (.inr ⟨c,d⟩),e⟩
   ·obtain⟨b,f,g⟩:=DG.1 d;exact⟨b,over_mem.2 (.inl f),g.trans e⟩
theorem Kv{u o:List PLine}{k:ByteArray}:hasK (DA R u o) k=false↔hasK o k=false/\hasK u k=false:=by
 rw[<-ap,Z9,not_or,ap,ap]
theorem ZB(R:List Plain):Aw R []:=⟨by simp,a7,by simp⟩
theorem Jy{l m:List PLine}(b:Aw R l)(c:Aw R m)(h:∀a,a∈l↔a∈m):l=m:=IQ b.2.1 c.2.1 h
theorem MX{o:List PLine}(b:Aw R o):DA R [] o=o:=Jy (Jw (ZB R) b) b fun a=>by rw[over_mem];simp
theorem ZC{ls:List PLine}{p:Plain}(c:p∈R)(d:p.2.2.1=false):hasK (Ek R ls) p.1=true:=by
 cases a:hasK ls p.1
 ·exact DG.2 ⟨L3 p,fill_mem.2 (.inr ⟨p,c,d,a,rfl⟩),rfl⟩
 ·obtain⟨b,f,e⟩:=DG.1 a;exact DG.2 ⟨b,fill_mem.2 (.inl f),e⟩
theorem XI{a b:List PLine}(j:Aw R a)(k:Aw R b)(g:Ju R)(i:Ea R):Ek R (DA R a b)=Ek R (DA R (Ek R a) b):=by
 refine Jy (FN (Jw j k) g i) (FN (Jw (FN j g i) k) g i) fun x=>?_
 rw[fill_mem,fill_mem,over_mem,over_mem];constructor
 ·rintro((h | ⟨h,f⟩) | ⟨p,c,d,e,rfl⟩)
  ·exact .inl (.inl h)
  ·exact .inl (.inr ⟨fill_mem.2 (.inl h),f⟩)
  ·have:=Kv.1 e;exact .inl (.inr ⟨fill_mem.2 (.inr ⟨p,c,d,this.2,rfl⟩),this.1⟩)
 ·rintro((h | ⟨h,f⟩) | ⟨p,c,d,e,rfl⟩)
  ·exact .inl (.inl h)
  ·rcases fill_mem.1 h with h | ⟨p,c,d,e,rfl⟩
   ·exact .inl (.inr ⟨h,f⟩)
   ·exact .inr ⟨p,c,d,Kv.2 ⟨f,e⟩,rfl⟩
  ·exact absurd (Kv.1 e).2 (by rw[ZC c d];decide)
variable {us os:List PBlock}
def CI(bs:List PBlock):Prop:=bs.Pairwise (fun a b=>¬(a.aa=b.aa/\a.name=b.name))
theorem Am.heads{bs:List PBlock}(h:Am bs):CI bs:=h.2.2.imp fun {a b} c e=>by
 rw[Ci,e.1,e.2]at c;rcases c with q | ⟨_,q⟩ <;> exact FJ.irr _ q
def look(bs:List PBlock)(kind name:ByteArray):Option PBlock:=bs.find? (AE kind name)
theorem AI{b:PBlock}:AE kind name b=true↔b.aa=kind/\b.name=name:=by
 unfold AE;simp only[ao,beq_iff_eq];exact⟨fun h=>⟨toList_inj h.1,toList_inj h.2⟩,fun h=>by rw[h.1,h.2];exact⟨rfl,rfl⟩⟩
theorem Bo{bs:List PBlock}{b:PBlock}(h:look bs kind name=aj b):b∈bs/\b.aa=kind/\b.name=name:=⟨aM h,AI.1 (a4 h)⟩
theorem Db{bs:List PBlock}:look bs kind name=aF↔∀b∈bs,¬(b.aa=kind/\b.name=name):=by
 unfold look;rw[aX];exact⟨fun h b a e=>h b a (AI.2 e),fun h b a e=>h b a (AI.1 e)⟩
theorem FP{bs:List PBlock}(h:CI bs){b:PBlock}(c:b∈bs):look bs b.aa b.name=aj b:=by
 induction bs with
 | nil=>cases c
 | cons a l f =>
  have e:=ay.1 h;unfold look;rw[List.find?_cons];cases d:AE b.aa b.name a
  ·rcases ai.1 c with rfl | c
   ·rw[AI.2 ⟨rfl,rfl⟩]at d;cases d
   ·exact f e.2 c
  ·rcases ai.1 c with rfl | c
   ·rfl
   ·exact absurd (AI.1 d) (e.1 b c)
theorem Fl{bs:List PBlock}(h:CI bs){b:PBlock}:look bs kind name=aj b↔b∈bs/\b.aa=kind/\b.name=name:=⟨Bo,by rintro⟨a,rfl,rfl⟩;exact FP h a⟩
theorem Kw{l m:List PBlock}(c:l.Pairwise (fun a b=>blockLt a b=true))(d:m.Pairwise (fun a b=>blockLt a b=true))(h:∀a,a∈l↔a∈m):l=m:=by
 have f:∀ {l:List PBlock},l.Pairwise (fun a b=>blockLt a b=true)->l.Nodup:=fun h=>h.imp (fun {a b} g e=>by subst e;exact Dn _ g)
 exact C9 Dn Ch c d ((a6 (f c) (f d)).2 h)
theorem XJ{s t:List PBlock}(c:Am s)(d:Am t)(h:∀kind name,look s kind name=look t kind name):s=t:=by
 refine Kw c.2.2 d.2.2 fun a=>?_
 have:=h a.aa a.name;constructor
 ·intro b;rw[FP c.heads b]at this;exact(Bo this.symm).1
 ·intro b;rw[FP d.heads b]at this;exact(Bo this).1
def SQ(u o:PBlock):PBlock:=⟨o.aa,o.name,DA (rulesOf o.aa) u.ac o.ac⟩
def EX(us:List PBlock)(o:PBlock):PBlock:=match look us o.aa o.name with
 | some u=>SQ u o
 | none=>o
def Fm(us os:List PBlock):List PBlock:=us.filter (fun u=>(look os u.aa u.name).isNone)
def AM(us os:List PBlock):List PBlock:=os.map (EX us)++Fm us os
noncomputable def Bb(us os:List PBlock):List PBlock:=if AJ us=true/\AJ os=true/\(AM us os).length<=60 then Cv (AM us os) else []
theorem BN(us:List PBlock)(o:PBlock):(EX us o).aa=o.aa/\(EX us o).name=o.name:=by unfold EX;split <;> exact⟨rfl,rfl⟩
theorem Acz(b:Am us){o:PBlock}(a:Aw (rulesOf o.aa) o.ac):Aw (rulesOf o.aa) (EX us o).ac:=by
 unfold EX;split
 ·rename_i u c;have h1:=Bo c;have:=(b.2.1 u h1.1).2.2;rw[h1.2.1]at this;exact Jw this a
 ·exact a
theorem Pl{b:PBlock}:b∈Fm us os↔b∈us/\look os b.aa b.name=aF:=by
 unfold Fm;rw[ag,Option.isNone_iff_eq_none]
theorem overRaw_mem{b:PBlock}:b∈AM us os↔(∃o∈os,b=EX us o)\/b∈us/\look os b.aa b.name=aF:=by
 unfold AM;rw[ah,aP,Pl];exact or_congr ⟨fun⟨o,h,e⟩=>⟨o,h,e.symm⟩,fun⟨o,h,e⟩=>⟨o,h,e.symm⟩⟩ bc
theorem Ey(c:Am us)(d:Am os):CI (AM us os):=by
 unfold CI AM;rw[aC];refine⟨?_,c.heads.sublist aq,fun a f b g=>?_⟩
 ·rw[aY];refine d.heads.imp fun {a b} i=>?_
  rw[(BN us a).1,(BN us a).2,(BN us b).1,(BN us b).2];exact i
 ·obtain⟨o,h,rfl⟩:=aP.1 f;rw[(BN us o).1,(BN us o).2];exact fun e=>Db.1 (Pl.1 g).2 o h e
theorem D3(a:Am us)(c:Am os):∀b∈AM us os,(rulesOf b.aa).length≠0/\nameB b.name.data.toList=true/\Aw (rulesOf b.aa) b.ac:=by
 intro b d;rcases overRaw_mem.1 d with ⟨o,h,rfl⟩ | ⟨h,_⟩
 ·have:=c.2.1 o h;have e:=Acz a this.2.2;rw[(BN us o).1,(BN us o).2];exact⟨this.1,this.2.1,e⟩
 ·exact a.2.1 b h
theorem WP{bs:List PBlock}(k:bs.length<=60)(d:CI bs)(c:∀b∈bs,(rulesOf b.aa).length≠0/\nameB b.name.data.toList=true/\Aw (rulesOf b.aa) b.ac):CA bs:=by
 refine⟨fun i b a=>?_,fun b a=>(c b a).2.2.good⟩;obtain⟨f,rfl⟩:=am.1 a;have h1:=c bs[i] (an _);refine By.2 ⟨h1.1,h1.2.1,fun o g e=>?_,by simp;omega⟩;obtain⟨j,h,rfl⟩:=af.1 g;simp only[aN,aZ]at h e;exact al.1 d j i (by omega) f (by omega) e
theorem Kx{bs:List PBlock}(a:∀b∈bs,Aw (rulesOf b.aa) b.ac):bs.map FM=bs:=by
 conv=>rhs;rw[<-a3 bs]
 refine aI fun b c=>?_
 unfold FM;rw[Pe (a b c)];rfl
theorem SR{bs:List PBlock}(a:∀b∈bs,Aw (rulesOf b.aa) b.ac)(b:PBlock):b∈Cv bs↔b∈bs:=by
 rw[(C7 bs).mem_iff,Kx a]
theorem Fo(a:Am us)(b:Am os)(c:(AM us os).length<=60):Bb us os=Cv (AM us os):=by unfold Bb;rw[if_pos ⟨A0.2 a,A0.2 b,c⟩]
theorem Fp(a:Am us)(b:Am os)(c:(AM us os).length<=60):Am (Bb us os):=by
 rw[Fo a b c];exact X1 (WP c (Ey a b) (D3 a b))
def MY:Option PBlock->Option PBlock->Option PBlock
 | some u,aj o=>aj (SQ u o)
 | some u,aF=>aj u
 | none,r=>r
theorem Pm(d:Am us)(f:Am os)(k:(AM us os).length<=60)(kind name:ByteArray):look (Bb us os) kind name=MY (look us kind name) (look os kind name):=by
 have l:=Fp d f k;have g:∀b,b∈Bb us os↔b∈AM us os:=by
  rw[Fo d f k];exact SR fun b i=>(D3 d f b i).2.2
 cases j:look os kind name with
 | some o =>
  obtain⟨m,a,c⟩:=Bo j;have n:EX us o∈Bb us os:=(g _).2 (overRaw_mem.2 (.inl ⟨o,m,rfl⟩));have:=FP l.heads n;rw[(BN us o).1,(BN us o).2,a,c]at this;rw[this];unfold EX;rw[a,c];cases look us kind name <;> rfl
 | none =>
  cases h1:look us kind name with
  | some u =>
   obtain⟨p,a,c⟩:=Bo h1;refine(Fl l.heads).2 ⟨(g u).2 (overRaw_mem.2 (.inr ⟨p,?_⟩)),a,c⟩;rw[a,c];exact j
  | none =>
   refine Db.2 fun b i e=>?_
   rcases overRaw_mem.1 ((g b).1 i) with ⟨o,h,rfl⟩ | ⟨h,_⟩
   ·rw[(BN us o).1,(BN us o).2]at e;exact Db.1 j o h e
   ·exact Db.1 h1 b h e
theorem WQ{s:List PBlock}(h:Am s){b:PBlock}(c:look s kind name=aj b):b.aa=kind/\b.name=name/\Aw (rulesOf kind) b.ac:=by
 obtain⟨h1,a,d⟩:=Bo c;have:=(h.2.1 b h1).2.2;rw[a]at this;exact⟨a,d,this⟩
theorem Jz:Am []:=⟨by simp,by simp,a7⟩
theorem ZD(us:List PBlock):AM us []=us:=by
 unfold AM Fm;simp[look]
theorem WR(us os:List PBlock):(AM us os).length<=us.length+os.length/\os.length<=(AM us os).length:=by
 unfold AM Fm;have:=ba (fun u=>(look os u.aa u.name).isNone) us;simp only[au,aE];omega
theorem XK(a:Am us)(b:Am os)(c:(AM us os).length<=60):(Bb us os).length=(AM us os).length:=by
 rw[Fo a b c,(C7 _).length_eq,aE]
theorem Ky{s:List PBlock}(h:Am s)(kind name:ByteArray):look (fillS s) kind name=(look s kind name).map fillP:=by
 rw[Fk h];exact Z8 (f:=fillP) (fun _=>rfl) (fun _=>rfl) s kind name
theorem SS{a b:List PBlock}(c:Am a)(d:Am b)(h1:(AM a b).length<=60)(g:(AM (fillS a) b).length<=60):fillS (Bb a b)=fillS (Bb (fillS a) b):=by
 have e:=Fp c d h1;have h:Am (fillS a):=by rw[Fk c];exact Jv c
 have f:=Fp h d g;refine XJ (by rw[Fk e];exact Jv e) (by rw[Fk f];exact Jv f) fun kind name=>?_
 rw[Ky e,Ky f,Pm c d h1,Pm h d g,Ky c];cases k:look a kind name with
 | none=>rfl
 | some x =>
  obtain⟨i,o,j⟩:=WQ c k;cases l:look b kind name with
  | none =>
   show aj (fillP x)=aj (fillP (fillP x))
   unfold fillP;simp only[i];rw[XG j (DZ kind) (Cw kind)]
  | some y =>
   obtain⟨m,p,n⟩:=WQ d l;show aj (fillP (SQ x y))=aj (fillP (SQ (fillP x) y))
   unfold fillP SQ;simp only[m,i];rw[XI j n (DZ kind) (Cw kind)]
variable {A A':List PBlock}
def CT(key:ByteArray)(a:PLine):Bool:=!(a.key.toList==key.toList)
theorem GE{key:ByteArray}{a:PLine}:CT key a=true↔a.key≠key:=by
 unfold CT;rw[bi,beq_eq_false_iff_ne];exact⟨fun h e=>h (by rw[e]),fun h e=>h (toList_inj e)⟩
def DT(R:List Plain)(ls:List PLine)(key:ByteArray)(xs:List PLine):List PLine:=xs.foldl (fun acc a=>Cb (lineLt R) a acc) (ls.filter (CT key))
def Pn(A:List PBlock)(kind name:ByteArray):List PBlock:=A.filter (fun b=>!AE kind name b)
def KT(A:List PBlock)(kind name:ByteArray)(ls:List PLine):List PBlock:=A.map (fun b=>if AE kind name b=true then ⟨b.aa,b.name,ls⟩ else b)
open Classical in
noncomputable def C0(A:List PBlock)(c:PChange):Option (List PBlock):=match look A c.aa c.name with
 | none=>if c.ak=2/\c.key=⟨#[]⟩/\Am (Cb blockLt ⟨c.aa,c.name,c.ac⟩ A) then aj (Cb blockLt ⟨c.aa,c.name,c.ac⟩ A) else aF
 | some b=>if c.ak=1/\c.key=⟨#[]⟩/\c.ac=[] then aj (Pn A c.aa c.name)
  else if c.ak=3/\c.ac≠[]/\(∀a∈c.ac,a.key=c.key)/\Aw (rulesOf b.aa) (DT (rulesOf b.aa) b.ac c.key c.ac) then aj (KT A c.aa c.name (DT (rulesOf b.aa) b.ac c.key c.ac))
  else if c.ak=4/\c.ac=[]/\hasK b.ac c.key=true then aj (KT A c.aa c.name (b.ac.filter (CT c.key)))
  else aF
noncomputable def D4:Nat->List PBlock->List PChange->List PBlock × Int
 | _,A,[]=>(A,0)
 | i,A,c::cs=>match C0 A c with
  | none=>([],2+(i:Int))
  | some A'=>D4 (i+1) A' cs
noncomputable def Fq(A:List PBlock)(cs:List PChange):List PBlock × Int:=if AJ A=true then D4 0 A cs else ([],1)
theorem Hm{D T:List PBlock}{b:PBlock}(h:CI (D++b::T))(a:AE kind name b=true):(∀d∈D,AE kind name d=false)/\∀t∈T,AE kind name t=false:=by
 obtain⟨rfl,rfl⟩:=AI.1 a;unfold CI at h;rw[aC,ay]at h;obtain⟨_,⟨c,_⟩,f⟩:=h;refine⟨fun d g=>?_,fun t i=>?_⟩
 ·cases e:AE b.aa b.name d
  ·rfl
  ·exact absurd (AI.1 e) (f d g b (by simp))
 ·cases e:AE b.aa b.name t
  ·rfl
  ·have:=AI.1 e;exact absurd ⟨this.1.symm,this.2.symm⟩ (c t i)
theorem Hn{D T:List PBlock}{b:PBlock}(h:Am (D++b::T))(c:AE kind name b=true):Pn (D++b::T) kind name=D++T:=by
 have h1:=Hm h.heads c;unfold Pn;rw[List.filter_append,aO (by simp[c])];rw[be.2 (fun d a=>by simp[h1.1 d a]),be.2 (fun d a=>by simp[h1.2 d a])]
theorem DP{D T:List PBlock}{b:PBlock}(h:Am (D++b::T))(c:AE kind name b=true)(ls:List PLine):KT (D++b::T) kind name ls=D++⟨b.aa,b.name,ls⟩::T:=by
 have h1:=Hm h.heads c;unfold KT;rw[List.map_append,a8,if_pos c];congr 1
 ·exact(aI (fun d a=>by rw[h1.1 d a];rfl)).trans (a3 _)
 ·congr 1;exact(aI (fun d a=>by rw[h1.2 d a];rfl)).trans (a3 _)
theorem Fr{D T:List PBlock}{b:PBlock}(h:Am (D++b::T))(a:AE kind name b=true):look (D++b::T) kind name=aj b:=by
 have h1:=AI.1 a;rw[<-h1.1,<-h1.2];exact FP h.heads (by simp)
theorem IS{D T:List PBlock}{b:PBlock}(h:Am (D++b::T)):Am (D++T):=by
 have a:(D++T).Sublist (D++b::T):=bq (bo _) (List.sublist_cons_self _ _);exact⟨a0 a.length_le h.1,fun x c=>h.2.1 x (a.subset c),h.2.2.sublist a⟩
theorem EY{a b a' b':PBlock}(h1:a'.aa=a.aa)(c:a'.name=a.name)(d:b'.aa=b.aa)(e:b'.name=b.name):blockLt a' b'=blockLt a b:=by
 unfold blockLt;rw[h1,c,d,e]
theorem GF{D T:List PBlock}{b b':PBlock}(h:Am (D++b::T))(f:b'.aa=b.aa)(g:b'.name=b.name):Am (D++b'::T)↔Aw (rulesOf b'.aa) b'.ac:=by
 refine⟨fun k=>(k.2.1 b' (by simp)).2.2,fun i=>⟨by have:=h.1;simpa using this,fun x a=>?_,?_⟩⟩
 ·rcases ah.1 a with a | a
  ·exact h.2.1 x (aJ _ a)
  ·rcases ai.1 a with rfl | a
   ·have:=h.2.1 b (by simp);rw[f]at i⊢;rw[g];exact⟨this.1,this.2.1,i⟩
   ·exact h.2.1 x (by simp[a])
 ·have c:=h.2.2;rw[aC,ay]at c⊢;refine⟨c.1,⟨fun t e=>?_,c.2.1.2⟩,fun d j t e=>?_⟩
  ·rw[EY f g rfl rfl];exact c.2.1.1 t e
  ·rcases ai.1 e with rfl | e
   ·rw[EY rfl rfl f g];exact c.2.2 d j b (by simp)
   ·exact c.2.2 d j t (by simp[e])
theorem Kz{b:PBlock}(h:Am A):(look A b.aa b.name=aF/\Am (Cb blockLt b A))↔headFault A b.aa b.name=0/\Aw (rulesOf b.aa) b.ac:=by
 have d:=DN blockLt b A;refine⟨fun⟨h1,e⟩=>?_,fun⟨h1,e⟩=>?_⟩
 ·have f:=e.2.1 b (d.mem_iff.2 (by simp));have j:=e.1;rw[d.length_eq,aA]at j;exact⟨By.2 ⟨f.1,f.2.1,fun o k=>Db.1 h1 o k,by omega⟩,f.2.2⟩
 ·have g:=By.1 h1;refine⟨Db.2 g.2.2.1,?_,fun x i=>?_,?_⟩
  ·rw[d.length_eq,aA];omega
  ·rcases ai.1 (d.mem_iff.1 i) with rfl | i
   ·exact⟨g.1,g.2.1,e⟩
   ·exact h.2.1 x i
  ·exact DX (fun a b c=>Ch a b c) b A h.2.2 (fun y l m=>KR l h1 m)
theorem Qa{l:List PLine}(h:Aw R ms)(d:ms.Perm l):Bj R l:=by
 have q:l.Nodup:=d.nodup_iff.1 (h.2.1.imp (fun {_ b} k e=>by rw[e]at k;exact Dl R b k));intro i a f;have r:a∈l:=aU f;have m:=d.mem_iff.2 r;have s:=h.2.2 a m;have x:keyN l a.key=keyN ms a.key:=(Pa d a.key).symm;have t:=Gm f a.key;rw[if_pos rfl]at t;have y:=Ib l (i+1) a.key;refine Bw.2 ⟨h.1 a m,fun o n g=>⟨?_,?_⟩,by omega⟩
 ·rcases s.1 with h1 | h1
  ·exact h1
  ·exfalso;have z:0<keyN (l.take i) a.key:=by
    unfold keyN;rw[List.countP_pos_iff];exact⟨o,n,by rw[g];simp⟩
   omega
 ·intro p;have u:o=a:=by
   obtain⟨ok,A⟩:=o;obtain⟨B,C⟩:=a;simp only at g p;rw[g,p]
  subst u;obtain⟨j,c⟩:=List.mem_iff_getElem?.1 n;have v:j<i:=by
   have:=(am.1 c).1;rw[aN]at this;omega
  rw[List.getElem?_take,if_pos v]at c;have w:=(am.1 c).1;exact absurd ((List.getElem?_inj w q).1 (c.trans f.symm)) (by omega)
theorem Ac0{ls:List PLine}(h:Aw R ls):BS R ls=ls :=
 Jy (Fd h.good) h (fun _=>(BZ R ls).mem_iff)
theorem K3{ls:List PLine}(h:Aw R ls)(key:ByteArray)(xs:List PLine):DT R ls key xs=BS R (ls.filter (CT key)++xs):=by
 have h1:=Ac0 (h.sub (aq (p:=CT key)));unfold DT;rw[show BS R (ls.filter (CT key)++xs)=xs.foldl (fun acc a=>Cb (lineLt R) a acc) (BS R (ls.filter (CT key))) by unfold BS;rw[List.foldl_append],h1]
theorem K4{ls:List PLine}(h:Aw R ls){key:ByteArray}{xs:List PLine}:Aw R (DT R ls key xs)↔Bj R (ls.filter (CT key)++xs):=by
 rw[K3 h];exact⟨fun k=>Qa k (BZ R _),Fd⟩
theorem SU{ls xs:List PLine}{key:ByteArray}(h:Aw R ls)(c:ms.Perm (ls.filter (CT key)++xs))(d:∀i j:Nat,i<j->∀a b,ms[i]?=aj a->ms[j]?=aj b->lineLt R b a=false):(Aw R ms↔Aw R (DT R ls key xs))/\(Aw R ms->ms=DT R ls key xs):=by
 have h1:Bj R (ls.filter (CT key)++xs)->ms=DT R ls key xs:=fun e=>by rw[K3 h];exact Ew e c d
 refine⟨⟨fun k=>(K4 h).2 (Qa k c),fun k=>?_⟩,fun k=>h1 (Qa k c)⟩;rw[h1 ((K4 h).1 k)];exact k
theorem WT{c:PChange}(h:Am A)(a:C0 A c=aj A'):Am A':=by
 unfold C0 at a;split at a
 ·split at a
  ·rename_i d;cases a;exact d.2.2
  ·cases a
 ·rename_i b f;obtain⟨g,i,j⟩:=Bo f;obtain⟨D,T,rfl⟩:=List.append_of_mem g;have e:AE c.aa c.name b=true:=AI.2 ⟨i,j⟩;split at a
  ·cases a;rw[Hn h e];exact IS h
  split at a
  ·rename_i d;cases a;rw[DP h e];exact(GF (b':=⟨b.aa,b.name,DT (rulesOf b.aa) b.ac c.key c.ac⟩) h rfl rfl).2 d.2.2.2
  split at a
  ·cases a;rw[DP h e];exact(GF (b':=⟨b.aa,b.name,b.ac.filter (CT c.key)⟩) h rfl rfl).2 ((h.2.1 b (by simp)).2.2.sub aq)
  ·cases a
theorem XL{c:PChange}(d:c.ak=1)(h:look A c.aa c.name=aF\/c.key≠⟨#[]⟩\/c.ac≠[]):C0 A c=aF:=by
 unfold C0;split
 ·rw[if_neg (fun k=>by have:=k.1;omega)]
 ·rename_i b a;rw[if_neg (fun k=>?_),if_neg (fun k=>by have:=k.1;omega),if_neg (fun k=>by have:=k.1;omega)];rcases h with h | h | h
  ·rw[a]at h;cases h
  ·exact h k.2.1
  ·exact h k.2.2
theorem Po{c:PChange}{b:PBlock}(a:c.ak=1)(d:look A c.aa c.name=aj b)(e:c.key=⟨#[]⟩)(f:c.ac=[]):C0 A c=aj (Pn A c.aa c.name):=by
 unfold C0;rw[d];exact if_pos ⟨a,e,f⟩
theorem SV{c:PChange}(b:c.ak=2)(h:look A c.aa c.name≠aF\/c.key≠⟨#[]⟩\/¬Am (Cb blockLt ⟨c.aa,c.name,c.ac⟩ A)):C0 A c=aF:=by
 unfold C0;split
 ·rename_i a;rw[if_neg (fun k=>?_)];rcases h with h | h | h
  ·exact h a
  ·exact h k.2.1
  ·exact h k.2.2
 ·rw[if_neg (fun k=>by have:=k.1;omega),if_neg (fun k=>by have:=k.1;omega),if_neg (fun k=>by have:=k.1;omega)]
theorem SW{c:PChange}(a:c.ak=2)(b:look A c.aa c.name=aF)(d:c.key=⟨#[]⟩)(e:Am (Cb blockLt ⟨c.aa,c.name,c.ac⟩ A)):C0 A c=aj (Cb blockLt ⟨c.aa,c.name,c.ac⟩ A):=by
 unfold C0;rw[b];exact if_pos ⟨a,d,e⟩
theorem SZ{c:PChange}(g:c.ak=3)(h:look A c.aa c.name=aF\/c.ac=[]\/(∃a∈c.ac,a.key≠c.key)\/∃b,look A c.aa c.name=aj b/\¬Aw (rulesOf b.aa) (DT (rulesOf b.aa) b.ac c.key c.ac)):C0 A c=aF:=by
 unfold C0;split
 ·rw[if_neg (fun k=>by have:=k.1;omega)]
 ·rename_i b d;rw[if_neg (fun k=>by have:=k.1;omega),if_neg (fun k=>?_),if_neg (fun k=>by have:=k.1;omega)];rcases h with h | h | ⟨a,f,h⟩ | ⟨b',e,h⟩
  ·rw[d]at h;cases h
  ·exact k.2.1 h
  ·exact h (k.2.2.1 a f)
  ·rw[d]at e;cases e;exact h k.2.2.2
theorem Ta{c:PChange}{b:PBlock}(d:c.ak=3)(e:look A c.aa c.name=aj b)(h1:c.ac≠[])(f:∀a∈c.ac,a.key=c.key)(g:Aw (rulesOf b.aa) (DT (rulesOf b.aa) b.ac c.key c.ac)):C0 A c=aj (KT A c.aa c.name (DT (rulesOf b.aa) b.ac c.key c.ac)):=by
 unfold C0;rw[e];dsimp only;rw[if_neg (fun k=>by have:=k.1;omega)];exact if_pos ⟨d,h1,f,g⟩
theorem MZ{c:PChange}(e:c.ak=4)(h:look A c.aa c.name=aF\/c.ac≠[]\/∃b,look A c.aa c.name=aj b/\hasK b.ac c.key=false):C0 A c=aF:=by
 unfold C0;split
 ·rw[if_neg (fun k=>by have:=k.1;omega)]
 ·rename_i b a;rw[if_neg (fun k=>by have:=k.1;omega),if_neg (fun k=>by have:=k.1;omega),if_neg (fun k=>?_)];rcases h with h | h | ⟨b',d,h⟩
  ·rw[a]at h;cases h
  ·exact h k.2.1
  ·rw[a]at d;cases d;rw[h]at k;cases k.2.2
theorem Na{c:PChange}{b:PBlock}(a:c.ak=4)(d:look A c.aa c.name=aj b)(h1:c.ac=[])(e:hasK b.ac c.key=true):C0 A c=aj (KT A c.aa c.name (b.ac.filter (CT c.key))):=by
 unfold C0;rw[d];dsimp only;rw[if_neg (fun k=>by have:=k.1;omega),if_neg (fun k=>by have:=k.1;omega)];exact if_pos ⟨a,h1,e⟩
inductive NW where
 | ended (m:Nat)
 | bad (m:Nat)
 | words (m:Nat) (w:List UInt8) (ws:List (List UInt8)) (rest:List (List UInt8))
def DB:Nat->List (List UInt8)->NW
 | n,[]=>.ended (n+1)
 | n,l::rest=>match cutL l with
  | none=>.bad (n+1)
  | some []=>DB (n+1) rest
  | some (w::ws)=>.words (n+1) w ws rest
def goW(done:List PBlock)(a:Option PBlock):NW->PRes
 | .ended m=>match a with
  | none=>.good done
  | some _=>.bad m 8
 | .bad m=>.bad m 1
 | .words m w ws rest=>if (Cl done a w ws).1≠0 then .bad m (Cl done a w ws).1 else Bv m (Cl done a w ws).2.1 (Cl done a w ws).2.2 rest
theorem GP:∀(ls:List (List UInt8)) (n:Nat) (done:List PBlock) (b:Option PBlock),Bv n done b ls=goW done b (DB n ls)
 | [],n,done,aF=>rfl
 | [],n,done,aj _=>rfl
 | l::rest,n,done,b=>by
  unfold Bv;split
  ·rename_i a;rw[DB,a];rfl
  ·rename_i a;rw[DB,a];exact GP rest (n+1) done b
  ·rename_i a;rw[DB,a];rfl
theorem XW{l:List UInt8}{rest:List (List UInt8)}(h:cutL l=aF):DB n (l::rest)=.bad (n+1):=by unfold DB;rw[h]
theorem Ti{l:List UInt8}{rest:List (List UInt8)}(h:cutL l=aj []):DB n (l::rest)=DB (n+1) rest:=by rw[DB];rw[h]
theorem Tk{l w:List UInt8}{rest:List (List UInt8)}(h:cutL l=aj (w::ws)):DB n (l::rest)=.words (n+1) w ws rest:=by unfold DB;rw[h]
theorem Ih:∀(ls:List (List UInt8)) (n m:Nat) (w:List UInt8) (ws rest:List (List UInt8)),DB n ls=.words m w ws rest->rest.length<ls.length/\m+rest.length=n+ls.length
 | [],n,m,w,ws,rest,h=>by cases h
 | l::r,n,m,w,ws,rest,h=>by
  unfold DB at h;split at h
  ·cases h
  ·have:=Ih r (n+1) m w ws rest h;simp only[aA];omega
  ·cases h
   simp only[aA];omega
theorem JE:∀(l acc:List UInt8),(10:UInt8) ∉ l->Cd acc l=if acc++l=[] then [] else [acc++l]
 | [],acc,_=>by simp[Cd]
 | c::l,acc,h=>by
  have a:c≠10:=fun e=>h (by rw[e];simp)
  rw[Cd,if_neg a,JE l _ (fun e=>h (bd _ e)),ad];rfl
theorem Qk{l:List UInt8}(h:(10:UInt8) ∉ l)(a:l≠[]):A9 l=[l]:=by
 unfold A9;rw[JE l [] h];simp[a]
theorem IE:A9 []=[]:=rfl
def Nu(s x y:List UInt8):Prop:=((10:UInt8) ∉ s/\x=s/\y=[])\/(s=x++10::y/\(10:UInt8) ∉ x)
theorem Nu.ac{s x y:List UInt8}(h:Nu s x y)(a:s≠[]):A9 s=x::A9 y:=by
 rcases h with ⟨h1,rfl,rfl⟩ | ⟨rfl,b⟩
 ·exact Qk h1 a
 ·exact DY x y b
theorem Nu.len{s x y:List UInt8}(h:Nu s x y):x.length<=s.length/\y.length<=s.length:=by
 rcases h with ⟨h1,rfl,rfl⟩ | ⟨rfl,a⟩
 ·simp
 ·simp;omega
theorem Nu.lt{s x y:List UInt8}(h:Nu s x y)(a:s≠[]):y.length<s.length:=by
 rcases h with ⟨h1,rfl,rfl⟩ | ⟨rfl,b⟩
 ·exact List.length_pos_iff.2 a
 ·simp;omega
theorem Vn:∀(f:Nat) (acc:List (List UInt8)) (l:List UInt8),acc.length<=8->((Ga f acc l).getD []).length<=8
 | 0,acc,[],h=>by simpa [Ga] using h
 | 0,acc,_::_,h=>by simp[Ga]
 | f+1,acc,[],h=>by simpa [Ga] using h
 | f+1,acc,c::r,h=>by
  rw[Ga];split
  ·exact Vn f acc r h
  ·split
   ·simpa using h
   ·split
    ·simp
    ·split
     ·rename_i a;exact Vn f _ _ (by simp;omega)
     ·simp
theorem Hs:∀(ls:List (List UInt8)) (n m:Nat) (w:List UInt8) (ws rest:List (List UInt8)),DB n ls=.words m w ws rest->ws.length<=7/\∀y∈w::ws,y.length<=200
 | [],n,m,w,ws,rest,h=>by cases h
 | l::r,n,m,w,ws,rest,h=>by
  unfold DB at h;split at h
  ·cases h
  ·exact Hs r (n+1) m w ws rest h
  ·rename_i b;cases h
   have c:=Zy l;have a:=Vn l.length [] l (by simp);rw[b]at c;rw[show Ga l.length [] l=cutL l from rfl,b]at a;simp at a;exact⟨a,c⟩
noncomputable def EU:List PBlock->List PChange->Option (List PBlock)
 | A,[]=>aj A
 | A,c::cs=>(C0 A c).bind fun A'=>EU A' cs
theorem Up:∀ {cs:List PChange} {A A':List PBlock} (i:Nat),EU A cs=aj A'->D4 i A cs=(A',0)
 | [],A,A',i,h=>by cases h;rfl
 | c::cs,A,A',i,h=>by
  unfold EU at h;unfold D4;cases e:C0 A c
  ·rw[e]at h;cases h
  ·rw[e]at h;exact Up (i+1) h
theorem FE:∀ {cs ds:List PChange} {A A' a:List PBlock},EU A cs=aj A'->EU A' ds=aj a->EU A (cs++ds)=aj a
 | [],ds,A,A',a,h,k=>by cases h;exact k
 | c::cs,ds,A,A',a,h,k=>by
  rw[aw];unfold EU at h⊢;cases e:C0 A c
  ·rw[e]at h;cases h
  ·rw[e]at h;exact FE h k
theorem Ip{c:PChange}(h:C0 A c=aj A'):EU A [c]=aj A':=by
 unfold EU;rw[h];rfl
theorem Jf(g:PBlock->Bool):∀(T D:List PBlock),Am (D++T)->EU (D++T) ((T.filter g).map Gd)=aj (D++T.filter (fun t=>!g t))
 | [],D,h=>by simp[EU]
 | t::T,D,h=>by
  cases a:g t
  ·have:=Jf g T (D++[t]) (by rw[ad];exact h);rw[ad,ad]at this;rw[aO (by simp[a]),a9 (by simp[a])];exact this
  ·rw[a9 a,aO (by simp[a]),a8];have b:AE t.aa t.name t=true:=AI.2 ⟨rfl,rfl⟩;refine FE (cs:=[Gd t]) (Ip (Po (c:=Gd t) rfl (Fr h b) rfl rfl)) ?_;rw[show Pn (D++t::T) (Gd t).aa (Gd t).name=D++T from Hn h b];exact Jf g T D (IS h)
theorem Abs{key:ByteArray}{x y l:List PLine}{D T:List PBlock}(h:Am (D++⟨kind,name,l⟩::T))(q:Aw (rulesOf kind) y)(m:∀a:PLine,a.key=key->(a∈l↔a∈x)):
  ∃g,EU (D++⟨kind,name,l⟩::T) (FO kind name x y key)=aj (D++⟨kind,name,g⟩::T)/\Aw (rulesOf kind) g/\∀a:PLine,(a.key=key->(a∈g↔a∈y))/\(a.key≠key->(a∈g↔a∈l)):=by
 have f:Aw (rulesOf kind) l:=(h.2.1 ⟨kind,name,l⟩ (by simp)).2.2;have i:AE kind name (⟨kind,name,l⟩:PBlock)=true:=AI.2 ⟨rfl,rfl⟩;unfold FO;by_cases e:Iy x key=Iy y key
 ·rw[if_pos e];refine⟨l,rfl,f,fun a=>⟨fun b=>?_,fun _=>bc⟩⟩;rw[m a b];have h1:=IR (ls:=x) (k:=key) (a:=a);have r:=IR (ls:=y) (k:=key) (a:=a);rw[e,r]at h1;exact⟨fun k=>(h1.2 ⟨k,b⟩).1,fun k=>(h1.1 ⟨k,b⟩).1⟩
 ·rw[if_neg e];by_cases d:(Iy y key).isEmpty=true
  ·rw[if_pos d,a2.1 d];have j:hasK l key=true:=by
    cases j:hasK l key
    ·exfalso;apply e;rw[a2.1 d];refine List.eq_nil_iff_forall_not_mem.2 (fun a b=>?_);have:=IR.1 b;exact Dp.1 j a ((m a this.2).2 this.1) this.2
    ·rfl
   refine⟨l.filter (CT key),Ip ((Na (c:=⟨4,kind,name,key,[]⟩) rfl (Fr h i) rfl j).trans (congrArg aj (DP h i _))),f.sub aq,fun a=>⟨fun b=>⟨fun k=>absurd b (GE.1 (ag.1 k).2),fun k=>?_⟩,fun b=>⟨fun k=>(ag.1 k).1,fun k=>ag.2 ⟨k,GE.2 b⟩⟩⟩⟩;have:=IR.2 ⟨k,b⟩;rw[a2.1 d]at this;cases this
  ·rw[if_neg d];have n:Aw (rulesOf kind) (DT (rulesOf kind) l key (Iy y key)):=(K4 f).2 (Pi (f.sub aq).good _ (q.sub aq).good (fun a b o s k=>GE.1 (ag.1 s).2 (k.trans (IR.1 b).2)));have p:∀a,a∈DT (rulesOf kind) l key (Iy y key)↔(a∈l/\a.key≠key)\/(a∈y/\a.key=key):=fun a=>by
    rw[K3 f,(BZ _ _).mem_iff,ah,ag,GE,IR]
   refine⟨_,Ip ((Ta (c:=⟨3,kind,name,key,Iy y key⟩) rfl (Fr h i) (fun k=>d (by rw[show Iy y key=[] from k];rfl)) (fun a b=>(IR.1 b).2) n).trans (congrArg aj (DP h i _))),n,fun a=>⟨fun b=>?_,fun b=>?_⟩⟩
   ·rw[p a];simp[b]
   ·rw[p a];simp[b]
theorem NV{kind name:ByteArray}{x y:List PLine}{D T:List PBlock}(g:Aw (rulesOf kind) y):∀(Q P:List Plain) (l:List PLine),P++Q=rulesOf kind->Am (D++⟨kind,name,l⟩::T)->(∀a:PLine,((∃p∈P,p.1=a.key)->(a∈l↔a∈y))/\((∀p∈P,p.1≠a.key)->(a∈l↔a∈x))) ->
  EU (D++⟨kind,name,l⟩::T) (Q.flatMap fun p=>FO kind name x y p.1)=aj (D++⟨kind,name,y⟩::T)
 | [],P,l,d,h,f=>by
  rw[aQ]at d;have k:Aw (rulesOf kind) l:=(h.2.1 ⟨kind,name,l⟩ (by simp)).2.2;have:l=y:=Jy k g fun a=>⟨fun b=>((f a).1 (by rw[d];exact k.rule b)).1 b,fun b=>((f a).1 (by rw[d];exact g.rule b)).2 b⟩
  rw[this];rfl
 | p::Q,P,l,d,h,f=>by
  have n:∀q∈P,q.1≠p.1:=fun q c=>by
   have:=Cw kind;rw[<-d]at this;exact(aC.1 this).2.2 q c p (by simp)
  obtain⟨m,o,r,i⟩:=Abs (x:=x) (key:=p.1) h g (fun a b=>(f a).2 (fun q c=>by rw[b];exact n q c));rw[ar];refine FE o (NV g Q (P++[p]) m (by rw[ad];exact d) ((GF (b':=⟨kind,name,m⟩) h rfl rfl).2 r) (fun a=>⟨fun b=>?_,fun b=>?_⟩))
  ·by_cases e:a.key=p.1
   ·exact(i a).1 e
   ·rw[(i a).2 e];obtain⟨q,c,j⟩:=b;rcases ah.1 c with c | c
    ·exact(f a).1 ⟨q,c,j⟩
    ·rw[az.1 c]at j;exact absurd j.symm e
  ·rw[(i a).2 (fun e=>b p (by simp) e.symm)];exact(f a).2 (fun q c=>b q (aJ _ c))
def H7(A:List PBlock)(b:PBlock):Option PBlock:=look A b.aa b.name
theorem Abt{D T:List PBlock}(i:Am A)(h:Am (D++T)):Am (D++T.filterMap (H7 A)):=by
 have n:=List.length_filterMap_le (H7 A) T;have h1:=h.1;rw[au]at h1;have f:=aC.1 h.2.2;refine⟨by rw[au];omega,fun b c=>?_,aC.2 ⟨f.1,?_,fun d j t k=>?_⟩⟩
 ·rcases ah.1 c with c | c
  ·exact h.2.1 b (aJ _ c)
  ·obtain⟨t,_,e⟩:=aW.1 c;exact i.2.1 b (Bo e).1
 ·rw[List.pairwise_filterMap];refine f.2.1.imp (fun {a b} l a' ea b' m=>?_);have g:=Bo ea;have c:=Bo m;rw[EY g.2.1 g.2.2 c.2.1 c.2.2];exact l
 ·obtain⟨b,c,e⟩:=aW.1 k;have:=Bo e;rw[EY rfl rfl this.2.1 this.2.2];exact f.2.2 d j b c
theorem NX{A:List PBlock}(i:Am A):∀(T D:List PBlock),Am (D++T)->EU (D++T.filterMap (H7 A)) (T.flatMap (El A))=aj (D++T)
 | [],D,h=>by simp[EU]
 | y::T,D,h=>by
  have h1:Am (D++y::T.filterMap (H7 A)):=by
   have:=Abt (A:=A) (D:=D++[y]) (T:=T) i (by rw[ad];exact h);rw[ad]at this;exact this
  have l:=NX i T (D++[y]) (by rw[ad];exact h);rw[ad,ad]at l;rw[ar];refine FE (A':=D++y::T.filterMap (H7 A)) ?_ l;unfold El;cases e:A.find? (AE y.aa y.name) with
  | none =>
   rw[List.filterMap_cons_none (show H7 A y=aF from e)];have f:=Hm h1.heads (AI.2 ⟨rfl,rfl⟩);have r:headFault (D++T.filterMap (H7 A)) y.aa y.name=0:=by
    have m:=h1.2.1 y (by simp);have s:=h1.1;rw[au,aA]at s;refine By.2 ⟨m.1,m.2.1,fun o d k=>?_,by rw[au];omega⟩;have:=AI.2 k;rcases ah.1 d with d | d
    ·rw[f.1 o d]at this;cases this
    ·rw[f.2 o d]at this;cases this
   obtain⟨g,n⟩:=(Kz (b:=y) (IS h1)).2 ⟨r,(h1.2.1 y (by simp)).2.2⟩;refine Ip ((SW (c:=SN y) rfl g rfl n).trans (congrArg aj (Kw n.2.2 h1.2.2 (fun a=>?_))));rw[show (⟨(SN y).aa,(SN y).name,(SN y).ac⟩:PBlock)=y from rfl,(DN blockLt y _).mem_iff];simp only[ai,ah];exact⟨fun k=>by rcases k with k | k | k <;> simp[k],fun k=>by rcases k with k | k | k <;> simp[k]⟩
  | some x =>
   rw[List.filterMap_cons_some (show H7 A y=aj x from e)];obtain⟨t,j,q⟩:=Bo (show look A y.aa y.name=aj x from e);have f:Am (D++⟨x.aa,x.name,x.ac⟩::T.filterMap (H7 A)):=(GF (b':=x) h1 j q).2 (i.2.1 x t).2.2;have g:=NV (kind:=x.aa) (name:=x.name) (x:=x.ac) (y:=y.ac) (by rw[j];exact(h.2.1 y (by simp)).2.2) (rulesOf x.aa) [] x.ac rfl f (fun a=>⟨fun⟨p,u,_⟩=>(by cases u),fun _=>bc⟩);rw[show (⟨x.aa,x.name,y.ac⟩:PBlock)=y by rw[j,q]]at g;exact g
theorem Wi{B:List PBlock}(d:Am A)(f:Am B):EU A (diffS A B)=aj B:=by
 unfold diffS;rw[if_pos ⟨A0.2 d,A0.2 f⟩];have h1:=Jf (fun a=>(B.find? (AE a.aa a.name)).isNone) A [] d;have i:=NX d B [] f;refine FE h1 ?_;rw[show []++A.filter (fun a=>!(B.find? (AE a.aa a.name)).isNone)=[]++B.filterMap (H7 A) from ?_]
 ·exact i
 ·refine Kw (d.2.2.sublist aq) (Abt (D:=[]) d f).2.2 (fun a=>?_);simp only[bl,ag,aW];refine⟨fun⟨h,g⟩=>?_,fun⟨b,h,g⟩=>?_⟩
  ·cases e:B.find? (AE a.aa a.name) with
   | none=>rw[e]at g;cases g
   | some b =>
    have c:=Bo (show look B a.aa a.name=aj b from e);refine⟨b,c.1,?_⟩;unfold H7;rw[c.2.1,c.2.2];exact FP d.heads h
  ·have c:=Bo g;refine⟨c.1,?_⟩;rw[c.2.1,c.2.2,show B.find? (AE b.aa b.name)=aj b from FP f.heads h];rfl
theorem Wk{B:List PBlock}(a:Am A)(b:Am B):Fq A (diffS A B)=(B,0):=by
 unfold Fq;rw[if_pos (A0.2 a)];exact Up 0 (Wi a b)
theorem YU{a:List PBlock}(c:Am a)(b:List PBlock):(AM (fillS a) b).length=(AM a b).length:=by
 rw[Fk c];unfold AM Fm;rw[au,au,aE,aE,List.filter_map,aE];rfl
theorem Acb{a b:List PBlock}(c:Am a)(d:Am b)(e:0<a.length+b.length)(h:(Bb a b).length=0):60<a.length+b.length:=by
 have f:=WR a b;by_cases h1:(AM a b).length<=60
 ·rw[XK c d h1]at h;obtain rfl:b=[]:=List.length_eq_zero_iff.1 (by omega);rw[ZD]at h;simp at e;omega
 ·omega
theorem Ad2{a b:List PBlock}(c:¬(0<a.length+b.length/\(Bb a b).length=0)):(AM a b).length<=60:=by
 by_cases h1:(AM a b).length<=60
 ·exact h1
 ·have d:=(WR a b).1;have e:Bb a b=[]:=by unfold Bb;rw[if_neg (fun h=>h1 h.2.2)]
  exact absurd ⟨by omega,by rw[e];rfl⟩ c
theorem Acd{a b:List PBlock}(c:Am a)(d:Am b)(h1:(AM a b).length<=60):Am (Bb a b)/\fillS (Bb a b)=fillS (Bb (fillS a) b)/\fillS (trimS (Bb a b))=fillS (Bb a b) :=
 ⟨Fp c d h1,SS c d h1 (by rw[YU c];exact h1),UY (Fp c d h1)⟩
