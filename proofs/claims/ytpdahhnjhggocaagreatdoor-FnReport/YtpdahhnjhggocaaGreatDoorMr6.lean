import Derived.Test.YtpdahhnjhggocaaGreatDoorMr5
import Derived.Lib.Bytealg
open Go.Proofs.Tryz
open List renaming getElem?_eq_getElem->ab,take_append_of_le_length->ad,append_assoc->ae,mem_iff_getElem->af,mem_cons->ag,getElem?_eq_some_iff->ah,pairwise_cons->ai,pairwise_iff_getElem->aj,mem_append->ak,getElem_mem->am,take_length->ap,length_append->aq,mem_filter->au,flatMap_cons->av,filter_sublist->ax,length_cons->ay,any_eq_true->aA,mem_singleton->aB,pairwise_append->aC,getElem?_append_right->aD,getElem?_append_left->aE,not_lt_nil->aG,mem_append_left->aI,countP_eq_zero->aJ,mem_of_find?_eq_some->aM,filter_cons_of_neg->aN,cons_append->aO,all_eq_true->aP,append_nil->aQ,mem_of_getElem?->aT,mem_filterMap->aU,mem_cons_self->aV,find?_eq_none->aW,nil_lt_cons->aY,length_take->aZ,isEmpty_iff->a0,filter_cons->a1,length_map->a2,foldl_cons->a3,find?_some->a4,take_zero->a5,perm_ext_iff_of_nodup->a6,map_cons->a7,pairwise_singleton->a8,flatMap_eq_nil_iff->a9,filter_cons_of_pos->ba,mem_map->bb,getElem?_eq_none->bc,mem_cons_of_mem->bd,map_congr_left->bf,filter_eq_self->bg,take_add_one->bl,pairwise_map->bm,getElem_take->bn,foldl_append->bo,not_mem_nil->bq,mem_flatMap->br,nil_append->bt,any_cons->bx,map_id->bC
open Option renaming some->al,none->aF,ne_none_iff_exists'->aK
open Bool renaming and_eq_true->an,not_eq_true->ar,or_eq_true->aS,not_eq_true'->bp
open Nat renaming le_refl->aw,le_trans->aX,lt_or_gt_of_ne->bj,add_sub_cancel->bk,sub_self->bA,add_zero->bB
open Go.Op renaming bytesLess->aH
open Option.some renaming inj->aL
open Go.ByteArray renaming toList_eq->aR
open List.cons renaming injEq->be
open Go.Value renaming string->bh,slice->bi
open Go.Lib renaming compareBytes->bu
open Go renaming wpList_append_lies->bv
open UInt8 renaming not_lt->bw
open Go.Ending renaming returned->bz
open List.Pairwise renaming nil->bD
open Iff renaming rfl->bE
open List.Sublist renaming refl->bF,countP_le->bG,append->bH
namespace Go.Proofs.YtpdahhnjhggocaaGreatDoor
open Go.RowKit
set_option maxHeartbeats 16000000
set_option maxRecDepth 100000
variable {α:Type}
def DP{α:Type}[LT α][DecidableRel (α:=α) (· < ·)]:List α->List α->Int
 | [],[]=>0
 | [],_::_=>-1
 | _::_,[]=>1
 | a::az,b::bs=>if a<b then -1 else if b<a then 1 else DP az bs
class Fp (α:Type) [LT α]:Prop where
 irr:∀a:α,¬a<a
 trans:∀a b c:α,a<b->b<c->a<c
 tri:∀a b:α,¬a<b->¬b<a->a=b
instance:Fp UInt8 where
 irr:=UInt8.lt_irrefl
 trans:=fun _ _ _ h k=>UInt8.lt_trans h k
 tri:=fun _ _ h k=>UInt8.le_antisymm (bw.1 k) (bw.1 h)
theorem Fq[LT α][Fp α]{a b:α}{az bs:List α}:a::az<b::bs↔a<b\/a=b/\az<bs:=List.cons_lt_cons_iff
instance {α:Type} [LT α] [Fp α]:Fp (List α) where
 irr:=by
  intro l
  induction l with
  | nil=>exact aG _
  | cons a l ih=>rw[Fq];exact fun h=>h.elim (fun h=>Fp.irr _ h) (fun h=>ih h.2)
 trans:=by
  intro a
  induction a with
  | nil =>
   intro b c _ k;cases c with
   | nil=>exact absurd k (aG _)
   | cons x c=>exact aY _ _
  | cons x a ih =>
   intro b c h k;cases b with
   | nil=>exact absurd h (aG _)
   | cons y b =>
    cases c with
    | nil=>exact absurd k (aG _)
    | cons z c =>
     rw[Fq]at h k⊢;rcases h with h|⟨rfl,h⟩
     ·rcases k with k|⟨rfl,k⟩
      ·exact .inl (Fp.trans _ _ _ h k)
      ·exact .inl h
     ·rcases k with k|⟨rfl,k⟩
      ·exact .inl k
      ·exact .inr ⟨rfl,ih b c h k⟩
 tri:=by
  intro a
  induction a with
  | nil =>
   intro b h _;cases b with
   | nil=>rfl
   | cons y b=>exact absurd (aY _ _) h
  | cons x a ih =>
   intro b h k;cases b with
   | nil=>exact absurd (aY _ _) k
   | cons y b =>
    rw[Fq]at h k;have e:x=y:=Fp.tri x y (fun q=>h (.inl q)) (fun q=>k (.inl q));subst e;rw[ih b (fun q=>h (.inr ⟨rfl,q⟩)) (fun q=>k (.inr ⟨rfl,q⟩))]
theorem Lo{α:Type}[LT α][DecidableRel (α:=α) (· < ·)][Fp α]:∀a b:List α,DP a b<0↔a<b
 | [],[]=>by simp[DP,aG]
 | [],y::b=>by simp[DP]
 | x::a,[]=>by simp[DP,aG]
 | x::a,y::b=>by
  rw[Fq];unfold DP;by_cases h:x<y
  ·simp[h]
  ·by_cases k:y<x
   ·simp only[h,k,if_true,if_false,false_or];constructor
    ·intro q;omega
    ·rintro⟨rfl,_⟩;exact absurd k h
   ·obtain rfl:=Fp.tri x y h k;simp[h,Lo a b]
theorem EL{α:Type}[LT α][DecidableRel (α:=α) (· < ·)][Fp α]:∀a b:List α,DP a b=0↔a=b
 | [],[]=>by simp[DP]
 | [],y::b=>by simp[DP]
 | x::a,[]=>by simp[DP]
 | x::a,y::b=>by
  unfold DP;by_cases h:x<y
  ·simp only[h,if_true,be];constructor
   ·intro q;omega
   ·rintro⟨rfl,_⟩;exact absurd h (Fp.irr _)
  ·by_cases k:y<x
   ·simp only[h,k,if_true,if_false,be];constructor
    ·intro q;omega
    ·rintro⟨rfl,_⟩;exact absurd k h
   ·obtain rfl:=Fp.tri x y h k;simp[h,EL a b]
theorem LW:∀a b:List UInt8,bu a b=DP a b
 | [],[]=>rfl
 | [],_::_=>rfl
 | _::_,[]=>rfl
 | x::a,y::b=>by unfold bu DP;rw[LW a b]
theorem Ji:∀x y:List UInt8,aH x y=decide (x<y)
 | [],[]=>by simp[aH]
 | [],b::bs=>by simp[aH]
 | a::az,[]=>by simp[aH]
 | a::az,b::bs=>by
  rw[show decide (a::az<b::bs)=decide (a<b\/a=b/\az<bs) from decide_eq_decide.2 Fq];have:=Ji az bs;by_cases h:a<b
  ·simp[aH,h]
  ·by_cases k:a=b
   ·subst k;simp[aH,h,this]
   ·simp[aH,h,k]
theorem Gd{α:Type}{r:α->α->Prop}(e:∀a b c,r a b->r b c->r a c):∀(l:List α),(∀i a b,l[i]?=al a->l[i+1]?=al b->r a b)->l.Pairwise r
 | [],_=>.nil
 | [a],_=>a8 _ _
 | a::b::l,h=>by
  have f:=Gd e (b::l) (fun i x y j k=>h (i+1) x y (by simpa using j) (by simpa using k));have g:r a b:=h 0 a b rfl rfl;refine ai.2 ⟨fun c d=>?_,f⟩;rcases ag.1 d with rfl|d
  ·exact g
  ·exact e _ _ _ g ((ai.1 f).1 c d)
theorem Dn{r:α->α->Prop}{l:List α}(h:l.Pairwise r)(i j:Nat)(c:i<j)(a b:α)(d:l[i]?=al a)(e:l[j]?=al b):r a b:=by
 obtain⟨f,rfl⟩:=ah.1 d;obtain⟨g,rfl⟩:=ah.1 e;exact(aj.1 h) i j f g c
def Ca{α:Type}(a:α->α->Bool)(x:α):List α->List α
 | []=>[x]
 | y::l=>if a y x then y::Ca a x l else x::y::l
theorem DD{α:Type}(a:α->α->Bool)(x:α):∀l:List α,(Ca a x l).Perm (x::l)
 | []=>.refl _
 | y::l=>by
  unfold Ca;split
  ·exact((DD a x l).cons y).trans (.swap _ _ _)
  ·exact .refl _
theorem CT{α:Type}{r:α->α->Prop}(e:∀a,¬r a a)(f:∀a b c,r a b->r b c->r a c):∀ {l m:List α},l.Pairwise r->m.Pairwise r->l.Perm m->l=m
 | [],m,_,_,d=>by rw[List.nil_perm.1 d]
 | a::l,[],_,_,d=>by have:=d.length_eq;simp at this
 | a::l,b::m,i,j,d=>by
  have h1:=ai.1 i;have g:=ai.1 j;have n:a=b:=by
   have o:a∈b::m:=d.mem_iff.1 (aV ..);have p:b∈a::l:=d.mem_iff.2 (aV ..);rcases ag.1 o with h|h
   ·exact h
   ·rcases ag.1 p with k|k
    ·exact k.symm
    ·exact absurd (f _ _ _ (h1.1 b k) (g.1 a h)) (e _)
  subst n;rw[CT e f h1.2 g.2 (List.Perm.cons_inv d)]
variable {R:List Plain}{i:Nat}{kind name:ByteArray}
structure PLine where
 key:ByteArray
 ws:List (List UInt8)
structure PBlock where
 aa:ByteArray
 name:ByteArray
 ac:List PLine
theorem toList_inj{a b:ByteArray}(h:a.toList=b.toList):a=b:=by
 rw[aR,aR]at h;exact ByteArray.ext (Array.toList_inj.1 h)
def placeI(R:List Plain)(key:ByteArray):Int:=match R.findIdx? (fun p=>p.1.toList==key.toList) with
 | some i=>(i:Int)
 | none=>-1
def Cx(R:List Plain)(key:ByteArray):Bool:=match Bv R key with
 | some p=>p.2.2.1
 | none=>false
theorem De{key:ByteArray}{p:Plain}(h:Bv R key=al p):∃i:Nat,placeI R key=(i:Int)/\R[i]?=al p/\p.1=key:=by
 unfold Bv at h;obtain⟨a,i,b,rfl,c⟩:=List.find?_eq_some_iff_getElem.1 h;refine⟨i,?_,ab b,toList_inj (by simpa using a)⟩;unfold placeI;rw[List.findIdx?_eq_some_iff_getElem.2 ⟨b,a,fun j d=>by simpa using c j d⟩]
theorem LX{a b:ByteArray}(d:Bv R a≠aF)(e:Bv R b≠aF)(h:placeI R a=placeI R b):a=b:=by
 obtain⟨p,f⟩:=aK.1 d;obtain⟨q,g⟩:=aK.1 e;obtain⟨i,l,k,rfl⟩:=De f;obtain⟨j,m,c,rfl⟩:=De g;have:i=j:=by omega
 subst this;rw[k]at c;rw[aL c]
def lineLt(R:List Plain)(a b:PLine):Bool:=decide (placeI R a.key<placeI R b.key) || (decide (placeI R a.key=placeI R b.key)&&decide (a.ws<b.ws))
theorem CJ{a b:PLine}:lineLt R a b=true↔placeI R a.key<placeI R b.key\/placeI R a.key=placeI R b.key/\a.ws<b.ws:=by simp[lineLt]
theorem Df(R:List Plain)(a:PLine):¬lineLt R a a=true:=by
 rw[CJ];rintro(h|⟨_,h⟩)
 ·omega
 ·exact Fp.irr _ h
theorem CK(R:List Plain)(a b c:PLine)(h:lineLt R a b=true)(k:lineLt R b c=true):lineLt R a c=true:=by
 rw[CJ]at *;rcases h with h|⟨h,d⟩ <;> rcases k with k|⟨k,k'⟩
 ·left;omega
 ·left;omega
 ·left;omega
 ·right;exact⟨by omega,Fp.trans _ _ _ d k'⟩
def keyN(ls:List PLine)(k:ByteArray):Nat:=ls.countP (fun a=>a.key.toList==k.toList)
def lineFault(R:List Plain)(es:List PLine)(a:PLine):Int :=
 if Bv R a.key=aF then 5 else if BQ R a.key a.ws=false then 7
 else if es.any (fun o=>o.key.toList==a.key.toList&&(!Cx R a.key || decide (o.ws=a.ws)))=true then 6
 else if 10<=keyN es a.key then 10 else 0
theorem BD{es:List PLine}{a:PLine}:lineFault R es a=0↔BQ R a.key a.ws=true/\(∀o∈es,o.key=a.key->Cx R a.key=true/\o.ws≠a.ws)/\keyN es a.key<10:=by
 unfold lineFault;constructor
 ·intro h;split at h
  ·omega
  split at h
  ·omega
  split at h
  ·omega
  split at h
  ·omega
  rename_i h1 c d i;refine⟨by simpa using c,fun o f b=>?_,by omega⟩;simp only[aA,not_exists,not_and,ar]at d;have:=d o f;rw[b]at this;simpa using this
 ·rintro⟨h1,c,d⟩;have g:¬Bv R a.key=aF:=fun h=>by rw[C4 _ h]at h1;cases h1
  rw[if_neg g,if_neg (by simp[h1]),if_neg ?_,if_neg (by omega)];simp only[aA,not_exists,not_and,ar];intro o f;by_cases b:o.key=a.key
  ·have:=c o f b;simp[this.1,this.2]
  ·have:(o.key.toList==a.key.toList)=false:=by
    rw[beq_eq_false_iff_ne];exact fun e=>b (toList_inj e)
   simp[this]
def AG(R:List Plain)(ls:List PLine):Prop:=(∀a∈ls,BQ R a.key a.ws=true)/\ls.Pairwise (fun a b=>lineLt R a b=true)/\∀a∈ls,(Cx R a.key=true\/keyN ls a.key<=1)/\keyN ls a.key<=10
def Uo(R:List Plain)(ls:List PLine)(i:Nat):Prop:=∃a,ls[i]?=al a/\BQ R a.key a.ws=true/\(i=0\/∃b,ls[i-1]?=al b/\lineLt R b a=true)/\(Cx R a.key=true\/keyN (ls.take (i+1)) a.key<=1)/\keyN (ls.take (i+1)) a.key<=10
theorem Dg(l m:List PLine)(k:ByteArray):keyN (l++m) k=keyN l k+keyN m k:=by simp[keyN]
theorem Hv(ls:List PLine)(i:Nat)(k:ByteArray):keyN (ls.take i) k<=keyN ls k:=by
 have:=Dg (ls.take i) (ls.drop i) k;rw[List.take_append_drop]at this;omega
theorem Ha(a:PLine)(k:ByteArray):keyN [a] k=if a.key=k then 1 else 0:=by
 unfold keyN;by_cases h:a.key=k
 ·simp[h]
 ·have:(a.key.toList==k.toList)=false:=by
   rw[beq_eq_false_iff_ne];exact fun e=>h (toList_inj e)
  simp[h,this]
theorem FK{ls:List PLine}{a:PLine}(h:ls[i]?=al a)(k:ByteArray):keyN (ls.take (i+1)) k=keyN (ls.take i) k+if a.key=k then 1 else 0:=by
 rw[bl,h,Dg];simp only[Option.toList,Ha]
theorem NF{ls:List α}{a b:α}(h:ls[i]?=al a):b∈ls.take (i+1)↔b∈ls.take i\/b=a:=by
 rw[bl,h];simp
theorem Jj{ls:List PLine}(h:∀i,i<ls.length->Uo R ls i):AG R ls:=by
 refine⟨fun a d=>?_,?_,?_⟩
 ·obtain⟨i,f,rfl⟩:=af.1 d;obtain⟨b,e,m,_⟩:=h i f;rw[ab f]at e;rw[aL e];exact m
 ·refine Gd (CK R) ls fun i a b d e=>?_
  obtain⟨f,_⟩:=ah.1 e;obtain⟨b',k,_,n,_⟩:=h (i+1) f;rw[e]at k;cases k
  rcases n with r|⟨c,l,o⟩
  ·omega
  ·rw[bk,d]at l;cases l;exact o
 ·have key:∀j,j<=ls.length->∀a∈ls.take j,(Cx R a.key=true\/keyN (ls.take j) a.key<=1)/\keyN (ls.take j) a.key<=10:=by
   intro j
   induction j with
   | zero=>intro _ a d;simp at d
   | succ j p =>
    intro s a d;obtain⟨b,e,q⟩:=h j (by omega);by_cases g:b.key=a.key
    ·rw[<-g];exact q.2.2
    ·have:=FK e a.key;rw[if_neg g,bB]at this;rw[this];rcases(NF e).1 d with h1|rfl
     ·exact p (by omega) a h1
     ·exact absurd rfl g
  intro a d;have:=key ls.length (aw _) a (by rw[ap];exact d)
  rwa [ap]at this
theorem Jk{ls:List PLine}(h:AG R ls)(i:Nat)(a:i<ls.length):Uo R ls i:=by
 refine⟨ls[i],ab a,h.1 _ (am _),?_,?_,?_⟩
 ·by_cases b:i=0
  ·exact .inl b
  ·exact .inr ⟨ls[i-1],ab _,Dn h.2.1 (i-1) i (by omega) _ _ (ab _) (ab a)⟩
 ·have:=Hv ls (i+1) ls[i].key;rcases(h.2.2 ls[i] (am _)).1 with h1|h1
  ·exact .inl h1
  ·exact .inr (by omega)
 ·have:=Hv ls (i+1) ls[i].key;have:=(h.2.2 ls[i] (am _)).2;omega
theorem Pf{ls:List PLine}(h:∀i a,ls[i]?=al a->lineFault R (ls.take i) a=0)(m:∀i a b,ls[i]?=al a->ls[i+1]?=al b->lineLt R b a=false):AG R ls:=by
 refine Jj fun i c=>?_
 have d:=BD.1 (h i ls[i] (ab c));refine⟨ls[i],ab c,d.1,?_,?_,?_⟩
 ·by_cases n:i=0
  ·exact .inl n
  right;have p:=BD.1 (h (i-1) ls[i-1] (ab (by omega)));refine⟨ls[i-1],ab _,?_⟩;have g:=m (i-1) ls[i-1] ls[i] (ab _) (by rw[show i-1+1=i by omega];exact ab c);have f:ls[i-1]∈ls.take i:=by
   rw[af];exact⟨i-1,by simp;omega,by simp⟩
  have r:=d.2.1 _ f;generalize ls[i-1]=b at *;generalize ls[i]=a at *;rw[<-ar,CJ]at g;rw[CJ];have s:Bv R a.key≠aF:=fun e=>by have:=d.1;rw[C4 _ e]at this;cases this
  have t:Bv R b.key≠aF:=fun e=>by have:=p.1;rw[C4 _ e]at this;cases this
  by_cases j:placeI R b.key=placeI R a.key
  ·have k:=LX t s j;have u:=(r k).2;refine .inr ⟨j,?_⟩;by_cases l:b.ws<a.ws
   ·exact l
   ·exact absurd (Fp.tri _ _ l (fun q=>g (.inr ⟨j.symm,q⟩))) u
  ·left;have:¬placeI R a.key<placeI R b.key:=fun q=>g (.inl q)
   omega
 ·rw[FK (ab c),if_pos rfl];by_cases f:Cx R ls[i].key=true
  ·exact .inl f
  ·right;have:keyN (ls.take i) ls[i].key=0:=by
    unfold keyN;rw[aJ];intro o v k;exact f (d.2.1 o v (toList_inj (by simpa using k))).1
   omega
 ·rw[FK (ab c),if_pos rfl];have:=d.2.2;omega
theorem EG{ls:List PLine}(h:AG R ls):(∀i a,ls[i]?=al a->lineFault R (ls.take i) a=0)/\∀i a b,ls[i]?=al a->ls[i+1]?=al b->lineLt R b a=false:=by
 constructor
 ·intro i a c;obtain⟨f,rfl⟩:=ah.1 c;have m:=h.2.2 ls[i] (am _);have h1:=Hv ls (i+1) ls[i].key;rw[FK (ab f),if_pos rfl]at h1;refine BD.2 ⟨h.1 _ (am _),fun o g d=>⟨?_,?_⟩,by omega⟩
  ·rcases m.1 with l|l
   ·exact l
   ·have:keyN (ls.take i) ls[i].key=0:=by omega
    unfold keyN at this;rw[aJ]at this;exact absurd (by simp[d]) (this o g)
  ·intro e;obtain⟨j,n,rfl⟩:=af.1 g;simp only[aZ,bn]at n e d;have:=Dn h.2.1 j i (by omega) _ _ (ab (by omega)) (ab f);rw[CJ,d,e]at this;rcases this with q|⟨_,q⟩
   ·omega
   ·exact Fp.irr _ q
 ·intro i a b c p;have:=Dn h.2.1 i (i+1) (by omega) a b c p;rw[<-ar];exact fun k=>Df R _ (CK R _ _ _ this k)
def blockLt(a b:PBlock):Bool:=decide (a.aa.toList<b.aa.toList) || (decide (a.aa.toList=b.aa.toList)&&decide (a.name.toList<b.name.toList))
theorem Ch{a b:PBlock}:blockLt a b=true↔a.aa.toList<b.aa.toList\/a.aa.toList=b.aa.toList/\a.name.toList<b.name.toList:=by simp[blockLt]
theorem DJ(a:PBlock):¬blockLt a a=true:=by
 rw[Ch];rintro(h|⟨_,h⟩)
 ·exact Fp.irr _ h
 ·exact Fp.irr _ h
theorem Cr(a b c:PBlock)(h:blockLt a b=true)(k:blockLt b c=true):blockLt a c=true:=by
 rw[Ch]at *;rcases h with h|⟨h,d⟩ <;> rcases k with k|⟨k,k'⟩
 ·exact .inl (Fp.trans _ _ _ h k)
 ·exact .inl (k▸h)
 ·exact .inl (h▸k)
 ·exact .inr ⟨h.trans k,Fp.trans _ _ _ d k'⟩
def headFault(es:List PBlock)(kind name:ByteArray):Int :=
 if (rulesOf kind).length=0 then 3 else if nameB name.data.toList=false then 4
 else if es.any (fun o=>o.aa.toList==kind.toList&&o.name.toList==name.toList)=true then 9
 else if 60<=es.length then 10 else 0
theorem BS{es:List PBlock}:headFault es kind name=0↔(rulesOf kind).length≠0/\nameB name.data.toList=true/\(∀o∈es,¬(o.aa=kind/\o.name=name))/\es.length<60:=by
 unfold headFault;constructor
 ·intro h;split at h
  ·omega
  split at h
  ·omega
  split at h
  ·omega
  split at h
  ·omega
  rename_i h1 b c e;refine⟨h1,by simpa using b,fun o d a=>?_,by omega⟩;apply c;rw[aA];exact⟨o,d,by simp[a.1,a.2]⟩
 ·rintro⟨h1,b,c,e⟩;rw[if_neg h1,if_neg (by simp[b]),if_neg ?_,if_neg (by omega)];rw[aA];rintro⟨o,d,a⟩;simp only[an,beq_iff_eq]at a;exact c o d ⟨toList_inj a.1,toList_inj a.2⟩
def AA(bs:List PBlock):Prop:=bs.length<=60/\(∀b∈bs,(rulesOf b.aa).length≠0/\nameB b.name.data.toList=true/\AG (rulesOf b.aa) b.ac)/\bs.Pairwise (fun a b=>blockLt a b=true)
def JT(bs:List PBlock)(i:Nat):Prop:=∃b,bs[i]?=al b/\(rulesOf b.aa).length≠0/\nameB b.name.data.toList=true/\AG (rulesOf b.aa) b.ac/\(i=0\/∃a,bs[i-1]?=al a/\blockLt a b=true)
theorem Jl{bs:List PBlock}(g:bs.length<=60)(h:∀i,i<bs.length->JT bs i):AA bs:=by
 refine⟨g,fun b e=>?_,?_⟩
 ·obtain⟨i,f,rfl⟩:=af.1 e;obtain⟨c,d,h1,k,l,_⟩:=h i f;rw[ab f]at d;rw[aL d];exact⟨h1,k,l⟩
 ·refine Gd Cr bs fun i a b m e=>?_
  obtain⟨f,_⟩:=ah.1 e;obtain⟨b',j,_,_,_,n⟩:=h (i+1) f;rw[e]at j;cases j
  rcases n with o|⟨c,d,g⟩
  ·omega
  ·rw[bk,m]at d;cases d;exact g
theorem Pg{bs:List PBlock}(h:AA bs)(i:Nat)(b:i<bs.length):JT bs i:=by
 have a:=h.2.1 bs[i] (am _);refine⟨bs[i],ab b,a.1,a.2.1,a.2.2,?_⟩;by_cases c:i=0
 ·exact .inl c
 ·exact .inr ⟨bs[i-1],ab _,Dn h.2.2 (i-1) i (by omega) _ _ (ab _) (ab b)⟩
theorem Ph{bs:List PBlock}(h:∀i b,bs[i]?=al b->headFault (bs.take i) b.aa b.name=0/\AG (rulesOf b.aa) b.ac)(m:∀i a b,bs[i]?=al a->bs[i+1]?=al b->blockLt b a=false):AA bs:=by
 have n:bs.length<=60:=by
  by_cases g:bs.length=0
  ·omega
  ·have:=(BS.1 (h (bs.length-1) bs[bs.length-1] (ab (by omega))).1).2.2.2;simp at this;omega
 refine Jl n fun i c=>?_
 have j:=h i bs[i] (ab c);have d:=BS.1 j.1;refine⟨bs[i],ab c,d.1,d.2.1,j.2,?_⟩;by_cases g:i=0
 ·exact .inl g
 right;refine⟨bs[i-1],ab _,?_⟩;have e:=m (i-1) bs[i-1] bs[i] (ab _) (by rw[show i-1+1=i by omega];exact ab c);have o:bs[i-1]∈bs.take i:=by
  rw[af];exact⟨i-1,by simp;omega,by simp⟩
 have p:=d.2.2.1 _ o;generalize bs[i-1]=a at *;generalize bs[i]=b at *;rw[<-ar,Ch]at e;rw[Ch];by_cases k:a.aa.toList<b.aa.toList
 ·exact .inl k
 ·have f:=Fp.tri _ _ k (fun q=>e (.inl q));refine .inr ⟨f,?_⟩;by_cases l:a.name.toList<b.name.toList
  ·exact l
  ·have r:=Fp.tri _ _ l (fun q=>e (.inr ⟨f.symm,q⟩));exact absurd ⟨toList_inj f,toList_inj r⟩ p
theorem Ge{bs:List PBlock}(h:AA bs):(∀i b,bs[i]?=al b->headFault (bs.take i) b.aa b.name=0/\AG (rulesOf b.aa) b.ac)/\∀i a b,bs[i]?=al a->bs[i+1]?=al b->blockLt b a=false:=by
 constructor
 ·intro i b c;obtain⟨f,rfl⟩:=ah.1 c;have d:=h.2.1 bs[i] (am _);refine⟨BS.2 ⟨d.1,d.2.1,fun o g e=>?_,by have:=h.1;simp;omega⟩,d.2.2⟩;obtain⟨j,l,rfl⟩:=af.1 g;simp only[aZ,bn]at l e;have:=Dn h.2.2 j i (by omega) _ _ (ab (by omega)) (ab f);rw[Ch,e.1,e.2]at this;rcases this with q|⟨_,q⟩ <;> exact Fp.irr _ q
 ·intro i a b m c;have:=Dn h.2.2 i (i+1) (by omega) a b m c;rw[<-ar];exact fun k=>DJ _ (Cr _ _ _ this k)
open Classical in
noncomputable def linesB(R:List Plain)(ls:List PLine):Bool:=decide (AG R ls)
open Classical in
noncomputable def Bw(bs:List PBlock):Bool:=decide (AA bs)
theorem CL{ls:List PLine}:linesB R ls=true↔AG R ls:=by simp[linesB]
theorem AS{bs:List PBlock}:Bw bs=true↔AA bs:=by simp[Bw]
variable {es:List PLine}{ws:List (List UInt8)}{op:Option PBlock}
def BA(R:List Plain)(ls:List PLine):Prop:=∀i a,ls[i]?=al a->lineFault R (ls.take i) a=0
theorem BA.nil(R:List Plain):BA R []:=by intro i a h;simp at h
theorem BA.snoc{ls:List PLine}{a:PLine}(h:BA R ls)(e:lineFault R ls a=0):BA R (ls++[a]):=by
 intro i b c;by_cases f:i<ls.length
 ·rw[aE f]at c;rw[ad (by omega)];exact h i b c
 ·rw[aD (by omega)]at c;have d:i-ls.length=0:=by
   by_cases d:i-ls.length=0
   ·exact d
   ·rw[bc (by simp;omega)]at c;cases c
  rw[d]at c;cases c
  rw[show i=ls.length by omega,ad (aw _),ap];exact e
theorem BA.front{ls:List PLine}{a:PLine}(h:BA R (ls++[a])):BA R ls/\lineFault R ls a=0:=by
 constructor
 ·intro i b c;have d:=(ah.1 c).1;have:=h i b (by rw[aE d];exact c)
  rwa [ad (by omega)]at this
 ·have:=h ls.length a (by rw[aD (aw _)];simp)
  rwa [ad (aw _),ap]at this
theorem JU{l m:List PLine}(h:l.Perm m)(k:ByteArray):keyN l k=keyN m k:=h.countP_eq _
theorem LY{l m:List α}(h:l.Perm m)(p:α->Bool):l.any p=m.any p:=by
 rw[Bool.eq_iff_iff,aA,aA];exact⟨fun⟨x,a,b⟩=>⟨x,h.mem_iff.1 a,b⟩,fun⟨x,a,b⟩=>⟨x,h.mem_iff.2 a,b⟩⟩
theorem Ma{l m:List PLine}(h:l.Perm m)(a:PLine):lineFault R l a=lineFault R m a:=by
 unfold lineFault;rw[JU h,LY h]
def BG(R:List Plain)(ls:List PLine):List PLine:=ls.foldl (fun acc a=>Ca (lineLt R) a acc) []
theorem Fr(R:List Plain)(ls:List PLine)(a:PLine):BG R (ls++[a])=Ca (lineLt R) a (BG R ls):=by simp[BG]
theorem JV{α:Type}(b:α->α->Bool):∀(ls acc:List α),(ls.foldl (fun acc a=>Ca b a acc) acc).Perm (acc++ls)
 | [],acc=>by simp
 | a::ls,acc=>by
  rw[a3];refine(JV b ls _).trans ?_;refine((DD b a acc).append_right ls).trans ?_;exact(List.perm_middle (a:=a) (l₁:=acc) (l₂:=ls)).symm
theorem Cb(R:List Plain)(ls:List PLine):(BG R ls).Perm ls:=by
 have:=JV (lineLt R) ls [];simpa [BG] using this
theorem DQ{α:Type}{d:α->α->Bool}(i:∀a b c,d a b=true->d b c=true->d a c=true)(x:α):∀(l:List α),l.Pairwise (fun a b=>d a b=true)->(∀y∈l,d y x=false->d x y=true)->(Ca d x l).Pairwise (fun a b=>d a b=true)
 | [],_,_=>a8 _ _
 | y::l,h,j=>by
  have h1:=ai.1 h;unfold Ca;split
  ·rename_i g;refine ai.2 ⟨fun f e=>?_,DQ i x l h1.2 fun f e=>j f (bd _ e)⟩;rcases ag.1 ((DD d x l).mem_iff.1 e) with rfl|e
   ·exact g
   ·exact h1.1 f e
  ·rename_i g;have k:=j y (aV ..) (by simpa using g);refine ai.2 ⟨fun f e=>?_,h⟩;rcases ag.1 e with rfl|e
   ·exact k
   ·exact i _ _ _ k (h1.1 f e)
theorem Up{a b:PLine}(j:b∈es)(f:BQ R b.key b.ws=true)(h:lineFault R es a=0)(c:lineLt R b a=false):lineLt R a b=true:=by
 have g:=BD.1 h;rw[<-ar,CJ]at c;rw[CJ];have k:Bv R a.key≠aF:=fun e=>by have:=g.1;rw[C4 _ e]at this;cases this
 have l:Bv R b.key≠aF:=fun e=>by rw[C4 _ e]at f;cases f
 by_cases d:placeI R a.key=placeI R b.key
 ·have m:=LX k l d;have n:=(g.2.1 b j m.symm).2;refine .inr ⟨d,?_⟩;by_cases i:a.ws<b.ws
  ·exact i
  ·exact absurd (Fp.tri _ _ (fun q=>c (.inr ⟨d.symm,q⟩)) i) n
 ·left;have:¬placeI R b.key<placeI R a.key:=fun q=>c (.inl q)
  omega
theorem BA.fits{ls:List PLine}(h:BA R ls):∀a∈ls,BQ R a.key a.ws=true:=by
 intro a b;obtain⟨i,c,rfl⟩:=af.1 b;exact(BD.1 (h i _ (ab c))).1
theorem Fs{P:List α->Prop}(b:P [])(h1:∀l a,P l->P (l++[a]))(l:List α):P l:=by
 rw[<-List.reverse_reverse l]
 induction l.reverse with
 | nil=>exact b
 | cons a m c=>rw[List.reverse_cons];exact h1 _ _ c
theorem F3(ls:List PLine):BA R ls->(BG R ls).Pairwise (fun a b=>lineLt R a b=true):=by
 refine Fs (P:=fun ls=>BA R ls->(BG R ls).Pairwise (fun a b=>lineLt R a b=true)) (fun _=>.nil) (fun l a e h=>?_) ls;have c:=h.front;rw[Fr];refine DQ (CK R) a _ (e c.1) fun y f g=>?_
 have d:=(Cb R l).mem_iff.1 f;exact Up d (c.1.fits y d) c.2 g
theorem BA.counts(ls:List PLine):BA R ls->∀a∈ls,(Cx R a.key=true\/keyN ls a.key<=1)/\keyN ls a.key<=10:=by
 refine Fs (P:=fun ls=>BA R ls->∀a∈ls,(Cx R a.key=true\/keyN ls a.key<=1)/\keyN ls a.key<=10) (fun _ a d=>by simp at d) (fun l b i h a d=>?_) ls;have f:=h.front;rw[Dg,Ha];by_cases c:b.key=a.key
 ·rw[if_pos c,<-c];have j:=BD.1 f.2;refine⟨?_,by omega⟩;by_cases g:Cx R b.key=true
  ·exact .inl g
  ·right;have:keyN l b.key=0:=by
    unfold keyN;rw[aJ];intro o k m;exact g (j.2.1 o k (toList_inj (by simpa using m))).1
   omega
 ·rw[if_neg c,bB];rcases ak.1 d with h1|h1
  ·exact i f.1 a h1
  ·exact absurd (aB.1 h1).symm (fun e=>c (by rw[e]))
theorem FM{ls:List PLine}(h:BA R ls):AG R (BG R ls):=by
 have b:=Cb R ls;refine⟨fun a c=>h.fits a (b.mem_iff.1 c),F3 ls h,fun a c=>?_⟩;rw[JU b];exact h.counts ls a (b.mem_iff.1 c)
theorem Il{ls c:List PLine}(h:BA R ls)(d:c.Perm ls)(s:∀i j:Nat,i<j->∀a b,c[i]?=al a->c[j]?=al b->lineLt R b a=false):c=BG R ls:=by
 have t:c.Pairwise (fun a b=>lineLt R a b=true):=by
  have f:=FM h;have m:∀a∈c,a∈BG R ls:=fun a u=>(Cb R ls).mem_iff.2 (d.mem_iff.1 u)
  have v:c.Nodup:=by
   have w:(BG R ls).Nodup:=f.2.1.imp (fun {a b} z e=>by subst e;exact Df R _ z);exact(d.trans (Cb R ls).symm).nodup_iff.2 w
  rw[aj];intro i j g k n;have l:=s i j n _ _ (ab g) (ab k);obtain⟨x,o,p⟩:=af.1 (m _ (am g));obtain⟨y,q,r⟩:=af.1 (m _ (am k));have A:x≠y:=by
   intro e;subst e;have:c[i]=c[j]:=p.symm.trans r;exact(aj.1 v) i j g k n this
  rw[<-p,<-r]at l⊢;rcases bj A with h1|h1
  ·exact(aj.1 f.2.1) x y o q h1
  ·rw[(aj.1 f.2.1) y x q o h1]at l;cases l
 exact CT (Df R) (CK R) t (F3 ls h) (d.trans (Cb R ls).symm)
def CX(bs:List PBlock):Prop:=(∀i b,bs[i]?=al b->headFault (bs.take i) b.aa b.name=0)/\∀b∈bs,BA (rulesOf b.aa) b.ac
theorem CX.nil:CX []:=⟨by intro i a h;simp at h,by simp⟩
theorem CX.snoc{bs:List PBlock}{b:PBlock}(h:CX bs)(e:headFault bs b.aa b.name=0)(f:BA (rulesOf b.aa) b.ac):CX (bs++[b]):=by
 refine⟨?_,fun c a=>?_⟩
 ·intro i c a;by_cases g:i<bs.length
  ·rw[aE g]at a;rw[ad (by omega)];exact h.1 i c a
  ·rw[aD (by omega)]at a;have d:i-bs.length=0:=by
    by_cases d:i-bs.length=0
    ·exact d
    ·rw[bc (by simp;omega)]at a;cases a
   rw[d]at a;cases a
   rw[show i=bs.length by omega,ad (aw _),ap];exact e
 ·rcases ak.1 a with h1|h1
  ·exact h.2 c h1
  ·rw[aB.1 h1];exact f
theorem CX.front{bs:List PBlock}{b:PBlock}(h:CX (bs++[b])):CX bs/\headFault bs b.aa b.name=0/\BA (rulesOf b.aa) b.ac:=by
 refine⟨⟨?_,fun c a=>h.2 c (aI _ a)⟩,?_,h.2 b (by simp)⟩
 ·intro i c a;have d:=(ah.1 a).1;have:=h.1 i c (by rw[aE d];exact a)
  rwa [ad (by omega)]at this
 ·have:=h.1 bs.length b (by rw[aD (aw _)];simp)
  rwa [ad (aw _),ap]at this
def Im(b:PBlock):PBlock:=⟨b.aa,b.name,BG (rulesOf b.aa) b.ac⟩
def AO(bs:List PBlock):List PBlock:=(bs.map Im).foldl (fun acc a=>Ca blockLt a acc) []
theorem Ky(bs:List PBlock)(b:PBlock):AO (bs++[b])=Ca blockLt (Im b) (AO bs):=by simp[AO]
theorem DK(bs:List PBlock):(AO bs).Perm (bs.map Im):=by
 have:=JV blockLt (bs.map Im) [];simpa [AO] using this
theorem Mb{l m:List PBlock}(h:(l.map fun b=>(b.aa,b.name)).Perm (m.map fun b=>(b.aa,b.name)))(kind name:ByteArray):headFault l kind name=headFault m kind name:=by
 have a:∀l:List PBlock,l.any (fun o=>o.aa.toList==kind.toList&&o.name.toList==name.toList)=(l.map fun b=>(b.aa,b.name)).any (fun p=>p.1.toList==kind.toList&&p.2.toList==name.toList):=by
  intro l;rw[List.any_map];rfl
 have c:l.length=m.length:=by have:=h.length_eq;simpa using this
 unfold headFault;rw[a l,a m,LY h,c]
theorem Hb(bs:List PBlock)(kind name:ByteArray):headFault (AO bs) kind name=headFault bs kind name:=by
 refine Mb ?_ kind name;refine((DK bs).map _).trans ?_;rw[List.map_map];exact .refl _
theorem Kz{es:List PBlock}{a b:PBlock}(g:b∈es)(h:headFault es a.aa a.name=0)(c:blockLt b a=false):blockLt a b=true:=by
 have i:=(BS.1 h).2.2.1 b g;rw[<-ar,Ch]at c;rw[Ch];by_cases e:a.aa.toList<b.aa.toList
 ·exact .inl e
 ·have d:=Fp.tri _ _ (fun q=>c (.inl q)) e;refine .inr ⟨d.symm,?_⟩;by_cases f:a.name.toList<b.name.toList
  ·exact f
  ·have j:=Fp.tri _ _ (fun q=>c (.inr ⟨d,q⟩)) f;exact absurd ⟨toList_inj d,toList_inj j⟩ i
theorem F4(bs:List PBlock):CX bs->(AO bs).Pairwise (fun a b=>blockLt a b=true):=by
 refine Fs (P:=fun bs=>CX bs->(AO bs).Pairwise (fun a b=>blockLt a b=true)) (fun _=>.nil) (fun l a d h=>?_) bs;have c:=h.front;rw[Ky];refine DQ Cr _ _ (d c.1) fun y e f=>?_
 have:=Hb l a.aa a.name;rw[c.2.1]at this;exact Kz (a:=Im a) e this f
theorem Eg{bs:List PBlock}(h:CX bs):AA (AO bs):=by
 have a:=DK bs;refine⟨?_,fun b f=>?_,F4 bs h⟩
 ·rw[a.length_eq,a2];by_cases j:bs.length=0
  ·omega
  ·have:=(BS.1 (h.1 (bs.length-1) bs[bs.length-1] (ab (by omega)))).2.2.2;simp at this;omega
 ·obtain⟨c,d,rfl⟩:=bb.1 (a.mem_iff.1 f);obtain⟨i,g,rfl⟩:=af.1 d;have e:=BS.1 (h.1 i _ (ab g));exact⟨e.1,e.2.1,FM (h.2 _ d)⟩
theorem NG{bs c:List PBlock}(h:CX bs)(d:c.Perm (bs.map Im))(s:∀i j:Nat,i<j->∀a b,c[i]?=al a->c[j]?=al b->blockLt b a=false):c=AO bs:=by
 have t:c.Pairwise (fun a b=>blockLt a b=true):=by
  have f:=F4 bs h;have m:∀a∈c,a∈AO bs:=fun a u=>(DK bs).mem_iff.2 (d.mem_iff.1 u)
  have v:c.Nodup:=by
   have w:(AO bs).Nodup:=f.imp (fun {a b} z e=>by subst e;exact DJ _ z);exact(d.trans (DK bs).symm).nodup_iff.2 w
  rw[aj];intro i j g k n;have l:=s i j n _ _ (ab g) (ab k);obtain⟨x,o,p⟩:=af.1 (m _ (am g));obtain⟨y,q,r⟩:=af.1 (m _ (am k));have A:x≠y:=by
   intro e;subst e;have:c[i]=c[j]:=p.symm.trans r;exact(aj.1 v) i j g k n this
  rw[<-p,<-r]at l⊢;rcases bj A with h1|h1
  ·exact(aj.1 f) x y o q h1
  ·rw[(aj.1 f) y x q o h1]at l;cases l
 exact CT DJ Cr t (F4 bs h) (d.trans (DK bs).symm)
def AR:List UInt8->List UInt8->List (List UInt8)
 | acc,[]=>if acc=[] then [] else [acc]
 | acc,c::l=>if c=10 then acc::AR [] l else AR (acc++[c]) l
def textLines(l:List UInt8):List (List UInt8):=AR [] l
inductive PRes where
 | bad (line:Nat) (code:Int)
 | good (bs:List PBlock)
def Az(w:List UInt8):ByteArray:=⟨w.toArray⟩
def Be(done:List PBlock):Option PBlock->List UInt8->List (List UInt8)->Int × List PBlock × Option PBlock
 | none,w,ws=>match ws with
  | [n]=>(headFault done (Az w) (Az n),done,al ⟨Az w,Az n,[]⟩)
  | _=>(2,done,aF)
 | some b,w,ws=>if w=[101,110,100]/\ws=[] then (0,done++[b],aF) else (lineFault (rulesOf b.aa) b.ac ⟨Az w,ws⟩,done,al ⟨b.aa,b.name,b.ac++[⟨Az w,ws⟩]⟩)
def AQ:Nat->List PBlock->Option PBlock->List (List UInt8)->PRes
 | n,done,op,[]=>match op with
  | none=>.good done
  | some _=>.bad (n+1) 8
 | n,done,op,l::rest=>match cutL l with
  | none=>.bad (n+1) 1
  | some []=>AQ (n+1) done op rest
  | some (w::ws)=>if (Be done op w ws).1≠0 then .bad (n+1) (Be done op w ws).1 else AQ (n+1) (Be done op w ws).2.1 (Be done op w ws).2.2 rest
def AU(a:List UInt8):PRes:=if 20000<a.length\/400<(textLines a).length then .bad 0 11 else AQ 0 [] aF (textLines a)
def Hc(done:List PBlock):Option PBlock->Prop
 | none=>CX done
 | some b=>CX done/\headFault done b.aa b.name=0/\BA (rulesOf b.aa) b.ac
theorem Wz(done:List PBlock)(b:PBlock):Be done (al b) [101,110,100] []=(0,done++[b],aF):=rfl
theorem Mc{done:List PBlock}{b:PBlock}{w:List UInt8}(h:¬(w=[101,110,100]/\ws=[])):Be done (al b) w ws=(lineFault (rulesOf b.aa) b.ac ⟨Az w,ws⟩,done,al ⟨b.aa,b.name,b.ac++[⟨Az w,ws⟩]⟩):=by
 show (if _ then _ else _)=_
 rw[if_neg h]
theorem FN{done:List PBlock}{w:List UInt8}(h:ws.length≠1):Be done aF w ws=(2,done,aF):=by
 match ws,h with
 | [],_=>rfl
 | _::_::_,_=>rfl
theorem DE(done:List PBlock)(w n:List UInt8):Be done aF w [n]=(headFault done (Az w) (Az n),done,al ⟨Az w,Az n,[]⟩):=rfl
theorem Hc.step{done:List PBlock}{w:List UInt8}(h:Hc done op)(a:(Be done op w ws).1=0):Hc (Be done op w ws).2.1 (Be done op w ws).2.2:=by
 cases op with
 | none =>
  by_cases c:ws.length=1
  ·match ws,c with
   | [n],_=>exact⟨h,a,BA.nil _⟩
  ·rw[FN c]at a;cases a
 | some b =>
  obtain⟨h1,d,e⟩:=h;by_cases f:w=[101,110,100]/\ws=[]
  ·obtain⟨rfl,rfl⟩:=f;exact h1.snoc d e
  ·rw[Mc f]at a⊢;exact⟨h1,d,e.snoc a⟩
theorem Gg:∀(ls:List (List UInt8)) (n:Nat) (done:List PBlock) (op:Option PBlock),Hc done op->∀bs,AQ n done op ls=.good bs->CX bs
 | [],n,done,aF,h,bs,e=>by cases e;exact h
 | [],n,done,al b,h,bs,e=>by cases e
 | l::rest,n,done,op,h,bs,e=>by
  unfold AQ at e;split at e
  ·cases e
  ·exact Gg rest _ _ _ h bs e
  ·split at e
   ·cases e
   ·rename_i a;exact Gg rest _ _ _ (h.step (by simpa using a)) bs e
theorem CF{a:List UInt8}{bs:List PBlock}(h:AU a=.good bs):CX bs:=by
 unfold AU at h;split at h
 ·cases h
 ·exact Gg _ _ [] aF CX.nil bs h
def lineL(a:PLine):List UInt8:=a.key.data.toList++a.ws.flatMap (fun w=>32::CZ w)
def Jm(b:PBlock):List UInt8:=b.aa.data.toList++32::b.name.data.toList
def F5(b:PBlock):List UInt8:=Jm b++10::(b.ac.flatMap (fun a=>32::32::lineL a++[10])++[101,110,100,10])
def sheetL(bs:List PBlock):List UInt8:=bs.flatMap F5
def Cm(t:List UInt8):Prop:=20000<t.length\/400<(textLines t).length
instance (t:List UInt8):Decidable (Cm t):=by unfold Cm;infer_instance
noncomputable def printL(bs:List PBlock):List UInt8:=if Bw bs=false\/Cm (sheetL bs) then [] else sheetL bs
theorem Sh{t:List UInt8}(h:Cm t):AU t=.bad 0 11:=if_pos h
theorem WC{t:List UInt8}(h:¬Cm t):AU t=AQ 0 [] aF (textLines t):=if_neg h
theorem Me(l rest:List UInt8)(h:(10:UInt8) ∉ l):∀acc,AR acc (l++10::rest)=(acc++l)::AR [] rest:=by
 induction l with
 | nil=>intro acc;simp[AR]
 | cons c l a =>
  intro acc;have b:¬c=10:=fun e=>h (by simp[e])
  rw[aO,AR,if_neg b,a (fun e=>h (by simp[e]))];simp
theorem DR(l rest:List UInt8)(h:(10:UInt8) ∉ l):textLines (l++10::rest)=l::textLines rest:=by
 unfold textLines;rw[Me l rest h];rfl
theorem Ov{l:List UInt8}(h:l.all AY=true):(10:UInt8) ∉ l:=by
 intro e;have:=Uc (aP.1 h _ e);simp at this
theorem Si(n:Nat)(h:n<16):GM n≠10:=by
 have:∀n,n<16->GM n≠10:=by decide
 exact this n h
theorem Adh(c:UInt8):(10:UInt8) ∉ qb c:=by
 have b:=c.toNat_lt;unfold qb;split
 ·rename_i a;have:=DH a;intro e;rw[<-aB.1 e]at this;simp at this
 ·intro e;simp only[ag,bq,or_false]at e;rcases e with e|e|e
  ·cases e
  ·exact Si _ (by omega) e.symm
  ·exact Si _ (by omega) e.symm
theorem WD(w:List UInt8):(10:UInt8) ∉ CZ w:=by
 unfold CZ;split
 ·rename_i h;unfold CP at h;rw[an]at h;exact Ov h.2
 ·intro e;simp only[GW,aO,ag,ak,br,bq,or_false]at e;rcases e with e|⟨c,_,e⟩|e
  ·cases e
  ·exact Adh c e
  ·cases e
def Adi(R:List Plain):Prop:=∀p∈R,CP p.1.data.toList=true/\p.1.data.toList.length<=200/\p.1.data.toList≠[101,110,100]/\p.2.1.length<=3/\∀t∈p.2.1,1<=t/\t<=6
theorem Y1(kind:ByteArray):Adi (rulesOf kind):=by
 have:=Bm kind;have b:∀p∈rulesOf kind,CP p.1.data.toList=true/\p.1.data.toList.length<=200/\p.1.data.toList≠[101,110,100]:=by
  unfold rulesOf;split
  ·unfold teamRules;decide
  ·split
   ·unfold berthRules;decide
   ·split
    ·unfold serviceRules;decide
    ·simp
 intro p a;exact⟨(b p a).1,(b p a).2.1,(b p a).2.2,(this.2 p a).1,(this.2 p a).2⟩
theorem FO(h:(rulesOf kind).length≠0):CP kind.data.toList=true/\kind.data.toList.length<=200:=by
 rw[<-aR];unfold rulesOf at h;split at h
 ·rename_i e;rw[e];decide
 ·split at h
  ·rename_i e;rw[e];decide
  ·split at h
   ·rename_i e;rw[e];decide
   ·simp at h
theorem Eh{l:List UInt8}(h:nameB l=true):CP l=true/\l.length<=200:=by
 unfold nameB at h;rw[an,an,decide_eq_true_eq,decide_eq_true_eq]at h;refine⟨?_,by omega⟩;unfold CP;rw[an];refine⟨?_,?_⟩
 ·cases l with
  | nil=>simp at h
  | cons c l=>rfl
 ·rw[aP];intro c a;have:=aP.1 h.1 c a;unfold nameByte at this;simp only[aS,an,decide_eq_true_eq]at this;exact LK (by omega)
theorem JW{l:List UInt8}(h:CI l=true):l.length<=7:=by
 unfold CI at h;simp only[an,decide_eq_true_eq]at h;exact h.1.1.2
theorem WF{t:Int}{w:List UInt8}(h1:1<=t)(a:t<=6)(h:EV t w=true):w.length<=200:=by
 rcases six h1 a with rfl|rfl|rfl|rfl|rfl|rfl <;> unfold EV at h <;> simp at h
 ·have:=JW h;omega
 ·unfold Et at h;simp only[aS,an]at h;rcases h with h|h
  ·have:=JW h;omega
  ·have:=JW h.2;simp at this;omega
 ·have:=(Eh h).2;exact this
 ·exact h
 ·unfold Uf at h;simp only[aS,beq_iff_eq]at h;rcases h with rfl|rfl <;> decide
 ·unfold Gc at h;simp only[aS,beq_iff_eq]at h;rcases h with (rfl|rfl)|rfl <;> decide
theorem JX{a:PLine}(h:BQ (rulesOf kind) a.key a.ws=true):CP a.key.data.toList=true/\a.key.data.toList.length<=200/\a.key.data.toList≠[101,110,100]/\a.ws.length<=3/\∀w∈a.ws,w.length<=200:=by
 cases b:Bv (rulesOf kind) a.key with
 | none=>rw[C4 _ b]at h;cases h
 | some p =>
  obtain⟨i,_,g,k⟩:=De b;have l:p∈rulesOf kind:=aT g;obtain⟨c,d,e,q,m⟩:=Y1 kind p l;rw[Ev _ b]at h;unfold BC at h;rw[an,decide_eq_true_eq]at h;rw[k]at c d e;refine⟨c,d,e,by omega,fun w n=>?_⟩;obtain⟨j,r,rfl⟩:=af.1 n;have o:EV (p.2.1[j]'(by omega)) a.ws[j]=true:=by
   have:=aP.1 h.2 (EV (p.2.1[j]'(by omega)) a.ws[j]) (af.2 ⟨j,by simp;omega,by simp⟩);simpa using this
  have f:=m _ (am (by omega:j<p.2.1.length));exact WF f.1 f.2 o
def Jn(b:PBlock):List (List UInt8):=Jm b::(b.ac.map (fun a=>32::32::lineL a)++[[101,110,100]])
def Pi(b:PBlock):Prop:=(rulesOf b.aa).length≠0/\nameB b.name.data.toList=true/\∀a∈b.ac,BQ (rulesOf b.aa) a.key a.ws=true
theorem JY{l:List UInt8}(h:CP l=true):(10:UInt8) ∉ l:=by
 unfold CP at h;rw[an]at h;exact Ov h.2
theorem WG{a:PLine}(h:CP a.key.data.toList=true):(10:UInt8) ∉ lineL a:=by
 unfold lineL;intro e;rcases ak.1 e with e|e
 ·exact JY h e
 ·obtain⟨w,_,b⟩:=br.1 e;rcases ag.1 b with b|b
  ·cases b
  ·exact WD w b
theorem KX(ls:List PLine)(h:∀a∈ls,CP a.key.data.toList=true)(rest:List UInt8):textLines (ls.flatMap (fun a=>32::32::lineL a++[10])++rest)=ls.map (fun a=>32::32::lineL a)++textLines rest:=by
 induction ls with
 | nil=>rfl
 | cons a ls c =>
  rw[av,ae,ae,List.singleton_append,DR,c (fun b d=>h b (by simp[d]))]
  ·rfl
  ·intro e;rcases ag.1 e with e|e
   ·cases e
   rcases ag.1 e with e|e
   ·cases e
   exact WG (h a (by simp)) e
theorem KY(b:PBlock)(h:Pi b)(rest:List UInt8):textLines (F5 b++rest)=Jn b++textLines rest:=by
 unfold F5 Jn;rw[ae,aO,DR,ae,KX]
 ·rw[show ([101,110,100,10]++rest:List UInt8)=[101,110,100]++10::rest from rfl,DR _ _ (by decide)];simp
 ·intro a c;exact(JX (h.2.2 a c)).1
 ·intro e;rcases ak.1 e with e|e
  ·exact JY (FO h.1).1 e
  ·rcases ag.1 e with e|e
   ·cases e
   ·exact JY (Eh h.2.1).1 e
theorem GG:∀(bs:List PBlock),(∀b∈bs,Pi b)->textLines (sheetL bs)=bs.flatMap Jn
 | [],_=>rfl
 | b::bs,h=>by
  rw[sheetL,av,KY b (h b (by simp)),<-sheetL,GG bs (fun c a=>h c (by simp[a])),av]
theorem WH{ls:List PLine}(h:AG R ls):BG R ls=ls :=
 (CT (Df R) (CK R) h.2.1 (F3 ls (EG h).1) (Cb R ls).symm).symm
theorem Pj(bs:List PBlock):(bs.flatMap Jn).length=(bs.map fun b=>b.ac.length+2).sum:=by
 induction bs with
 | nil=>rfl
 | cons b bs a=>rw[av,aq,a,a7,List.sum_cons];simp[Jn]
theorem Gh:∀(ls:List (List UInt8)) (n:Nat) (done:List PBlock) (op:Option PBlock) (k:Nat) (c:Int),AQ n done op ls=.bad k c->n<k/\(k<=n+ls.length\/k=n+ls.length+1/\c=8)
 | [],n,done,aF,k,c,e=>by cases e
 | [],n,done,al b,k,c,e=>by cases e;simp
 | l::ls,n,done,op,k,c,e=>by
  unfold AQ at e;split at e
  ·cases e;simp
  ·have:=Gh ls _ _ _ k c e;simp;omega
  ·split at e
   ·cases e;simp
   ·have:=Gh ls _ _ _ k c e;simp;omega
def hasK(ls:List PLine)(k:ByteArray):Bool:=ls.any (fun a=>a.key.toList==k.toList)
def Y5(p:Plain):PLine:=⟨p.1,p.2.2.2⟩
def Cn(ls:List PLine)(p:Plain):Bool:=!p.2.2.1 && !hasK ls p.1
def Ei(R:List Plain)(ls:List PLine):List PLine:=(R.filter (Cn ls)).map Y5
def He(R:List Plain)(ls:List PLine):List PLine:=BG R (ls++Ei R ls)
def fillP(b:PBlock):PBlock:=⟨b.aa,b.name,He (rulesOf b.aa) b.ac⟩
noncomputable def fillS(bs:List PBlock):List PBlock:=if Bw bs=true then bs.map fillP else []
def GH(ls:List PLine)(k:ByteArray):List PLine:=ls.filter (fun a=>a.key.toList==k.toList)
def F7(R:List Plain):Prop:=R.Pairwise (fun p q=>p.1≠q.1)
theorem CB(kind:ByteArray):F7 (rulesOf kind):=by
 unfold rulesOf;split
 ·unfold F7;decide
 ·split
  ·unfold F7;decide
  ·split
   ·unfold F7;decide
   ·exact .nil
theorem Y6{ls:List PLine}{k:ByteArray}:hasK ls k=true↔∃a∈ls,a.key=k:=by
 unfold hasK;rw[aA];constructor
 ·rintro⟨a,b,h⟩;exact⟨a,b,toList_inj (by simpa using h)⟩
 ·rintro⟨a,b,rfl⟩;exact⟨a,b,by simp⟩
theorem Mf{ls:List PLine}{k:ByteArray}:hasK ls k=false↔∀a∈ls,a.key≠k:=by
 rw[<-ar,Y6];constructor
 ·exact fun h a b e=>h ⟨a,b,e⟩
 ·rintro h ⟨a,b,e⟩;exact h a b e
theorem WL{l m:List PLine}(h:l.Perm m)(k:ByteArray):hasK l k=hasK m k:=LY h _
theorem WM(a:PLine)(l:List PLine)(k:ByteArray)(h:a.key≠k):hasK (a::l) k=hasK l k:=by
 unfold hasK;rw[bx,show (a.key.toList==k.toList)=false from by rw[beq_eq_false_iff_ne];exact fun e=>h (toList_inj e),Bool.false_or]
theorem JZ{ls:List PLine}{k:ByteArray}(h:∀a∈ls,a.key≠k):keyN ls k=0:=by
 unfold keyN;rw[aJ];intro a b e;exact h a b (toList_inj (by simpa using e))
theorem Ox{R:List Plain}:∀(d ls:List PLine),BA R ls->(∀a∈d,BQ R a.key a.ws=true/\∀o∈ls,o.key≠a.key)->d.Pairwise (fun a b=>a.key≠b.key)->BA R (ls++d)
 | [],ls,h,_,_=>by rw[aQ];exact h
 | u::d,ls,h,f,j=>by
  have i:=ai.1 j;have h1:lineFault R ls u=0:=by
   refine BD.2 ⟨(f u (by simp)).1,fun o c e=>absurd e ((f u (by simp)).2 o c),?_⟩;rw[JZ (f u (by simp)).2];omega
  have:=Ox d (ls++[u]) (h.snoc h1) (fun a g=>⟨(f a (by simp[g])).1,fun o c=>by
   rcases ak.1 c with c|c
   ·exact(f a (by simp[g])).2 o c
   ·rw[aB.1 c];exact i.1 a g⟩) i.2
  rwa [ae]at this
theorem Mg{ls:List PLine}{a:PLine}(h:a∈Ei R ls):∃p∈R,p.2.2.1=false/\hasK ls p.1=false/\a=Y5 p:=by
 obtain⟨p,b,rfl⟩:=bb.1 h;rw[au]at b;have:=b.2;simp only[Cn,an,bp]at this;exact⟨p,b.1,this.1,this.2,rfl⟩
theorem AG.good{ls:List PLine}(h:AG R ls):BA R ls:=(EG h).1
theorem Oy{ls:List PLine}(h:AG R ls)(b:Ow R)(c:F7 R):BA R (ls++Ei R ls):=by
 refine Ox _ _ h.good (fun a d=>?_) ?_
 ·obtain⟨p,e,f,g,rfl⟩:=Mg d;exact⟨b p e f,Mf.1 g⟩
 ·unfold Ei;rw[bm];exact(c.filter _).imp fun h=>h
theorem VM{ls:List PLine}(h:AG R ls)(a:Ow R)(b:F7 R):AG R (He R ls):=FM (Oy h a b)
def EC(R:List Plain)(acc:List PLine)(p:Plain):List PLine:=if Cn acc p=true then Ca (lineLt R) (Y5 p) acc else acc
theorem IE(R:List Plain)(ls:List PLine):∀(Q:List Plain) (acc:List PLine),F7 Q->(∀p∈Q,hasK acc p.1=hasK ls p.1)->Q.foldl (EC R) acc=(Ei Q ls).foldl (fun acc a=>Ca (lineLt R) a acc) acc
 | [],acc,_,_=>rfl
 | p::Q,acc,g,d=>by
  have f:=ai.1 g;have e:Cn acc p=Cn ls p:=by unfold Cn;rw[d p (by simp)]
  rw[a3];cases b:Cn ls p
  ·rw[show EC R acc p=acc from by unfold EC;rw[e,b];rfl,IE R ls Q acc f.2 (fun q c=>d q (by simp[c])),show Ei (p::Q) ls=Ei Q ls from by unfold Ei;rw[a1,b];rfl]
  ·rw[show EC R acc p=Ca (lineLt R) (Y5 p) acc from by unfold EC;rw[e,b];rfl,IE R ls Q _ f.2 (fun q c=>?_),show Ei (p::Q) ls=Y5 p::Ei Q ls from by unfold Ei;rw[a1,b];rfl,a3];rw[WL (DD _ _ _),WM _ _ _ (f.1 q c),d q (by simp[c])]
theorem Us{ls:List PLine}(h:AG R ls)(b:F7 R):R.foldl (EC R) ls=He R ls:=by
 rw[IE R ls R ls b (fun _ _=>rfl)];unfold He;rw[BG,bo];rw[show ls.foldl (fun acc a=>Ca (lineLt R) a acc) []=ls from WH h]
theorem Aa7(ls:List PLine)(k:ByteArray):(GH ls k).isEmpty=!hasK ls k:=by
 unfold GH hasK
 induction ls with
 | nil=>rfl
 | cons a l b =>
  rw[a1,bx];cases (a.key.toList==k.toList)
  ·simpa using b
  ·rfl
def AB(kind name:ByteArray)(b:PBlock):Bool:=(b.aa.toList==kind.toList)&&(b.name.toList==name.toList)
def Ck(bs:List PBlock)(kind name:ByteArray)(k:Nat):Prop:=∀b∈bs.take k,AB kind name b=false
theorem Ck.zero(bs:List PBlock)(kind name:ByteArray):Ck bs kind name 0:=by simp[Ck]
theorem Ck.succ{D T:List PBlock}{b:PBlock}(h:Ck (D++b::T) kind name D.length)(c:AB kind name b=false):Ck (D++b::T) kind name (D.length+1):=by
 unfold Ck at *;rw[ad (aw _),ap]at h;rw[List.take_append,List.take_of_length_le (by omega),show D.length+1-D.length=1 from by omega];intro s a;simp only[List.take_succ_cons,a5,ak,aB]at a;rcases a with a|rfl
 ·exact h s a
 ·exact c
theorem Ck.none{bs:List PBlock}(h:Ck bs kind name bs.length):bs.find? (AB kind name)=aF:=by
 unfold Ck at h;rw[ap]at h;rw[aW];intro b a;rw[h b a];decide
theorem Ck.hit{D T:List PBlock}{b:PBlock}(h:Ck (D++b::T) kind name D.length)(a:AB kind name b=true):(D++b::T).find? (AB kind name)=al b:=by
 unfold Ck at h;rw[ad (aw _),ap]at h;rw[List.find?_append,aW.2 (fun x c=>by rw[h x c];decide),Option.none_or,List.find?_cons_of_pos a]
structure PChange where
 what:Int
 aa:ByteArray
 name:ByteArray
 key:ByteArray
 ac:List PLine
open Classical in
noncomputable def Dx(kind name:ByteArray)(x y:List PLine)(key:ByteArray):List PChange:=if GH x key=GH y key then [] else [⟨if (GH y key).isEmpty=true then 4 else 3,kind,name,key,GH y key⟩]
noncomputable def Ip(x y:PBlock):List PChange:=(rulesOf x.aa).flatMap fun p=>Dx x.aa x.name x.ac y.ac p.1
def DT(b:PBlock):PChange:=⟨1,b.aa,b.name,⟨#[]⟩,[]⟩
def Mh(b:PBlock):PChange:=⟨2,b.aa,b.name,⟨#[]⟩,b.ac⟩
def goneS(A B:List PBlock):List PChange:=(A.filter fun a=>(B.find? (AB a.aa a.name)).isNone).map DT
noncomputable def CC(A:List PBlock)(y:PBlock):List PChange:=match A.find? (AB y.aa y.name) with
 | none=>[Mh y]
 | some x=>Ip x y
noncomputable def diffS(A B:List PBlock):List PChange:=if Bw A=true/\Bw B=true then goneS A B++B.flatMap (CC A) else []
theorem FP{α β:Type}(f:α->List β)(k:Nat):∀l:List α,(∀x∈l,(f x).length<=k)->(l.flatMap f).length<=k*l.length
 | [],_=>by simp
 | a::l,h=>by
  have h1:=h a (by simp);have c:=FP f k l (fun x b=>h x (by simp[b]));rw[av,aq,ay,Nat.mul_add];omega
theorem WN(kind name:ByteArray)(x y:List PLine)(key:ByteArray):(Dx kind name x y key).length<=1:=by
 unfold Dx;split <;> simp
theorem WO(x y:PBlock):(Ip x y).length<=(rulesOf x.aa).length:=by
 have:=FP (fun p:Plain=>Dx x.aa x.name x.ac y.ac p.1) 1 (rulesOf x.aa) (fun p _=>WN _ _ _ _ _);unfold Ip;omega
theorem WP(A:List PBlock)(y:PBlock):(CC A y).length<=12:=by
 unfold CC;split
 ·simp
 ·exact aX (WO _ _) (Bm _).1
theorem WQ(A B:List PBlock):(goneS A B).length<=A.length:=by
 unfold goneS;rw[a2];exact List.length_filter_le _ _
theorem Ka(A B:List PBlock):(diffS A B).length<=780:=by
 unfold diffS;split
 ·rename_i h;have h1:=(AS.1 h.1).1;have a:=(AS.1 h.2).1;have b:=WQ A B;have c:=FP (CC A) 12 B (fun y _=>WP A y);rw[aq];omega
 ·simp
theorem U7{l m:List PLine}(c:l.Pairwise (fun a b=>lineLt R a b=true))(d:m.Pairwise (fun a b=>lineLt R a b=true))(h:∀a,a∈l↔a∈m):l=m:=by
 have f:∀ {l:List PLine},l.Pairwise (fun a b=>lineLt R a b=true)->l.Nodup:=fun h=>h.imp (fun {a b} g e=>by subst e;exact Df R _ g)
 exact CT (Df R) (CK R) c d ((a6 (f c) (f d)).2 h)
theorem AG.sub{l m:List PLine}(h:AG R m)(b:l.Sublist m):AG R l:=by
 refine⟨fun a c=>h.1 a (b.subset c),h.2.1.sublist b,fun a c=>?_⟩;have d:=h.2.2 a (b.subset c);have e:keyN l a.key<=keyN m a.key:=b.countP_le;exact⟨d.1.imp id (fun h=>aX e h),aX e d.2⟩
theorem YK(g:F7 R){p q:Plain}(c:p∈R)(d:q∈R)(e:p.1=q.1):p=q:=by
 induction R with
 | nil=>cases c
 | cons r R i =>
  have h:=ai.1 g;rcases ag.1 c with f|h1
  ·rcases ag.1 d with a|b
   ·rw[f,a]
   ·exact absurd (f▸e) (h.1 q b)
  ·rcases ag.1 d with a|b
   ·exact absurd (a▸e.symm) (h.1 p h1)
   ·exact i h.2 h1 b
theorem Abe(c:F7 R){p:Plain}(b:p∈R):Bv R p.1=al p:=by
 unfold Bv;have:(R.find? (fun q=>q.1.toList==p.1.toList)).isSome=true:=by
  rw[List.find?_isSome];exact⟨p,b,by simp⟩
 obtain⟨q,a⟩:=Option.isSome_iff_exists.1 this;have h1:=aM a;have d:=a4 a;have e:q.1=p.1:=toList_inj (by simpa using d);rw[a,YK c h1 b e]
theorem picked{key:ByteArray}{p:Plain}(h:Bv R key=al p):p∈R/\p.1=key:=by
 unfold Bv at h;have a:=a4 h;exact⟨aM h,toList_inj (by simpa using a)⟩
theorem AG.rule{ls:List PLine}(h:AG R ls){a:PLine}(c:a∈ls):∃p∈R,p.1=a.key:=by
 have:=h.1 a c;unfold BQ at this;cases b:Bv R a.key with
 | none=>rw[b]at this;cases this
 | some p=>exact⟨p,(picked b).1,(picked b).2⟩
theorem IJ{ls:List PLine}{k:ByteArray}{a:PLine}:a∈GH ls k↔a∈ls/\a.key=k:=by
 unfold GH;rw[au];refine and_congr bE ⟨fun h=>toList_inj (by simpa using h),fun h=>by simp[h]⟩
theorem Adm{f:PBlock->PBlock}(c:∀b,(f b).aa=b.aa)(d:∀b,(f b).name=b.name){bs:List PBlock}(h:AA bs)(g:∀b∈bs,AG (rulesOf b.aa) (f b).ac):AA (bs.map f):=by
 refine⟨by simpa using h.1,fun b i=>?_,?_⟩
 ·obtain⟨a,e,rfl⟩:=bb.1 i;have:=h.2.1 a e;rw[c,d];exact⟨this.1,this.2.1,g a e⟩
 ·rw[bm];refine h.2.2.imp fun {a b} j=>?_
  rw[Ch]at *;rw[c,c,d,d];exact j
theorem Fd{bs:List PBlock}(h:AA bs):AA (bs.map fillP):=Adm (f:=fillP) (fun _=>rfl) (fun _=>rfl) h fun b a=>VM (h.2.1 b a).2.2 (Gi b.aa) (CB b.aa)
theorem FQ{bs:List PBlock}(h:AA bs):fillS bs=bs.map fillP:=by unfold fillS;rw[if_pos (AS.2 h)]
theorem M3:∀(R:List Plain) (ls:List PLine),(∀a∈ls,∃p∈R,p.1=a.key)->(∀k,keyN ls k<=10)->ls.length<=10*R.length
 | [],ls,h,_=>by
  cases ls with
  | nil=>simp
  | cons a ls=>obtain⟨p,g,_⟩:=h a (by simp);cases g
 | p::R,ls,h,d=>by
  have h1:=M3 R (ls.filter (fun a=>!(a.key.toList==p.1.toList))) (fun a i=>by
   have f:=au.1 i;obtain⟨q,b,e⟩:=h a f.1;rcases ag.1 b with rfl|b
   ·have:=f.2;rw[e]at this;simp at this
   ·exact⟨q,b,e⟩) (fun k=>by
    unfold keyN;have:=bG (p:=fun a:PLine=>a.key.toList==k.toList) (ax (p:=fun a:PLine=>!(a.key.toList==p.1.toList)) (l:=ls));have c:=d k;unfold keyN at c;omega)
  have c:=d p.1;unfold keyN at c;have m:=List.length_eq_countP_add_countP (fun a:PLine=>a.key.toList==p.1.toList) (l:=ls);rw[<-List.countP_eq_length_filter]at h1;have j:ls.countP (fun a=>!(a.key.toList==p.1.toList))=ls.countP (fun a=>decide ¬((a.key.toList==p.1.toList)=true)):=by
   congr 1;funext a;cases (a.key.toList==p.1.toList) <;> rfl
  rw[j]at h1;rw[ay];omega
theorem AG.few{ls:List PLine}(h:AG R ls):ls.length<=10*R.length:=by
 refine M3 R ls (fun a b=>?_) (fun k=>?_)
 ·have d:=h.1 a b;have c:Bv R a.key≠aF:=fun e=>by rw[C4 _ e]at d;cases d
  obtain⟨p,c⟩:=aK.1 c;obtain⟨i,_,g,e⟩:=De c;exact⟨p,aT g,e⟩
 ·by_cases f:∃a∈ls,a.key=k
  ·obtain⟨a,b,rfl⟩:=f;exact(h.2.2 a b).2
  ·rw[JZ (fun a b e=>f ⟨a,b,e⟩)];omega
variable {n:Nat}
inductive NW where
 | ended (m:Nat)
 | bad (m:Nat)
 | words (m:Nat) (w:List UInt8) (ws:List (List UInt8)) (rest:List (List UInt8))
def Ds:Nat->List (List UInt8)->NW
 | n,[]=>.ended (n+1)
 | n,l::rest=>match cutL l with
  | none=>.bad (n+1)
  | some []=>Ds (n+1) rest
  | some (w::ws)=>.words (n+1) w ws rest
def goW(done:List PBlock)(op:Option PBlock):NW->PRes
 | .ended m=>match op with
  | none=>.good done
  | some _=>.bad m 8
 | .bad m=>.bad m 1
 | .words m w ws rest=>if (Be done op w ws).1≠0 then .bad m (Be done op w ws).1 else AQ m (Be done op w ws).2.1 (Be done op w ws).2.2 rest
theorem Gw:∀(ls:List (List UInt8)) (n:Nat) (done:List PBlock) (op:Option PBlock),AQ n done op ls=goW done op (Ds n ls)
 | [],n,done,aF=>rfl
 | [],n,done,al _=>rfl
 | l::rest,n,done,op=>by
  unfold AQ;split
  ·rename_i a;rw[Ds,a];rfl
  ·rename_i a;rw[Ds,a];exact Gw rest (n+1) done op
  ·rename_i a;rw[Ds,a];rfl
theorem Xi{l:List UInt8}{rest:List (List UInt8)}(h:cutL l=aF):Ds n (l::rest)=.bad (n+1):=by unfold Ds;rw[h]
theorem S8{l:List UInt8}{rest:List (List UInt8)}(h:cutL l=al []):Ds n (l::rest)=Ds (n+1) rest:=by rw[Ds];rw[h]
theorem S9{l w:List UInt8}{rest:List (List UInt8)}(h:cutL l=al (w::ws)):Ds n (l::rest)=.words (n+1) w ws rest:=by unfold Ds;rw[h]
theorem H9:∀(ls:List (List UInt8)) (n m:Nat) (w:List UInt8) (ws rest:List (List UInt8)),Ds n ls=.words m w ws rest->rest.length<ls.length/\m+rest.length=n+ls.length
 | [],n,m,w,ws,rest,h=>by cases h
 | l::r,n,m,w,ws,rest,h=>by
  unfold Ds at h;split at h
  ·cases h
  ·have:=H9 r (n+1) m w ws rest h;simp only[ay];omega
  ·cases h
   simp only[ay];omega
theorem Jw:∀(l acc:List UInt8),(10:UInt8) ∉ l->AR acc l=if acc++l=[] then [] else [acc++l]
 | [],acc,_=>by simp[AR]
 | c::l,acc,h=>by
  have a:c≠10:=fun e=>h (by rw[e];simp)
  rw[AR,if_neg a,Jw l _ (fun e=>h (bd _ e)),ae];rfl
theorem P6{l:List UInt8}(h:(10:UInt8) ∉ l)(a:l≠[]):textLines l=[l]:=by
 unfold textLines;rw[Jw l [] h];simp[a]
def MI(s x y:List UInt8):Prop:=((10:UInt8) ∉ s/\x=s/\y=[])\/(s=x++10::y/\(10:UInt8) ∉ x)
theorem MI.ac{s x y:List UInt8}(h:MI s x y)(a:s≠[]):textLines s=x::textLines y:=by
 rcases h with ⟨h1,rfl,rfl⟩|⟨rfl,b⟩
 ·exact P6 h1 a
 ·exact DR x y b
theorem MI.len{s x y:List UInt8}(h:MI s x y):x.length<=s.length/\y.length<=s.length:=by
 rcases h with ⟨h1,rfl,rfl⟩|⟨rfl,a⟩
 ·simp
 ·simp;omega
theorem MI.lt{s x y:List UInt8}(h:MI s x y)(a:s≠[]):y.length<s.length:=by
 rcases h with ⟨h1,rfl,rfl⟩|⟨rfl,b⟩
 ·exact List.length_pos_iff.2 a
 ·simp;omega
theorem P7:∀(f:Nat) (acc:List (List UInt8)) (l:List UInt8),acc.length<=8->((F2 f acc l).getD []).length<=8
 | 0,acc,[],h=>by simpa [F2] using h
 | 0,acc,_::_,h=>by simp[F2]
 | f+1,acc,[],h=>by simpa [F2] using h
 | f+1,acc,c::r,h=>by
  rw[F2];split
  ·exact P7 f acc r h
  ·split
   ·simpa using h
   ·split
    ·simp
    ·split
     ·rename_i a;exact P7 f _ _ (by simp;omega)
     ·simp
theorem Hi:∀(ls:List (List UInt8)) (n m:Nat) (w:List UInt8) (ws rest:List (List UInt8)),Ds n ls=.words m w ws rest->ws.length<=7/\∀y∈w::ws,y.length<=200
 | [],n,m,w,ws,rest,h=>by cases h
 | l::r,n,m,w,ws,rest,h=>by
  unfold Ds at h;split at h
  ·cases h
  ·exact Hi r (n+1) m w ws rest h
  ·rename_i b;cases h
   have c:=Sg l;have a:=P7 l.length [] l (by simp);rw[b]at c;rw[show F2 l.length [] l=cutL l from rfl,b]at a;simp at a;exact⟨a,c⟩
def Hk(u o:List PLine):List PLine:=u.filter (fun a=>!hasK o a.key)
def SO(R:List Plain)(u o:List PLine):List PLine:=BG R (o++Hk u o)
theorem Xo{ls:List PLine}(h:BA R ls):∀d:List PLine,BA R d->(∀a∈d,∀o∈ls,o.key≠a.key)->BA R (ls++d):=by
 refine Fs (fun _ _=>by rw[aQ];exact h) ?_;intro d a f g hd;obtain⟨h1,i⟩:=g.front;rw[<-ae];refine(f h1 (fun b j=>hd b (by simp[j]))).snoc ?_;obtain⟨k,l,m⟩:=BD.1 i;refine BD.2 ⟨k,fun o c=>?_,?_⟩
 ·rcases ak.1 c with c|c
  ·exact fun e=>absurd e (hd a (by simp) o c)
  ·exact l o c
 ·rw[Dg,JZ (hd a (by simp)),Nat.zero_add];exact m
theorem SP{l m:List PLine}(b:AG R l)(c:AG R m)(h:∀a,a∈l↔a∈m):l=m:=U7 b.2.1 c.2.1 h
def VY(bs:List PBlock):Prop:=bs.Pairwise (fun a b=>¬(a.aa=b.aa/\a.name=b.name))
theorem AA.heads{bs:List PBlock}(h:AA bs):VY bs:=h.2.2.imp fun {a b} c e=>by
 rw[Ch,e.1,e.2]at c;rcases c with q|⟨_,q⟩ <;> exact Fp.irr _ q
def IP(bs:List PBlock)(kind name:ByteArray):Option PBlock:=bs.find? (AB kind name)
theorem Ce{b:PBlock}:AB kind name b=true↔b.aa=kind/\b.name=name:=by
 unfold AB;simp only[an,beq_iff_eq];exact⟨fun h=>⟨toList_inj h.1,toList_inj h.2⟩,fun h=>by rw[h.1,h.2];exact⟨rfl,rfl⟩⟩
theorem Ek{bs:List PBlock}{b:PBlock}(h:IP bs kind name=al b):b∈bs/\b.aa=kind/\b.name=name:=⟨aM h,Ce.1 (a4 h)⟩
theorem OM{bs:List PBlock}:IP bs kind name=aF↔∀b∈bs,¬(b.aa=kind/\b.name=name):=by
 unfold IP;rw[aW];exact⟨fun h b a e=>h b a (Ce.2 e),fun h b a e=>h b a (Ce.1 e)⟩
theorem Lu{bs:List PBlock}(h:VY bs){b:PBlock}(c:b∈bs):IP bs b.aa b.name=al b:=by
 induction bs with
 | nil=>cases c
 | cons a l f =>
  have e:=ai.1 h;unfold IP;rw[List.find?_cons];cases d:AB b.aa b.name a
  ·rcases ag.1 c with rfl|c
   ·rw[Ce.2 ⟨rfl,rfl⟩]at d;cases d
   ·exact f e.2 c
  ·rcases ag.1 c with rfl|c
   ·rfl
   ·exact absurd (Ce.1 d) (e.1 b c)
theorem ON{l m:List PBlock}(c:l.Pairwise (fun a b=>blockLt a b=true))(d:m.Pairwise (fun a b=>blockLt a b=true))(h:∀a,a∈l↔a∈m):l=m:=by
 have f:∀ {l:List PBlock},l.Pairwise (fun a b=>blockLt a b=true)->l.Nodup:=fun h=>h.imp (fun {a b} g e=>by subst e;exact DJ _ g)
 exact CT DJ Cr c d ((a6 (f c) (f d)).2 h)
theorem Zi:AA []:=⟨by simp,by simp,bD⟩
def Qs(ls:List (List UInt8))(w:World)(e:Ending)(w':World):Prop:=∃ao a,e=bz (bi ao ls.length a)/\w'.ownsRow w.heap.size 9 1 (bi ao ls.length a) ls.length (strs ls)/\Below w.heap.size w w'
theorem Zr{acc:List UInt8}{c:UInt8}{l:List UInt8}(h:c.toNat=10):AR acc (c::l)=acc::AR [] l:=by
 have:c=10:=UInt8.toNat_inj.1 (by rw[h];rfl);rw[AR,if_pos this]
theorem Zs{acc:List UInt8}{c:UInt8}{l:List UInt8}(h:c.toNat≠10):AR acc (c::l)=AR (acc++[c]) l:=by
 rw[AR,if_neg (fun e=>h (by rw[e];rfl))]
theorem Xw(s:ByteArray)(w:World)(O:s.size<=1048576):Calls prog 81 #[bh s] w fun e w'=>Qs (textLines s.data.toList) w e w':=by
 obtain⟨i0,A,B,C,D⟩:=info_parts Jc;have E:Hid (textLines s.data.toList=[]++AR ((s.data.toList.drop 0).take (0-0)) (s.data.toList.drop 0)):=rfl;generalize textLines s.data.toList=R at *;go_enter func81,ntmps81;go_wp2;go_loopw [3,4,5] (fun o f i wr=>∃(acc:List (List UInt8)) (p k:Nat) (ao:Option Addr) (b:Nat),p<=k/\k<=s.size/\acc.length<=p/\o=bi ao acc.length b/\f=.int .i64 (p:Int)/\i=.int .i64 (k:Int)/\wr.ownsRow w.heap.size 9 1 (bi ao acc.length b) acc.length (strs acc)/\Below w.heap.size w wr/\Hid (R=acc++AR ((s.data.toList.drop p).take (k-p)) (s.data.toList.drop k))) (fun _ _ i _=>s.size-(intOf i).toNat)
 case atStart=>exact⟨[],0,0,al ⟨w.heap.size,0,aF⟩,0,by omega,by omega,by simp,rfl,rfl,rfl,World.ownsRow_lit (base:=w.heap.size) (e:=9) (size:=1) w #[] 0 (aw _) (by decide) rfl,(Below.refl w.heap.size w).alloc (aw _) _,E⟩
 case round =>
  obtain⟨acc,p,k,ao,b,I,P,J,rfl,rfl,rfl,c,d,a⟩:=hrel;clear E;have F:=d.size;by_cases G:k<s.size
  ·have hd:=Bj s k G;rw[hd]at a;by_cases m:s[k].toNat=10
   ·have K:((s[k].toNat:Int)==10)=true:=by rw[beq_iff_eq];omega
    have h:Hid (R=acc++(s.data.toList.drop p).take (k-p)::AR [] (s.data.toList.drop (k+1))):=by
     have:=a.out;rw[Zr m]at this;exact this
    have r:=Ab (Je s p k);clear a hd m;go_wp2_with (at_builtin;refine bv _ rfl _ _ 52 rfl w.heap.size 9 i0 (bh ⟨#[]⟩) 1 16 underlying52 A B C D rfl (by decide) _ acc.length _ rfl (c.alloc _) ⟨wr.heap.size,0,aF⟩ 1 1 [bh (s.extract p k)] rfl rfl (Kx wr _ 9) ?c2 (by decide) ?c3 ?c4 ?c5 (wr.heap.size+1) (by simp) ?_)
    case c2=>first|rfl|(intro u j;simp at j;subst j;rfl)
    case c3=>unfold maxLen;omega
    case c4=>omega
    case c5=>first|omega|(simp;omega)
    intro g n w2 l t L M;have v:Below w.heap.size w w2:=(d.alloc F _).grown t (by simp;omega) (fun q x=>(c.lt q x).1);go_wp2;go_roundw;case rel =>
     refine⟨acc++[(s.data.toList.drop p).take (k-p)],k+1,k+1,al ⟨g,0,aF⟩,n,by omega,by omega,by simp;omega,by simp,by go_num,by go_num,?_,v,?_⟩
     ·rw[DI,aq];rw[r.out]at l;exact l
     ·have:=h.out;rw[this,bA,a5,ae];exact Ab rfl
    case measure=>simp[intOf];omega
   ·have K:((s[k].toNat:Int)==10)=false:=by rw[beq_eq_false_iff_ne];omega
    have h:Hid (R=acc++AR ((s.data.toList.drop p).take (k+1-p)) (s.data.toList.drop (k+1))):=by
     have:=a.out;rw[Zs m]at this;rw[Sd s p k I G];exact this
    clear a hd m;go_wp2;go_roundw;case rel=>exact⟨acc,p,k+1,ao,b,by omega,by omega,J,rfl,rfl,by go_num,c,d,h⟩
    case measure=>simp[intOf];omega
  ·obtain rfl:k=s.size:=by omega
   have y:s.data.toList.drop s.size=[]:=List.drop_of_length_le (by simp);rw[y]at a;by_cases Q:p<s.size
   ·have N:((p:Int)<(s.size:Int)):=by omega
    have h:Hid (R=acc++[(s.data.toList.drop p).take (s.size-p)]):=by
     have h1:=a.out;rw[AR,if_neg (fun e=>by have:=congrArg List.length e;simp at this;omega)]at h1;exact h1
    have r:=Ab (Je s p s.size);clear a y;go_wp2_with (at_builtin;refine bv _ rfl _ _ 52 rfl w.heap.size 9 i0 (bh ⟨#[]⟩) 1 16 underlying52 A B C D rfl (by decide) _ acc.length _ rfl (c.alloc _) ⟨wr.heap.size,0,aF⟩ 1 1 [bh (s.extract p s.size)] rfl rfl (Kx wr _ 9) ?c2 (by decide) ?c3 ?c4 ?c5 (wr.heap.size+1) (by simp) ?_)
    case c2=>first|rfl|(intro u j;simp at j;subst j;rfl)
    case c3=>unfold maxLen;omega
    case c4=>omega
    case c5=>first|omega|(simp;omega)
    intro g n w2 l t L M;have v:Below w.heap.size w w2:=(d.alloc F _).grown t (by simp;omega) (fun q x=>(c.lt q x).1);have z:Hid (Qs R w (bz (bi (al ⟨g,0,aF⟩) (acc.length+1) n)) w2):=Ab (by
     have e:=h.out;have H:R.length=acc.length+1:=by rw[e];simp
     refine⟨al ⟨g,0,aF⟩,n,by rw[H],?_,v⟩;rw[H,e,DI];rw[r.out]at l;exact l)
    go_wp2;go_ret;exact z.out
   ·obtain rfl:p=s.size:=by omega
    have N:¬((s.size:Int)<(s.size:Int)):=by omega
    have z:Hid (Qs R w (bz (bi ao acc.length b)) wr):=Ab (by
     have e:=a.out;rw[bA,a5,AR,if_pos rfl,aQ]at e;subst e;exact⟨ao,b,rfl,c,d⟩)
    clear a y;go_wp2;go_ret;exact z.out
variable {k:Nat}
theorem MX{a:PLine}:lineFault R (BG R es) a=lineFault R es a:=Ma (Cb R es) a
theorem FF(bs:List PBlock):(AO bs).length=bs.length:=by
 rw[(DK bs).length_eq,a2]
theorem Abw{l:List α}(h:k<l.length):l.drop k=l[k]::l.drop (k+1):=List.drop_eq_getElem_cons h
theorem Adt{done:List PBlock}{l:List UInt8}{rest:List (List UInt8)}(h:cutL l=aF):AQ n done op (l::rest)=.bad (n+1) 1:=by rw[AQ,h]
theorem Zt{done:List PBlock}{l:List UInt8}{rest:List (List UInt8)}(h:cutL l=al []):AQ n done op (l::rest)=AQ (n+1) done op rest:=by rw[AQ,h]
theorem Zu{done:List PBlock}{l w:List UInt8}{rest:List (List UInt8)}(h:cutL l=al (w::ws))(a:(Be done op w ws).1≠0):AQ n done op (l::rest)=.bad (n+1) (Be done op w ws).1:=by rw[AQ,h];exact if_pos a
theorem Abx{done:List PBlock}{l w:List UInt8}{rest:List (List UInt8)}(h:cutL l=al (w::ws))(a:(Be done op w ws).1=0):AQ n done op (l::rest)=AQ (n+1) (Be done op w ws).2.1 (Be done op w ws).2.2 rest:=by rw[AQ,h];exact if_neg (fun e=>e a)
variable {A:List PBlock}
def Fj(key:ByteArray)(a:PLine):Bool:=!(a.key.toList==key.toList)
theorem GF{key:ByteArray}{a:PLine}:Fj key a=true↔a.key≠key:=by
 unfold Fj;rw[bp,beq_eq_false_iff_ne];exact⟨fun h e=>h (by rw[e]),fun h e=>h (toList_inj e)⟩
def RH(R:List Plain)(ls:List PLine)(key:ByteArray)(xs:List PLine):List PLine:=xs.foldl (fun acc a=>Ca (lineLt R) a acc) (ls.filter (Fj key))
def TU(A:List PBlock)(kind name:ByteArray):List PBlock:=A.filter (fun b=>!AB kind name b)
def Pc(A:List PBlock)(kind name:ByteArray)(ls:List PLine):List PBlock:=A.map (fun b=>if AB kind name b=true then ⟨b.aa,b.name,ls⟩ else b)
open Classical in
noncomputable def N4(A:List PBlock)(c:PChange):Option (List PBlock):=match IP A c.aa c.name with
 | none=>if c.what=2/\c.key=⟨#[]⟩/\AA (Ca blockLt ⟨c.aa,c.name,c.ac⟩ A) then al (Ca blockLt ⟨c.aa,c.name,c.ac⟩ A) else aF
 | some b=>if c.what=1/\c.key=⟨#[]⟩/\c.ac=[] then al (TU A c.aa c.name)
  else if c.what=3/\c.ac≠[]/\(∀a∈c.ac,a.key=c.key)/\AG (rulesOf b.aa) (RH (rulesOf b.aa) b.ac c.key c.ac) then al (Pc A c.aa c.name (RH (rulesOf b.aa) b.ac c.key c.ac))
  else if c.what=4/\c.ac=[]/\hasK b.ac c.key=true then al (Pc A c.aa c.name (b.ac.filter (Fj c.key)))
  else aF
theorem Hs{D T:List PBlock}{b:PBlock}(h:VY (D++b::T))(a:AB kind name b=true):(∀d∈D,AB kind name d=false)/\∀t∈T,AB kind name t=false:=by
 obtain⟨rfl,rfl⟩:=Ce.1 a;unfold VY at h;rw[aC,ai]at h;obtain⟨_,⟨c,_⟩,f⟩:=h;refine⟨fun d hd=>?_,fun t g=>?_⟩
 ·cases e:AB b.aa b.name d
  ·rfl
  ·exact absurd (Ce.1 e) (f d hd b (by simp))
 ·cases e:AB b.aa b.name t
  ·rfl
  ·have:=Ce.1 e;exact absurd ⟨this.1.symm,this.2.symm⟩ (c t g)
theorem TV{D T:List PBlock}{b:PBlock}(h:AA (D++b::T))(a:AB kind name b=true):TU (D++b::T) kind name=D++T:=by
 have h1:=Hs h.heads a;unfold TU;rw[List.filter_append,aN (by simp[a])];rw[bg.2 (fun d hd=>by simp[h1.1 d hd]),bg.2 (fun d hd=>by simp[h1.2 d hd])]
theorem KU{D T:List PBlock}{b:PBlock}(h:AA (D++b::T))(a:AB kind name b=true)(ls:List PLine):Pc (D++b::T) kind name ls=D++⟨b.aa,b.name,ls⟩::T:=by
 have h1:=Hs h.heads a;unfold Pc;rw[List.map_append,a7,if_pos a];congr 1
 ·exact(bf (fun d hd=>by rw[h1.1 d hd];rfl)).trans (bC _)
 ·congr 1;exact(bf (fun d hd=>by rw[h1.2 d hd];rfl)).trans (bC _)
theorem IW{D T:List PBlock}{b:PBlock}(h:AA (D++b::T))(a:AB kind name b=true):IP (D++b::T) kind name=al b:=by
 have h1:=Ce.1 a;rw[<-h1.1,<-h1.2];exact Lu h.heads (by simp)
theorem N5{D T:List PBlock}{b:PBlock}(h:AA (D++b::T)):AA (D++T):=by
 have a:(D++T).Sublist (D++b::T):=bH (bF _) (List.sublist_cons_self _ _);exact⟨aX a.length_le h.1,fun x c=>h.2.1 x (a.subset c),h.2.2.sublist a⟩
theorem EJ{a b a' b':PBlock}(h1:a'.aa=a.aa)(c:a'.name=a.name)(d:b'.aa=b.aa)(e:b'.name=b.name):blockLt a' b'=blockLt a b:=by
 unfold blockLt;rw[h1,c,d,e]
theorem N6{D T:List PBlock}{b b':PBlock}(h:AA (D++b::T))(f:b'.aa=b.aa)(g:b'.name=b.name):AA (D++b'::T)↔AG (rulesOf b'.aa) b'.ac:=by
 refine⟨fun k=>(k.2.1 b' (by simp)).2.2,fun i=>⟨by have:=h.1;simpa using this,fun x a=>?_,?_⟩⟩
 ·rcases ak.1 a with a|a
  ·exact h.2.1 x (aI _ a)
  ·rcases ag.1 a with rfl|a
   ·have:=h.2.1 b (by simp);rw[f]at i⊢;rw[g];exact⟨this.1,this.2.1,i⟩
   ·exact h.2.1 x (by simp[a])
 ·have c:=h.2.2;rw[aC,ai]at c⊢;refine⟨c.1,⟨fun t e=>?_,c.2.1.2⟩,fun d hd t e=>?_⟩
  ·rw[EJ f g rfl rfl];exact c.2.1.1 t e
  ·rcases ag.1 e with rfl|e
   ·rw[EJ rfl rfl f g];exact c.2.2 d hd b (by simp)
   ·exact c.2.2 d hd t (by simp[e])
theorem XW{b:PBlock}(h:AA A):(IP A b.aa b.name=aF/\AA (Ca blockLt b A))↔headFault A b.aa b.name=0/\AG (rulesOf b.aa) b.ac:=by
 have d:=DD blockLt b A;refine⟨fun⟨h1,e⟩=>?_,fun⟨h1,e⟩=>?_⟩
 ·have f:=e.2.1 b (d.mem_iff.2 (by simp));have j:=e.1;rw[d.length_eq,ay]at j;exact⟨BS.2 ⟨f.1,f.2.1,fun o k=>OM.1 h1 o k,by omega⟩,f.2.2⟩
 ·have g:=BS.1 h1;refine⟨OM.2 g.2.2.1,?_,fun x i=>?_,?_⟩
  ·rw[d.length_eq,ay];omega
  ·rcases ag.1 (d.mem_iff.1 i) with rfl|i
   ·exact⟨g.1,g.2.1,e⟩
   ·exact h.2.1 x i
  ·exact DQ (fun a b c=>Cr a b c) b A h.2.2 (fun y l m=>Kz l h1 m)
theorem Acs{d l:List PLine}(h:AG R d)(f:d.Perm l):BA R l:=by
 have r:l.Nodup:=f.nodup_iff.1 (h.2.1.imp (fun {_ b} m e=>by rw[e]at m;exact Df R b m));intro i a g;have s:a∈l:=aT g;have n:=f.mem_iff.2 s;have t:=h.2.2 a n;have y:keyN l a.key=keyN d a.key:=(JU f a.key).symm;have u:=FK g a.key;rw[if_pos rfl]at u;have z:=Hv l (i+1) a.key;refine BD.2 ⟨h.1 a n,fun o p k=>⟨?_,?_⟩,by omega⟩
 ·rcases t.1 with h1|h1
  ·exact h1
  ·exfalso;have A:0<keyN (l.take i) a.key:=by
    unfold keyN;rw[List.countP_pos_iff];exact⟨o,p,by rw[k];simp⟩
   omega
 ·intro q;have v:o=a:=by
   obtain⟨ok,B⟩:=o;obtain⟨C,D⟩:=a;simp only at k q;rw[k,q]
  subst v;obtain⟨j,c⟩:=List.mem_iff_getElem?.1 p;have w:j<i:=by
   have:=(ah.1 c).1;rw[aZ]at this;omega
  rw[List.getElem?_take,if_pos w]at c;have x:=(ah.1 c).1;exact absurd ((List.getElem?_inj x r).1 (c.trans g.symm)) (by omega)
theorem Acu{ls:List PLine}(h:AG R ls):BG R ls=ls :=
 SP (FM h.good) h (fun _=>(Cb R ls).mem_iff)
theorem Pd{ls:List PLine}(h:AG R ls)(key:ByteArray)(xs:List PLine):RH R ls key xs=BG R (ls.filter (Fj key)++xs):=by
 have h1:=Acu (h.sub (ax (p:=Fj key)));unfold RH;rw[show BG R (ls.filter (Fj key)++xs)=xs.foldl (fun acc a=>Ca (lineLt R) a acc) (BG R (ls.filter (Fj key))) by unfold BG;rw[bo],h1]
theorem XX{ls:List PLine}(h:AG R ls){key:ByteArray}{xs:List PLine}:AG R (RH R ls key xs)↔BA R (ls.filter (Fj key)++xs):=by
 rw[Pd h];exact⟨fun k=>Acs k (Cb R _),FM⟩
theorem XZ{c:PChange}{b:PBlock}(a:c.what=1)(d:IP A c.aa c.name=al b)(e:c.key=⟨#[]⟩)(f:c.ac=[]):N4 A c=al (TU A c.aa c.name):=by
 unfold N4;rw[d];exact if_pos ⟨a,e,f⟩
theorem Aah{c:PChange}(a:c.what=2)(b:IP A c.aa c.name=aF)(d:c.key=⟨#[]⟩)(e:AA (Ca blockLt ⟨c.aa,c.name,c.ac⟩ A)):N4 A c=al (Ca blockLt ⟨c.aa,c.name,c.ac⟩ A):=by
 unfold N4;rw[b];exact if_pos ⟨a,d,e⟩
theorem Aai{c:PChange}{b:PBlock}(d:c.what=3)(e:IP A c.aa c.name=al b)(h1:c.ac≠[])(f:∀a∈c.ac,a.key=c.key)(g:AG (rulesOf b.aa) (RH (rulesOf b.aa) b.ac c.key c.ac)):N4 A c=al (Pc A c.aa c.name (RH (rulesOf b.aa) b.ac c.key c.ac)):=by
 unfold N4;rw[e];dsimp only;rw[if_neg (fun k=>by have:=k.1;omega)];exact if_pos ⟨d,h1,f,g⟩
theorem VA{c:PChange}{b:PBlock}(a:c.what=4)(d:IP A c.aa c.name=al b)(h1:c.ac=[])(e:hasK b.ac c.key=true):N4 A c=al (Pc A c.aa c.name (b.ac.filter (Fj c.key))):=by
 unfold N4;rw[d];dsimp only;rw[if_neg (fun k=>by have:=k.1;omega),if_neg (fun k=>by have:=k.1;omega)];exact if_pos ⟨a,h1,e⟩
noncomputable def F1:List PBlock->List PChange->Option (List PBlock)
 | A,[]=>al A
 | A,c::cs=>(N4 A c).bind fun A'=>F1 A' cs
theorem Fk:∀ {cs ds:List PChange} {A A' a:List PBlock},F1 A cs=al A'->F1 A' ds=al a->F1 A (cs++ds)=al a
 | [],ds,A,A',a,h,k=>by cases h;exact k
 | c::cs,ds,A,A',a,h,k=>by
  rw[aO];unfold F1 at h⊢;cases e:N4 A c
  ·rw[e]at h;cases h
  ·rw[e]at h;exact Fk h k
theorem Ig{A':List PBlock}{c:PChange}(h:N4 A c=al A'):F1 A [c]=al A':=by
 unfold F1;rw[h];rfl
theorem IZ(g:PBlock->Bool):∀(T D:List PBlock),AA (D++T)->F1 (D++T) ((T.filter g).map DT)=al (D++T.filter (fun t=>!g t))
 | [],D,h=>by simp[F1]
 | t::T,D,h=>by
  cases a:g t
  ·have:=IZ g T (D++[t]) (by rw[ae];exact h);rw[ae,ae]at this;rw[aN (by simp[a]),ba (by simp[a])];exact this
  ·rw[ba a,aN (by simp[a]),a7];have b:AB t.aa t.name t=true:=Ce.2 ⟨rfl,rfl⟩;refine Fk (cs:=[DT t]) (Ig (XZ (c:=DT t) rfl (IW h b) rfl rfl)) ?_;rw[show TU (D++t::T) (DT t).aa (DT t).name=D++T from TV h b];exact IZ g T D (N5 h)
theorem Aaj{key:ByteArray}{x y l:List PLine}{D T:List PBlock}(h:AA (D++⟨kind,name,l⟩::T))(q:AG (rulesOf kind) y)(m:∀a:PLine,a.key=key->(a∈l↔a∈x)):
  ∃g,F1 (D++⟨kind,name,l⟩::T) (Dx kind name x y key)=al (D++⟨kind,name,g⟩::T)/\AG (rulesOf kind) g/\∀a:PLine,(a.key=key->(a∈g↔a∈y))/\(a.key≠key->(a∈g↔a∈l)):=by
 have f:AG (rulesOf kind) l:=(h.2.1 ⟨kind,name,l⟩ (by simp)).2.2;have i:AB kind name (⟨kind,name,l⟩:PBlock)=true:=Ce.2 ⟨rfl,rfl⟩;unfold Dx;by_cases e:GH x key=GH y key
 ·rw[if_pos e];refine⟨l,rfl,f,fun a=>⟨fun b=>?_,fun _=>bE⟩⟩;rw[m a b];have h1:=IJ (ls:=x) (k:=key) (a:=a);have r:=IJ (ls:=y) (k:=key) (a:=a);rw[e,r]at h1;exact⟨fun k=>(h1.2 ⟨k,b⟩).1,fun k=>(h1.1 ⟨k,b⟩).1⟩
 ·rw[if_neg e];by_cases d:(GH y key).isEmpty=true
  ·rw[if_pos d,a0.1 d];have j:hasK l key=true:=by
    cases j:hasK l key
    ·exfalso;apply e;rw[a0.1 d];refine List.eq_nil_iff_forall_not_mem.2 (fun a b=>?_);have:=IJ.1 b;exact Mf.1 j a ((m a this.2).2 this.1) this.2
    ·rfl
   refine⟨l.filter (Fj key),Ig ((VA (c:=⟨4,kind,name,key,[]⟩) rfl (IW h i) rfl j).trans (congrArg al (KU h i _))),f.sub ax,fun a=>⟨fun b=>⟨fun k=>absurd b (GF.1 (au.1 k).2),fun k=>?_⟩,fun b=>⟨fun k=>(au.1 k).1,fun k=>au.2 ⟨k,GF.2 b⟩⟩⟩⟩;have:=IJ.2 ⟨k,b⟩;rw[a0.1 d]at this;cases this
  ·rw[if_neg d];have n:AG (rulesOf kind) (RH (rulesOf kind) l key (GH y key)):=(XX f).2 (Xo (f.sub ax).good _ (q.sub ax).good (fun a b o s k=>GF.1 (au.1 s).2 (k.trans (IJ.1 b).2)));have p:∀a,a∈RH (rulesOf kind) l key (GH y key)↔(a∈l/\a.key≠key)\/(a∈y/\a.key=key):=fun a=>by
    rw[Pd f,(Cb _ _).mem_iff,ak,au,GF,IJ]
   refine⟨_,Ig ((Aai (c:=⟨3,kind,name,key,GH y key⟩) rfl (IW h i) (fun k=>d (by rw[show GH y key=[] from k];rfl)) (fun a b=>(IJ.1 b).2) n).trans (congrArg al (KU h i _))),n,fun a=>⟨fun b=>?_,fun b=>?_⟩⟩
   ·rw[p a];simp[b]
   ·rw[p a];simp[b]
theorem N7{kind name:ByteArray}{x y:List PLine}{D T:List PBlock}(g:AG (rulesOf kind) y):∀(Q P:List Plain) (l:List PLine),P++Q=rulesOf kind->AA (D++⟨kind,name,l⟩::T)->(∀a:PLine,((∃p∈P,p.1=a.key)->(a∈l↔a∈y))/\((∀p∈P,p.1≠a.key)->(a∈l↔a∈x))) ->
  F1 (D++⟨kind,name,l⟩::T) (Q.flatMap fun p=>Dx kind name x y p.1)=al (D++⟨kind,name,y⟩::T)
 | [],P,l,d,h,f=>by
  rw[aQ]at d;have k:AG (rulesOf kind) l:=(h.2.1 ⟨kind,name,l⟩ (by simp)).2.2;have:l=y:=SP k g fun a=>⟨fun b=>((f a).1 (by rw[d];exact k.rule b)).1 b,fun b=>((f a).1 (by rw[d];exact g.rule b)).2 b⟩
  rw[this];rfl
 | p::Q,P,l,d,h,f=>by
  have n:∀q∈P,q.1≠p.1:=fun q c=>by
   have:=CB kind;rw[<-d]at this;exact(aC.1 this).2.2 q c p (by simp)
  obtain⟨m,o,r,i⟩:=Aaj (x:=x) (key:=p.1) h g (fun a b=>(f a).2 (fun q c=>by rw[b];exact n q c));rw[av];refine Fk o (N7 g Q (P++[p]) m (by rw[ae];exact d) ((N6 (b':=⟨kind,name,m⟩) h rfl rfl).2 r) (fun a=>⟨fun b=>?_,fun b=>?_⟩))
  ·by_cases e:a.key=p.1
   ·exact(i a).1 e
   ·rw[(i a).2 e];obtain⟨q,c,j⟩:=b;rcases ak.1 c with c|c
    ·exact(f a).1 ⟨q,c,j⟩
    ·rw[aB.1 c]at j;exact absurd j.symm e
  ·rw[(i a).2 (fun e=>b p (by simp) e.symm)];exact(f a).2 (fun q c=>b q (aI _ c))
def Ht(A:List PBlock)(b:PBlock):Option PBlock:=IP A b.aa b.name
theorem Aak{D T:List PBlock}(i:AA A)(h:AA (D++T)):AA (D++T.filterMap (Ht A)):=by
 have m:=List.length_filterMap_le (Ht A) T;have h1:=h.1;rw[aq]at h1;have f:=aC.1 h.2.2;refine⟨by rw[aq];omega,fun b c=>?_,aC.2 ⟨f.1,?_,fun d hd t j=>?_⟩⟩
 ·rcases ak.1 c with c|c
  ·exact h.2.1 b (aI _ c)
  ·obtain⟨t,_,e⟩:=aU.1 c;exact i.2.1 b (Ek e).1
 ·rw[List.pairwise_filterMap];refine f.2.1.imp (fun {a b} k a' ea b' l=>?_);have g:=Ek ea;have c:=Ek l;rw[EJ g.2.1 g.2.2 c.2.1 c.2.2];exact k
 ·obtain⟨b,c,e⟩:=aU.1 j;have:=Ek e;rw[EJ rfl rfl this.2.1 this.2.2];exact f.2.2 d hd b c
theorem N8{A:List PBlock}(i:AA A):∀(T D:List PBlock),AA (D++T)->F1 (D++T.filterMap (Ht A)) (T.flatMap (CC A))=al (D++T)
 | [],D,h=>by simp[F1]
 | y::T,D,h=>by
  have h1:AA (D++y::T.filterMap (Ht A)):=by
   have:=Aak (A:=A) (D:=D++[y]) (T:=T) i (by rw[ae];exact h);rw[ae]at this;exact this
  have l:=N8 i T (D++[y]) (by rw[ae];exact h);rw[ae,ae]at l;rw[av];refine Fk (A':=D++y::T.filterMap (Ht A)) ?_ l;unfold CC;cases e:A.find? (AB y.aa y.name) with
  | none =>
   rw[List.filterMap_cons_none (show Ht A y=aF from e)];have f:=Hs h1.heads (Ce.2 ⟨rfl,rfl⟩);have r:headFault (D++T.filterMap (Ht A)) y.aa y.name=0:=by
    have m:=h1.2.1 y (by simp);have s:=h1.1;rw[aq,ay]at s;refine BS.2 ⟨m.1,m.2.1,fun o d k=>?_,by rw[aq];omega⟩;have:=Ce.2 k;rcases ak.1 d with d|d
    ·rw[f.1 o d]at this;cases this
    ·rw[f.2 o d]at this;cases this
   obtain⟨g,n⟩:=(XW (b:=y) (N5 h1)).2 ⟨r,(h1.2.1 y (by simp)).2.2⟩;refine Ig ((Aah (c:=Mh y) rfl g rfl n).trans (congrArg al (ON n.2.2 h1.2.2 (fun a=>?_))));rw[show (⟨(Mh y).aa,(Mh y).name,(Mh y).ac⟩:PBlock)=y from rfl,(DD blockLt y _).mem_iff];simp only[ag,ak];exact⟨fun k=>by rcases k with k|k|k <;> simp[k],fun k=>by rcases k with k|k|k <;> simp[k]⟩
  | some x =>
   rw[List.filterMap_cons_some (show Ht A y=al x from e)];obtain⟨t,j,q⟩:=Ek (show IP A y.aa y.name=al x from e);have f:AA (D++⟨x.aa,x.name,x.ac⟩::T.filterMap (Ht A)):=(N6 (b':=x) h1 j q).2 (i.2.1 x t).2.2;have g:=N7 (kind:=x.aa) (name:=x.name) (x:=x.ac) (y:=y.ac) (by rw[j];exact(h.2.1 y (by simp)).2.2) (rulesOf x.aa) [] x.ac rfl f (fun a=>⟨fun⟨p,u,_⟩=>(by cases u),fun _=>bE⟩);rw[show (⟨x.aa,x.name,y.ac⟩:PBlock)=y by rw[j,q]]at g;exact g
theorem VB{B:List PBlock}(d:AA A)(f:AA B):F1 A (diffS A B)=al B:=by
 unfold diffS;rw[if_pos ⟨AS.2 d,AS.2 f⟩];have h1:=IZ (fun a=>(B.find? (AB a.aa a.name)).isNone) A [] d;have i:=N8 d B [] f;refine Fk h1 ?_;rw[show []++A.filter (fun a=>!(B.find? (AB a.aa a.name)).isNone)=[]++B.filterMap (Ht A) from ?_]
 ·exact i
 ·refine ON (d.2.2.sublist ax) (Aak (D:=[]) d f).2.2 (fun a=>?_);simp only[bt,au,aU];refine⟨fun⟨h,g⟩=>?_,fun⟨b,h,g⟩=>?_⟩
  ·cases e:B.find? (AB a.aa a.name) with
   | none=>rw[e]at g;cases g
   | some b =>
    have c:=Ek (show IP B a.aa a.name=al b from e);refine⟨b,c.1,?_⟩;unfold Ht;rw[c.2.1,c.2.2];exact Lu d.heads h
  ·have c:=Ek g;refine⟨c.1,?_⟩;rw[c.2.1,c.2.2,show B.find? (AB b.aa b.name)=al b from Lu f.heads h];rfl
theorem Ya(c:AA A):diffS A A=[]:=by
 unfold diffS;rw[if_pos ⟨AS.2 c,AS.2 c⟩];have h1:∀a∈A,A.find? (AB a.aa a.name)=al a:=fun a b=>Lu c.heads b
 have d:goneS A A=[]:=by
  unfold goneS;rw[List.filter_eq_nil_iff.2 (fun a b=>by rw[h1 a b];simp)];rfl
 rw[d,bt,a9];intro a b;unfold CC;rw[h1 a b];refine a9.2 (fun p _=>?_);unfold Dx;exact if_pos rfl
theorem Aal{B:List PBlock}(a:AA A)(b:AA B):diffS A B=[]↔A=B :=
 ⟨fun h=>by have:=VB a b;rw[h]at this;exact aL this,fun h=>by rw[<-h];exact Ya a⟩
