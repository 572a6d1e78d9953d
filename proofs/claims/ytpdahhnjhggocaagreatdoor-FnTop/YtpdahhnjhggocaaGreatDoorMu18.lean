import Derived.Test.YtpdahhnjhggocaaGreatDoorMu16
import Derived.Shelf.Strings.Prefix
import Derived.Shelf.Strings.Count
import Derived.Shelf.SlSortCmp.WholeK
import Derived.Shelf.SlSortCmp.NoneTotal
import Derived.Sort.OwnSorted
open Go.Proofs.Tryz
open Go.Value renaming slice->aA,string->aB,pointer->aN,tuple->aW,slice->bK,agg->bN
open Option renaming some->aC,none->aG,map_eq_some_iff->aR
open Go.Obj renaming cells->aD
open List renaming getElem?_cons_zero->aE,getElem?_toArray->aF,length_map->aL,map_cons->aM,length_append->aO,getElem?_cons_succ->aQ,mem_map_of_mem->aT,getElem?_map->aU,flatMap_append->aX,flatMap_singleton->aY,map_append->aZ,getElem?_eq_none->bA,mem_map->bG,map_nil->bH,append_assoc->bI,not_mem_nil->bL,map_toArray->bM,mem_cons->bS,getElem?_take_of_lt->bT,length_eq_zero_iff->bW,length_filter_le->bZ,mem_singleton->cE,flatMap_cons->cQ,ext_getElem?->cR,take_length->cS,cons_append->cT,mem_append->de,append_nil->df,map_map->dO
open Go.Ending renaming returned->aH
open Go.World renaming block_lt_of_cell?->aI,size_alloc->cF
open Nat renaming le_refl->aJ,le_trans->aV
open Go.RowKit.Below renaming refl->aK
open Array renaming getElem?_toList->aP,getElem?_eq_getElem->aS,getElem?_eq_some_iff->bQ,getElem?_modify->bY,length_toList->cB,extract_size->cC
open Go.Act renaming eval->bB
open Go.Sort renaming putCells->bC,flatK->bE,size_flatK->bO,putRowK->bX,heap_grow_old->cD,mapBlock->dD,putRow->dV,ahead->dW
open Go.Proofs.SlLaysF0 renaming n6->bD
open Go.Oper renaming wp->bF
open List.Perm renaming cons->bJ
open Go.World.grownBy renaming refl->bP
open Go.Proofs.AnyF renaming slices_SortFunc_none->bR
open Go.ByteArray renaming toList_eq->bU
open Subtype renaming val->bV
open List.cons renaming injEq->cA
open Go.Proofs.Tryz renaming zeroValue313->cG,zeroValue302->cH,zeroValue298->cI,zeroValue279->cJ,zeroValue277->cK,zeroValue271->cL,zeroValue270->cM,zeroValue224->cN,zeroValue215->cO,zeroValue179->cP,zeroValue9->cW,zeroValue5->cX,zeroValue4->cY,zeroValue3->cZ,zeroValue0->dd,sizeOf313->dh,sizeOf302->di,sizeOf298->dj,sizeOf279->dk,sizeOf277->dl,sizeOf271->dm,sizeOf270->dn,sizeOf224->dp,sizeOf215->dq,sizeOf179->dr,isAgg313->dt,isAgg302->du,isAgg298->dv,isAgg279->dw,isAgg277->dx,isAgg271->dy,isAgg270->dz,isAgg224->dA,isAgg215->dB,isAgg179->dC,sizeOf9->dE,sizeOf5->dF,sizeOf4->dG,sizeOf3->dH,sizeOf0->dI,func235->dJ,func234->dK,func201->dL,func200->dM,func146->dN,isAgg9->dQ,isAgg5->dR,isAgg4->dS,isAgg3->dT,isAgg0->dU
open Go.Shelf renaming Ren->cU
open Bool renaming not_eq_true->cV,eq_iff_iff->dg
open Go.World.ownsRow renaming lt->dP
namespace Go.Proofs.YtpdahhnjhggocaaGreatDoor
open Go.RowKit
set_option maxHeartbeats 16000000
set_option maxRecDepth 100000
theorem V3(l:List UInt8):[10].isSuffixOf l=decide (l.getLast?=aC 10):=by
 rw[dg,List.isSuffixOf_iff_suffix,decide_eq_true_iff];constructor
 ·rintro⟨t,rfl⟩;simp
 ·intro h;obtain⟨t,rfl⟩:=List.getLast?_eq_some_iff.1 h;exact⟨t,rfl⟩
def Lh(l:List UInt8):Nat:=if l≠[]/\l.getLast?≠aC 10 then 1 else 0
theorem Gk:∀(l acc:List UInt8),(10:UInt8) ∉ acc->(Cd acc l).length=l.count 10+Lh (acc++l)
 | [],acc,b=>by
  unfold Cd Lh;rw[df];by_cases h:acc=[]
  ·simp[h]
  ·have d:acc.getLast?≠aC 10:=fun e=>b (List.mem_of_getLast? e)
   rw[if_neg h,if_pos ⟨h,d⟩];simp
 | c::l,acc,b=>by
  unfold Cd;by_cases a:c=10
  ·subst a;rw[if_pos rfl,List.length_cons,Gk l [] (by simp),List.count_cons_self,List.nil_append];have:Lh l=Lh (acc++10::l):=by
    unfold Lh;cases l with
    | nil=>simp
    | cons x l=>simp[List.getLast?_append,List.getLast?_cons_cons]
   omega
  ·rw[if_neg a,Gk l (acc++[c]) (by simp[b];exact fun e=>a e.symm),List.count_cons_of_ne a,bI];rfl
theorem OG(l:List UInt8):(A9 l).length=l.count 10+Lh l:=by
 unfold A9;rw[Gk l [] (by simp)];rfl
open Go.Shelf in
shelf_lay Lays.n138 Nm 138 at Tryz as Tryz.strCount
open Go.Shelf in
shelf_lay Lays.n100 Nm 100 at Tryz as Tryz.strSuffix
theorem T8(s:ByteArray)(w:World):Calls prog 138 #[aB s,aB ⟨#[10]⟩] w fun e w'=>e=aH (.int .i64 (s.data.toList.count 10:Nat))/\w'=w:=Any.strings_Count_one Tryz.strCount s 10 w
theorem QA(s:ByteArray)(w:World)(a:s.size<=9223372036854775807):Calls prog 139 #[aB s,aB ⟨#[10]⟩] w fun e w'=>e=aH (.bool (decide (s.data.toList.getLast?=aC 10)))/\w'=w:=by
 have h:=Any.strings_HasSuffix Tryz.strSuffix s ⟨#[10]⟩ w a;rw[<-V3];exact h
theorem V4(s:ByteArray)(o:Nat)(a:Lh s.data.toList=o):(decide ((20000:Int)<(s.size:Int)) || decide ((400:Int)<((s.data.toList.count 10+o:Nat):Int)))=decide (Bi s.data.toList):=by
 have e:s.data.toList.length=s.size:=by simp
 rw[dg,Bool.or_eq_true,decide_eq_true_iff,decide_eq_true_iff,decide_eq_true_iff];unfold Bi;rw[OG,a,e];omega
theorem Hu(s:ByteArray)(w:World)(v:s.size<=4611686018427387904):Calls prog 70 #[aB s] w fun e w'=>e=aH (.bool (decide (Bi s.data.toList)))/\w'=w:=by
 have x:s.data.toList.count 10<=s.size:=by have:=List.count_le_length (a:=(10:UInt8)) (l:=s.data.toList);simpa using this
 have f:=fun W=>T8 s W
 have g:=fun W=>QA s W (by omega)
 have j:=Aa (V4 s);generalize decide (Bi s.data.toList)=t at *;generalize s.data.toList.count 10=n at *;have y:(n:Int)<=4611686018427387904:=by omega
 by_cases c:s.toList=[]
 ·have h1:(s.toList==[])=true:=by rw[c];rfl
  have d:s.data.toList=[]:=by rw[<-bU];exact c
  have u:s.size=0:=by
   have:s.data.toList.length=s.size:=by simp
   rw[d]at this;simpa using this.symm
  have p:=j.out 0 (by rw[d];rfl);rw[Nat.add_zero]at p;have b:=Aa p;clear j p c d g;go_enter func70,ntmps70;go_wp2_with (go_at_call 138;refine(f _).mono ?_;rintro e w ⟨rfl,rfl⟩)
  go_ret;have:=b.out;rw[u]at this;refine⟨?_,rfl⟩;rw[<-this];simp
 ·have h1:(s.toList==[])=false:=by simpa using c
  have d:s.data.toList≠[]:=by rw[<-bU];exact c
  clear c;have r:∀(L:Bool) (o:Nat),decide (s.data.toList.getLast?=aC 10)=L->(if L then 0 else 1)=o->(decide ((20000:Int)<(s.size:Int)) || decide ((400:Int)<((n+o:Nat):Int)))=t:=by
   rintro L o k rfl;refine j.out _ ?_;unfold Lh;cases L with
   | true=>rw[decide_eq_true_iff]at k;rw[if_neg (fun h=>h.2 k)];rfl
   | false=>rw[decide_eq_false_iff_not]at k;rw[if_pos ⟨d,k⟩];rfl
  generalize decide (s.data.toList.getLast?=aC 10)=L at *;have m:=Aa (fun o h=>r L o rfl h);clear r j d;cases L with
  | true =>
   have b:=Aa (m.out 0 rfl);clear m;by_cases i:(20000:Int)<(s.size:Int)
   ·go_enter func70,ntmps70;go_wp2_with (first | (go_at_call 138;refine(f _).mono ?_;rintro e w ⟨rfl,rfl⟩) | (go_at_call 139;refine(g _).mono ?_;rintro e w ⟨rfl,rfl⟩))
    go_ret;refine⟨?_,rfl⟩;rw[<-b.out];simp[i]
   ·have q:decide ((20000:Int)<(s.size:Int))=false:=decide_eq_false i;go_enter func70,ntmps70;go_wp2_with (first | (go_at_call 138;refine(f _).mono ?_;rintro e w ⟨rfl,rfl⟩) | (go_at_call 139;refine(g _).mono ?_;rintro e w ⟨rfl,rfl⟩))
    go_ret;refine⟨?_,rfl⟩;rw[<-b.out,q];simp
  | false =>
   have b:=Aa (m.out 1 rfl);clear m;have z:IntKind.i64.wrap ((n:Int)+1)=(n:Int)+1:=by rw[IntKind.wrap_i64];omega
   by_cases i:(20000:Int)<(s.size:Int)
   ·go_enter func70,ntmps70;go_wp2_with (first | (go_at_call 138;refine(f _).mono ?_;rintro e w ⟨rfl,rfl⟩) | (go_at_call 139;refine(g _).mono ?_;rintro e w ⟨rfl,rfl⟩))
    go_ret;refine⟨?_,rfl⟩;rw[<-b.out];simp[i]
   ·have q:decide ((20000:Int)<(s.size:Int))=false:=decide_eq_false i;go_enter func70,ntmps70;go_wp2_with (first | (go_at_call 138;refine(f _).mono ?_;rintro e w ⟨rfl,rfl⟩) | (go_at_call 139;refine(g _).mono ?_;rintro e w ⟨rfl,rfl⟩))
    go_ret;refine⟨?_,rfl⟩;rw[<-b.out,q];simp
section
open Go.Shelf
def laysSortL_ren:cU:=⟨fun | 6=>74 | 15=>146 | 14=>145 | 28=>200 | 29=>201 | 20=>192 | 21=>193 | 22=>194 | 23=>195 | 24=>196 | 25=>197 | 26=>198 | 27=>199 | 46=>233 | 47=>234 | 48=>235 | 49=>236 | 50=>237 | 57=>258 | n=>n,fun | 22=>44 | 24=>115 | 25=>116 | 3=>3 | 39=>215 | 0=>0 | 53=>277 | 55=>279 | 4=>4 | 46=>271 | 45=>270 | 50=>179 | 5=>5 | 9=>9 | 66=>298 | 70=>302 | 76=>313 | 77=>224 | n=>n,fun | n=>n⟩
theorem Y3:bD prog laysSortL_ren:={
 mixed:=by kernel_rfl
 f6:=⟨Tryz.f74.name,by decide,Tryz.func74.trans (congrArg aC (by kernel_rfl))⟩
 f14:=⟨Tryz.f145.name,by decide,Tryz.func145.trans (congrArg aC (by kernel_rfl))⟩
 f15:=dN.trans (congrArg aC (by kernel_rfl))
 f20:=⟨Tryz.f192.name,by decide,Tryz.func192.trans (congrArg aC (by kernel_rfl))⟩
 f21:=⟨Tryz.f193.name,by decide,Tryz.func193.trans (congrArg aC (by kernel_rfl))⟩
 f22:=⟨Tryz.f194.name,by decide,Tryz.func194.trans (congrArg aC (by kernel_rfl))⟩
 f23:=⟨Tryz.f195.name,by decide,Tryz.func195.trans (congrArg aC (by kernel_rfl))⟩
 f24:=⟨Tryz.f196.name,by decide,Tryz.func196.trans (congrArg aC (by kernel_rfl))⟩
 f25:=⟨Tryz.f197.name,by decide,Tryz.func197.trans (congrArg aC (by kernel_rfl))⟩
 f26:=⟨Tryz.f198.name,by decide,Tryz.func198.trans (congrArg aC (by kernel_rfl))⟩
 f27:=⟨Tryz.f199.name,by decide,Tryz.func199.trans (congrArg aC (by kernel_rfl))⟩
 f28:=dM.trans (congrArg aC (by kernel_rfl))
 f29:=dL.trans (congrArg aC (by kernel_rfl))
 f46:=⟨Tryz.f233.name,by decide,Tryz.func233.trans (congrArg aC (by kernel_rfl))⟩
 f47:=dK.trans (congrArg aC (by kernel_rfl))
 f48:=dJ.trans (congrArg aC (by kernel_rfl))
 f49:=⟨Tryz.f236.name,by decide,Tryz.func236.trans (congrArg aC (by kernel_rfl))⟩
 f50:=⟨Tryz.f237.name,by decide,Tryz.func237.trans (congrArg aC (by kernel_rfl))⟩
 f57:=⟨Tryz.f258.name,by decide,Tryz.func258.trans (congrArg aC (by kernel_rfl))⟩
 t0:=underlying0
 a0:=dU
 z0:=dI
 v0:=dd
 t3:=underlying3
 a3:=dT
 z3:=dH
 v3:=cZ
 t4:=underlying4
 a4:=dS
 z4:=dG
 v4:=cY
 t5:=underlying5
 a5:=dR
 z5:=dF
 v5:=cX
 t9:=underlying9
 a9:=dQ
 z9:=dE
 v9:=cW
 t22:=underlying44
 a22:=Tryz.isAgg44
 z22:=Tryz.sizeOf44
 v22:=Tryz.zeroValue44
 t25:=underlying116
 a25:=Tryz.isAgg116
 z25:=Tryz.sizeOf116
 v25:=Tryz.zeroValue116
 t39:=underlying215
 a39:=dB
 z39:=dq
 v39:=cO
 t45:=underlying270
 a45:=dz
 z45:=dn
 v45:=cM
 t46:=underlying271
 a46:=dy
 z46:=dm
 v46:=cL
 t50:=underlying179
 a50:=dC
 z50:=dr
 v50:=cP
 t53:=underlying277
 a53:=dx
 z53:=dl
 v53:=cK
 t55:=underlying279
 a55:=dw
 z55:=dk
 v55:=cJ
 t66:=underlying298
 a66:=dv
 z66:=dj
 v66:=cI
 t70:=underlying302
 a70:=du
 z70:=di
 v70:=cH
 t76:=underlying313
 a76:=dt
 z76:=dh
 v76:=cG
 t77:=underlying224
 a77:=dA
 z77:=dp
 v77:=cN }
def laysSortB_ren:cU:=⟨fun | 6=>76 | 15=>146 | 14=>151 | 28=>200 | 29=>201 | 20=>206 | 21=>207 | 22=>208 | 23=>209 | 24=>210 | 25=>211 | 26=>212 | 27=>213 | 46=>239 | 47=>234 | 48=>235 | 49=>240 | 50=>241 | 57=>259 | n=>n,fun | 22=>23 | 24=>46 | 25=>80 | 3=>3 | 39=>215 | 0=>0 | 53=>277 | 55=>279 | 4=>4 | 46=>271 | 45=>270 | 50=>179 | 5=>5 | 9=>9 | 66=>298 | 70=>302 | 76=>313 | 77=>224 | n=>n,fun | n=>n⟩
theorem Y4:bD prog laysSortB_ren:={
 mixed:=by kernel_rfl
 f6:=⟨Tryz.f76.name,by decide,Tryz.func76.trans (congrArg aC (by kernel_rfl))⟩
 f14:=⟨Tryz.f151.name,by decide,Tryz.func151.trans (congrArg aC (by kernel_rfl))⟩
 f15:=dN.trans (congrArg aC (by kernel_rfl))
 f20:=⟨Tryz.f206.name,by decide,Tryz.func206.trans (congrArg aC (by kernel_rfl))⟩
 f21:=⟨Tryz.f207.name,by decide,Tryz.func207.trans (congrArg aC (by kernel_rfl))⟩
 f22:=⟨Tryz.f208.name,by decide,Tryz.func208.trans (congrArg aC (by kernel_rfl))⟩
 f23:=⟨Tryz.f209.name,by decide,Tryz.func209.trans (congrArg aC (by kernel_rfl))⟩
 f24:=⟨Tryz.f210.name,by decide,Tryz.func210.trans (congrArg aC (by kernel_rfl))⟩
 f25:=⟨Tryz.f211.name,by decide,Tryz.func211.trans (congrArg aC (by kernel_rfl))⟩
 f26:=⟨Tryz.f212.name,by decide,Tryz.func212.trans (congrArg aC (by kernel_rfl))⟩
 f27:=⟨Tryz.f213.name,by decide,Tryz.func213.trans (congrArg aC (by kernel_rfl))⟩
 f28:=dM.trans (congrArg aC (by kernel_rfl))
 f29:=dL.trans (congrArg aC (by kernel_rfl))
 f46:=⟨Tryz.f239.name,by decide,Tryz.func239.trans (congrArg aC (by kernel_rfl))⟩
 f47:=dK.trans (congrArg aC (by kernel_rfl))
 f48:=dJ.trans (congrArg aC (by kernel_rfl))
 f49:=⟨Tryz.f240.name,by decide,Tryz.func240.trans (congrArg aC (by kernel_rfl))⟩
 f50:=⟨Tryz.f241.name,by decide,Tryz.func241.trans (congrArg aC (by kernel_rfl))⟩
 f57:=⟨Tryz.f259.name,by decide,Tryz.func259.trans (congrArg aC (by kernel_rfl))⟩
 t0:=underlying0
 a0:=dU
 z0:=dI
 v0:=dd
 t3:=underlying3
 a3:=dT
 z3:=dH
 v3:=cZ
 t4:=underlying4
 a4:=dS
 z4:=dG
 v4:=cY
 t5:=underlying5
 a5:=dR
 z5:=dF
 v5:=cX
 t9:=underlying9
 a9:=dQ
 z9:=dE
 v9:=cW
 t22:=underlying23
 a22:=Tryz.isAgg23
 z22:=Tryz.sizeOf23
 v22:=Tryz.zeroValue23
 t25:=underlying80
 a25:=Tryz.isAgg80
 z25:=Tryz.sizeOf80
 v25:=Tryz.zeroValue80
 t39:=underlying215
 a39:=dB
 z39:=dq
 v39:=cO
 t45:=underlying270
 a45:=dz
 z45:=dn
 v45:=cM
 t46:=underlying271
 a46:=dy
 z46:=dm
 v46:=cL
 t50:=underlying179
 a50:=dC
 z50:=dr
 v50:=cP
 t53:=underlying277
 a53:=dx
 z53:=dl
 v53:=cK
 t55:=underlying279
 a55:=dw
 z55:=dk
 v55:=cJ
 t66:=underlying298
 a66:=dv
 z66:=dj
 v66:=cI
 t70:=underlying302
 a70:=du
 z70:=di
 v70:=cH
 t76:=underlying313
 a76:=dt
 z76:=dh
 v76:=cG
 t77:=underlying224
 a77:=dA
 z77:=dp
 v77:=cN }
end
variable {α β:Type}{w:World}{g m B:Nat}{e:TypeId}{v:Value}
theorem NM[Inhabited α](enc:α->List Value)(k:Nat)(c:∀x,(enc x).length=k)(a:List α):(bE enc k a.toArray).toList=a.flatMap enc:=by
 have d:(bE enc k a.toArray).size=a.length*k:=by simp
 apply cR;intro t;by_cases b:t<a.length*k
 ·have k0:0<k:=by
   rcases Nat.eq_zero_or_pos k with h | h;· subst h;simp at b
   ·exact h
  have i:t/k<a.length:=(Nat.div_lt_iff_lt_mul k0).2 b;obtain⟨D,r,T,rfl,g⟩:=AS a (t/k) i;have f:=Nat.mod_lt t k0;have e:t=D.length*k+t%k:=by rw[g,Nat.mul_comm];exact(Nat.div_add_mod t k).symm
  have h1:=Sort.get_flatK enc k (D++r::T).toArray t (by simpa using b);rw[aP,aS (by rw[d];exact b)];rw[getElem!_pos _ t (by rw[d];exact b)]at h1;rw[h1,e,C8 enc k c D T r (t%k) f];have j:(D.length*k+t%k)/k=D.length:=by rw[<-e,g]
  have l:(D.length*k+t%k)%k=t%k:=by rw[<-e]
  rw[j,l];have m:(D++r::T).toArray[D.length]! = r:=by simp
  rw[m,List.getElem?_eq_getElem (by rw[c];exact f),getElem!_pos _ _ (by rw[c];exact f)]
 ·rw[bA (by rw[cB,d];omega),bA (by rw[Bn enc k c];omega)]
theorem Ln[Inhabited α](enc:α->List Value)(k:Nat)(w:World)(a off m:Nat)(d:Array α)(os:Array Obj):w.grownBy (sortWorldK enc k w a off m d os) (aC a):=by
 refine⟨rfl,rfl,rfl,by simp[sortWorldK,bX],fun q b c=>?_⟩;have f:a≠q:=fun e=>c (by rw[e])
 unfold sortWorldK bX;rw[cD _ _ (by simpa using b)];simp[dV,dD,dW,bY,f]
theorem VN(a F:Array Value)(h:F.size<=a.size):(bC id 0 F a).toList.take F.size=F.toList:=by
 apply cR;intro j;by_cases b:j<F.size
 ·rw[bT b,aP];simp[bC,b,show j<a.size by omega]
 ·rw[List.getElem?_take_eq_none (by omega),bA (by simp;omega)]
theorem VO[Inhabited α](enc:α->List Value)(k:Nat){a:Array Value}{fr:Nat × Nat}(d:Array α)(os:Array Obj)(b:w.heap[g]?=aC (aD a e fr)):(sortWorldK enc k w g 0 m d os).heap[g]?=aC (aD (bC id 0 (bE enc k d) a) e fr):=by
 have c:g<w.heap.size:=(bQ.1 b).1;unfold sortWorldK bX;rw[cD _ _ (by simpa using c)];simp[dV,dD,dW,bY,b,Sort.onCells]
structure Afb{β:Type}(cf:β->β->Int):Prop where
 irr:∀x,¬cf x x<0
 trans:∀x y z,cf x y<0->cf y z<0->cf x z<0
 ntrans:∀x y z,¬cf x y<0->¬cf y z<0->¬cf x z<0
theorem Lo{z:Shelf.Ren}(E:SlLaysF0.n6 prog z)(k:Nat)(ad:∀w,(isAgg (z.t 24)).run prog w=.ok true w)(ae:∀w,(Go.sizeOf (z.t 24)).run prog w=.ok k w)(d:β->List Value)(P:∀x,(d x).length=k)(Good:β->Prop)(h1:∀x,Good x->∀v∈d x,v.oneCell'=true)
  (r:β->β->Int) (G:Afb r) (F:Nat) (cb:Array Value) (af:∀args w,(callFunc F args).run prog w=.ok (.enter F args) w) {xs:List β} (H:w.ownsRow B e k v xs.length (xs.flatMap d)) (Q:∀x∈xs,Good x)
  (ag:∀q,v.ownBlock=aC q->∀W,w.grownBy W (aC q)->∀x y,Good x->Good y->Calls prog F (#[bN (d x).toArray,bN (d y).toArray]++cb) W fun e w'=>e=aH (.int .i64 (r x y))/\AZ W w') (a3:xs.length<=1048577) :
  Calls prog (z.f 6) #[v,.func (.func F) #[] cb] w fun t w'=>t=aH (aW #[])/\∃ys:List β,ys.Perm xs/\w'.ownsRow B e k v xs.length (ys.flatMap d)/\(∀i j:Nat,i<j->∀a b,ys[i]?=aC a->ys[j]?=aC b->¬r b a<0)/\w.grownBy w' v.ownBlock:=by
 rcases H.2 with ⟨rfl,ah⟩ | ⟨g,I,J,rfl,ai,A,R,aj,S,ak⟩
 ·obtain rfl:xs=[]:=bW.1 ah;exact(bR E aG 0 _ w).mono fun t w' ⟨o,p⟩=>⟨o,[],.refl _,by rw[p];exact H,by simp,by rw[p];exact bP _ _⟩
 ·cases xs with
  | nil=>exact(bR E (aC ⟨g,0,aG⟩) I _ w).mono fun t w' ⟨o,p⟩=>⟨o,[],.refl _,by rw[p];exact H,by simp,by rw[p];exact bP _ _⟩
  | cons C al =>
   generalize T:C::al=xs at *;have am:Good C:=Q C (by rw[<-T];simp);clear T;letI:Inhabited { x:β // Good x }:=⟨⟨C,am⟩⟩;obtain⟨f,K⟩:∃f:List { x:β // Good x },f.map bV=xs:=⟨xs.pmap Subtype.mk Q,by simp[List.map_pmap]⟩;have L:∀c:{ x:β // Good x },(d c.1).length=k:=fun c=>P c.1
   have U:∀l:List { x:β // Good x },l.flatMap (fun c=>d c.1)=(l.map bV).flatMap d:=fun l=>by rw[List.flatMap_map]
   have u:f.toArray.size=xs.length:=by rw[<-K];simp
   have an:xs.length*k<=J.size:=by rw[S];exact Nat.mul_le_mul_right _ R
   have ao:Sort.HoldsK (fun c:{ x:β // Good x }=>d c.1) k w g 0 f.toArray:=by
    intro j h;have V:=NM (fun c:{ x:β // Good x }=>d c.1) k L f;rw[U,K]at V;have ap:j<xs.length*k:=by rw[bO,u]at h;exact h
    refine⟨?_,by simp[World.frozen?,A]⟩;have X:(J.toList.take (xs.length*k))[j]?=(bE (fun c:{ x:β // Good x }=>d c.1) k f.toArray).toList[j]?:=by rw[ak,V]
    rw[bT ap,aP,aP,aS h]at X;rw[Nat.zero_add,getElem!_pos _ j h];have:=Ab A j;rw[this,X];rfl
   have aq:g<w.heap.size:=(bQ.1 A).1;have ar:Sort.SWO (ltOf (fun x y:{ x:β // Good x }=>r x.1 y.1)):=by
    refine⟨fun x=>?_,fun x y c M N=>?_,fun x y c M N=>?_⟩
    ·exact decide_eq_false (G.irr x.1)
    ·exact decide_eq_true (G.trans x.1 y.1 c.1 (of_decide_eq_true M) (of_decide_eq_true N))
    ·exact decide_eq_false (G.ntrans x.1 y.1 c.1 (of_decide_eq_false M) (of_decide_eq_false N))
   have au:CmpLays prog F cb (fun c:{ x:β // Good x }=>d c.1) k (fun x y=>r x.1 y.1) g 0 f.toArray.size w:=fun m os av _ x y =>
    (ag g rfl _ (Ln _ k w g 0 m av os) x.1 y.1 x.2 y.2).mono fun t w' ⟨o,p⟩=>⟨o,p.grow⟩
   have Y:=AnyQ.slices_SortFunc E k ad ae (fun c:{ x:β // Good x }=>d c.1) L (fun c=>h1 c.1 c.2) (fun x y=>r x.1 y.1) ar F cb g 0 I f.toArray w af au ao aq (by rw[u];omega);rw[u]at Y;refine Y.mono ?_;rintro t w' ⟨o,d',n,os,⟨s,_,Z⟩,aw,rfl⟩;rw[u]at s;have ax:d'.toList.Perm f:=by
    have ay:d'.extract 0 xs.length=d':=by rw[<-s];exact cC
    have az:f.toArray.extract 0 xs.length=f.toArray:=by rw[<-u];exact cC
    rw[ay,az]at Z;simpa using Z
   have a0:d'.toList.toArray=d':=by simp
   refine⟨o,d'.toList.map bV,by rw[<-K];exact ax.map _,⟨?_,.inr ⟨g,I,_,rfl,ai,VO _ k d' os A,R,aj,by simp[bC,S],?_⟩⟩,fun i j a1 a b O D=>?_,Ln _ k w g 0 n d' os⟩
   ·rw[Bn _ k P,aL,cB,s]
   ·have aa:=NM (fun c:{ x:β // Good x }=>d c.1) k L d'.toList;rw[a0,U]at aa;have ab:=VN J (bE (fun c:{ x:β // Good x }=>d c.1) k d') (by rw[bO,s];exact an);rw[bO,s,aa]at ab;exact ab
   ·have h:j<d'.size:=by have:=(List.getElem?_eq_some_iff.1 D).1;simpa using this
    have:=aw i j (Nat.zero_le _) a1 (by rw[<-s];exact h);have ac:i<d'.size:=by omega
    rw[getElem!_pos d' j h,getElem!_pos d' i ac]at this;have a2:=of_decide_eq_false this;rw[aU,aP,aS ac]at O;rw[aU,aP,aS h]at D;simp only[Option.map_some,Option.some.injEq]at O D;rw[<-O,<-D];exact a2
variable {vr:Value}{L:List AO}{ls:List LAt}{bs:List BAt}
theorem Abd(R:List Plain):Afb (fun a b:LAt=>lineCmp R a.I b.I):=by
 refine⟨fun x=>?_,fun x y c h k=>?_,fun x y c h k q=>?_⟩
 ·rw[Fs];exact Dl R _
 ·rw[Fs]at *;exact CS R _ _ _ h k
 ·rw[Fs,CR]at *;simp only[not_or,not_and]at h k;have f:placeI R y.I.key=placeI R x.I.key:=by omega
  have g:placeI R c.I.key=placeI R y.I.key:=by omega
  have d:x.I.ws<c.I.ws:=by
   rcases q with q | q
   ·omega
   ·exact q.2
  have i:=h.2 f.symm;have k':=k.2 g.symm;by_cases e:y.I.ws<x.I.ws
  ·exact k' (FJ.trans _ _ _ e d)
  ·have:=FJ.tri _ _ i e;rw[<-this]at k';exact k' d
theorem Y5:Afb (fun a b:BAt=>blockCmp a.aa a.name b.aa b.name):=by
 refine⟨fun x=>?_,fun x y c h k=>?_,fun x y c h k q=>?_⟩
 ·exact fun h=>Dn x.I ((BC x.I x.I).1 h)
 ·exact(BC x.I c.I).2 (Ch _ _ _ ((BC x.I y.I).1 h) ((BC y.I c.I).1 k))
 ·have h:¬blockLt x.I y.I=true:=fun e=>h ((BC x.I y.I).2 e)
  have k:¬blockLt y.I c.I=true:=fun e=>k ((BC y.I c.I).2 e)
  have q:=(BC x.I c.I).1 q;rw[Ci]at h k q;simp only[not_or,not_and]at h k;have a1:¬x.I.aa.toList<y.I.aa.toList:=h.1;have a2:¬y.I.aa.toList<c.I.aa.toList:=k.1;rcases q with q | ⟨f,g⟩
  ·by_cases d:y.I.aa.toList<x.I.aa.toList
   ·exact a2 (FJ.trans _ _ _ d q)
   ·rw[<-FJ.tri _ _ a1 d]at a2;exact a2 q
  ·have i:x.I.aa.toList=y.I.aa.toList:=by
    by_cases d:y.I.aa.toList<x.I.aa.toList
    ·rw[<-f]at a2;exact absurd d a2
    ·exact FJ.tri _ _ a1 d
   have l:=h.2 i;have k':=k.2 (i.symm.trans f);by_cases j:y.I.name.toList<x.I.name.toList
   ·exact k' (FJ.trans _ _ _ j g)
   ·rw[<-FJ.tri _ _ l j]at k';exact k' g
theorem E5(p:w.ownsRow B 115 2 v ls.length (ls.flatMap LAt.cells))(r:L.length<=12)(l:D6 w vr L)(m:w.cell? ⟨g,0,aG⟩=aC vr)(f:∀x∈ls,BL w x/\x.ws.length<=1048576)
  (s:∀q,v.ownBlock=aC q->Cc q vr L.length/\g≠q/\∀x∈ls,Cc q x.v x.ws.length) (t:ls.length<=1048577) :
  Calls prog 74 #[v,.func (.func 147) #[] #[aN (aC ⟨g,0,aG⟩)]] w fun e w'=>e=aH (aW #[])/\∃ls':List LAt,ls'.Perm ls/\w'.ownsRow B 115 2 v ls.length (ls'.flatMap LAt.cells)/\(∀i j:Nat,i<j->∀a b,ls'[i]?=aC a->ls'[j]?=aC b->lineLt (L.map AO.I) b.I a.I=false)/\w.grownBy w' v.ownBlock:=by
 have z:=Lo Y3 (β:=LAt) 2 Tryz.isAgg115 Tryz.sizeOf115 LAt.cells LAt.len (fun x=>x∈ls) (fun x d u n=>by
   obtain⟨a,c,e⟩:=Ap.ae (f x d).1;simp only[LAt.cells,bS,bL,or_false]at n;rcases n with rfl | rfl
   ·rfl
   ·rw[e];rfl) (fun a b=>lineCmp (L.map AO.I) a.I b.I) (Abd _) 147 #[aN (aC ⟨g,0,aG⟩)] (enters_of func147 (by kernel_rfl) rfl) p (fun x d=>d)
  (fun q A W h x y d k=>by
    obtain⟨C,D,o⟩:=s q A;have E:D6 W vr L:=⟨l.1.far C h,l.2⟩;have F:W.cell? ⟨g,0,aG⟩=aC vr:=(h.cell_far ⟨g,0,aG⟩ (aI w _ m) (by intro e;cases e;exact D rfl)).trans m;exact Iz x.I y.I g E r F ((f x d).1.far (o x d) h) ((f y k).1.far (o y k) h) (f x d).2 (f y k).2) t
 refine z.mono fun e w' ⟨G,ys,h1,H,I,J⟩=>⟨G,ys,h1,H,fun i j K a b M N=>?_,J⟩
 rw[<-cV,<-Fs];exact I i j K a b M N
theorem Hz(h:w.ownsRow B 46 3 v bs.length (bs.flatMap BAt.cells))(f:∀x∈bs,∃a n c,x.v=aA a n c)(k:bs.length<=1048577):
  Calls prog 76 #[v,.func (.func 51) #[] #[]] w fun e w'=>e=aH (aW #[])/\∃bs':List BAt,bs'.Perm bs/\w'.ownsRow B 46 3 v bs.length (bs'.flatMap BAt.cells)/\(∀i j:Nat,i<j->∀a b,bs'[i]?=aC a->bs'[j]?=aC b->blockLt b.I a.I=false)/\w.grownBy w' v.ownBlock:=by
 have l:=Lo Y4 (β:=BAt) 3 Tryz.isAgg46 Tryz.sizeOf46 BAt.cells BAt.len (fun x=>x∈bs) (fun x d u g=>by
   obtain⟨a,n,c,e⟩:=f x d;simp only[BAt.cells,bS,bL,or_false]at g;rcases g with rfl | rfl | rfl
   ·rfl
   ·rfl
   ·rw[e];rfl) (fun a b=>blockCmp a.aa a.name b.aa b.name) Y5 51 #[] (enters_of func51 (by kernel_rfl) rfl) h (fun x d=>d)
  (fun q E W F x y d m=>by
    obtain⟨a,n,c,e⟩:=f x d;obtain⟨a',n',o,p⟩:=f y m;show Calls _ _ #[bN #[aB x.aa,aB x.name,x.v],bN #[aB y.aa,aB y.name,y.v]] _ _
    rw[e,p];exact Dg x.aa x.name y.aa y.name n n' c o a a' W) k
 refine l.mono fun e w' ⟨r,ys,h1,s,t,z⟩=>⟨r,ys,h1,s,fun i j A a b C D=>?_,z⟩
 rw[<-cV,<-BC];exact t i j A a b C D
theorem VP(h:∀r∈L,(∃a n c,r.va=aA a n c)/\∃a n c,r.vd=aA a n c):∀u∈L.flatMap AO.cells,u.oneCell'=true:=by
 intro u b;obtain⟨x,d,b⟩:=List.mem_flatMap.1 b;obtain⟨⟨a,n,c,e⟩,⟨a',n',g,f⟩⟩:=h x d;simp only[AO.cells,bS,bL,or_false]at b;rcases b with rfl | rfl | rfl | rfl
 ·rfl
 ·rw[e];rfl
 ·rfl
 ·rw[f];rfl
theorem Abe:(Tryz.prog.info? 54).map (fun i=>(i.zero,i.size,i.bytes))=aC (aC (bN #[aB ⟨#[]⟩,aA aG 0 0,.bool false,aA aG 0 0]),4,72):=by kernel_rfl
theorem R0(r:AO)(g:Nat)(s:(∃a n c,r.va=aA a n c)/\∃a n c,r.vd=aA a n c)(h:An w v ls)(t:ls.length<=1048576)(f:w.cell? ⟨g,0,aG⟩=aC v):
  Calls prog 123 #[bN #[aB r.key,r.va,.bool r.many,r.vd],aN (aC ⟨g,0,aG⟩)] w fun e w'=>e=aH (.bool (DF (ls.map LAt.I) r.I))/\Below w.heap.size w w':=by
 obtain⟨⟨a,n,c,k⟩,⟨a',n',i,l⟩⟩:=s;rw[k,l];have b:=(aK w.heap.size w).alloc (aJ _) (aD #[aB r.key,aA a n c,.bool r.many,aA a' n' i] 54);have m:=(b.cell (aI w _ f)).trans f;have k0:=A3 (w:=w) (cs:=#[aB r.key,aA a n c,.bool r.many,aA a' n' i]) (T:=54) 0;have j:=A3 (w:=w) (cs:=#[aB r.key,aA a n c,.bool r.many,aA a' n' i]) (T:=54) 2;simp only[aF,aE,aQ]at k0 j;have d:=Je r.key (h.V b) t;have o:DF (ls.map LAt.I) r.I=(!r.many && !hasK (ls.map LAt.I) r.key):=rfl;rw[o];generalize hasK (ls.map LAt.I) r.key=K at *;obtain⟨av,cv,rfl⟩:=h.1.ae;clear h o f k l;generalize ls.length=nl at *;generalize r.key=rk at *;cases p:r.many
 ·rw[p]at j b k0 m d;go_enter func123,ntmps123;go_wp2_with (go_at_call 111;refine d.mono ?_)
  first | rintro e w1 rfl q | rintro e w1 ⟨rfl,q⟩
  clear d;go_wp2;go_ret;exact⟨Au (by simp),b.trans (q.mono (by simp))⟩
 ·rw[p]at j b k0 m d;clear d;go_enter func123,ntmps123;go_wp2;go_ret;exact⟨Au (by simp),b⟩
theorem OJ{F:FuncId}{q:Value}(p:AO->Bool)(h:D6 w v L)(a2:L.length<=12)(C:∀x∈L,∀W,Below w.heap.size w W->Calls prog F #[bN #[aB x.key,x.va,.bool x.many,x.vd],q] W fun e w'=>e=aH (.bool (p x))/\Below W.heap.size W w')(a3:∀args w,(callFunc F args).run prog w=.ok (.enter F args) w):
  Calls prog 122 #[v,.func (.func F) #[] #[q]] w fun e w'=>∃v',e=aH v'/\w'.ownsRow w.heap.size 54 4 v' (L.filter p).length ((L.filter p).flatMap AO.cells)/\Below w.heap.size w w':=by
 obtain⟨ao,a4,rfl⟩:=h.1.ae;generalize Y:L.length=A at *;have Z:=Aa Y;clear Y;obtain⟨i0,ag,ah,ai,aj⟩:=info_parts Abe;go_enter func122,ntmps122;go_wp2;go_loopw [5,10] (fun u i wr=>∃(j:Nat) (done:List AO),j<=A/\i=.int .i64 (j:Int)/\done=(L.take j).filter p/\wr.ownsRow w.heap.size 54 4 u done.length (done.flatMap AO.cells)/\Below w.heap.size w wr) (fun _ i _=>A-(intOf i).toNat)
 case atStart=>exact⟨0,[],by omega,rfl,by simp,World.ownsRow_nil _ _ _ _,aK _ _⟩
 case round =>
  obtain⟨j,done,a5,rfl,l,b,c⟩:=hrel;obtain⟨aa,ab,rfl,_⟩:=Ak b;have a6:done.length<=j:=by rw[l];exact aV (bZ _ _) (by simp;omega)
  by_cases a7:j<A
  ·obtain⟨D,x,T,B,E⟩:=AS L j (by have:=Z.out;omega);have G:=h.V c;have H:x∈L:=by rw[B];simp
   have I:=G;rw[B]at I;obtain⟨g,off,rfl,ak,c2,c3,c4⟩:=I.1.rule;obtain⟨⟨av,m,cv,n⟩,⟨o,r,s,t⟩⟩:=G.2 x H;have J:=Aa (show (L.take (j+1)).filter p=done++[x].filter p from by rw[l,B,<-E,Bk,BG,List.filter_append]);have M:=(aK wr.heap.size wr).alloc (aJ _) (aD #[aB x.key,aA av m cv,.bool x.many,aA o r s] 54);have kk:=A3 (w:=wr) (cs:=#[aB x.key,aA av m cv,.bool x.many,aA o r s]) (T:=54);have k0:=kk 0;have N:=kk 1;have O:=kk 2;have P:=kk 3;simp only[aF,aE,aQ]at k0 N O P;have d:=C x H _ (c.trans (M.mono c.size));rw[n,t]at d;rw[n]at c2;rw[t]at c4;rw[E]at ak c2 c3 c4;have a8:(0:Int)<=(j:Int):=by omega
   have a9:(j:Int)<(A:Int):=by omega
   have Q:=Aa (show (AO.cells x)=[aB x.key,aA av m cv,.bool x.many,aA o r s] from by unfold AO.cells;rw[n,t]);have R:=Aa b;have S:=c.size;have ac:=Aa (show ∀k,(bK aa done.length ab).ownBlock=aC k->w.heap.size<=k from fun k al=>(b.lt k al).1);cases z:p x
   ·have U:=Aa (show (L.take (j+1)).filter p=done from by rw[J.out];simp[z]);rw[z]at d;clear h G I C l b B n t E H J Q z kk;go_wp2_with (go_at_fn F;refine d.mono ?_)
    first | rintro e w2 rfl a | rintro e w2 ⟨rfl,a⟩
    have f:=M.trans (a.mono (by simp));have K:=AL R.out f;clear d;go_wp2;go_roundw;case rel=>exact⟨j+1,done,by omega,by go_num,U.out.symm,K,c.trans (f.mono S)⟩
    case measure=>simp[intOf];omega
   ·have U:=Aa (show (L.take (j+1)).filter p=done++[x] from by rw[J.out];simp[z]);rw[z]at d;have V:=VP (L:=[x]) (fun y am=>by rw[cE.1 am];exact⟨⟨_,_,_,n⟩,⟨_,_,_,t⟩⟩);rw[aY,Q.out]at V;clear h G I C l b B n t E H J z kk;go_wp2_with (go_at_fn F;refine d.mono ?_)
    first | rintro e w2 rfl a | rintro e w2 ⟨rfl,a⟩
    have f:=M.trans (a.mono (by simp));have an:=(a.cell (p:=⟨wr.heap.size,0,aG⟩) (by simp)).trans k0;have ap:=(a.cell (p:=⟨wr.heap.size,1,aG⟩) (by simp)).trans N;have aq:=(a.cell (p:=⟨wr.heap.size,2,aG⟩) (by simp)).trans O;have ar:=(a.cell (p:=⟨wr.heap.size,3,aG⟩) (by simp)).trans P;have K:=(AL R.out f).alloc (aD #[aB x.key,aA av m cv,.bool x.many,aA o r s] 54);have au:=f.alloc f.size (aD #[aB x.key,aA av m cv,.bool x.many,aA o r s] 54);have ad:=Bz w2 #[aB x.key,aA av m cv,.bool x.many,aA o r s] 54 4 rfl;have aw:=f.size;clear d k0 N O P;go_wp2_with (at_builtin;refine A8 (by rfl) _ _ 47 (by rfl) w.heap.size 54 i0 _ 4 72 underlying47 ag ah ai aj rfl (by decide) _ done.length _ (by rfl) K _ 1 _ (by rfl) ad V ?c3 ?c4 (aV S (aV aw (by simp))) ?_)
    case c3=>unfold maxLen;omega
    case c4=>omega
    intro ax ay az ae af _;have a0:=(c.trans (au.mono S)).grown af (by simp;omega) ac.out;have X:=Aa (show az.ownsRow w.heap.size 54 4 (aA ax (done.length+1) ay) (done++[x]).length ((done++[x]).flatMap AO.cells) from by
     rw[aX,aY,Q.out,aO];exact ae)
    clear K ad V ae af an ap aq ar ac R;go_wp2;go_roundw;case rel=>exact⟨j+1,done++[x],by omega,by go_num,U.out.symm,X.out,a0⟩
    case measure=>simp[intOf];omega
  ·obtain rfl:j=A:=by omega
   have a1:L.take j=L:=by rw[<-Z.out,cS]
   have X:=Aa (show wr.ownsRow w.heap.size 54 4 (aA aa done.length ab) (L.filter p).length ((L.filter p).flatMap AO.cells) from by rw[<-a1,<-l];exact b);clear h C b l;go_wp2;go_ret;exact⟨_,rfl,X.out,c⟩
variable {kind:ByteArray}
def OK(r:AO):LAt:=⟨r.key,r.vd,r.ds⟩
theorem Y6(L:List AO)(a:List PLine):((L.filter (fun r=>DF a r.I)).map OK).map LAt.I=IN (L.map AO.I) a:=by
 unfold IN;rw[List.filter_map,dO,dO];rfl
def Ud(P:List PLine)(w:World)(e:Ending)(w':World):Prop:=∃v' ls',e=aH v'/\ls'.map LAt.I=P/\An w' v' ls'/\Ah ls'/\Below w.heap.size w w'
theorem OL(f:AX B w vr L)(P:L.map AO.I=rulesOf kind)(h:An w v ls)(Y:Ah ls)(Z:Aw (L.map AO.I) (ls.map LAt.I)):
  Calls prog 61 #[vr,v] w fun e w'=>Ud (Ek (L.map AO.I) (ls.map LAt.I)) w e w':=by
 have aa:=Ds kind P;have cw:ls.length<=120:=by have:=Z.few;simp at this;omega
 have b2:=Aa (Pg Z (by rw[P];exact DZ kind) (by rw[P];exact Cw kind));have G:=f.rin;obtain⟨ao,au,ev⟩:=h.1.ae;obtain⟨ab,ac,b3⟩:=G.1.ae;have u:=(aK w.heap.size w).alloc (aJ _) (aD #[v] 44);have k0:=A3 (w:=w) (cs:=#[v]) (T:=44) 0;simp only[aF,aE]at k0;have ad:=aI _ _ k0;have b4:=Aa (show ∀r∈L,Ap w r.vd r.ds.length 1 (strs r.ds)/\r.ds.length<=1048576/\∀y∈r.ds,y.length<=1048576 from fun r H=>by
  obtain⟨cx,cy,b5⟩:=List.append_of_mem H;exact⟨AG (by have:=f.rm;rw[b5]at this;exact this.defs),Np P H⟩)
 have aw:=OJ (F:=123) (q:=aN (aC ⟨w.heap.size,0,aG⟩)) (fun r=>DF (ls.map LAt.I) r.I) (G.V u) aa (fun x d W ax=>R0 x w.heap.size (G.2 x d) (h.V (u.trans (ax.mono u.size))) Y.1 ((ax.cell ad).trans k0)) (enters_of func123 (by kernel_rfl) rfl);have ay:=Aa (show ∀r∈L.filter (fun r=>DF (ls.map LAt.I) r.I),r∈L from fun r f=>(List.mem_filter.1 f).1);have b6:=Aa (Y6 L (ls.map LAt.I));have cz:(L.filter (fun r=>DF (ls.map LAt.I) r.I)).length<=12:=aV (bZ _ _) aa;generalize b7:L.filter (fun r=>DF (ls.map LAt.I) r.I)=U at *;have az:=Aa h;have a0:=Aa Y;have ae:=Aa G;subst ev b3;clear h Y f Z G b7;go_enter func61,ntmps61;go_wp2_with (go_at_call 122;refine aw.mono ?_)
 first | rintro e w1 v1 rfl o1 af | rintro e w1 ⟨v1,rfl,o1,af⟩
 have ag:Below (w.alloc (aD #[aA ao ls.length au] 44)).heap.size (w.alloc (aD #[aA ao ls.length au] 44)) w1:=by simpa using af
 have Q:=u.trans (ag.mono u.size);have R:=(ag.cell (p:=⟨w.heap.size,0,aG⟩) ad).trans k0;obtain⟨c0,c1,rfl,_⟩:=Ak o1;have b8:=Aa (AG o1);have a1:=NK (az.out.V Q) a0.out.1;clear aw af ag k0 ad u o1;go_wp2_with (go_at_call 124;refine a1.mono ?_)
 first | rintro e w2 a2 c2 rfl o2 a3 | rintro e w2 ⟨a2,c2,rfl,o2,a3⟩
 have ah:=Aa o2;clear a1 o2 R;obtain⟨i0,b9,ca,cb,cc⟩:=info_parts CK;generalize a4:U.length=I at *;have a5:=Aa a4;clear a4;have cd:=Aa (show ∀r∈U,Ap w r.vd r.ds.length 1 (strs r.ds)/\r.ds.length<=1048576/\∀y∈r.ds,y.length<=1048576 from fun r f=>b4.out r (ay.out r f));have ce:=Aa (show ∀r∈U,(∃a n c,r.va=aA a n c)/\∃a n c,r.vd=aA a n c from fun r f=>ae.out.2 r (ay.out r f));go_wp2;go_loopw [6,16] (fun q i wr=>∃(j:Nat) (done:List LAt),j<=I/\i=.int .i64 (j:Int)/\Hid (done=ls++(U.take j).map OK)/\done.length<=120+j/\wr.ownsRow w1.heap.size 115 2 q done.length (done.flatMap LAt.cells)/\Below w1.heap.size w1 wr) (fun _ i _=>I-(intOf i).toNat)
 case atStart=>exact⟨0,ls,by omega,rfl,(by simp:ls=ls++(U.take 0).map OK),by omega,ah.out,a3⟩
 case round =>
  obtain⟨j,done,c5,rfl,J,c6,s,S⟩:=hrel;obtain⟨K,M,rfl,_⟩:=Ak s;have a6:=S.size;by_cases c7:j<I
  ·obtain⟨D,r,T,V,ai⟩:=AS U j (by have:=a5.out;omega);have aj:=b8.out.V S;rw[V]at aj;obtain⟨g,off,rfl,cf,a7,c3,c4⟩:=aj.rule;rw[ai]at cf a7 c3 c4;have H:r∈U:=by rw[V];simp
   obtain⟨⟨av,z,cv,a8⟩,⟨l,m,o,ak⟩⟩:=ce.out r H;have cg:=Aa (show done++[OK r]=ls++(U.take (j+1)).map OK from by rw[J.out,V,<-ai,BG,Bk,aZ,bI];rfl);have ch:=Aa (show (OK r).cells=[aB r.key,aA l m o] from by unfold LAt.cells OK;rw[ak]);rw[a8]at a7;rw[ak]at c4;have a9:=(aK wr.heap.size wr).alloc (aJ _) (aD #[aB r.key,aA av z cv,.bool r.many,aA l m o] 54);have kk:=A3 (w:=wr) (cs:=#[aB r.key,aA av z cv,.bool r.many,aA l m o]) (T:=54);have k0:=kk 0;have R:=kk 1;have ba:=kk 2;have bb:=kk 3;simp only[aF,aE,aQ]at k0 R ba bb;have bc:=L7 r.key (aA av z cv) (aA l m o) r.many (w:=wr.alloc (aD #[aB r.key,aA av z cv,.bool r.many,aA l m o] 54)) ⟨_,_,_,rfl⟩ ⟨_,_,_,rfl⟩;have c8:(0:Int)<=(j:Int):=by omega
   have i2:(j:Int)<(I:Int):=by omega
   have bd:=Aa s;have be:=Aa (show ∀k,(bK K done.length M).ownBlock=aC k->w1.heap.size<=k from fun k al=>(s.lt k al).1);clear s J aj V ai H a8 ak kk ah;generalize r.key=rk at *;generalize r.many=bf at *;go_wp2_with (go_at_call 125;refine bc.mono ?_)
   first | rintro e am rfl an | rintro e am ⟨rfl,an⟩
   have bg:Below (wr.alloc (aD #[aB rk,aA av z cv,.bool bf,aA l m o] 54)).heap.size (wr.alloc (aD #[aB rk,aA av z cv,.bool bf,aA l m o] 54)) am:=by simpa using an
   have X:=a9.trans (bg.mono a9.size);have bh:=(AL bd.out X).alloc (aD #[aB rk,aA l m o] 115);have ci:=X.alloc X.size (aD #[aB rk,aA l m o] 115);have bi:=Bz am #[aB rk,aA l m o] 115 2 rfl;have cj:=X.size;clear bc k0 R ba bb an bg bd;go_wp2_with (at_builtin;refine A8 (by rfl) _ _ 44 (by rfl) w1.heap.size 115 i0 _ 2 40 underlying44 b9 ca cb cc rfl (by decide) _ done.length _ (by rfl) bh _ 1 _ (by rfl) bi (by intro c9 bj;simp at bj;rcases bj with rfl | rfl <;> rfl) ?c3 ?c4 (aV a6 (aV cj (by simp))) ?_)
   case c3=>unfold maxLen;omega
   case c4=>omega
   intro ck cl cm bk bl _;have cn:=(S.trans (ci.mono a6)).grown bl (by simp;omega) be.out;have co:=Aa (show cm.ownsRow w1.heap.size 115 2 (aA ck (done.length+1) cl) (done++[OK r]).length ((done++[OK r]).flatMap LAt.cells) from by
    rw[aX,aY,ch.out,aO];exact bk)
   clear bh bi bk bl be;go_wp2;go_roundw;case rel=>exact⟨j+1,done++[OK r],by omega,by go_num,cg,by simp;omega,co.out,cn⟩
   case measure=>simp[intOf];omega
  ·obtain rfl:j=I:=by omega
   have bm:U.take j=U:=by rw[<-a5.out,cS]
   rw[bm]at J;have bn:=Q.trans (S.mono (by have:=Q.size;omega));have bo:=CX (v:=aA ab L.length ac) ⟨_,_,_,rfl⟩ wr;have bp:Below wr.heap.size wr (wr.alloc (aD #[aA ab L.length ac] 47)):=(aK _ _).alloc (aJ _) _;have bq:=A3 (w:=wr) (cs:=#[aA ab L.length ac]) (T:=47) 0;simp only[aF,aE]at bq;have g3:=bn.trans (bp.mono bn.size);have A:=Aa (show ∀x∈done,BL w x/\x.ws.length<=1048576/\∀y∈x.ws,y.length<=1048576 from fun x d=>by
    rw[J.out]at d;rcases de.1 d with d | d
    ·exact⟨az.out.2 x d,a0.out.2 x d⟩
    ·obtain⟨r,f,rfl⟩:=bG.1 d;exact cd.out r f)
   have N:∀q,(bK K done.length M).ownBlock=aC q->w1.heap.size<=q/\q<wr.heap.size:=fun q O=>s.lt q O
   have da:=Q.size
   have br:=E5 (g:=wr.heap.size) (AL s bp) (by exact aa) (ae.out.V g3) bq (fun x d=>⟨BL.V (A.out x d).1 g3,(A.out x d).2.1⟩)
    (fun q O=>⟨Cc.of_lt ae.out.1 (by decide) (by have:=(N q O).1;omega),by have:=(N q O).2;omega,fun x d=>Cc.of_lt (A.out x d).1 (by decide) (by have:=(N q O).1;omega)⟩) (by omega)
   have bs:=Aa N;have db:done.length<=132:=by omega
   have dc:¬((j:Int)<(j:Int)):=by omega
   clear s bm N ah;go_wp2_with (first | (go_at_call 75;refine bo.mono ?_;rintro e w3 ⟨rfl,rfl⟩) | (go_at_call 74;refine br.mono ?_))
   first | rintro e ap rfl C E o5 aq t | rintro e ap ⟨rfl,C,E,o5,aq,t⟩
   have bt:C.map LAt.I=Ek (L.map AO.I) (ls.map LAt.I):=by
    refine Ew b2.out ?_ ?_
    ·rw[<-b6.out,<-aZ,<-J.out];exact E.map _
    ·intro i k cp a b bu bv;rw[aU,aR]at bu bv;obtain⟨a',cq,rfl⟩:=bu;obtain⟨b',cr,rfl⟩:=bv;exact aq i k cp a' b' cq cr
   have bw:C.length=done.length:=E.length_eq;have bx:An ap (aA K done.length M) C:=by
    refine⟨AG (by rw[bw];exact o5),fun x d=>?_⟩;have bz:x∈done:=E.mem_iff.1 d;have b0:=BL.V (A.out x bz).1 g3;cases ar:(bK K done.length M).ownBlock with
    | none =>
     rw[ar]at t;exact Ap.V b0 (Tb t)
    | some q =>
     rw[ar]at t;exact Ap.far b0 (Cc.of_lt (A.out x bz).1 (by decide) (by have:=(bs.out q ar).1;omega)) t
   have b1:Ah C:=⟨by rw[bw];omega,fun x d=>(A.out x (E.mem_iff.1 d)).2⟩;have ct:=g3.grown t g3.size (fun k al=>by have:=(bs.out k al).1;omega);have cu:=Aa (show Ud (Ek (L.map AO.I) (ls.map LAt.I)) w (aH (aA K done.length M)) ap from⟨_,C,rfl,bt,bx,b1,ct⟩);clear br bo bt bx b1 E o5 aq t;go_wp2;go_ret;exact cu.out
theorem R3(bs:List PBlock):fillS bs=GM Ek bs:=rfl
theorem R4(m:As w v bs)(n:Ax bs)(u:BJ w):Calls prog 15 #[bN #[v]] w fun e w'=>∃v' bs',e=aH (bN #[v'])/\bs'.map BAt.I=fillS (bs.map BAt.I)/\Aq w.heap.size w' v' bs'/\Below w.heap.size w w':=by
 obtain⟨ao,d,rfl⟩:=m.1.ae;have f:Below w.heap.size w ((w.alloc (aD #[aA ao bs.length d] 25)).alloc (aD #[aA aG 0 0] 25)):=((aK _ _).alloc (aJ _) _).alloc (by simp) _;have y:=BO (w:=w) (cs:=#[aA ao bs.length d]) (ds:=#[aA aG 0 0]) (T:=25) (U:=25);have c0:=y.1 0;simp only[aF,aE]at c0;have o:=Al (w.alloc (aD #[aA ao bs.length d] 25)) (aD #[aA aG 0 0] 25);simp only[cF]at o
 have p:=GY (F:=61) Ek (m.V f) n (u.V f) (enters_of func61 (by kernel_rfl) rfl)
  (fun E W B vr L x z q G H=>by
    have h:=OL G q H (n.2 x z).2 (by rw[q];exact((A0.1 E).2.1 x.I (aT z)).2.2);rw[q]at h;exact h)
 rw[<-R3]at p;generalize fillS (bs.map BAt.I)=K at *;clear m n u y;generalize bs.length=A at *;go_enter func15,ntmps15;go_wp2_with (go_at_call 60;refine p.mono ?_)
 first | rintro e w2 v2 rfl c i o2 j | rintro e w2 v2 c rfl i o2 j | rintro e w2 ⟨v2,c,rfl,i,o2,j⟩
 have r:Below ((w.alloc (aD #[aA ao A d] 25)).alloc (aD #[aA aG 0 0] 25)).heap.size ((w.alloc (aD #[aA ao A d] 25)).alloc (aD #[aA aG 0 0] 25)) w2:=by simpa using j
 have s:Aq (w.heap.size+2) w2 v2 c:=by simpa using o2
 have C:=(r.block (w.heap.size+1) (by simp)).trans o;have g:=f.trans (r.mono f.size);obtain⟨a,b,rfl,_⟩:=Ak s.row;have I:=Aa s;have D:=Aa i;clear p o2 s i j r c0 o f;generalize c.length=n2 at *;go_wp2_with (with_reducible show wpList _ _ _ (Oper.mk _ (Op.store _ (Operand.tmp 2) _) _ _ _ _::_) _ _;refine wpList_store_row rfl 25 _ _ rfl (w.heap.size+1) #[aA a n2 b] ?_ ?_ 25 _ C ?_ ?_ ?_ ?_)
 all_goals (first | rfl | kernel_rfl | exact AB | skip)
 have z5:(w2.setRow (w.heap.size+1) #[aA a n2 b]).heap[w.heap.size+1]?=aC (aD #[aA a n2 b] 25 (0,0)):=setRow_heap _ _ _ _ _ _ C
 have t:Below w.heap.size w (w2.setRow (w.heap.size+1) #[aA a n2 b]) :=
  ⟨g.os,g.tape,g.output,by rw[setRow_size];exact g.size,fun k J=>by rw[setRow_other _ _ _ _ (by omega)];exact g.block k J⟩
 have o5:=(I.out.setRow (w.heap.size+1) (by omega) #[aA a n2 b]).mono (show w.heap.size<=w.heap.size+2 by omega);have l:=Ab z5 0;simp only[aF,aE]at l;generalize w2.setRow (w.heap.size+1) #[aA a n2 b]=W at t l z5 o5⊢;first | exact bodyPost_ret (v:=bN #[aA a n2 b]) (by simp[results,results15,go_sem,l]) rfl ⟨_,c,rfl,D.out,o5,t⟩ | exact bodyPost_ret (v:=bN #[aA a n2 b]) (by simp[results,results15,go_sem,l]) rfl ⟨_,rfl,c,D.out,o5,t⟩
def Kg(f:PRes)(w:World)(e:Ending)(w':World):Prop:=Below w.heap.size w w'/\match f with
 | .good bs=>∃a n c d,e=aH (aW #[aA a n c,.nilIface])/\BH d=bs/\Az w.heap.size w' (CG (aA a n c) d)/\(∀b∈d,b.sm)/\d.length<=1000000
 | .bad m c=>e=aH (aW #[aA aG 0 0,JH m c])
theorem Sg(s:ByteArray)(A:s.size<=4000000)(l:BJ w):Calls prog 72 #[aB s] w fun e w'=>Kg (Ep s.data.toList) w e w':=by
 have b:=Hu s w (by omega);by_cases d:Bi s.data.toList
 ·rw[decide_eq_true d]at b;have f:=Aa (show Kg (Ep s.data.toList) w (aH (aW #[aA aG 0 0,JH 0 11])) w from⟨aK _ _,by rw[SJ d]⟩);clear l;unfold JH at *;go_enter func72,ntmps72;go_wp2_with (go_at_call 70;refine b.mono ?_;rintro e w2 ⟨rfl,rfl⟩)
  go_ret2
  exact f.out
 ·rw[decide_eq_false d]at b;have x:s.size<=1048576:=by
   have h1:s.data.toList.length=s.size:=rfl;unfold Bi at d;omega
  have o:=(aK w.heap.size w).alloc (aJ _) (aD #[aB s,.int .i64 0] 198);have q:=Al w (aD #[aB s,.int .i64 0] 198);have B:(w.alloc (aD #[aB s,.int .i64 0] 198)).heap.size=w.heap.size+1:=by simp
  have y:(A9 s.data.toList).length<=400:=by
   unfold Bi at d;omega
  have h:=WC (R:=w.heap.size) (rest:=s) (w:=w.alloc (aD #[aB s,.int .i64 0] 198)) q x (by omega) (fun W g=>l.V (Bh o (by omega) (aJ _) g));have r:=Ko d;rw[<-r]at h;have p:=Aa o;clear l o q r y;go_enter func72,ntmps72;go_wp2_with (first | (go_at_call 70;refine b.mono ?_;rintro e w0 ⟨rfl,rfl⟩) | (go_at_call 140;refine h.mono ?_))
  rintro e w2 ⟨g,i⟩;have j:=Bh p.out (by omega) (aJ _) g;cases k:Ep s.data.toList with
  | good bs =>
   rw[k]at i;obtain⟨a,n,c,z,rfl,h1,t,u,v⟩:=i;have f:=Aa (show Kg (Ep s.data.toList) w0 (aH (aW #[aA a n c,.nilIface])) w2 from by rw[k];exact⟨j,a,n,c,z,rfl,h1,t.mono (by omega),u,v⟩);clear h b g h1 t u v j p;go_wp2;go_ret2
   exact f.out
  | bad m c =>
   rw[k]at i;obtain rfl:=i;have f:=Aa (show Kg (Ep s.data.toList) w0 (aH (aW #[aA aG 0 0,JH m c])) w2 from by rw[k];exact⟨j,rfl⟩);clear h b g j p;unfold JH at *;go_wp2;go_ret2
   exact f.out
variable {i Y q lc:Nat}{W0 W W':World}{lv:Value}{Q:Exit -> Act -> World -> Prop}{a:Act}{la:Option Addr}
def Sh: Oper := ⟨aC 26, .fieldAddr 46 (.tmp 8) 2, 0, "l3_parse.go:71", #[], aG⟩
def Si: Oper := ⟨aC 27, .load 44 (.tmp 26), 44, "l3_parse.go:71", #[⟨0, .data⟩], aG⟩
def Sj: Oper := ⟨aC 28, .fieldAddr 46 (.tmp 8) 0, 0, "l3_parse.go:71", #[], aG⟩
def Sk: Oper := ⟨aC 29, .load 9 (.tmp 28), 9, "l3_parse.go:71", #[⟨2, .data⟩], aG⟩
def Sl: Oper := ⟨aC 30, .call { callee := .value (.func 29), args := #[.tmp 29], argTypes := #[9] }, 47, "l3_parse.go:71", #[⟨3, .data⟩], aG⟩
def Sm: Oper := ⟨aC 31, .call { callee := .value (.func 75), args := #[.tmp 30], argTypes := #[47] }, 116, "l3_parse.go:71", #[⟨4, .data⟩, ⟨4, .chain⟩], aG⟩
def Sn: Oper := ⟨aC 32, .call { callee := .value (.func 74), args := #[.tmp 27, .tmp 31], argTypes := #[44, 116] }, 0, "l3_parse.go:71", #[⟨1, .data⟩, ⟨5, .data⟩, ⟨5, .chain⟩], aG⟩
def Agt:List Oper:=[Sh,Si,Sj,Sk,Sl,Sm,Sn]
def YP(W0:World)(d:World->World->Prop)(Y:Nat)(lv:Value)(kind:ByteArray)(i:Nat)(x:Value)(W:World):Prop:=match i with
 | 0=>x=aN (aC ⟨Y,2,aG⟩)
 | 1=>x=lv
 | 2=>x=aN (aC ⟨Y,0,aG⟩)
 | 3=>x=aB kind
 | 4=>∃b nl c L,x=aA b nl c/\L.map AO.I=rulesOf kind/\AX W0.heap.size W (aA b nl c) L
 | 5=>∃a vr L,x=.func (.func 147) #[] #[aN (aC ⟨a,0,aG⟩)]/\W.cell? ⟨a,0,aG⟩=aC vr/\L.map AO.I=rulesOf kind/\AX W0.heap.size W vr L/\W0.heap.size<=a
 | 6=>x=aW #[]/\∃W1,Below W0.heap.size W0 W1/\d W1 W
 | _=>True
def S8C(L:Nat->Bool):Prop:=(L 1=true->L 0=true)/\(L 3=true->L 2=true)/\(L 4=true->L 3=true)/\(L 5=true->L 4=true)/\(L 6=true->L 1=true/\L 5=true)
theorem S8C.none{L:Nat->Bool}(h:S8C L)(b:i<6)(a:L i=false):L 6=false:=by
 obtain⟨h1,c,d,e,f⟩:=h;cases g:L 6 with
 | false=>rfl
 | true =>
  obtain⟨a1,a5⟩:=f g;have a0:=h1 a1;have a4:=e a5;have a3:=d a4;have a2:=c a3
  match i,b,a with
  | 0,_,a=>rw[a0]at a;cases a
  | 1,_,a=>rw[a1]at a;cases a
  | 2,_,a=>rw[a2]at a;cases a
  | 3,_,a=>rw[a3]at a;cases a
  | 4,_,a=>rw[a4]at a;cases a
  | 5,_,a=>rw[a5]at a;cases a
def S8G(W0:World)(L:Nat->Bool)(W:World):Prop:=S8C L/\(L 6=false->Below W0.heap.size W0 W)
theorem S8C.put{L:Nat->Bool}(h:S8C L)(i:Nat)(h1:i=1->L 0=true)(c:i=3->L 2=true)(d:i=4->L 3=true)(f:i=5->L 4=true)(b:i=6->L 1=true/\L 5=true):S8C (CF L i):=by
 have m:∀j,L j=true->CF L i j=true:=fun j a=>by unfold CF;split <;> first | rfl | exact a
 have u:∀j,CF L i j=true->i=j\/L j=true:=fun j a=>by
  unfold CF at a;split at a
  ·rename_i e;exact .inl e.symm
  ·exact .inr a
 refine⟨fun h=>?_,fun h=>?_,fun h=>?_,fun h=>?_,fun h=>?_⟩;all_goals (have g:=‹S8C L›;obtain⟨k,c2,c3,c4,c5⟩:=g)
 ·rcases u _ h with e | e;exact m _ (h1 e);exact m _ (k e)
 ·rcases u _ h with e | e;exact m _ (c e);exact m _ (c2 e)
 ·rcases u _ h with e | e;exact m _ (d e);exact m _ (c3 e)
 ·rcases u _ h with e | e;exact m _ (f e);exact m _ (c4 e)
 ·rcases u _ h with e | e
  ·exact⟨m _ (b e).1,m _ (b e).2⟩
  ·exact⟨m _ (c5 e).1,m _ (c5 e).2⟩
theorem YP.af{c:World->World->Prop}(a:Below W.heap.size W W'):∀(i:Nat) (x:Value),i≠6->YP W0 c Y lv kind i x W->YP W0 c Y lv kind i x W':=by
 intro i x d h;unfold YP at *;split <;> simp only at h
 all_goals first | exact absurd rfl d | exact h | trivial | (obtain⟨f,nl,g,L,e,h1,b⟩:=h;exact⟨f,nl,g,L,e,h1,Az.V b a⟩) | (obtain⟨j,vr,L,e,h1,b,k,l⟩:=h;exact⟨j,vr,L,e,(a.cell (aI _ _ h1)).trans h1,b,Az.V k a,l⟩)
theorem YP.turn{c:World->World->Prop}(a:W.grownBy W' (aC q))(d:q<W0.heap.size):∀(i:Nat) (x:Value),i≠6->YP W0 c Y lv kind i x W->YP W0 c Y lv kind i x W':=by
 intro i x g h;unfold YP at *;split <;> simp only at h
 all_goals first | exact absurd rfl g | exact h | trivial | (obtain⟨j,nl,k,L,e,h1,b⟩:=h;exact⟨j,nl,k,L,e,h1,Az.other b a d⟩) | (obtain⟨f,vr,L,e,h1,b,l,m⟩:=h;exact⟨f,vr,L,e,(a.cell_far ⟨f,0,aG⟩ (aI W _ h1) (by intro e;have:=Option.some.inj e;simp only at this;omega)).trans h1,b,Az.other l a d,m⟩)
theorem Aca{A:Nat}(C:World->World->Prop)(G:W0.cell? ⟨Y,0,aG⟩=aC (aB kind))(H:W0.cell? ⟨Y,2,aG⟩=aC (aA la A lc))
  (M:∀W t vr L,Below W0.heap.size W0 W->W.cell? ⟨t,0,aG⟩=aC vr->L.map AO.I=rulesOf kind->AX W0.heap.size W vr L->W0.heap.size<=t->Calls prog 74 #[(aA la A lc),.func (.func 147) #[] #[aN (aC ⟨t,0,aG⟩)]] W fun e w'=>e=aH (aW #[])/\C W w')
  (N:∀W W',C W W'->∃q,W.grownBy W' (aC q)/\q<W0.heap.size) (I:a.eval (.tmp 8)=(aN (aC ⟨Y,0,aG⟩))) (ao:a.tmps.size=39)
  (O:∀v a' W1 W2,a'=Ai a [26,27,28,29,30,31,32] v->Below W0.heap.size W0 W1->C W1 W2->Q .normal a' W2):(Code.region 8 Agt.toArray true).wp prog Q a W0:=by
 have l:([26,27,28,29,30,31,32]:List Nat).Nodup:=by decide
 have P:=aI _ _ G;have R:=aI _ _ H;refine DK [26,27,28,29,30,31,32] (YP W0 C Y (aA la A lc) kind) (S8G W0) 7 [0,1,2,3,4,5,6] (by kernel_rfl) rfl (by decide) (by kernel_rfl) ?h1 ⟨⟨fun h=>(by cases h),fun h=>(by cases h),fun h=>(by cases h),fun h=>(by cases h),fun h=>(by cases h)⟩,fun _=>(aK _ _).drew⟩ ?hall (fun v w' L ap S aq=>by
  obtain⟨_,W1,U,D⟩:=S 6;exact NoPanic.normal (O v _ W1 w' rfl U D))
 case h1 =>
  intro i x W ar;unfold YP;split <;> first | omega | trivial
 refine Ag.ad (o:=Sh) [] (by kernel_rfl) (by decide) (by kernel_rfl) rfl ?o0 (Ag.ad (o:=Si) [0] (by kernel_rfl) (by decide) (by kernel_rfl) rfl ?o1 (Ag.ad (o:=Sj) [] (by kernel_rfl) (by decide) (by kernel_rfl) rfl ?o2 (Ag.ad (o:=Sk) [2] (by kernel_rfl) (by decide) (by kernel_rfl) rfl ?o3 (Ag.ad (o:=Sl) [3] (by kernel_rfl) (by decide) (by kernel_rfl) rfl ?o4 (Ag.ad (o:=Sm) [4,4] (by kernel_rfl) (by decide) (by kernel_rfl) rfl ?o5 (Ag.ad (o:=Sn) [1,5,5] (by kernel_rfl) (by decide) (by kernel_rfl) rfl ?o6 Ag.nil))))));case o0 =>
  rintro u L _ W k g ⟨v,rfl,f,b⟩ K m;have c:=b.2 (b.1.none (i:=0) (by decide) k);have E:=(A1 (v:=v) (show 8 ∉ ([26,27,28,29,30,31,32]:List Nat) by decide)).trans I;have d : execOp (Ai a [26, 27, 28, 29, 30, 31, 32] v).eval Sh = execOp (bB ⟨#[undef], []⟩) ⟨aC 0, .fieldAddr 46 (.const (aN (aC ⟨Y, 0, aG⟩))) 2, 0, "", #[], aG⟩ := by simp only[execOp, Ac, Sh, E]
  refine Br.mk ?_;unfold bF;rw[d];clear d;go_simp;exact m.out _ _ (A7.next (W:=W) f 0 (aN (aC ⟨Y,2,aG⟩)) (Ao 0 l rfl) (fun _ _ h=>h) rfl ⟨(b.1.put 0 (fun e=>by omega) (fun e=>by omega) (fun e=>by omega) (fun e=>by omega) (fun e=>by omega)),fun _=>c⟩)
 case o1 =>
  rintro u L _ W k g ⟨v,rfl,f,b⟩ K m;have c:=b.2 (b.1.none (i:=1) (by decide) k);have V:(Ai a [26,27,28,29,30,31,32] v).eval (.tmp 26)=_:=(Aj 0 l rfl (by omega)).trans (f 0 (g 0 (by simp)));have au:=(c.cell R).trans H;have d : execOp (Ai a [26, 27, 28, 29, 30, 31, 32] v).eval Si = execOp (bB ⟨#[undef], []⟩) ⟨aC 0, .load 44 (.const (aN (aC ⟨Y, 2, aG⟩))), 0, "", #[], aG⟩ := by simp only[execOp, Ac, Si, V]
  refine Br.mk ?_;unfold bF;rw[d];clear d;go_simp;exact m.out _ _ (A7.next (W:=W) f 1 (aA la A lc) (Ao 1 l rfl) (fun _ _ h=>h) rfl ⟨(b.1.put 1 (fun _=>g 0 (by simp)) (fun e=>by omega) (fun e=>by omega) (fun e=>by omega) (fun e=>by omega)),fun _=>c⟩)
 case o2 =>
  rintro u L _ W k g ⟨v,rfl,f,b⟩ K m;have c:=b.2 (b.1.none (i:=2) (by decide) k);have E:=(A1 (v:=v) (show 8 ∉ ([26,27,28,29,30,31,32]:List Nat) by decide)).trans I;have d : execOp (Ai a [26, 27, 28, 29, 30, 31, 32] v).eval Sj = execOp (bB ⟨#[undef], []⟩) ⟨aC 0, .fieldAddr 46 (.const (aN (aC ⟨Y, 0, aG⟩))) 0, 0, "", #[], aG⟩ := by simp only[execOp, Ac, Sj, E]
  refine Br.mk ?_;unfold bF;rw[d];clear d;go_simp;exact m.out _ _ (A7.next (W:=W) f 2 (aN (aC ⟨Y,0,aG⟩)) (Ao 2 l rfl) (fun _ _ h=>h) rfl ⟨(b.1.put 2 (fun e=>by omega) (fun e=>by omega) (fun e=>by omega) (fun e=>by omega) (fun e=>by omega)),fun _=>c⟩)
 case o3 =>
  rintro u L _ W k g ⟨v,rfl,f,b⟩ K m;have c:=b.2 (b.1.none (i:=3) (by decide) k);have X:(Ai a [26,27,28,29,30,31,32] v).eval (.tmp 28)=_:=(Aj 2 l rfl (by omega)).trans (f 2 (g 2 (by simp)));have k0:=(c.cell P).trans G;have d : execOp (Ai a [26, 27, 28, 29, 30, 31, 32] v).eval Sk = execOp (bB ⟨#[undef], []⟩) ⟨aC 0, .load 9 (.const (aN (aC ⟨Y, 0, aG⟩))), 0, "", #[], aG⟩ := by simp only[execOp, Ac, Sk, X]
  refine Br.mk ?_;unfold bF;rw[d];clear d;go_simp;exact m.out _ _ (A7.next (W:=W) f 3 (aB kind) (Ao 3 l rfl) (fun _ _ h=>h) rfl ⟨(b.1.put 3 (fun e=>by omega) (fun _=>g 2 (by simp)) (fun e=>by omega) (fun e=>by omega) (fun e=>by omega)),fun _=>c⟩)
 case o4 =>
  rintro u L _ W k g ⟨v,rfl,f,b⟩ K m;have c:=b.2 (b.1.none (i:=4) (by decide) k);have Z:(Ai a [26,27,28,29,30,31,32] v).eval (.tmp 29)=_:=(Aj 3 l rfl (by omega)).trans (f 3 (g 3 (by simp)));have aa:=Cr kind W;have d : execOp (Ai a [26, 27, 28, 29, 30, 31, 32] v).eval Sl = execOp (bB ⟨#[undef], []⟩) ⟨aC 0, .call { callee := .value (.func 29), args := #[.const (aB kind)], argTypes := #[9] }, 0, "", #[], aG⟩ := by simp only[execOp, Ac, Sl, resolve, BQ, bM, aM, bH, Z]
  refine Br.mk ?_;unfold bF;rw[d];clear d;go_simp;refine aa.mono ?_;rintro e W' ⟨vr,r,rfl,B,z,b'⟩;obtain⟨n,p,e,_⟩:=Ak (Az.head z);have ab:vr=aA n r.length p:=e;subst ab;exact m.out _ _ (A7.ag (W:=W) f 4 (aA n r.length p) (Ao 4 l rfl) (fun j y s h=>YP.af b' j y (fun e=>by rw[e,b.1.none (i:=4) (by decide) k]at s;cases s) h) ⟨n,r.length,p,r,rfl,B,Az.mono z c.size⟩ ⟨(b.1.put 4 (fun e=>by omega) (fun e=>by omega) (fun _=>g 3 (by simp)) (fun e=>by omega) (fun e=>by omega)),fun _=>c.trans (b'.mono c.size)⟩)
 case o5 =>
  rintro u L _ W k g ⟨v,rfl,f,b⟩ K m;have c:=b.2 (b.1.none (i:=5) (by decide) k);obtain⟨n,nl,p,r,ac,B,z⟩:=f 4 (g 4 (by simp));have ad:(Ai a [26,27,28,29,30,31,32] v).eval (.tmp 30)=_:=(Aj 4 l rfl (by omega)).trans ac;have ae:=CX (v:=aA n nl p) ⟨_,_,_,rfl⟩ W;have F:=(aK W.heap.size W).alloc (aJ _) (aD #[aA n nl p] 47);have J:=A3 (w:=W) (cs:=#[aA n nl p]) (T:=47) 0;simp only[aF,aE]at J;have d : execOp (Ai a [26, 27, 28, 29, 30, 31, 32] v).eval Sm = execOp (bB ⟨#[undef], []⟩) ⟨aC 0, .call { callee := .value (.func 75), args := #[.const (aA n nl p)], argTypes := #[47] }, 0, "", #[], aG⟩ := by simp only[execOp, Ac, Sm, resolve, BQ, bM, aM, bH, ad]
  refine Br.mk ?_;unfold bF;rw[d];clear d;go_simp;refine ae.mono ?_;rintro e W' ⟨rfl,rfl⟩;exact m.out _ _ (A7.ag (W:=W) f 5 (.func (.func 147) #[] #[aN (aC ⟨W.heap.size,0,aG⟩)]) (Ao 5 l rfl) (fun j y s h=>YP.af F j y (fun e=>by rw[e,b.1.none (i:=5) (by decide) k]at s;cases s) h) ⟨W.heap.size,aA n nl p,r,rfl,J,B,Az.V z F,c.size⟩ ⟨(b.1.put 5 (fun e=>by omega) (fun e=>by omega) (fun e=>by omega) (fun _=>g 4 (by simp)) (fun e=>by omega)),fun _=>c.trans (F.mono c.size)⟩)
 case o6 =>
  rintro u L _ W k g ⟨v,rfl,f,b⟩ K m;have c:=b.2 k;obtain⟨t,vr,r,af,ag,B,z,ah⟩:=f 5 (g 5 (by simp));have ai:(Ai a [26,27,28,29,30,31,32] v).eval (.tmp 27)=_:=(Aj 1 l rfl (by omega)).trans (f 1 (g 1 (by simp)));have aj:(Ai a [26,27,28,29,30,31,32] v).eval (.tmp 31)=_:=(Aj 5 l rfl (by omega)).trans af;have ak:=M W t vr r c ag B z ah;have d : execOp (Ai a [26, 27, 28, 29, 30, 31, 32] v).eval Sn = execOp (bB ⟨#[undef], []⟩) ⟨aC 0, .call { callee := .value (.func 74), args := #[.const (aA la A lc), .const (.func (.func 147) #[] #[aN (aC ⟨t, 0, aG⟩)])], argTypes := #[44, 116] }, 0, "", #[], aG⟩ := by simp only[execOp, Ac, Sn, resolve, BQ, bM, aM, bH, ai, aj]
  refine Br.mk ?_;unfold bF;rw[d];clear d;go_simp;refine ak.mono ?_;rintro e W' ⟨rfl,D⟩;refine m.out _ _ (A7.ag (W:=W) f 6 (aW #[]) (Ao 6 l rfl) (fun j y s h=>?_) ⟨rfl,W,c,D⟩ ⟨(b.1.put 6 (fun e=>by omega) (fun e=>by omega) (fun e=>by omega) (fun e=>by omega) (fun _=>⟨g 1 (by simp),g 5 (by simp)⟩)),fun e=>by simp[CF]at e⟩);have al:j≠6:=fun e=>by rw[e,k]at s;cases s
  obtain⟨q,am,an⟩:=N _ _ D;exact YP.turn am an j y al h
variable {bs':List BAt}
theorem Ok{f:α->β}{l k:List β}(h:l.Perm k):∀ {m:List α},m.map f=k->∃m':List α,m'.Perm m/\m'.map f=l:=by
 induction h with
 | nil =>
  intro m c;have:m=[]:=by simpa using c
  exact⟨[],by rw[this],rfl⟩
 | cons x _ e =>
  intro m c
  match m,c with
  | a::d,c =>
   simp only[aM,cA]at c;obtain⟨m',h1,g⟩:=e c.2;exact⟨a::m',h1.cons a,by rw[aM,c.1,g]⟩
 | swap x y t =>
  intro m c
  match m,c with
  | a::b::d,c =>
   simp only[aM,cA]at c;exact⟨b::a::d,List.Perm.swap _ _ _,by rw[aM,aM,c.1,c.2.1,c.2.2]⟩
 | trans _ _ i j =>
  intro m c;obtain⟨p,a1,a2⟩:=j c;obtain⟨d,n,o⟩:=i a2;exact⟨d,n.trans a1,o⟩
def Xr(B:Nat)(b:DL)(W W':World):Prop:=∃ls':List LAt,ls'.Perm (b.ys.map Dh.l)/\W'.ownsRow B 115 2 b.v b.ys.length (ls'.flatMap LAt.cells)/\(∀i j:Nat,i<j->∀a c,ls'[i]?=aC a->ls'[j]?=aC c->lineLt (rulesOf b.aa) c.I a.I=false)/\W.grownBy W' b.v.ownBlock
theorem Ad0{ys:List Dh}(h:Az B W (DD v ys))(f:v.ownBlock=aC q){y:Dh}(g:y∈ys):Cc q y.l.v y.l.ws.length:=by
 right;intro b off m c e;have a:=(List.pairwise_cons.1 h.2).1 y.r (aT g);have i:y.r.v.ownBlock=aC y.g:=rfl;have j:b=y.g:=by
  have d:y.ta=aC ⟨b,off,aG⟩:=by have:=e;unfold Dh.l at this;simp only at this;injection this
  unfold Dh.ta at d;split at d <;> · injection d with d;injection d with k;exact k.symm
 rcases a with a | a
 ·rw[show (⟨v,115,2,ys.length,(ys.map Dh.l).flatMap LAt.cells⟩:MRow).v.ownBlock=v.ownBlock from rfl,f]at a;cases a
 ·rw[show (⟨v,115,2,ys.length,(ys.map Dh.l).flatMap LAt.cells⟩:MRow).v.ownBlock=v.ownBlock from rfl,f,i]at a;intro l;exact a (by rw[<-j,l])
theorem WD{b:DL}{a:Nat}(h:Az B W0 (DD b.v b.ys))(j:b.sm)(p:Below W0.heap.size W0 W)(r:W.cell? ⟨a,0,aG⟩=aC vr)(k:L.map AO.I=rulesOf b.aa)(l:AX W0.heap.size W vr L)(v:W0.heap.size<=a):
  Calls prog 74 #[b.v,.func (.func 147) #[] #[aN (aC ⟨a,0,aG⟩)]] W fun e w'=>e=aH (aW #[])/\Xr B b W w':=by
 have d:=Az.V h p;have s:L.length<=12:=by
  have:=(Bf b.aa).1;rw[<-k,aL]at this;exact this
 have h1:W.ownsRow B 115 2 b.v (b.ys.map Dh.l).length ((b.ys.map Dh.l).flatMap LAt.cells):=by rw[aL];exact Az.head d
 have m:W0.ownsRow B 115 2 b.v b.ys.length ((b.ys.map Dh.l).flatMap LAt.cells):=Az.head h;refine(E5 (g:=a) (L:=L) h1 s l.rin r (fun x f=>?_) (fun q i=>⟨?_,?_,fun x f=>?_⟩) (by rw[aL];have:=j.2.1;omega)).mono ?_
 ·obtain⟨y,c,rfl⟩:=bG.1 f;exact⟨Sf (d.1 y.r (List.mem_cons_of_mem _ (aT c))),aV (j.2.2 y c).1 (by decide)⟩
 ·exact Cc.above (Az.head l) (m.lt q i).2
 ·have:=(m.lt q i).2;omega
 ·obtain⟨y,c,rfl⟩:=bG.1 f;exact Ad0 d i c
 ·rintro e w' ⟨rfl,ls',t,n,o,u⟩;rw[aL]at n;rw[k]at o;exact⟨rfl,ls',t,n,o,u⟩
theorem So{D T:List DL}{b:DL}(h:Az B W (CG v (D++b::T)))(m:Xr B b W W')(n:Bj (rulesOf b.aa) (BY b.ys))(f:b.sm):∃b':DL,b'.b.I=FM b.b.I/\b'.sm/\Az B W' (CG v (D++b'::T)):=by
 obtain⟨ls',o,p,q,r⟩:=m;obtain⟨d,e,l⟩:=Ok o rfl;have s:BY d=BS (rulesOf b.aa) (BY b.ys):=by
  refine Ew n ?_ (fun i j t a c g k=>?_)
  ·unfold BY;exact(e.map Dh.l).map LAt.I
  ·unfold BY at g k;rw[l,aU]at g k;obtain⟨a',u,rfl⟩:=aR.1 g;obtain⟨w,x,rfl⟩:=aR.1 k;exact q i j t a' w u x
 refine⟨⟨b.aa,b.name,b.v,d⟩,?_,⟨f.1,by rw[e.length_eq];exact f.2.1,fun y z=>f.2.2 y (e.mem_iff.1 z)⟩,?_⟩
 ·show (⟨b.aa,b.name,BY d⟩:PBlock)=⟨b.aa,b.name,BS (rulesOf b.aa) (BY b.ys)⟩
  rw[s]
 ·unfold CG at h⊢;rw[aX,cQ]at h;have A:(⟨v,46,3,(D++b::T).length,((D++b::T).map DL.b).flatMap BAt.cells⟩::(D.flatMap (fun b=>DD b.v b.ys)++(DD b.v b.ys++T.flatMap (fun b=>DD b.v b.ys))):List MRow)=((⟨v,46,3,(D++b::T).length,((D++b::T).map DL.b).flatMap BAt.cells⟩:MRow)::D.flatMap (fun b=>DD b.v b.ys))++⟨b.v,115,2,b.ys.length,(b.ys.map Dh.l).flatMap LAt.cells⟩::(b.ys.map Dh.r++T.flatMap (fun b=>DD b.v b.ys)):=by
   simp[DD]
  rw[A]at h;have C:=Az.midTurn (r':=⟨b.v,115,2,b.ys.length,ls'.flatMap LAt.cells⟩) h rfl p r;refine Az.perm C ?_;rw[aX,cQ];have E:(D++(⟨b.aa,b.name,b.v,d⟩:DL)::T).length=(D++b::T).length:=by simp
  have F:((D++(⟨b.aa,b.name,b.v,d⟩:DL)::T).map DL.b).flatMap BAt.cells=((D++b::T).map DL.b).flatMap BAt.cells:=by simp[DL.b,BAt.cells]
  rw[E,F,cT];refine bJ _ (List.Perm.append_left _ ?_);unfold DD;rw[l,cT,e.length_eq];exact bJ _ ((e.symm.map Dh.r).append_right _)
theorem U7{a:List DL}(h:Az B W (CG v a))(e:bs'.Perm (a.map DL.b))(f:W'.ownsRow B 46 3 v a.length (bs'.flatMap BAt.cells))(g:W.grownBy W' v.ownBlock):∃b:List DL,b.Perm a/\b.map DL.b=bs'/\Az B W' (CG v b):=by
 obtain⟨b,c,d⟩:=Ok e rfl;refine⟨b,c,d,?_⟩;unfold CG at h⊢;have i:=Az.turn (r':=⟨v,46,3,a.length,bs'.flatMap BAt.cells⟩) h rfl f g;rw[d,c.length_eq];exact Az.perm i (bJ _ (c.symm.flatMap_right _))
theorem YQ(t:Value)(w:World):Calls prog 73 #[.nilIface,t] w fun e w'=>e=aH (.bool false)/\w'=w:=by
 go_enter func73,ntmps73;go_wp2;go_ret;exact⟨rfl,rfl⟩
def U8(bs:List PBlock)(w:World)(e:Ending)(w':World):Prop:=∃a n c d,e=aH (aW #[bN #[aA a n c],bN #[.int .i64 0,.int .i64 0]])/\BH d=Cv bs/\Az w.heap.size w' (CG (aA a n c) d)/\(∀b∈d,b.sm)/\d.length<=1000000/\Below w.heap.size w w'
theorem U9{b:DL}(h:W0.ownsRow B 115 2 b.v b.ys.length ((b.ys.map Dh.l).flatMap LAt.cells))(d:0<W0.heap.size)(e:Xr B b W W'):∃q,W.grownBy W' (aC q)/\q<W0.heap.size:=by
 obtain⟨_,_,_,_,a⟩:=e;cases c:b.v.ownBlock with
 | none=>rw[c]at a;exact⟨0,⟨a.os,a.tape,a.output,a.size,fun i f _=>a.block i f (by simp)⟩,d⟩
 | some q=>rw[c]at a;exact⟨q,a,(h.lt q c).2⟩
theorem PO{o:Option Nat}(h:Below B w W)(a:B<=W.heap.size)(b:W.grownBy W' o)(c:∀q,o=aC q->B<=q):Below B w W':=h.grown b a (fun k d=>c k d)
def WF(B:Nat)(v:Value)(c:List DL)(w1:World)(i:Value)(W:World):Prop:=∃a D T,i=.int .i64 (a.length:Int)/\c=D++T/\a.length=D.length/\BH a=(BH D).map FM/\(∀b∈a,b.sm)/\Az B W (CG v (a++T))/\Below w1.heap.size w1 W/\True
theorem Ol(s:ByteArray){bs:List PBlock}(bt:s.size<=4000000)(an:BJ w)(P:Ep s.data.toList=.good bs):Calls prog 21 #[aB s] w fun e w'=>U8 bs w e w':=by
 have ao:=SH P;have b0:Below w.heap.size w ((w.alloc (aD #[aA aG 0 0] 25)).alloc (aD #[.int .i64 0,.int .i64 0] 38)):=((aK w.heap.size w).alloc (aJ _) _).alloc (by simp) _;have bu:((w.alloc (aD #[aA aG 0 0] 25)).alloc (aD #[.int .i64 0,.int .i64 0] 38)).heap.size=w.heap.size+2:=by simp
 have z0:((w.alloc (aD #[aA aG 0 0] 25)).alloc (aD #[.int .i64 0,.int .i64 0] 38)).heap[w.heap.size]?=aC (aD #[aA aG 0 0] 25 (0,0)):=by
  have bv:=(aK (w.alloc (aD #[aA aG 0 0] 25)).heap.size (w.alloc (aD #[aA aG 0 0] 25))).alloc (aJ _) (aD #[.int .i64 0,.int .i64 0] 38);rw[bv.block w.heap.size (by simp)];exact Al w _
 have bw:((w.alloc (aD #[aA aG 0 0] 25)).alloc (aD #[.int .i64 0,.int .i64 0] 38)).heap[w.heap.size+1]?=aC (aD #[.int .i64 0,.int .i64 0] 38 (0,0)):=by
  have:=Al (w.alloc (aD #[aA aG 0 0] 25)) (aD #[.int .i64 0,.int .i64 0] 38);rw[cF]at this;exact this
 have Q:=Sg s bt (an.V b0);rw[P]at Q;clear an P;generalize ap:(w.alloc (aD #[aA aG 0 0] 25)).alloc (aD #[.int .i64 0,.int .i64 0] 38)=w1 at *;go_enter func21,ntmps21;go_wp2_with (go_at_call 72;(try rw[ap]);refine Q.mono ?_)
 rintro e w2 ⟨R,a,n,c,m,rfl,aq,S,ar,cs⟩;have bx:=fun t W=>YQ t W
 have o:=(aK w2.heap.size w2).alloc (aJ _) (aD #[.int .i64 0,.int .i64 0] 110);have au:=R.trans (o.mono R.size);have av:=Az.V S o;obtain⟨a',ct,bz⟩:=Oi S;cases bz
 have aw:=Aa (show WF w1.heap.size (aA a m.length c) m w1 (.int .i64 0) (w2.alloc (aD #[.int .i64 0,.int .i64 0] 110)) from⟨[],[],m,rfl,rfl,rfl,rfl,by simp,av,au,trivial⟩);have b1:=Aa ar;have ax:=Aa ao;have ay:=Aa aq;have b2:=Aa b0;clear Q S av ar ao aq b0 R o au ap;generalize az:m.length=f at *;have b3:=Aa az;clear az;go_wp2_with (go_at_call 73;refine(bx _ _).mono ?_;rintro e w3 ⟨rfl,rfl⟩)
 go_loopw [22] (fun i wr=>WF w1.heap.size (aA a f c) m w1 i wr) (fun i _=>f-(intOf i).toNat)
 case atStart=>exact aw.out
 case round =>
  clear aw;obtain⟨d,D,T,rfl,l,F,G,H,h,r,_⟩:=hrel;have p:d.length+T.length=f:=by rw[F,<-aO,<-l];exact b3.out
  by_cases cu:d.length<f
  ·have b4:((d.length:Int)<(f:Int)):=by omega
   match T,p,l,h with
   | [],p,_,_=>simp at p;omega
   | b::T,p,l,h =>
    have U:b∈m:=by rw[l];simp
    have a0:=b1.out b U;have a1:Bj (rulesOf b.aa) (BY b.ys):=ax.out.2 b.b.I (by rw[<-ay.out];unfold BH;exact aT (aT U));have u:=(Oh h).1;obtain⟨la,lc,a2⟩:=Jg (EK h (b:=b) (by simp));have b5:(d++b::T).length=f:=by rw[aO];simpa using p
    rw[aL,b5,aZ,aM]at u;obtain⟨g,off,b6,a3,a4,V⟩:=u.block;cases b6
    rw[aL]at a3 a4 V;rw[show b.b.v=aA la b.ys.length lc from a2]at V;have cv:(0:Int)<=(d.length:Int):=by omega
    have o:=(aK wr.heap.size wr).alloc (aJ _) (aD #[aB b.b.aa,aB b.b.name,aA la b.ys.length lc] 46);have X:=Al wr (aD #[aB b.b.aa,aB b.b.name,aA la b.ys.length lc] 46);have Y:=Ab X 0;have Z:=Ab X 2;simp only[aF,aE,aQ]at Y Z;have I:=Az.V h o;have aa:=r.size;have b7:0<(wr.alloc (aD #[aB b.b.aa,aB b.b.name,aA la b.ys.length lc] 46)).heap.size:=by simp
    have a5:(wr.alloc (aD #[aB b.b.aa,aB b.b.name,aA la b.ys.length lc] 46)).ownsRow w1.heap.size 115 2 b.v b.ys.length ((b.ys.map Dh.l).flatMap LAt.cells):=Az.head (EK I (b:=b) (by simp));have a6:=EK I (b:=b) (by simp);have a7:=r.trans (o.mono aa);have a8:=Aa I;have ab:=Aa a5;have a9:=Aa a6;have ba:=Aa a1;have ac:=Aa a0;have ad:=Aa a7;have bb:=Aa l;have J:=Aa G;have K:=Aa H;have b8:=Aa a2;have b9:=Aa F;clear F;clear I a5 a6 a1 a0 a7 h r o l G H u U;generalize A:d.length=bc at *;generalize ca:wr.alloc (aD #[aB b.b.aa,aB b.b.name,aA la b.ys.length lc] 46)=W0 at *;go_upto_region 8 with fail
    (try rw[ca])
    refine Aca (Xr w1.heap.size b) Y Z (fun W cw vr L B cb cc cd ce=>by
     have:=WD (b:=b) a9.out ac.out B cb cc cd ce;rw[b8.out]at this;exact this) (fun W W' C=>U9 ab.out b7 C) (by kernel_rfl) (by kernel_rfl) ?_
    intro v a' W1 W2 bd ae C;simp only[Ai,CL,List.setIfInBounds_toArray,List.set_cons_zero,List.set_cons_succ]at bd;subst bd;obtain⟨b',cf,cg,be⟩:=So (a8.out.V ae) C ba.out ac.out;have bf:Below w1.heap.size w1 W2:=by
     obtain⟨_,_,_,_,z⟩:=C;have bg:=ad.out.trans (ae.mono ad.out.size);exact PO bg bg.size z (fun q af=>(ab.out.lt q af).1)
    have bh:=Aa (show WF w1.heap.size (aA (aC ⟨g,off,aG⟩) f c) m w1 (.int .i64 ((d++[b']).length:Int)) W2 from⟨d++[b'],D++[b],T,rfl,by rw[bb.out];simp,by rw[aO,aO,A,b9.out];rfl,by
     rw[H9,H9,aZ,J.out,aM,bH];exact congrArg (fun ch=>(BH D).map FM++[ch]) cf,fun x k=>by
     rcases de.1 k with k | k
     ·exact K.out x k
     ·rw[cE.1 k];exact cg,by rw[bI];exact be,bf,trivial⟩)
    have bi:(d++[b']).length=bc+1:=by rw[aO,A];rfl
    rw[bi]at bh;clear a8 ab a9 ba ac ad bb J K C be bf ae Y Z a3 a4 V X bi;go_wp2;go_roundw;case rel=>exact bh.out
    case measure=>simp[intOf];omega
  ·obtain rfl:T=[]:=bW.1 (by omega);have b4:¬((d.length:Int)<(f:Int)):=by omega
   rw[df]at h l;subst l;have bj:d.length=f:=by simpa using p
   have u:wr.ownsRow w1.heap.size 46 3 (aA a f c) (d.map DL.b).length ((d.map DL.b).flatMap BAt.cells):=by rw[aL];exact Az.head h
   have bk:=Hz u (fun x k=>by
    obtain⟨b,B,rfl⟩:=bG.1 k;obtain⟨la,lc,e⟩:=Jg (EK h B);exact⟨la,_,lc,e⟩) (by rw[aL];omega)
   have ag:=Aa h;have J:=Aa G;have K:=Aa H;have ci:=Aa r;have cj:=Aa bj;have aa:=r.size;clear h G H r u F p;generalize A:d.length=bc at *;have ck:=Aa A;clear A bj;go_wp2_with (go_at_call 76;refine bk.mono ?_)
   first | rintro e ah rfl cl ai M aj z | rintro e ah ⟨rfl,cl,ai,M,aj,z⟩
   rw[<-bu]at M;obtain⟨ak,N,bl,bm⟩:=U7 ag.out ai M z;have O:Below w1.heap.size w1 ah:=PO ci.out aa z (fun q af=>(dP (Az.head ag.out) q af).1);have bn:BH ak=Cv bs:=by
    refine Iw ax.out ?_ (fun i j cm x y k al=>?_)
    ·have h1:(BH ak).Perm (BH d):=(N.map DL.b).map BAt.I;rw[J.out,ay.out]at h1;exact h1
    ·unfold BH at k al;rw[bl,aU]at k al;obtain⟨cn,co,rfl⟩:=aR.1 k;obtain⟨cp,cq,rfl⟩:=aR.1 al;exact aj i j cm cn cp co cq
   have am:=(O.block w.heap.size (by omega)).trans z0;have E:=(O.block (w.heap.size+1) (by omega)).trans bw;have bo:=Ab am 0;have bp:=Ab E 0;have bq:=Ab E 1;have cx:=Ad am 0;have cy:=Ad E 0;have cz:=Ad E 1;simp only[aF,aE,aQ]at bo bp bq;have br:=b2.out.trans (O.mono (by omega));have cr:=Aa (show U8 bs w (aH (aW #[bN #[aA a f c],bN #[.int .i64 0,.int .i64 0]])) (((ah.setCell ⟨w.heap.size,0,aG⟩ (aA a f c)).setCell ⟨w.heap.size+1,0,aG⟩ (.int .i64 0)).setCell ⟨w.heap.size+1,1,aG⟩ (.int .i64 0)) from⟨a,f,c,ak,rfl,bn,((((bm.setCell ⟨w.heap.size,0,aG⟩ (by simp only;omega) _).setCell ⟨w.heap.size+1,0,aG⟩ (by simp only;omega) _).setCell ⟨w.heap.size+1,1,aG⟩ (by simp only;omega) _)).mono (by omega),fun b B=>K.out b (N.mem_iff.1 B),by rw[N.length_eq,ck.out];have:=cj.out;omega,AP (AP (AP br ⟨w.heap.size,0,aG⟩ (aJ _) _) ⟨w.heap.size+1,0,aG⟩ (by simp only;omega) _) ⟨w.heap.size+1,1,aG⟩ (by simp only;omega) _⟩);clear bk ai M aj z N bl bm bn br O am E ag;go_wp2;exact bodyPost_ret (v:=aW #[bN #[aA a f c],bN #[.int .i64 0,.int .i64 0]]) (by simp[results,results21,go_sem,bo,bp,bq]) rfl cr.out
