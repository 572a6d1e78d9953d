import Derived.Test.YtpdahhnjhggocaaGreatDoorMu18
import Derived.Shelf.Spec.SlicesGrow
import Derived.Laws.StructEq
open Go.Proofs.Tryz
open Go.Value renaming string->aA,slice->aC,agg->aM,pointer->bA,agg->cY
open List renaming getElem?_cons_zero->aB,getElem?_toArray->aD,getElem?_cons_succ->aE,take_length->aO,map_cons->aP,map_append->aQ,mem_append->aS,find?_append->aU,length_map->aZ,pairwise_append->bB,mem_of_getElem?->bC,flatMap_append->bE,mem_cons->bF,getElem?_map->bG,zipIdx_cons->bH,take_append_of_le_length->bI,find?_cons->bK,getElem?_eq_some_iff->bM,perm_append_comm->bP,mem_singleton->bW,length_append->bX,append_assoc->bY,mem_map->cP,mapIdx->cW
open Array renaming getElem?_eq_some_iff->aF,size_append->aT
open Option renaming some->aG,none->aJ,map_eq_some_iff->aW
open Go.Obj renaming cells->aH,map->cU
open Go.Result renaming andThen_ok->aI,ok->cT
open Go.World renaming block_lt_of_cell?->aK,ownsRow_nil->bV
open Nat renaming le_refl->aL,zero_le->bT,zero_add->cV
open Go.RowKit.Below renaming refl->aN
open Bool renaming eq_false_iff->aR
open Go.Ending renaming returned->aV
open Go.Act renaming eval->aX
open Go.Sem renaming run_bind->aY
open Go.Oper renaming wp->bD
open Go.Proofs.Lays8 renaming n4->bJ
open List.Perm renaming append_left->bL
open Go.ByteArray renaming toList_eq->bN
open Go.Proofs.Tryz renaming sizeOf9->bO,isAgg9->bS,zeroValue20->cA,zeroValue9->cD,zeroValue4->cE,zeroValue3->cF,zeroValue0->cG,sizeOf20->cJ,sizeOf4->cL,sizeOf3->cM,sizeOf0->cN,isAgg20->cO,isAgg4->cQ,isAgg3->cR,isAgg0->cS
open Go.Proofs.Any8 renaming slices_Grow_room->bQ,slices_Grow_grow->bR
open Go.Instr renaming keyThatStays->bU,findAsking->bZ,mapUpdate->cB,findNow->cH,findKey->cI,lookup->cK
open Go.Shelf renaming Ren->cC
open List.Pairwise renaming nil->cX
namespace Go.Proofs.YtpdahhnjhggocaaGreatDoor
open Go.RowKit
set_option maxHeartbeats 16000000
set_option maxRecDepth 100000
variable {g n1:Nat}{v1 v2:Value}{w:World}
section
open Go.Shelf
def M9(E:TypeId)(size n:Nat)(xs:List Value)(w:World)(e:Ending)(w':World):Prop:=∃v,e=aV v/\w'.ownsRow w.heap.size E size v n xs/\Below w.heap.size w w'
def KM(E:TypeId)(size n1 n2:Nat)(b c:List Value)(w0:World)(s i:Value)(a:World):Prop:=∃j:Nat,i=.int .i64 (j:Int)/\(j=0/\a.ownsRow w0.heap.size E size s 0 []\/j=1/\a.ownsRow w0.heap.size E size s n1 b\/j=2/\a.ownsRow w0.heap.size E size s (n1+n2) (b++c))/\Below w0.heap.size w0 a
def laysGrowL_ren:cC:=⟨fun | 4=>168 | n=>n,fun | 22=>44 | 25=>115 | 20=>20 | n=>n,fun | n=>n⟩
theorem P9:bJ prog laysGrowL_ren:={
 mixed:=by kernel_rfl
 f4:=⟨Tryz.f168.name,by decide,Tryz.func168.trans (congrArg aG (by kernel_rfl))⟩
 t0:=underlying0
 a0:=cS
 z0:=cN
 v0:=cG
 t3:=underlying3
 a3:=cR
 z3:=cM
 v3:=cF
 t4:=underlying4
 a4:=cQ
 z4:=cL
 v4:=cE
 t9:=underlying9
 a9:=bS
 z9:=bO
 v9:=cD
 t20:=underlying20
 a20:=cO
 z20:=cJ
 v20:=cA
 t22:=underlying44
 a22:=Tryz.isAgg44
 z22:=Tryz.sizeOf44
 v22:=Tryz.zeroValue44 }
theorem Abb(n:Nat)(w:World)(j:n<=2000000):Calls prog 168 #[aC aJ 0 0,.int .i64 (n:Int)] w fun e w'=>M9 115 2 0 [] w e w':=by
 by_cases b:n=0
 ·subst b;refine(bQ P9 aJ 0 0 0 w (by omega) (by omega) (by omega) (by omega)).mono ?_;rintro e w' ⟨rfl,rfl⟩;exact⟨_,rfl,bV _ _ _ _,aN _ _⟩
 ·obtain⟨i0,c,d,f,g⟩:=info_parts CK;refine(bR P9 i0 _ c d (by rw[f];decide) aJ 0 0 n [] w (by omega) (by omega) (by rw[g];omega) (by omega) (by simp) (fun _=>rfl) (fun _ h=>by cases h)).mono ?_;rintro e w' ⟨rfl,rfl⟩;have k:=grownCap_ge w (0+n) 0 (laysGrowL_ren.t 25);have i:=grownCap_le_maxLen w (0+n) 0 (laysGrowL_ren.t 25) (by unfold maxLen;omega);refine⟨_,rfl,⟨by simp,.inr ⟨w.heap.size,_,_,rfl,aL _,Al _ _,bT _,i,?_,by simp⟩⟩,?_⟩
  ·rw[aT,aT,size_zeroCells,size_zeroCells];generalize grownCap w (0+n) 0 (laysGrowL_ren.t 25)=a at *;show 0+(0+n-0)*2+(a-(0+n))*2=a*2
   omega
  ·exact(aN w.heap.size w).drew.alloc (by simp) _
theorem Lm{n2:Nat}{c d:List Value}(o:w.heap[g]?=aG (aH #[v1,v2] 44 (0,0)))(h1:Ap w v1 n1 2 c)(p:Ap w v2 n2 2 d)(o1:∀y∈c,y.oneCell'=true)(o2:∀y∈d,y.oneCell'=true)(G:n1+n2<=2000000):Calls prog 112 #[aC (aG ⟨g,0,aJ⟩) 2 2] w fun e w'=>M9 115 2 (n1+n2) (c++d) w e w':=by
 obtain⟨a1,R,rfl⟩:=h1.ae;obtain⟨a2,c2,rfl⟩:=p.ae;have q:=Ab o 0;have r:=Ab o 1;simp only[aD,aB,aE]at q r;have H:=Aa h1;have I:=Aa p;have A:=Abb (n1+n2) w G;obtain⟨i0,B,C,D,E⟩:=info_parts CK;clear h1 p o;go_enter func112,ntmps112;go_wp2;go_loopw [3,11] (fun s i wr=>(∃j m:Nat,i=.int .i64 (j:Int)/\s=.int .i64 (m:Int)/\(j=0/\m=0\/j=1/\m=n1\/j=2/\m=n1+n2))/\wr=w) (fun s i _=>2-(intOf i).toNat)
 case atStart=>exact⟨⟨0,0,rfl,rfl,.inl ⟨rfl,rfl⟩⟩,rfl⟩
 case round =>
  obtain⟨⟨j,m,rfl,rfl,J⟩,K⟩:=hrel;subst K;rcases J with ⟨rfl,rfl⟩ | ⟨rfl,rfl⟩ | ⟨rfl,rfl⟩
  ·have L:¬((n1:Int)<0):=by omega
   go_wp2;go_roundw;case rel=>exact⟨⟨1,n1,by go_num,by go_num,.inr (.inl ⟨rfl,rfl⟩)⟩,trivial⟩
   case measure=>simp[intOf]
  ·have L:¬((m:Int)+(n2:Int)<0):=by omega
   have S:wrap64 ((m:Int)+(n2:Int))=(m:Int)+(n2:Int):=by unfold wrap64;omega
   go_wp2;go_roundw;case rel=>exact⟨⟨2,m+n2,by go_num,by go_num,.inr (.inr ⟨rfl,rfl⟩)⟩,trivial⟩
   case measure=>simp[intOf]
  ·obtain⟨w0,M⟩:∃w0,w0=wr:=⟨_,rfl⟩;subst M;go_wp2_with (go_at_call 168;refine A.mono ?_)
   rintro e w2 ⟨v,rfl,a,N⟩;have F:=Aa a;clear A a;go_wp2;go_loopw [6,27] (fun s i O=>KM 115 2 n1 n2 c d w0 s i O) (fun s i _=>2-(intOf i).toNat)
   case atStart=>exact⟨0,rfl,.inl ⟨rfl,F.out⟩,N⟩
   case round =>
    obtain⟨j,rfl,P,b⟩:=hrel;have T:=(b.cell (aK _ _ q)).trans q;have U:=(b.cell (aK _ _ r)).trans r;have n:=b.size;clear F;rcases P with ⟨rfl,a⟩ | ⟨rfl,a⟩ | ⟨rfl,a⟩
    ·have f:=H.out.V b;go_wp2_with (at_builtin;refine A8 (by rfl) _ _ 44 (by rfl) w0.heap.size 115 i0 _ 2 40 underlying44 B C D E rfl (by decide) _ 0 _ (by rfl) a _ n1 _ (by rfl) f o1 ?c3 ?c4 n ?_)
     case c3=>unfold maxLen;omega
     case c4=>omega
     intro ao t W h l u;have x:=Aa (show KM 115 2 n1 n2 c d w0 (aC ao (0+n1) t) (.int .i64 ((1:Nat):Int)) W from⟨1,rfl,.inr (.inl ⟨rfl,by simpa using h⟩),b.grown l n (fun k z=>(a.lt k z).1)⟩);clear h l u a f;go_wp2;go_roundw;case rel=>exact(by have:=x.out;simpa using this)
     case measure=>simp[intOf]
    ·have f:=I.out.V b;go_wp2_with (at_builtin;refine A8 (by rfl) _ _ 44 (by rfl) w0.heap.size 115 i0 _ 2 40 underlying44 B C D E rfl (by decide) _ n1 _ (by rfl) a _ n2 _ (by rfl) f o2 ?c3 ?c4 n ?_)
     case c3=>unfold maxLen;omega
     case c4=>omega
     intro ao t W h l u;have x:=Aa (show KM 115 2 n1 n2 c d w0 (aC ao (n1+n2) t) (.int .i64 ((2:Nat):Int)) W from⟨2,rfl,.inr (.inr ⟨rfl,h⟩),b.grown l n (fun k z=>(a.lt k z).1)⟩);clear h l u a f;go_wp2;go_roundw;case rel=>exact(by have:=x.out;simpa using this)
     case measure=>simp[intOf]
    ·have Q:=Aa a;clear a;go_wp2;go_ret;exact⟨_,rfl,Q.out,b⟩
def laysGrowB_ren:cC:=⟨fun | 4=>108 | n=>n,fun | 22=>23 | 25=>46 | 20=>20 | n=>n,fun | n=>n⟩
theorem PC:bJ prog laysGrowB_ren:={
 mixed:=by kernel_rfl
 f4:=⟨Tryz.f108.name,by decide,Tryz.func108.trans (congrArg aG (by kernel_rfl))⟩
 t0:=underlying0
 a0:=cS
 z0:=cN
 v0:=cG
 t3:=underlying3
 a3:=cR
 z3:=cM
 v3:=cF
 t4:=underlying4
 a4:=cQ
 z4:=cL
 v4:=cE
 t9:=underlying9
 a9:=bS
 z9:=bO
 v9:=cD
 t20:=underlying20
 a20:=cO
 z20:=cJ
 v20:=cA
 t22:=underlying23
 a22:=Tryz.isAgg23
 z22:=Tryz.sizeOf23
 v22:=Tryz.zeroValue23 }
theorem Abc(n:Nat)(w:World)(j:n<=2000000):Calls prog 108 #[aC aJ 0 0,.int .i64 (n:Int)] w fun e w'=>M9 46 3 0 [] w e w':=by
 by_cases b:n=0
 ·subst b;refine(bQ PC aJ 0 0 0 w (by omega) (by omega) (by omega) (by omega)).mono ?_;rintro e w' ⟨rfl,rfl⟩;exact⟨_,rfl,bV _ _ _ _,aN _ _⟩
 ·obtain⟨i0,c,d,f,g⟩:=info_parts Bg;refine(bR PC i0 _ c d (by rw[f];decide) aJ 0 0 n [] w (by omega) (by omega) (by rw[g];omega) (by omega) (by simp) (fun _=>rfl) (fun _ h=>by cases h)).mono ?_;rintro e w' ⟨rfl,rfl⟩;have k:=grownCap_ge w (0+n) 0 (laysGrowB_ren.t 25);have i:=grownCap_le_maxLen w (0+n) 0 (laysGrowB_ren.t 25) (by unfold maxLen;omega);refine⟨_,rfl,⟨by simp,.inr ⟨w.heap.size,_,_,rfl,aL _,Al _ _,bT _,i,?_,by simp⟩⟩,?_⟩
  ·rw[aT,aT,size_zeroCells,size_zeroCells];generalize grownCap w (0+n) 0 (laysGrowB_ren.t 25)=a at *;show 0+(0+n-0)*3+(a-(0+n))*3=a*3
   omega
  ·exact(aN w.heap.size w).drew.alloc (by simp) _
theorem Uc{n2:Nat}{c d:List Value}(o:w.heap[g]?=aG (aH #[v1,v2] 23 (0,0)))(h1:Ap w v1 n1 3 c)(p:Ap w v2 n2 3 d)(o1:∀y∈c,y.oneCell'=true)(o2:∀y∈d,y.oneCell'=true)(G:n1+n2<=2000000):Calls prog 46 #[aC (aG ⟨g,0,aJ⟩) 2 2] w fun e w'=>M9 46 3 (n1+n2) (c++d) w e w':=by
 obtain⟨a1,R,rfl⟩:=h1.ae;obtain⟨a2,c2,rfl⟩:=p.ae;have q:=Ab o 0;have r:=Ab o 1;simp only[aD,aB,aE]at q r;have H:=Aa h1;have I:=Aa p;have A:=Abc (n1+n2) w G;obtain⟨i0,B,C,D,E⟩:=info_parts Bg;clear h1 p o;go_enter func46,ntmps46;go_wp2;go_loopw [3,11] (fun s i wr=>(∃j m:Nat,i=.int .i64 (j:Int)/\s=.int .i64 (m:Int)/\(j=0/\m=0\/j=1/\m=n1\/j=2/\m=n1+n2))/\wr=w) (fun s i _=>2-(intOf i).toNat)
 case atStart=>exact⟨⟨0,0,rfl,rfl,.inl ⟨rfl,rfl⟩⟩,rfl⟩
 case round =>
  obtain⟨⟨j,m,rfl,rfl,J⟩,K⟩:=hrel;subst K;rcases J with ⟨rfl,rfl⟩ | ⟨rfl,rfl⟩ | ⟨rfl,rfl⟩
  ·have L:¬((n1:Int)<0):=by omega
   go_wp2;go_roundw;case rel=>exact⟨⟨1,n1,by go_num,by go_num,.inr (.inl ⟨rfl,rfl⟩)⟩,trivial⟩
   case measure=>simp[intOf]
  ·have L:¬((m:Int)+(n2:Int)<0):=by omega
   have S:wrap64 ((m:Int)+(n2:Int))=(m:Int)+(n2:Int):=by unfold wrap64;omega
   go_wp2;go_roundw;case rel=>exact⟨⟨2,m+n2,by go_num,by go_num,.inr (.inr ⟨rfl,rfl⟩)⟩,trivial⟩
   case measure=>simp[intOf]
  ·obtain⟨w0,M⟩:∃w0,w0=wr:=⟨_,rfl⟩;subst M;go_wp2_with (go_at_call 108;refine A.mono ?_)
   rintro e w2 ⟨v,rfl,a,N⟩;have F:=Aa a;clear A a;go_wp2;go_loopw [6,27] (fun s i O=>KM 46 3 n1 n2 c d w0 s i O) (fun s i _=>2-(intOf i).toNat)
   case atStart=>exact⟨0,rfl,.inl ⟨rfl,F.out⟩,N⟩
   case round =>
    obtain⟨j,rfl,P,b⟩:=hrel;have T:=(b.cell (aK _ _ q)).trans q;have U:=(b.cell (aK _ _ r)).trans r;have n:=b.size;clear F;rcases P with ⟨rfl,a⟩ | ⟨rfl,a⟩ | ⟨rfl,a⟩
    ·have f:=H.out.V b;go_wp2_with (at_builtin;refine A8 (by rfl) _ _ 23 (by rfl) w0.heap.size 46 i0 _ 3 56 underlying23 B C D E rfl (by decide) _ 0 _ (by rfl) a _ n1 _ (by rfl) f o1 ?c3 ?c4 n ?_)
     case c3=>unfold maxLen;omega
     case c4=>omega
     intro ao t W h l u;have x:=Aa (show KM 46 3 n1 n2 c d w0 (aC ao (0+n1) t) (.int .i64 ((1:Nat):Int)) W from⟨1,rfl,.inr (.inl ⟨rfl,by simpa using h⟩),b.grown l n (fun k z=>(a.lt k z).1)⟩);clear h l u a f;go_wp2;go_roundw;case rel=>exact(by have:=x.out;simpa using this)
     case measure=>simp[intOf]
    ·have f:=I.out.V b;go_wp2_with (at_builtin;refine A8 (by rfl) _ _ 23 (by rfl) w0.heap.size 46 i0 _ 3 56 underlying23 B C D E rfl (by decide) _ n1 _ (by rfl) a _ n2 _ (by rfl) f o2 ?c3 ?c4 n ?_)
     case c3=>unfold maxLen;omega
     case c4=>omega
     intro ao t W h l u;have x:=Aa (show KM 46 3 n1 n2 c d w0 (aC ao (n1+n2) t) (.int .i64 ((2:Nat):Int)) W from⟨2,rfl,.inr (.inr ⟨rfl,h⟩),b.grown l n (fun k z=>(a.lt k z).1)⟩);clear h l u a f;go_wp2;go_roundw;case rel=>exact(by have:=x.out;simpa using this)
     case measure=>simp[intOf]
    ·have Q:=Aa a;clear a;go_wp2;go_ret;exact⟨_,rfl,Q.out,b⟩
end
variable {B:Nat}{w':World}{v:Value}{ls ls':List LAt}
theorem Y7{o:BAt}(x:LAt)(g:Nat)(l:∃a n c,x.v=aC a n c)(h:AH w o)(m:o.ls.length<=1048576)(f:w.heap[g]?=aG (aH #[aA o.aa,aA o.name,o.v] 46 (0,0))):Calls prog 110 #[aM #[aA x.key,x.v],bA (aG ⟨g,0,aJ⟩)] w fun e w'=>e=aV (.bool (!hasK (o.ls.map LAt.I) x.key))/\Below w.heap.size w w':=by
 obtain⟨a,n,c,i⟩:=l;rw[i];have b:=(aN w.heap.size w).alloc (aL _) (aH #[aA x.key,aC a n c] 115);have c2:=Ab f 2;simp only[aD,aB,aE]at c2;have p:=(b.cell (aK w _ c2)).trans c2;have k0:=A3 (w:=w) (cs:=#[aA x.key,aC a n c]) (T:=115) 0;simp only[aD,aB]at k0;have d:=Je x.key (AH.V h b) m;generalize hasK (o.ls.map LAt.I) x.key=K at *;obtain⟨av,cv,j⟩:=h.1.ae;rw[j]at p d;clear h f c2 i j;generalize o.ls.length=nl at *;generalize x.key=xk at *;go_enter func110,ntmps110;go_wp2_with (go_at_call 111;refine d.mono ?_)
 first | rintro e w1 rfl k | rintro e w1 ⟨rfl,k⟩
 clear d;go_wp2;go_ret;exact⟨rfl,b.trans (k.mono (by simp))⟩
def Xl(u o:BAt)(w:World)(e:Ending)(w':World):Prop:=∃a n c ls,e=aV (aM #[aA o.aa,aA o.name,aC a n c])/\(ls.map LAt.I=DA (rulesOf o.aa) (u.ls.map LAt.I) (o.ls.map LAt.I)/\A5 w.heap.size w' (aC a n c) ls/\Ah ls)/\Below w.heap.size w w'
theorem VQ(us os:List LAt):(us.filter (fun x=>!hasK (os.map LAt.I) x.key)).map LAt.I=EC (us.map LAt.I) (os.map LAt.I):=by
 unfold EC;rw[List.filter_map];rfl
theorem A5.sorted(h:A5 B w v ls)(a:ls'.Perm ls)(b:w'.ownsRow B 115 2 v ls.length (ls'.flatMap LAt.cells))(c:w.grownBy w' v.ownBlock):A5 B w' v ls':=by
 have d:=Az.turn (r':=⟨v,115,2,ls.length,ls'.flatMap LAt.cells⟩) h rfl b c;unfold A5 CE;rw[a.length_eq];exact Az.perm d (List.Perm.cons _ (a.symm.map _))
theorem R5{u o:BAt}(P:AH w u)(Q:AH w o)(ad:Ah u.ls)(ae:Ah o.ls)(cl:o.ls.length+u.ls.length<=100000)(af:Bj (rulesOf o.aa) (o.ls.map LAt.I++EC (u.ls.map LAt.I) (o.ls.map LAt.I))):Calls prog 48 #[aM #[aA u.aa,aA u.name,u.v],aM #[aA o.aa,aA o.name,o.v]] w fun e w'=>Xl u o w e w':=by
 obtain⟨R,S,a8⟩:=P.1.ae;obtain⟨m,n,a9⟩:=Q.1.ae;obtain⟨uk,un,uv,j⟩:=u;obtain⟨ok,on,ov,f⟩:=o;simp only at a8 a9 ad ae cl af;subst a8 a9;have a3:=Ho (w:=w) (o1:=aH #[aA uk,aA un,aC R j.length S] 46) (o2:=aH #[aA ok,aA on,aC m f.length n] 46) (o3:=aH #[aA ⟨#[]⟩,aA ⟨#[]⟩,aC aJ 0 0] 46);have G:Below w.heap.size w (((w.alloc (aH #[aA uk,aA un,aC R j.length S] 46)).alloc (aH #[aA ok,aA on,aC m f.length n] 46)).alloc (aH #[aA ⟨#[]⟩,aA ⟨#[]⟩,aC aJ 0 0] 46)):=(((aN _ _).alloc (aL _) _).alloc (by simp) _).alloc (by simp;omega) _;obtain⟨cm,ba,t,bb⟩:=a3;have ag:=AH.V P G;have bc:=AH.V Q G;have bd:=E0 (F:=110) (q:=bA (aG ⟨w.heap.size+1,0,aJ⟩)) (fun x=>!hasK (f.map LAt.I) x.key) ag (by simp only;omega) (fun x d W be=>Y7 (o:=⟨ok,on,aC m f.length n,f⟩) x (w.heap.size+1) (by obtain⟨a,c,e⟩:=Ap.ae (ag.2 x d);exact⟨a,_,c,e⟩) (AH.V bc be) (by simp only;omega) ((be.block _ (by omega)).trans t)) (enters_of func110 (by kernel_rfl) rfl);have cn:=Aa (VQ j f);have ah:=Aa (show ∀x∈j.filter (fun x=>!hasK (f.map LAt.I) x.key),x∈j from fun x d=>(List.mem_filter.1 d).1);have c9:(j.filter (fun x=>!hasK (f.map LAt.I) x.key)).length<=j.length:=List.length_filter_le _ _;generalize co:j.filter (fun x=>!hasK (f.map LAt.I) x.key)=U at *;have bf:=Ab ba 2;have bg:=Ab t 2;have bh:=Ab t 0;have bi:=Ab t 1;simp only[aD,aB,aE]at bf bg bh bi;have bj:=Aa P;have ai:=Aa Q;have cp:=Aa ad;have cq:=Aa ae;have cr:=Aa af;clear P Q ad ae af ag bc co;generalize ct:j.length=bk at *;generalize bl:f.length=y at *;have bm:=Aa bl;clear ct bl;generalize bn:((w.alloc (aH #[aA uk,aA un,aC R bk S] 46)).alloc (aH #[aA ok,aA on,aC m y n] 46)).alloc (aH #[aA ⟨#[]⟩,aA ⟨#[]⟩,aC aJ 0 0] 46)=W3 at *;go_enter func48,ntmps48;go_wp2_with (go_at_call 109;(try rw[bn]);refine bd.mono ?_)
 first | rintro e w1 v1 rfl o1 aj | rintro e w1 ⟨v1,rfl,o1,aj⟩
 have H:Below W3.heap.size W3 w1:=by rw[cm];exact aj
 have bo:=G.trans (H.mono G.size);obtain⟨la,lc,rfl,_⟩:=Ak o1;have bp:=Aa (AG o1);have ak:=(H.block (w.heap.size+1) (by omega)).trans t;have bq:=(H.block (w.heap.size+2) (by omega)).trans bb;have da:=H.size;have br:=Ab ak 2;simp only[aD,aB,aE]at br;have bs:=Aa (Cy (ls:=f) (fun x d=>by obtain⟨a,c,e⟩:=Ap.ae (ai.out.2 x d);exact⟨a,_,c,e⟩));have bt:=Aa (Cy (ls:=U) (fun x d=>by obtain⟨a,c,e⟩:=Ap.ae (bj.out.2 x (ah.out x d));exact⟨a,_,c,e⟩));clear bd o1 aj bf bg bh bi ba t bb bn G H;generalize bu:U.length=z at *;have bv:=Aa bu;clear bu;have I:=(aN w1.heap.size w1).alloc (aL _) (aH #[aC m y n,aC la z lc] 44);have z2:=Al w1 (aH #[aC m y n,aC la z lc] 44);have al:=bo.trans (I.mono bo.size);have db:(w1.alloc (aH #[aC m y n,aC la z lc] 44)).heap.size=w1.heap.size+1:=by simp
 have bw:=Lm (g:=w1.heap.size) (n1:=f.length) (n2:=z) z2 (Ap.V ai.out.1 al) (bp.out.V I) bs.out bt.out (by have:=bm.out;omega);have bx:=(I.block (w.heap.size+1) (by omega)).trans ak;have bz:=(I.block (w.heap.size+2) (by omega)).trans bq;clear I z2 ak bq bp bs bt;generalize b0:w1.alloc (aH #[aC m y n,aC la z lc] 44)=w2 at *;go_wp2_with (go_at_call 112;(try rw[b0]);refine bw.mono ?_)
 rintro e am ⟨v4,rfl,o4,J⟩;have g4:=al.trans (J.mono al.size);have b1:An am v4 (f++U):=⟨by
   have:=AG o4;rw[<-bv.out]at this;rw[bX,bE];exact this,fun x d=>by
  rcases aS.1 d with h | h
  ·exact BL.V (ai.out.2 x h) g4
  ·exact BL.V (bj.out.2 x (ah.out x h)) g4⟩
 have an:Ah (f++U):=⟨by rw[bX,bm.out,bv.out];omega,fun x d=>by
  rcases aS.1 d with h | h
  ·exact cq.out.2 x h
  ·exact cp.out.2 x (ah.out x h)⟩
 have b2:=CB b1 an;have cu:=Aa an;have b3:=(J.block (w.heap.size+1) (by omega)).trans bx;have b4:=(J.block (w.heap.size+2) (by omega)).trans bz;have dc:=J.size;obtain⟨dd,de,rfl,_⟩:=Ak o4;clear bw o4 J b1 an bx bz b0 br;generalize cv:f.length+z=df at *;clear cv;go_wp2_with (go_at_call 94;refine b2.mono ?_)
 first | rintro e V v5 rfl A K o5 p | rintro e V v5 A rfl K o5 p | rintro e V ⟨v5,A,rfl,K,o5,p⟩
 have b5:=g4.trans (p.mono g4.size);have X:=(p.block (w.heap.size+1) (by omega)).trans b3;have b6:=(p.block (w.heap.size+2) (by omega)).trans b4;have dg:=p.size;have b7:=Ab X 0;have c51:=Ab X 1;simp only[aD,aB,aE]at b7 c51;obtain⟨a5,c5,rfl,_⟩:=Ak o5.row;have M:=Aa o5;have cw:=Aa K;have Y:=Aa (Ah.same cu.out K);have b8:=Cr ok V;clear b2 o5 K p b3 b4;generalize b9:A.length=l at *;have dh:=Aa b9;clear b9;go_wp2_with (go_at_call 29;refine b8.mono ?_)
 rintro e C ⟨vr,L,rfl,ao,Z,aa⟩;have cx:=Ds ok ao;obtain⟨ap,aq,cy,_⟩:=Ak (show C.ownsRow V.heap.size 54 4 vr L.length (L.flatMap AO.cells) from Az.head Z);subst cy;have ar:=(aN C.heap.size C).alloc (aL _) (aH #[aC ap L.length aq] 47);have au:=A3 (w:=C) (cs:=#[aC ap L.length aq]) (T:=47) 0;simp only[aD,aB]at au;have N:=aa.trans (ar.mono aa.size);have av:=b5.trans (N.mono b5.size);have ab:=M.out.V N;have ca:=CX (v:=aC ap L.length aq) ⟨_,_,_,rfl⟩ C;have di:=aa.size;have cb:=E5 (B:=am.heap.size) (g:=C.heap.size) (v:=aC a5 l c5) (ls:=A) ab.row cx (Z.rin.V ar) au (fun x d=>⟨ab.lin.2 x d,(Y.out.2 x d).1⟩) (fun q cc=>by
  have cz:=M.out.row.lt q cc;refine⟨Cc.above (Az.head Z) cz.2,by omega,fun x d=>?_⟩;exact JD (r:=⟨aC a5 l c5,115,2,A.length,A.flatMap LAt.cells⟩) (s:=x.row) M.out (List.mem_map_of_mem d) cc) (Nat.le_trans Y.out.1 (by decide))
 have c0:=Aa ao;have cd:=Aa ab;have aw:=(N.block (w.heap.size+1) (by omega)).trans X;have ax:=(N.block (w.heap.size+2) (by omega)).trans b6;have ay:=Aa (show ∀k,(Value.slice a5 l c5).ownBlock=aG k->am.heap.size<=k from fun k az=>(M.out.row.lt k az).1);clear M b8 Z ao aa ar N X b6 ab;go_wp2_with (first | (go_at_call 75;refine ca.mono ?_;rintro e dj ⟨rfl,rfl⟩) | (go_at_call 74;refine cb.mono ?_))
 first | rintro e O rfl ac D o8 a0 E | rintro e O ⟨rfl,ac,D,o8,a0,E⟩
 have ce:ac.map LAt.I=DA (rulesOf ok) (j.map LAt.I) (f.map LAt.I):=by
  refine Ew cr.out ?_ ?_
  ·rw[<-cn.out,<-aQ,<-cw.out];exact D.map _
  ·intro i k c1 a b cf cg;rw[bG,aW]at cf cg;obtain⟨a',c2,rfl⟩:=cf;obtain⟨b',c3,rfl⟩:=cg;have:=a0 i k c1 a' b' c2 c3;rw[c0.out]at this;exact this
 have ch:=(cd.out.sorted D o8 E);have a1:=av.grown E av.size (fun k az=>by have:=ay.out k az;omega);have ci:Ah ac:=⟨by rw[D.length_eq];exact Y.out.1,fun x d=>Y.out.2 x (D.mem_iff.1 d)⟩;have dk:=av.size;have cj:=(E.block (w.heap.size+2) (aF.1 ax).1 (by intro e;have:=ay.out _ e.symm;omega)).trans ax;have a2:=(E.block (w.heap.size+1) (aF.1 aw).1 (by intro e;have:=ay.out _ e.symm;omega)).trans aw;have c4:=Ab a2 0;have c6:=Ab a2 1;simp only[aD,aB,aE]at c4 c6
 have ck:=Aa (show Xl ⟨uk,un,aC R bk S,j⟩ ⟨ok,on,aC m y n,f⟩ w (aV (aM #[aA ok,aA on,aC a5 l c5])) (O.setRow (w.heap.size+2) #[aA ok,aA on,aC a5 l c5]) from
  ⟨a5,l,c5,ac,rfl,⟨ce,(ch.setRow (w.heap.size+2) (by omega) _).mono (by omega),ci⟩,Bh a1 a1.size (by omega) (Ba O (w.heap.size+2) _)⟩)
 clear cb ca ce ch a1 ci D o8 a0 E cd a2 aw ax au b7 c51;go_wp2_with (with_reducible show wpList _ _ _ (Oper.mk _ (Op.store _ (Operand.tmp 4) _) _ _ _ _::_) _ _;refine wpList_store_row rfl 46 _ _ rfl (w.heap.size+2) #[aA ok,aA on,aC a5 l c5] ?_ ?_ 46 _ cj ?_ ?_ ?_ ?_)
 all_goals (first | rfl | kernel_rfl | exact⟨rfl,rfl,rfl⟩ | (obtain⟨i9,c7,_,c8,_⟩:=info_parts Bg;exact⟨i9,c7,c8⟩) | skip)
 have z9:(O.setRow (w.heap.size+2) #[aA ok,aA on,aC a5 l c5]).heap[w.heap.size+2]?=aG (aH #[aA ok,aA on,aC a5 l c5] 46 (0,0)):=setRow_heap _ _ _ _ _ _ cj;have a4:=Ab z9 0;have a6:=Ab z9 1;have a7:=Ab z9 2;simp only[aD,aB,aE]at a4 a6 a7;generalize O.setRow (w.heap.size+2) #[aA ok,aA on,aC a5 l c5]=W at ck a4 a6 a7 z9⊢;exact bodyPost_ret (v:=aM #[aA ok,aA on,aC a5 l c5]) (by simp[results,results48,go_sem,a4,a6,a7]) rfl ck.out
variable {c:Nat}{bs:List BAt}
theorem NN(e:Bool)(k n:ByteArray)(w:World):(Instr.checkKey e 10000 73 (aM #[aA k,aA n])).run prog w=.ok () w:=by kernel_rfl
theorem VR{a b:ByteArray}:a.toList=b.toList↔a=b:=by
 rw[bN,bN,Array.toList_inj];exact⟨fun h=>ByteArray.ext h,fun h=>by rw[h]⟩
theorem VS(k n k' n':ByteArray)(w:World):(Op.equal 73 (aM #[aA k,aA n]) (aM #[aA k',aA n'])).run prog w=.ok (decide (k=k'/\n=n')) w:=by
 have a:Tryz.prog.underlying 73=aG (.struct (Tryz.prog.fieldsOf 73)):=by kernel_rfl
 unfold Op.equal;rw[show Op.maxDepth=9999+1 from rfl,run_equalIn_agg w 9999 73 _ _ a (by kernel_rfl)];have c:=underlying9;have a9:=bS;have z9:=bO;simp only[Program.fieldsOf,underlying73];go_simp;by_cases h1:k=k' <;> by_cases b:n=n' <;> simp[h1,b,VR]
def ER(i:Nat)(b:BAt):MapEntry:=⟨aM #[aA b.aa,aA b.name],aM #[aA b.aa,aA b.name,b.v],i⟩
def EG(bs:List BAt):Obj:=.map (bs.mapIdx ER).toArray bs.length
def headIx(k n:ByteArray):List BAt->Nat->Option (Nat × BAt)
 | [],_=>aJ
 | b::bs,i=>if k=b.aa/\n=b.name then aG (i,b) else headIx k n bs (i+1)
theorem Ue(bs:List BAt):bs.mapIdx ER=(bs.zipIdx).map (fun p=>ER p.2 p.1):=by
 rw[List.mapIdx_eq_zipIdx_map]
theorem Xm(k n:ByteArray)(w:World):∀(bs:List BAt) (i j:Nat),(bZ 73 (aM #[aA k,aA n]) ((bs.zipIdx j).map (fun p=>ER p.2 p.1)) i).run prog w=.ok ((headIx k n bs i).map (fun p=>(p.1,cY #[aA p.2.aa,aA p.2.name,p.2.v]))) w
 | [],i,j=>rfl
 | b::bs,i,j=>by
  simp only[bH,aP,bZ,ER,aY,VS,aI,headIx];by_cases h:k=b.aa/\n=b.name
  ·simp[h]
  ·simp only[h,decide_false,if_false,Bool.false_eq_true];exact Xm k n w bs (i+1) (j+1)
theorem PE(k n:ByteArray)(w:World)(bs:List BAt):(cI 73 (aM #[aA k,aA n]) (bs.mapIdx ER)).run prog w=.ok ((headIx k n bs 0).map (fun p=>(p.1,cY #[aA p.2.aa,aA p.2.name,p.2.v]))) w:=by
 unfold cI;rw[Ue];cases bs with
 | nil=>simp[run_underlying underlying73,cH,headIx]
 | cons b bs =>
  simp only[aY,run_underlying underlying73,aI,bH,aP,cH,ER,Instr.sameNow];have:=Xm k n w (b::bs) 0 0;simpa [bH,ER] using this
theorem Uf{r:Nat}{es:Array MapEntry}(h:w.heap[r]?=aG (.map es c)):(getObj r).run prog w=.ok (.map es c) w:=by simp[getObj,Sem.run,h]
theorem Ug{r:Nat}{es:Array MapEntry}(o:Obj)(h:w.heap[r]?=aG (.map es c)):(setObj r o).run prog w=.ok () { w with heap:=w.heap.setIfInBounds r o }:=by simp[setObj,Sem.run,h]
def VT:Value:=aM #[aA ⟨#[]⟩,aA ⟨#[]⟩,aC aJ 0 0]
def Adp(b:BAt):Value:=aM #[aA b.aa,aA b.name,b.v]
theorem Uh{r:Nat}(k n:ByteArray)(a:w.heap[r]?=aG (EG bs)):(cK 70 (.map (aG r)) (aM #[aA k,aA n]) false).run prog w=.ok (match headIx k n bs 0 with | some p=>Adp p.2 | none=>VT) w:=by
 unfold EG at a;have h:=a;unfold cK;have b:=Tryz.zeroValue46;simp only[aY,run_underlying underlying70,aI,Uf h,NN];have c:=PE k n w bs;simp only[Sem.run_pure,aI];rw[c];cases headIx k n bs 0 with
 | none=>simp[b,VT]
 | some p=>simp[Adp]
theorem FX{k n:ByteArray}:∀ {bs:List BAt} {i:Nat} {p:Nat × BAt},headIx k n bs i=aG p->∃D T,bs=D++p.2::T/\p.1=i+D.length/\(p.2.aa=k/\p.2.name=n)/\∀x∈D,¬(k=x.aa/\n=x.name)
 | [],_,_,h=>by cases h
 | b::bs,i,p,h=>by
  unfold headIx at h;by_cases a:k=b.aa/\n=b.name
  ·rw[if_pos a]at h;cases h
   exact⟨[],bs,rfl,rfl,⟨a.1.symm,a.2.symm⟩,by simp⟩
  ·rw[if_neg a]at h;obtain⟨D,T,e,d,f,g⟩:=FX h;refine⟨b::D,T,by rw[e];rfl,by rw[d];simp;omega,f,fun x c=>?_⟩;rcases bF.1 c with rfl | c
   ·exact a
   ·exact g x c
theorem Lp{k n:ByteArray}:∀ {bs:List BAt} {i:Nat},headIx k n bs i=aJ->∀x∈bs,¬(k=x.aa/\n=x.name)
 | [],_,_=>by simp
 | b::bs,i,h=>by
  unfold headIx at h;by_cases a:k=b.aa/\n=b.name
  ·rw[if_pos a]at h;cases h
  ·rw[if_neg a]at h;intro x c;rcases bF.1 c with rfl | c
   ·exact a
   ·exact Lp h x c
theorem Ui{r:Nat}(k n:ByteArray)(v:Value)(ls:List LAt)(a:w.heap[r]?=aG (EG bs)):(cB 70 (.map (aG r)) (aM #[aA k,aA n]) (aM #[aA k,aA n,v])).run prog w=.ok () { w with heap:=w.heap.setIfInBounds r (EG (match headIx k n bs 0 with | some p=>bs.set p.1 ⟨k,n,v,ls⟩ | none=>bs++[⟨k,n,v,ls⟩])) }:=by
 unfold EG at a;have h:=a;unfold cB;simp only[aY,run_underlying underlying70,aI,Uf h,NN];have d:=PE k n w bs;simp only[d,aI];cases e:headIx k n bs 0 with
 | none =>
  simp only[Option.map_none,Ug _ h];refine congrArg (fun o=>cT () { w with heap:=w.heap.setIfInBounds r o }) ?_;unfold EG;simp[ER]
 | some p =>
  obtain⟨D,T,rfl,b,⟨rfl,rfl⟩,_⟩:=FX e;rw[cV]at b;have f:(cW ER (D++p.2::T)).toArray[p.1]?=aG (ER p.1 p.2):=by rw[b];simp
  have g:(bU (aM #[aA p.2.aa,aA p.2.name]) (aM #[aA p.2.aa,aA p.2.name])).run prog w=.ok (aM #[aA p.2.aa,aA p.2.name]) w:=by
   unfold bU;rw[if_pos (by simp[Instr.sameBits,beq_toListBytes])];rfl
  simp only[Option.map_some,f,Option.getD_some,ER,aY,g,aI,Ug _ h];refine congrArg (fun o=>cT () { w with heap:=w.heap.setIfInBounds r o }) ?_;unfold EG;show cU _ _=cU (cW ER ((D++p.2::T).set p.1 ⟨p.2.aa,p.2.name,v,ls⟩)).toArray ((D++p.2::T).set p.1 ⟨p.2.aa,p.2.name,v,ls⟩).length
  rw[List.length_set];refine congrArg (fun j=>cU j _) ?_;refine Array.ext (by simp) fun i h1 l=>?_
  simp only[Array.getElem_modify,List.getElem_toArray,List.getElem_mapIdx,List.getElem_set];by_cases c:p.1=i
  ·simp[c,ER]
  ·simp[c]
variable {Q:Exit -> Act -> World -> Prop}{a:Act}{W0:World}{bc:Nat}{ba:Option Addr}
def L9(b:BAt)(bs:List BAt):List BAt:=match headIx b.aa b.name bs 0 with
 | some p=>bs.set p.1 b
 | none=>bs++[b]
def NO(k n:ByteArray)(bs:List BAt):Value:=match headIx k n bs 0 with
 | some p=>Adp p.2
 | none=>VT
def R6: Oper := ⟨aG 32, .move (.tmp 5), 70, "l6_over.go:16", #[], aJ⟩
def R7: Oper := ⟨aG 33, .load 73 (.tmp 8), 73, "l6_over.go:16", #[], aJ⟩
def R8: Oper := ⟨aG 34, .move (.tmp 5), 70, "l6_over.go:16", #[], aJ⟩
def R9: Oper := ⟨aG 35, .load 73 (.tmp 8), 73, "l6_over.go:16", #[], aJ⟩
def RA: Oper := ⟨aG 36, .lookup 70 (.tmp 34) (.tmp 35) false, 46, "l6_over.go:16", #[⟨2, .data⟩, ⟨3, .data⟩], aJ⟩
def RB: Oper := ⟨aG 37, .load 46 (.tmp 7), 46, "l6_over.go:16", #[], aJ⟩
def RC: Oper := ⟨aG 38, .call { callee := .value (.func 48), args := #[.tmp 36, .tmp 37], argTypes := #[46, 46] }, 46, "l6_over.go:16", #[⟨4, .data⟩, ⟨5, .data⟩], aJ⟩
def RD: Oper := ⟨aJ, .mapUpdate 70 (.tmp 32) (.tmp 33) (.tmp 38), 0, "l6_over.go:16", #[⟨0, .data⟩, ⟨1, .data⟩, ⟨6, .data⟩, ⟨6, .chain⟩, ⟨0, .phase⟩, ⟨1, .phase⟩, ⟨2, .phase⟩, ⟨3, .phase⟩, ⟨4, .phase⟩, ⟨5, .phase⟩, ⟨6, .phase⟩], aJ⟩
def Agi:List Oper:=[R6,R7,R8,R9,RA,RB,RC,RD]
def OmF(r:Nat)(k n:ByteArray)(lv bv:Value)(J:Value->List LAt->World->Prop)(j:Nat)(x:Value)(W:World):Prop:=match j with
 | 0=>x=.map (aG r)
 | 1=>x=aM #[aA k,aA n]
 | 2=>x=.map (aG r)
 | 3=>x=aM #[aA k,aA n]
 | 4=>x=lv
 | 5=>x=aM #[aA k,aA n,bv]
 | 6=>∃a m b ls,x=aM #[aA k,aA n,aC a m b]/\J (aC a m b) ls W
 | _=>True
theorem Abf{r A R bn:Nat}{k n:ByteArray}(P:World->Value->List LAt->World->Prop)(I:W0.heap[r]?=aG (EG bs))(J:W0.heap[A]?=aG (aH #[aA k,aA n] 73 (0,0)))(M:W0.heap[R]?=aG (aH #[aA k,aA n,(aC ba bn bc)] 46 (0,0)))(N:∀W,Below W0.heap.size W0 W->Calls prog 48 #[NO k n bs,(aM #[aA k,aA n,(aC ba bn bc)])] W fun e w'=>∃q m u ls,e=aV (aM #[aA k,aA n,aC q m u])/\P W (aC q m u) ls w'/\Below W.heap.size W w')
  (F:a.eval (.tmp 5)=.map (aG r)) (O:a.eval (.tmp 7)=bA (aG ⟨R,0,aJ⟩)) (G:a.eval (.tmp 8)=bA (aG ⟨A,0,aJ⟩)) (al:a.tmps.size=48)
  (S:∀v a' q m u ls W1 W2,a'=Ai a [32,33,34,35,36,37,38] v->Below W0.heap.size W0 W1->P W1 (aC q m u) ls W2->Below W1.heap.size W1 W2->Q .normal a' { W2 with heap:=W2.heap.setIfInBounds r (EG (L9 ⟨k,n,aC q m u,ls⟩ bs)) }):(Code.region 8 Agi.toArray true).wp prog Q a W0:=by
 have s:([32,33,34,35,36,37,38]:List Nat).Nodup:=by decide
 refine Be [32,33,34,35,36,37,38] (OmF r k n (NO k n bs) (aC ba bn bc) (fun v ls W=>∃W1,Below W0.heap.size W0 W1/\P W1 v ls W/\Below W1.heap.size W1 W)) (fun _ W=>W.heap[r]?=aG (EG bs)/\W.heap[A]?=aG (aH #[aA k,aA n] 73 (0,0))/\W.heap[R]?=aG (aH #[aA k,aA n,(aC ba bn bc)] 46 (0,0))/\Below W0.heap.size W0 W) 7 8 [0,1,2,3,4,5,6,7] (by kernel_rfl) rfl (by decide) (by kernel_rfl) ?h1 ⟨I,J,M,(aN _ _).drew⟩ ?hall;case h1 =>
  intro i x W am;unfold OmF;split <;> first | omega | trivial
 refine Ag.ad (o:=R6) [] (by kernel_rfl) (by decide) (by kernel_rfl) rfl ?o0 (Ag.ad (o:=R7) [] (by kernel_rfl) (by decide) (by kernel_rfl) rfl ?o1 (Ag.ad (o:=R8) [] (by kernel_rfl) (by decide) (by kernel_rfl) rfl ?o2 (Ag.ad (o:=R9) [] (by kernel_rfl) (by decide) (by kernel_rfl) rfl ?o3 (Ag.ad (o:=RA) [2,3] (by kernel_rfl) (by decide) (by kernel_rfl) rfl ?o4 (Ag.ad (o:=RB) [] (by kernel_rfl) (by decide) (by kernel_rfl) rfl ?o5 (Ag.ad (o:=RC) [4,5] (by kernel_rfl) (by decide) (by kernel_rfl) rfl ?o6 (Ag.lastQ (o:=RD) [0,1,6,6,0,1,2,3,4,5,6] (by kernel_rfl) (by kernel_rfl) rfl ?o7)))))));case o0 =>
  rintro z L _ W w t ⟨v,rfl,c,g,d,f,l⟩ K p;have B:=(A1 (v:=v) (show 5 ∉ ([32,33,34,35,36,37,38]:List Nat) by decide)).trans F;have b : execOp (Ai a [32, 33, 34, 35, 36, 37, 38] v).eval R6 = execOp (aX ⟨#[undef], []⟩) ⟨aG 0, .move (.const (.map (aG r))), 0, "", #[], aJ⟩ := by simp only[execOp, Ac, R6, B]
  refine Br.mk ?_;unfold bD;rw[b];clear b;go_simp;exact p.out _ _ (A7.ag (W:=W) c 0 (.map (aG r)) (Ao 0 s rfl) (fun _ _ _ h=>h) rfl ⟨g,d,f,l⟩)
 case o2 =>
  rintro z L _ W w t ⟨v,rfl,c,g,d,f,l⟩ K p;have B:=(A1 (v:=v) (show 5 ∉ ([32,33,34,35,36,37,38]:List Nat) by decide)).trans F;have b : execOp (Ai a [32, 33, 34, 35, 36, 37, 38] v).eval R8 = execOp (aX ⟨#[undef], []⟩) ⟨aG 0, .move (.const (.map (aG r))), 0, "", #[], aJ⟩ := by simp only[execOp, Ac, R8, B]
  refine Br.mk ?_;unfold bD;rw[b];clear b;go_simp;exact p.out _ _ (A7.ag (W:=W) c 2 (.map (aG r)) (Ao 2 s rfl) (fun _ _ _ h=>h) rfl ⟨g,d,f,l⟩)
 case o1 =>
  rintro z L _ W w t ⟨v,rfl,c,g,d,f,l⟩ K p;have c0:=Ab d 0;have C:=Ab d 1;simp only[aD,aB,aE]at c0 C;have D:=(A1 (v:=v) (show 8 ∉ ([32,33,34,35,36,37,38]:List Nat) by decide)).trans G;have b : execOp (Ai a [32, 33, 34, 35, 36, 37, 38] v).eval R7 = execOp (aX ⟨#[undef], []⟩) ⟨aG 0, .load 73 (.const (bA (aG ⟨A, 0, aJ⟩))), 0, "", #[], aJ⟩ := by simp only[execOp, Ac, R7, D]
  refine Br.mk ?_;unfold bD;rw[b];clear b;go_simp;exact p.out _ _ (A7.ag (W:=W) c 1 (aM #[aA k,aA n]) (Ao 1 s rfl) (fun _ _ _ h=>h) rfl ⟨g,d,f,l⟩)
 case o3 =>
  rintro z L _ W w t ⟨v,rfl,c,g,d,f,l⟩ K p;have c0:=Ab d 0;have C:=Ab d 1;simp only[aD,aB,aE]at c0 C;have D:=(A1 (v:=v) (show 8 ∉ ([32,33,34,35,36,37,38]:List Nat) by decide)).trans G;have b : execOp (Ai a [32, 33, 34, 35, 36, 37, 38] v).eval R9 = execOp (aX ⟨#[undef], []⟩) ⟨aG 0, .load 73 (.const (bA (aG ⟨A, 0, aJ⟩))), 0, "", #[], aJ⟩ := by simp only[execOp, Ac, R9, D]
  refine Br.mk ?_;unfold bD;rw[b];clear b;go_simp;exact p.out _ _ (A7.ag (W:=W) c 3 (aM #[aA k,aA n]) (Ao 3 s rfl) (fun _ _ _ h=>h) rfl ⟨g,d,f,l⟩)
 case o4 =>
  rintro z L _ W w t ⟨v,rfl,c,g,d,f,l⟩ K p;have T:(Ai a [32,33,34,35,36,37,38] v).eval (.tmp 34)=_:=(Aj 2 s rfl (by omega)).trans (c 2 (t 2 (by simp)));have U:(Ai a [32,33,34,35,36,37,38] v).eval (.tmp 35)=_:=(Aj 3 s rfl (by omega)).trans (c 3 (t 3 (by simp)));have an:=Uh k n g;have b : execOp (Ai a [32, 33, 34, 35, 36, 37, 38] v).eval RA = execOp (aX ⟨#[undef], []⟩) ⟨aG 0, .lookup 70 (.const (.map (aG r))) (.const (aM #[aA k, aA n])) false, 0, "", #[], aJ⟩ := by simp only[execOp, Ac, RA, T, U]
  refine Br.mk ?_;unfold bD;rw[b];clear b;go_simp;exact p.out _ _ (A7.ag (W:=W) c 4 (NO k n bs) (Ao 4 s rfl) (fun _ _ _ h=>h) rfl ⟨g,d,f,l⟩)
 case o5 =>
  rintro z L _ W w t ⟨v,rfl,c,g,d,f,l⟩ K p;have V:=Ab f 0;have X:=Ab f 1;have Y:=Ab f 2;simp only[aD,aB,aE]at V X Y;have Z:=(A1 (v:=v) (show 7 ∉ ([32,33,34,35,36,37,38]:List Nat) by decide)).trans O;have b : execOp (Ai a [32, 33, 34, 35, 36, 37, 38] v).eval RB = execOp (aX ⟨#[undef], []⟩) ⟨aG 0, .load 46 (.const (bA (aG ⟨R, 0, aJ⟩))), 0, "", #[], aJ⟩ := by simp only[execOp, Ac, RB, Z]
  refine Br.mk ?_;unfold bD;rw[b];clear b;go_simp;exact p.out _ _ (A7.ag (W:=W) c 5 (aM #[aA k,aA n,(aC ba bn bc)]) (Ao 5 s rfl) (fun _ _ _ h=>h) rfl ⟨g,d,f,l⟩)
 case o6 =>
  rintro z L _ W w t ⟨v,rfl,c,g,d,f,l⟩ K p;have aa:(Ai a [32,33,34,35,36,37,38] v).eval (.tmp 36)=_:=(Aj 4 s rfl (by omega)).trans (c 4 (t 4 (by simp)));have ab:(Ai a [32,33,34,35,36,37,38] v).eval (.tmp 37)=_:=(Aj 5 s rfl (by omega)).trans (c 5 (t 5 (by simp)));have ac:=N W l;have b : execOp (Ai a [32, 33, 34, 35, 36, 37, 38] v).eval RC = execOp (aX ⟨#[undef], []⟩) ⟨aG 0, .call { callee := .value (.func 48), args := #[.const (NO k n bs), .const (aM #[aA k, aA n, (aC ba bn bc)])], argTypes := #[46, 46] }, 0, "", #[], aJ⟩ := by simp only[execOp, Ac, RC, resolve, BQ, List.map_toArray, aP, List.map_nil, aa, ab]
  refine Br.mk ?_;unfold bD;rw[b];clear b;go_simp;refine ac.mono ?_;rintro e W' ⟨q,m,u,ls,rfl,E,b'⟩;refine p.out _ _ (A7.ag (W:=W) c 6 (aM #[aA k,aA n,aC q m u]) (Ao 6 s rfl) (fun j y H h=>?_) ⟨q,m,u,ls,rfl,W,l,E,b'⟩ ⟨(b'.block r (aF.1 g).1).trans g,(b'.block A (aF.1 d).1).trans d,(b'.block R (aF.1 f).1).trans f,l.trans (b'.mono l.size)⟩);have ad:j≠6:=fun e=>by rw[e,w]at H;cases H
  unfold OmF at *;split <;> simp only at h
  all_goals first | exact h | exact absurd rfl ad | trivial
 case o7 =>
  rintro z L _ W w t ⟨v,rfl,c,g,d,f,l⟩ K p;obtain⟨q,m,u,ls,ae,W1,af,E,ag⟩:=c 6 (t 6 (by simp));have ah:(Ai a [32,33,34,35,36,37,38] v).eval (.tmp 32)=_:=(Aj 0 s rfl (by omega)).trans (c 0 (t 0 (by simp)));have ai:(Ai a [32,33,34,35,36,37,38] v).eval (.tmp 33)=_:=(Aj 1 s rfl (by omega)).trans (c 1 (t 1 (by simp)));have aj:(Ai a [32,33,34,35,36,37,38] v).eval (.tmp 38)=_:=(Aj 6 s rfl (by omega)).trans ae;have ao:=Ui k n (aC q m u) ls g;have ak:=Aa (S v _ q m u ls W1 W rfl af E ag);have b : execOp (Ai a [32, 33, 34, 35, 36, 37, 38] v).eval RD = execOp (aX ⟨#[undef], []⟩) ⟨aG 0, .mapUpdate 70 (.const (.map (aG r))) (.const (aM #[aA k, aA n])) (.const (aM #[aA k, aA n, aC q m u])), 0, "", #[], aJ⟩ := by simp only[execOp, Ac, RD, ah, ai, aj]
  refine Br.mk ?_;unfold bD;rw[b];clear b;go_simp;exact p.out _ _ (NoPanic.normal ak.out)
theorem VU{l m:List PBlock}(c:CI l)(d:CI m)(h:∀k n,look l k n=look m k n):l.Perm m:=by
 have g:∀ {x:List PBlock},CI x->x.Nodup:=fun {x} i=>i.imp fun {a b} j e=>j (by rw[e];exact⟨rfl,rfl⟩)
 refine(List.perm_ext_iff_of_nodup (g c) (g d)).2 fun a=>?_
 constructor
 ·intro f;have:=(Fl c (kind:=a.aa) (name:=a.name) (b:=a)).2 ⟨f,rfl,rfl⟩;rw[h]at this;exact((Fl d).1 this).1
 ·intro f;have:=(Fl d (kind:=a.aa) (name:=a.name) (b:=a)).2 ⟨f,rfl,rfl⟩;rw[<-h]at this;exact((Fl c).1 this).1
theorem Lq{k n:ByteArray}:∀(bs:List BAt) (i:Nat),(headIx k n bs i).map (fun p=>p.2.I)=look (bs.map BAt.I) k n
 | [],_=>rfl
 | b::bs,i=>by
  unfold headIx look;rw[aP,bK];by_cases h:k=b.aa/\n=b.name
  ·rw[if_pos h,show AE k n b.I=true from AI.2 ⟨h.1.symm,h.2.symm⟩];rfl
  ·rw[if_neg h,show AE k n b.I=false from by
    rw[aR];exact fun e=>h ⟨(AI.1 e).1.symm,(AI.1 e).2.symm⟩]
   exact Lq bs (i+1)
theorem setH_cases(b:BAt)(bs:List BAt):(∃D x T,bs=D++x::T/\(x.aa=b.aa/\x.name=b.name)/\L9 b bs=D++b::T/\headIx b.aa b.name bs 0=aG (D.length,x))\/(headIx b.aa b.name bs 0=aJ/\L9 b bs=bs++[b]):=by
 unfold L9;cases h:headIx b.aa b.name bs 0 with
 | none=>exact .inr ⟨rfl,rfl⟩
 | some p =>
  obtain⟨D,T,e,a,c,_⟩:=FX h;obtain⟨i,x⟩:=p;simp only at e a c;rw[cV]at a;subst a;refine .inl ⟨D,x,T,e,c,?_,rfl⟩;rw[e];simp
theorem Y8{b:BAt}(g:CI (bs.map BAt.I)):CI ((L9 b bs).map BAt.I)/\∀k n,look ((L9 b bs).map BAt.I) k n=if k=b.aa/\n=b.name then aG b.I else look (bs.map BAt.I) k n:=by
 rcases setH_cases b bs with ⟨D,x,T,rfl,d,e,_⟩ | ⟨p,e⟩
 ·have h:CI ((D++b::T).map BAt.I):=by
   unfold CI at *;rw[aQ,aP]at g⊢;rw[bB,List.pairwise_cons]at g⊢;obtain⟨h1,⟨q,r⟩,l⟩:=g;refine⟨h1,⟨fun y c e=>q y c ⟨d.1.trans e.1,d.2.trans e.2⟩,r⟩,fun y c m f=>?_⟩;rcases bF.1 f with rfl | f
   ·intro e;exact l y c x.I (by simp) ⟨e.1.trans d.1.symm,e.2.trans d.2.symm⟩
   ·exact l y c m (by simp[f])
  rw[e];refine⟨h,fun k n=>?_⟩;by_cases a:k=b.aa/\n=b.name
  ·rw[if_pos a,a.1,a.2];exact FP h (b:=b.I) (by simp)
  ·rw[if_neg a];unfold look;rw[aQ,aP,aQ,aP,aU,aU,bK,bK];rw[show AE k n b.I=false from by rw[aR];exact fun e=>a ⟨(AI.1 e).1.symm,(AI.1 e).2.symm⟩];rw[show AE k n x.I=false from by rw[aR];exact fun e=>a ⟨(AI.1 e).1.symm.trans d.1,(AI.1 e).2.symm.trans d.2⟩]
 ·rw[e,aQ,List.map_singleton];have o:=Lp p;have h:CI (bs.map BAt.I++[b.I]):=by
   unfold CI at *;rw[bB];refine⟨g,List.pairwise_singleton _ _,fun y c m f=>?_⟩;rw[bW.1 f];obtain⟨i,j,rfl⟩:=cP.1 c;exact fun e=>o i j ⟨e.1.symm,e.2.symm⟩
  refine⟨h,fun k n=>?_⟩;unfold look;rw[aU];by_cases a:k=b.aa/\n=b.name
  ·rw[if_pos a,show List.find? (AE k n) (bs.map BAt.I)=aJ from by
    rw[List.find?_eq_none];intro y c;obtain⟨i,j,rfl⟩:=cP.1 c;exact fun e=>o i j ⟨a.1.symm.trans (AI.1 e).1.symm,a.2.symm.trans (AI.1 e).2.symm⟩]
   simp[show AE k n b.I=true from AI.2 ⟨a.1.symm,a.2.symm⟩]
  ·rw[if_neg a];simp[show AE k n b.I=false from by rw[aR];exact fun e=>a ⟨(AI.1 e).1.symm,(AI.1 e).2.symm⟩]
variable {W W' W1 W2:World}{y:BAt}
theorem PF{l:List PBlock}{b:PBlock}(h:look l b.aa b.name=aJ)(k n:ByteArray):look (l++[b]) k n=if k=b.aa/\n=b.name then aG b else look l k n:=by
 unfold look at *;rw[aU];by_cases a:k=b.aa/\n=b.name
 ·rw[if_pos a,a.1,a.2,h];simp[show AE b.aa b.name b=true from AI.2 ⟨rfl,rfl⟩]
 ·rw[if_neg a];simp[show AE k n b=false from by rw[aR];exact fun e=>a ⟨(AI.1 e).1.symm,(AI.1 e).2.symm⟩]
theorem Eh{l D T:List PBlock}{b:PBlock}(a:CI l)(e:l=D++b::T):look (l.take D.length) b.aa b.name=aJ:=by
 subst e;rw[bI (aL _),aO,Db];intro y c e;exact(bB.1 a).2.2 y c b (by simp) e
theorem Kc{l D T:List PBlock}{b:PBlock}(e:l=D++b::T):l.take (D.length+1)=l.take D.length++[b]:=by
 subst e;rw[bI (aL _),aO,List.take_append,List.take_of_length_le (by omega)];simp
def Et(us os:List PBlock)(i j:Nat)(L:List PBlock):Prop:=CI L/\∀k n,look L k n=MY (look (us.take i) k n) (look (os.take j) k n)
theorem VV(us os:List PBlock):Et us os 0 0 []:=⟨cX,fun k n=>by simp[look,MY]⟩
def VW(W:World)(r:Nat)(o:Obj):World:={ W with heap:=W.heap.setIfInBounds r o }
theorem NP(W:World)(r:Nat)(o:Obj):W.grownBy (VW W r o) (aG r):=⟨rfl,rfl,rfl,by simp[VW],fun i b a=>by
 have:r≠i:=fun e=>a (by rw[e])
 simp[VW,this]⟩
theorem Adq(W:World)(r:Nat)(o:Obj)(h:r<W.heap.size):(VW W r o).heap[r]?=aG o:=by simp[VW,h]
structure OvI(w:World)(r:Nat)(bs:List BAt)(W:World):Prop where
 bw:Below w.heap.size w W
 mp:W.heap[r]?=aG (EG bs)
 mem:Az (r+1) W (bs.flatMap BAt.ah)
 ok:∀b∈bs,Aw (rulesOf b.aa) (b.ls.map LAt.I)
 sm:∀b∈bs,b.name.size<=1048576/\Ah b.ls
 wr:w.heap.size<=r
theorem OvI.V{r:Nat}(h:OvI w r bs W)(a:Below W.heap.size W W'):OvI w r bs W' :=
 ⟨h.bw.trans (a.mono h.bw.size),(a.block r (aF.1 h.mp).1).trans h.mp,Az.V h.mem a,h.ok,h.sm,h.wr⟩
theorem setH_mem{b:BAt}(h:y∈L9 b bs):y=b\/y∈bs:=by
 rcases setH_cases b bs with ⟨D,x,T,rfl,_,e,_⟩ | ⟨_,e⟩
 ·rw[e]at h;simp only[aS,bF]at h⊢;rcases h with h | h | h
  ·exact .inr (.inl h)
  ·exact .inl h
  ·exact .inr (.inr (.inr h))
 ·rw[e]at h;rcases aS.1 h with h | h
  ·exact .inr h
  ·exact .inl (bW.1 h)
theorem OvI.set{r:Nat}{b:BAt}(h:OvI w r bs W)(i:Below W.heap.size W W1)(d:Below W1.heap.size W1 W2)(j:A5 W1.heap.size W2 b.v b.ls)(k:Aw (rulesOf b.aa) (b.ls.map LAt.I))(l:b.name.size<=1048576/\Ah b.ls):OvI w r (L9 b bs) (VW W2 r (EG (L9 b bs))):=by
 have h1:=h.V i;have c:=h1.V d;have o:r<W1.heap.size:=(aF.1 h1.mp).1;have m:r<W2.heap.size:=(aF.1 c.mp).1;have f:=NP W2 r (EG (L9 b bs));have g:Az (r+1) W2 (BAt.ah b++bs.flatMap BAt.ah):=Az.join h1.mem j d (by omega);refine⟨Bh c.bw c.bw.size h.wr f,Adq _ _ _ m,Az.other ?_ f (by omega),fun y a=>?_,fun y a=>?_,h.wr⟩
 ·rcases setH_cases b bs with ⟨D,x,T,rfl,_,e,_⟩ | ⟨_,e⟩
  ·rw[e];have n:(BAt.ah b++(D++x::T).flatMap BAt.ah).Perm ((D++b::T).flatMap BAt.ah++BAt.ah x):=by
    simp only[bE,List.flatMap_cons];refine(List.perm_append_comm_assoc _ _ _).trans ?_;rw[bY,bY];refine bL _ (bL _ ?_);exact bP
   exact Az.left (Az.perm g n)
  ·rw[e,bE,List.flatMap_singleton];exact Az.perm g bP
 ·rcases setH_mem a with rfl | a
  ·exact k
  ·exact h.ok y a
 ·rcases setH_mem a with rfl | a
  ·exact l
  ·exact h.sm y a
variable {us os:List PBlock}
theorem VX{L c:List PBlock}{D T:List PBlock}{u b:PBlock}(d:CI us)(e:us=D++u::T)(h:Et us os D.length 0 L)(f:CI c)(g:b=u)(i:∀k n,look c k n=if k=b.aa/\n=b.name then aG b else look L k n):Et us os (D.length+1) 0 c:=by
 subst g;refine⟨f,fun k n=>?_⟩;rw[i,h.2,Kc e,PF (Eh d e)];have j:look (os.take 0) k n=aJ:=by simp[look]
 rw[j];by_cases a:k=b.aa/\n=b.name
 ·rw[if_pos a,if_pos a];rfl
 ·rw[if_neg a,if_neg a]
theorem Y9{L d:List PBlock}{D T:List PBlock}{o b:PBlock}(f:CI os)(e:os=D++o::T)(h:Et us os us.length D.length L)(g:CI d)(i:aG b=MY (look us o.aa o.name) (aG o))(c:b.aa=o.aa/\b.name=o.name)(j:∀k n,look d k n=if k=b.aa/\n=b.name then aG b else look L k n):Et us os us.length (D.length+1) d:=by
 refine⟨g,fun k n=>?_⟩;rw[j,h.2,Kc e,PF (Eh f e),aO];by_cases a:k=o.aa/\n=o.name
 ·rw[if_pos (by rw[c.1,c.2];exact a),if_pos a,a.1,a.2];exact i
 ·rw[if_neg (by rw[c.1,c.2];exact a),if_neg a]
theorem YA{L:List PBlock}{D T:List PBlock}{o:PBlock}(a:CI os)(e:os=D++o::T)(h:Et us os us.length D.length L):look L o.aa o.name=look us o.aa o.name:=by
 rw[h.2,Eh a e,aO];cases look us o.aa o.name <;> rfl
theorem Abh{L:List PBlock}{D T:List PBlock}{u:PBlock}(a:CI us)(e:us=D++u::T)(h:Et us os D.length 0 L):look L u.aa u.name=aJ:=by
 rw[h.2,Eh a e];simp[look,MY]
theorem Abi{L:List PBlock}(a:Am us)(b:Am os)(h:Et us os us.length os.length L)(c:∀k n,look (AM us os) k n=MY (look us k n) (look os k n)):L.Perm (AM us os):=VU h.1 (Ey a b) fun k n=>by rw[h.2,aO,aO,c]
theorem Abj(h:Am us)(i:Am os)(k n:ByteArray):look (AM us os) k n=MY (look us k n) (look os k n):=by
 have f:=Ey h i;cases c:look os k n with
 | some o =>
  have a:=Bo c;have d:EX us o∈AM us os:=overRaw_mem.2 (.inl ⟨o,a.1,rfl⟩);have:=(Fl f (kind:=k) (name:=n) (b:=EX us o)).2 ⟨d,(BN us o).1.trans a.2.1,(BN us o).2.trans a.2.2⟩;rw[this];unfold EX;rw[a.2.1,a.2.2];cases look us k n <;> rfl
 | none =>
  cases g:look us k n with
  | some u =>
   have a:=Bo g;have d:u∈AM us os:=overRaw_mem.2 (.inr ⟨a.1,by rw[a.2.1,a.2.2];exact c⟩);exact(Fl f).2 ⟨d,a.2.1,a.2.2⟩
  | none =>
   refine Db.2 fun b j e=>?_
   rcases overRaw_mem.1 j with ⟨o,l,rfl⟩ | ⟨m,_⟩
   ·exact Db.1 c o l ⟨(BN us o).1.symm.trans e.1,(BN us o).2.symm.trans e.2⟩
   ·exact Db.1 g b m e
theorem VY(k n:ByteArray)(a:Option Addr)(m c:Nat)(w:World):Calls prog 47 #[aM #[aA k,aA n,aC a m c]] w fun e w'=>e=aV (aM #[aA k,aA n])/\Below w.heap.size w w':=by
 go_enter func47,ntmps47;go_wp2;have b:=Al (w.alloc (aH #[aA k,aA n,aC a m c] 46)) (aH #[aA k,aA n] 73);rw[World.size_alloc]at b;have d:=Ab b 0;have f:=Ab b 1;simp only[aD,aB,aE]at d f;exact bodyPost_ret (v:=aM #[aA k,aA n]) (by simp[results,results47,go_sem,d,f]) rfl ⟨rfl,((aN w.heap.size w).alloc (aL _) _).alloc (by simp) _⟩
theorem VZ(r:Nat)(w:World):Calls prog 50 #[.map (aG r)] w fun e w'=>e=aV (.func (.func 114) #[] #[bA (aG ⟨w.heap.size,0,aJ⟩)])/\w'=w.alloc (aH #[.map (aG r)] 70):=by
 go_enter func50,ntmps50;go_wp2;go_ret;exact⟨rfl,rfl⟩
variable {α:Type}{j:Nat}{w2:World}{uv ov cv:Value}
def PG(us os:List PBlock)(j:Nat)(L:List PBlock):Prop:=(j<=us.length/\Et us os j 0 L)\/(us.length<=j/\j<=us.length+os.length/\Et us os us.length (j-us.length) L)
theorem PH{l:List α}{b:α}(h:l[j]?=aG b):∃D T,l=D++b::T/\D.length=j:=by
 obtain⟨a,rfl⟩:=bM.1 h;exact⟨l.take j,l.drop (j+1),by rw[List.getElem_cons_drop,List.take_append_drop],by simp;omega⟩
def found(k n:ByteArray)(bs:List BAt):BAt:=match headIx k n bs 0 with
 | some p=>p.2
 | none=>⟨⟨#[]⟩,⟨#[]⟩,aC aJ 0 0,[]⟩
theorem Wa(k n:ByteArray)(bs:List BAt):NO k n bs=Adp (found k n bs):=by
 unfold NO found;cases headIx k n bs 0 <;> rfl
theorem found_cases(k n:ByteArray)(bs:List BAt):(look (bs.map BAt.I) k n=aJ/\found k n bs=⟨⟨#[]⟩,⟨#[]⟩,aC aJ 0 0,[]⟩)\/(found k n bs∈bs/\look (bs.map BAt.I) k n=aG (found k n bs).I):=by
 have h:=Lq (k:=k) (n:=n) bs 0;unfold found;cases a:headIx k n bs 0 with
 | none=>rw[a]at h;exact .inl ⟨h.symm,rfl⟩
 | some p =>
  rw[a]at h;obtain⟨D,T,e,_⟩:=FX a;exact .inr ⟨by rw[e];simp,h.symm⟩
def OvL(w2:World)(us os:List BAt)(cv:Value)(j:Nat)(bs:List BAt)(W:World):Prop:=OvI w2 w2.heap.size bs W/\W.ownsRow (w2.heap.size+1) 46 3 cv (us.length+os.length) ((us++os).flatMap BAt.cells)/\PG (us.map BAt.I) (os.map BAt.I) j (bs.map BAt.I)
def Abk(b u:BAt)(W1:World)(v:Value)(ls:List LAt)(W2:World):Prop:=ls.map LAt.I=DA (rulesOf b.aa) (u.ls.map LAt.I) (b.ls.map LAt.I)/\A5 W1.heap.size W2 v ls/\Ah ls
theorem OvI.blockIn{r:Nat}(h:OvI w r bs W){b:BAt}(a:b∈bs):A5 (r+1) W b.v b.ls:=by
 obtain⟨A,C,e⟩:=Ft BAt.ah a;have:=h.mem;rw[e]at this;exact Az.left (Az.right this)
theorem PG.found{L:List PBlock}{b:PBlock}(o:Am us)(p:Am os)(h:PG us os j L)(a:(us++os)[j]?=aG b):CI L/\Aw (rulesOf b.aa) b.ac/\(∀u,look L b.aa b.name=aG u->Aw (rulesOf b.aa) u.ac) /\
  ∀(d:List PBlock) (b':PBlock),b'=⟨b.aa,b.name,DA (rulesOf b.aa) (((look L b.aa b.name).map PBlock.ac).getD []) b.ac⟩->CI d->(∀k n,look d k n=if k=b'.aa/\n=b'.name then aG b' else look L k n)->PG us os (j+1) d:=by
 by_cases t:j<us.length
 ·rw[List.getElem?_append_left t]at a;obtain⟨D,T,e,rfl⟩:=PH a;have c:Et us os D.length 0 L:=by
   rcases h with ⟨_,h⟩ | ⟨h1,_⟩
   ·exact h
   ·omega
  have q:b∈us:=bC a;have f:=(o.2.1 b q).2.2;have g:=Abh o.heads e c;refine⟨c.1,f,fun u i=>(by rw[g]at i;cases i),fun d b' l r s=>.inl ⟨by omega,?_⟩⟩;rw[g]at l;have v:b'=b:=by
   rw[l];show PBlock.mk b.aa b.name (DA (rulesOf b.aa) [] b.ac)=b
   rw[MX f]
  exact VX o.heads e c r v s
 ·rw[List.getElem?_append_right (by omega)]at a;have A:j-us.length<os.length:=(bM.1 a).1;obtain⟨D,T,e,w⟩:=PH a;have c:Et us os us.length D.length L:=by
   rw[w];rcases h with ⟨h1,h⟩ | ⟨_,_,h⟩
   ·have:j=us.length:=by omega
    subst this;rw[Nat.sub_self];exact h
   ·exact h
  have q:b∈os:=bC a;have f:=(p.2.1 b q).2.2;have g:=YA p.heads e c;have x:∀u,look L b.aa b.name=aG u->Aw (rulesOf b.aa) u.ac:=fun u i=>by
   rw[g]at i;obtain⟨m,y,_⟩:=Bo i;have:=(o.2.1 u m).2.2
   rwa [y]at this
  refine⟨c.1,f,x,fun d b' l r s=>.inr ⟨by omega,by omega,?_⟩⟩;have z:j+1-us.length=D.length+1:=by omega
  rw[z];refine Y9 p.heads e c r ?_ (by rw[l];exact⟨rfl,rfl⟩) s;rw[l,g];cases look us b.aa b.name with
  | none =>
   show aG (PBlock.mk b.aa b.name (DA (rulesOf b.aa) [] b.ac))=aG b
   rw[MX f]
  | some u=>rfl
theorem OvL.step{us os:List BAt}{b:BAt}(y:As w2 uv us)(z:As w2 ov os)(A:Ax us)(B:Ax os)(C:Am (us.map BAt.I))(D:Am (os.map BAt.I))(h:OvL w2 us os cv j bs W)(l:(us++os)[j]?=aG b):
  (∀W1,Below W.heap.size W W1->Calls prog 48 #[NO b.aa b.name bs,aM #[aA b.aa,aA b.name,b.v]] W1 fun e w'=>∃q m g ls,e=aV (aM #[aA b.aa,aA b.name,aC q m g])/\Abk b (found b.aa b.name bs) W1 (aC q m g) ls w'/\Below W1.heap.size W1 w') /\
  (∀v ls W1 W2,Below W.heap.size W W1->Abk b (found b.aa b.name bs) W1 v ls W2->Below W1.heap.size W1 W2->OvL w2 us os cv (j+1) (L9 ⟨b.aa,b.name,v,ls⟩ bs) (VW W2 w2.heap.size (EG (L9 ⟨b.aa,b.name,v,ls⟩ bs)))):=by
 obtain⟨f,E,F⟩:=h;have G:(us.map BAt.I++os.map BAt.I)[j]?=aG b.I:=by rw[<-aQ,bG,l];rfl
 obtain⟨H,i,I,J⟩:=F.found C D G;have n:b∈us\/b∈os:=aS.1 (bC l);have K:∀W1,Below W.heap.size W W1->AH W1 b:=fun W1 h1=>by
  have p:Below w2.heap.size w2 W1:=f.bw.trans (h1.mono f.bw.size);rcases n with a | a
  ·exact(y.V p).2 b a
  ·exact(z.V p).2 b a
 have r:b.name.size<=1048576/\Ah b.ls:=by
  rcases n with a | a
  ·exact A.2 b a
  ·exact B.2 b a
 have L:(∀W1,Below W.heap.size W W1->AH W1 (found b.aa b.name bs))/\Ah (found b.aa b.name bs).ls/\Aw (rulesOf b.aa) ((found b.aa b.name bs).ls.map LAt.I)/\(found b.aa b.name bs).ls.map LAt.I=((look (bs.map BAt.I) b.aa b.name).map PBlock.ac).getD []:=by
  rcases found_cases b.aa b.name bs with ⟨h1,d⟩ | ⟨h1,d⟩
  ·rw[d,h1];refine⟨fun W1 _=>⟨⟨rfl,aJ,0,rfl,⟨aL _,bT _⟩,.inl rfl⟩,by simp⟩,⟨by simp,by simp⟩,ZB _,rfl⟩
  ·refine⟨fun W1 c=>((f.blockIn h1).V c).lin,(f.sm _ h1).2,I _ d,?_⟩;rw[d];rfl
 obtain⟨M,N,k,f4⟩:=L;have s:=i.few;have O:=k.few;have V:=(Bf b.aa).1;have P:(b.I.ac).length=b.ls.length:=aZ ..;rw[aZ]at O;rw[P]at s;rw[show b.I.aa=b.aa from rfl]at s;refine⟨fun W1 c=>?_,fun v ls W1 W2 c Q t=>?_⟩
 ·rw[Wa];refine(R5 (u:=found b.aa b.name bs) (o:=b) (M W1 c) (K W1 c) N r.2 (by omega) (Pk k i)).mono ?_;rintro e w' ⟨q,m,g,ls,R,h1,d⟩;exact⟨q,m,g,ls,R,h1,d⟩
 ·obtain⟨w,S,T⟩:=Q;have x:=Y8 (b:=⟨b.aa,b.name,v,ls⟩) H;have U:(w2.heap.size:Nat)<w2.heap.size+1:=by omega
  refine⟨f.set (b:=⟨b.aa,b.name,v,ls⟩) c t S ?_ ⟨r.1,T⟩,Gq (AL (AL E c) t) (NP _ _ _) U,J _ (BAt.I ⟨b.aa,b.name,v,ls⟩) ?_ x.1 x.2⟩
  ·show Aw (rulesOf b.aa) (ls.map LAt.I)
   rw[w];exact Jw k i
  ·show PBlock.mk b.aa b.name (ls.map LAt.I)=_
   rw[w,f4];rfl
theorem PG.done{L:List PBlock}(h:PG us os (us.length+os.length) L):Et us os us.length os.length L:=by
 rcases h with ⟨h1,h⟩ | ⟨_,_,h⟩
 ·have e:os.length=0:=by omega
  rw[e]at h⊢;exact h
 ·rwa [Nat.add_sub_cancel_left]at h
theorem OvL.perm{us os:List BAt}(a:Am (us.map BAt.I))(b:Am (os.map BAt.I))(h:OvL w2 us os cv (us.length+os.length) bs W):(bs.map BAt.I).Perm (AM (us.map BAt.I) (os.map BAt.I)):=by
 have:=h.2.2;have c:us.length=(us.map BAt.I).length:=(aZ ..).symm;have d:os.length=(os.map BAt.I).length:=(aZ ..).symm;rw[c,d]at this;exact Abi a b this.done (Abj a b)
theorem YB(h:60<(AM us os).length):Bb us os=[]:=by
 unfold Bb;rw[if_neg (fun e=>absurd e.2.2 (by omega))]
theorem Uj{xs:List BAt}(c:Am us)(d:Am os)(f:(AM us os).length<=60)(h:(xs.map BAt.I).Perm (AM us os))(k:∀i j:Nat,i<j->∀a b,xs[i]?=aG a->xs[j]?=aG b->blockLt b.I a.I=false):xs.map BAt.I=Bb us os:=by
 rw[Fo c d f];refine Iw (WP f (Ey c d) (D3 c d)) (by rw[Kx (fun b e=>(D3 c d b e).2.2)];exact h) fun i j l a b g e=>?_
 rw[bG]at g e;obtain⟨a',m,rfl⟩:=aW.1 g;obtain⟨b',n,rfl⟩:=aW.1 e;exact k i j l a' b' m n
theorem OvI.own{r:Nat}{xs:List BAt}(h:OvI w r bs W)(a:Below W.heap.size W W')(b:xs.Perm bs)(c:W'.ownsRow W.heap.size 46 3 v xs.length (xs.flatMap BAt.cells)):Aq (r+1) W' v xs:=by
 refine Az.cons (r:=⟨v,46,3,xs.length,xs.flatMap BAt.cells⟩) (Az.perm h.mem (List.Perm.flatMap_right _ b.symm)) c a ?_;have:=(aF.1 h.mp).1;omega
