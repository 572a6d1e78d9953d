import Derived.Test.YtpdahhnjhggocaaGreatDoorMr14
import Derived.Test.YtpdahhnjhggocaaGreatDoorMr20
import Derived.Laws.StructEq
import Derived.RangeFuncNested
import Derived.RangeFuncBound
import Derived.RangeFuncCalls
import Derived.RangeFuncLeaves
import Derived.OwnWalkIn
import Derived.TacticsInMore
import Derived.LoopNIn
import Derived.LoopIn
import Derived.Sort.MapsRangeIn
import Derived.Maps.AppendAt
import Derived.Shelf.Spec.SlicesGrow
import Derived.WideLaws
open Go.Proofs.Tryz
open Go.Value renaming slice->aA,string->aE,pointer->aK,agg->aS,slice->bH,tuple->bX
open List renaming getElem?_cons_zero->aB,getElem?_toArray->aC,getElem?_cons_succ->aH,setIfInBounds_toArray->aU,set_cons_zero->aY,set_cons_succ->aZ,not_mem_nil->bD,flatMap_singleton->bG,mem_cons->bI,length_filter_le->bN,mem_map_of_mem->bO,flatMap_append->bP,length_append->bQ,take_length->bS,map_toArray->bT,map_append->bV,length_map->bW,map_cons->bZ,map_nil->cB,map_map->cC
open Go.Obj renaming cells->aD
open Option renaming none->aF,some->aL
open Nat renaming le_refl->aG,le_trans->aQ,zero_le->cE
open Array renaming getElem?_eq_some_iff->aI
open Go.RowKit.Below renaming refl->aJ
open Option.some renaming inj->aM
open Go renaming execOp->aN,wpList_store_row->aO,bodyPost_ret->bB,wpList->bK,results->bM,setRow_heap->bU,info_parts->bY,heap_setCell_same->cA
open Go.World renaming block_lt_of_cell?->aP,size_alloc->bC
open Go.Operand renaming tmp->aR
open Go.Ending renaming returned->aT
open Go.Act renaming eval->aV
open Go.Ground renaming textOnly->aW
open Go.Oper renaming wp->aX,mk->bF,semAt_some->bL
open Go.Op renaming store->bA
open Go.Departure renaming lateStores->bE,lateStoresUnsure->bJ
open Go.NoPanic renaming normal->bR
open Go.Code renaming region->cD
namespace Go.Proofs.YtpdahhnjhggocaaGreatDoor
open Go.RowKit
set_option maxHeartbeats 16000000
set_option maxRecDepth 100000
variable {L:List AL}{v:Value}{ls:List LAt}{w:World}
theorem Vs(h:∀r∈L,(∃a n c,r.va=aA a n c)/\∃a n c,r.vd=aA a n c):∀u∈L.flatMap AL.cells,u.oneCell'=true:=by
 intro u b;obtain⟨x,d,b⟩:=List.mem_flatMap.1 b;obtain⟨⟨a,n,c,e⟩,⟨a',n',g,f⟩⟩:=h x d;simp only[AL.cells,bI,bD,or_false]at b;rcases b with rfl|rfl|rfl|rfl
 ·rfl
 ·rw[e];rfl
 ·rfl
 ·rw[f];rfl
theorem ZE:(Tryz.prog.info? 54).map (fun i=>(i.zero,i.size,i.bytes))=aL (aL (aS #[aE ⟨#[]⟩,aA aF 0 0,.bool false,aA aF 0 0]),4,72):=by kernel_rfl
theorem QC(r:AL)(g:Nat)(s:(∃a n c,r.va=aA a n c)/\∃a n c,r.vd=aA a n c)(h:Ap w v ls)(t:ls.length<=1048576)(f:w.cell? ⟨g,0,aF⟩=aL v):
  Calls prog 123 #[aS #[aE r.key,r.va,.bool r.many,r.vd],aK (aL ⟨g,0,aF⟩)] w fun e w'=>e=aT (.bool (Cn (ls.map LAt.I) r.I))/\Below w.heap.size w w':=by
 obtain⟨⟨a,n,c,k⟩,⟨a',n',i,l⟩⟩:=s;rw[k,l];have b:=(aJ w.heap.size w).alloc (aG _) (aD #[aE r.key,aA a n c,.bool r.many,aA a' n' i] 54);have m:=(b.cell (aP w _ f)).trans f;have k0:=AH (w:=w) (cs:=#[aE r.key,aA a n c,.bool r.many,aA a' n' i]) (T:=54) 0;have j:=AH (w:=w) (cs:=#[aE r.key,aA a n c,.bool r.many,aA a' n' i]) (T:=54) 2;simp only[aC,aB,aH]at k0 j;have d:=Vr r.key (h.V b) t;have o:Cn (ls.map LAt.I) r.I=(!r.many && !hasK (ls.map LAt.I) r.key):=rfl;rw[o];generalize hasK (ls.map LAt.I) r.key=K at *;obtain⟨av,u,rfl⟩:=h.1.ad;clear h o f k l;generalize ls.length=nl at *;generalize r.key=rk at *;cases p:r.many
 ·rw[p]at j b k0 m d;go_enter func123,ntmps123;go_wp2_with (go_at_call 111;refine d.mono ?_)
  first|rintro e w1 rfl q|rintro e w1 ⟨rfl,q⟩
  clear d;go_wp2;go_ret;exact⟨As (by simp),b.trans (q.mono (by simp))⟩
 ·rw[p]at j b k0 m d;clear d;go_enter func123,ntmps123;go_wp2;go_ret;exact⟨As (by simp),b⟩
theorem Oc{F:FuncId}{q:Value}(p:AL->Bool)(h:DA w v L)(a3:L.length<=12)(E:∀x∈L,∀W,Below w.heap.size w W->Calls prog F #[aS #[aE x.key,x.va,.bool x.many,x.vd],q] W fun e w'=>e=aT (.bool (p x))/\Below W.heap.size W w')(a4:∀args w,(callFunc F args).run prog w=.ok (.enter F args) w):
  Calls prog 122 #[v,.func (.func F) #[] #[q]] w fun e w'=>∃v',e=aT v'/\w'.ownsRow w.heap.size 54 4 v' (L.filter p).length ((L.filter p).flatMap AL.cells)/\Below w.heap.size w w':=by
 obtain⟨ao,a5,rfl⟩:=h.1.ad;generalize Z:L.length=B at *;have aa:=Ab Z;clear Z;obtain⟨i0,ah,ai,aj,ak⟩:=bY ZE;go_enter func122,ntmps122;go_wp2;go_loopw [5,10] (fun u i wr=>∃(j:Nat) (done:List AL),j<=B/\i=.int .i64 (j:Int)/\done=(L.take j).filter p/\wr.ownsRow w.heap.size 54 4 u done.length (done.flatMap AL.cells)/\Below w.heap.size w wr) (fun _ i _=>B-(intOf i).toNat)
 case atStart=>exact⟨0,[],by omega,rfl,by simp,World.ownsRow_nil _ _ _ _,aJ _ _⟩
 case round =>
  obtain⟨j,done,a6,rfl,l,b,c⟩:=hrel;obtain⟨ab,ac,rfl,_⟩:=Al b;have a7:done.length<=j:=by rw[l];exact aQ (bN _ _) (by simp;omega)
  by_cases a8:j<B
  ·obtain⟨D,x,T,C,G⟩:=AC L j (by have:=aa.out;omega);have H:=h.V c;have I:x∈L:=by rw[C];simp
   have J:=H;rw[C]at J;obtain⟨g,off,rfl,al,c2,c3,c4⟩:=J.1.rule;obtain⟨⟨av,m,n,o⟩,⟨r,s,t,z⟩⟩:=H.2 x I;have K:=Ab (show (L.take (j+1)).filter p=done++[x].filter p from by rw[l,C,<-G,Bk,By,List.filter_append]);have N:=(aJ wr.heap.size wr).alloc (aG _) (aD #[aE x.key,aA av m n,.bool x.many,aA r s t] 54);have kk:=AH (w:=wr) (cs:=#[aE x.key,aA av m n,.bool x.many,aA r s t]) (T:=54);have k0:=kk 0;have O:=kk 1;have P:=kk 2;have Q:=kk 3;simp only[aC,aB,aH]at k0 O P Q;have d:=E x I _ (c.trans (N.mono c.size));rw[o,z]at d;rw[o]at c2;rw[z]at c4;rw[G]at al c2 c3 c4;have a9:(0:Int)<=(j:Int):=by omega
   have ba:(j:Int)<(B:Int):=by omega
   have R:=Ab (show (AL.cells x)=[aE x.key,aA av m n,.bool x.many,aA r s t] from by unfold AL.cells;rw[o,z]);have S:=Ab b;have U:=c.size;have ad:=Ab (show ∀k,(bH ab done.length ac).ownBlock=aL k->w.heap.size<=k from fun k am=>(b.lt k am).1);cases A:p x
   ·have V:=Ab (show (L.take (j+1)).filter p=done from by rw[K.out];simp[A]);rw[A]at d;clear h H J E l b C o z G I K R A kk;go_wp2_with (go_at_fn F;refine d.mono ?_)
    first|rintro e w2 rfl a|rintro e w2 ⟨rfl,a⟩
    have f:=N.trans (a.mono (by simp));have M:=AI S.out f;clear d;go_wp2;go_roundw;case rel=>exact⟨j+1,done,by omega,by go_num,V.out.symm,M,c.trans (f.mono U)⟩
    case measure=>simp[intOf];omega
   ·have V:=Ab (show (L.take (j+1)).filter p=done++[x] from by rw[K.out];simp[A]);rw[A]at d;have X:=Vs (L:=[x]) (fun y an=>by rw[List.mem_singleton.1 an];exact⟨⟨_,_,_,o⟩,⟨_,_,_,z⟩⟩);rw[bG,R.out]at X;clear h H J E l b C o z G I K A kk;go_wp2_with (go_at_fn F;refine d.mono ?_)
    first|rintro e w2 rfl a|rintro e w2 ⟨rfl,a⟩
    have f:=N.trans (a.mono (by simp));have ap:=(a.cell (p:=⟨wr.heap.size,0,aF⟩) (by simp)).trans k0;have aq:=(a.cell (p:=⟨wr.heap.size,1,aF⟩) (by simp)).trans O;have ar:=(a.cell (p:=⟨wr.heap.size,2,aF⟩) (by simp)).trans P;have au:=(a.cell (p:=⟨wr.heap.size,3,aF⟩) (by simp)).trans Q;have M:=(AI S.out f).alloc (aD #[aE x.key,aA av m n,.bool x.many,aA r s t] 54);have aw:=f.alloc f.size (aD #[aE x.key,aA av m n,.bool x.many,aA r s t] 54);have ae:=Bn w2 #[aE x.key,aA av m n,.bool x.many,aA r s t] 54 4 rfl;have ax:=f.size;clear d k0 O P Q;go_wp2_with (at_builtin;refine AD (by rfl) _ _ 47 (by rfl) w.heap.size 54 i0 _ 4 72 underlying47 ah ai aj ak rfl (by decide) _ done.length _ (by rfl) M _ 1 _ (by rfl) ae X ?c3 ?c4 (aQ U (aQ ax (by simp))) ?_)
    case c3=>unfold maxLen;omega
    case c4=>omega
    intro ay az a0 af ag _;have a1:=(c.trans (aw.mono U)).grown ag (by simp;omega) ad.out;have Y:=Ab (show a0.ownsRow w.heap.size 54 4 (aA ay (done.length+1) az) (done++[x]).length ((done++[x]).flatMap AL.cells) from by
     rw[bP,bG,R.out,bQ];exact af)
    clear M ae X af ag ap aq ar au ad S;go_wp2;go_roundw;case rel=>exact⟨j+1,done++[x],by omega,by go_num,V.out.symm,Y.out,a1⟩
    case measure=>simp[intOf];omega
  ·obtain rfl:j=B:=by omega
   have a2:L.take j=L:=by rw[<-aa.out,bS]
   have Y:=Ab (show wr.ownsRow w.heap.size 54 4 (aA ab done.length ac) (L.filter p).length ((L.filter p).flatMap AL.cells) from by rw[<-a2,<-l];exact b);clear h E b l;go_wp2;go_ret;exact⟨_,rfl,Y.out,c⟩
variable {B:Nat}{vr:Value}{kind:ByteArray}{bs:List BAt}
def Od(r:AL):LAt:=⟨r.key,r.vd,r.ds⟩
theorem XG(L:List AL)(a:List PLine):((L.filter (fun r=>Cn a r.I)).map Od).map LAt.I=Ei (L.map AL.I) a:=by
 unfold Ei;rw[List.filter_map,cC,cC];rfl
def Tu(P:List PLine)(w:World)(e:Ending)(w':World):Prop:=∃v' ls',e=aT v'/\ls'.map LAt.I=P/\Ap w' v' ls'/\Aj ls'/\Below w.heap.size w w'
theorem Oe(f:Bh B w vr L)(Q:L.map AL.I=rulesOf kind)(h:Ap w v ls)(Z:Aj ls)(aa:AG (L.map AL.I) (ls.map LAt.I)):
  Calls prog 61 #[vr,v] w fun e w'=>Tu (He (L.map AL.I) (ls.map LAt.I)) w e w':=by
 have ab:=DX kind Q;have cw:ls.length<=120:=by have:=aa.few;simp at this;omega
 have b3:=Ab (Oy aa (by rw[Q];exact Gi kind) (by rw[Q];exact CB kind));have H:=f.rin;obtain⟨ao,aw,ev⟩:=h.1.ad;obtain⟨ac,ad,b4⟩:=H.1.ad;have u:=(aJ w.heap.size w).alloc (aG _) (aD #[v] 44);have k0:=AH (w:=w) (cs:=#[v]) (T:=44) 0;simp only[aC,aB]at k0;have ae:=aP _ _ k0;have b5:=Ab (show ∀r∈L,Am w r.vd r.ds.length 1 (strs r.ds)/\r.ds.length<=1048576/\∀y∈r.ds,y.length<=1048576 from fun r I=>by
  obtain⟨cx,cy,b6⟩:=List.append_of_mem I;exact⟨AF (by have:=f.rm;rw[b6]at this;exact this.defs),MC Q I⟩)
 have ax:=Oc (F:=123) (q:=aK (aL ⟨w.heap.size,0,aF⟩)) (fun r=>Cn (ls.map LAt.I) r.I) (H.V u) ab (fun x d W ay=>QC x w.heap.size (H.2 x d) (h.V (u.trans (ay.mono u.size))) Z.1 ((ay.cell ae).trans k0)) (enters_of func123 (by kernel_rfl) rfl);have az:=Ab (show ∀r∈L.filter (fun r=>Cn (ls.map LAt.I) r.I),r∈L from fun r f=>(List.mem_filter.1 f).1);have b7:=Ab (XG L (ls.map LAt.I));have cz:(L.filter (fun r=>Cn (ls.map LAt.I) r.I)).length<=12:=aQ (bN _ _) ab;generalize b8:L.filter (fun r=>Cn (ls.map LAt.I) r.I)=U at *;have a0:=Ab h;have a1:=Ab Z;have af:=Ab H;subst ev b4;clear h Z f aa H b8;go_enter func61,ntmps61;go_wp2_with (go_at_call 122;refine ax.mono ?_)
 first|rintro e w1 v1 rfl o1 ag|rintro e w1 ⟨v1,rfl,o1,ag⟩
 have ah:Below (w.alloc (aD #[aA ao ls.length aw] 44)).heap.size (w.alloc (aD #[aA ao ls.length aw] 44)) w1:=by simpa using ag
 have R:=u.trans (ah.mono u.size);have S:=(ah.cell (p:=⟨w.heap.size,0,aF⟩) ae).trans k0;obtain⟨c0,c1,rfl,_⟩:=Al o1;have b9:=Ab (AF o1);have a3:=Nq (a0.out.V R) a1.out.1;clear ax ag ah k0 ae u o1;go_wp2_with (go_at_call 124;refine a3.mono ?_)
 first|rintro e w2 a2 c2 rfl o2 a4|rintro e w2 ⟨a2,c2,rfl,o2,a4⟩
 have ai:=Ab o2;clear a3 o2 S;obtain⟨i0,ca,cb,cc,cd⟩:=bY CQ;generalize a5:U.length=J at *;have a6:=Ab a5;clear a5;have ce:=Ab (show ∀r∈U,Am w r.vd r.ds.length 1 (strs r.ds)/\r.ds.length<=1048576/\∀y∈r.ds,y.length<=1048576 from fun r f=>b5.out r (az.out r f));have cf:=Ab (show ∀r∈U,(∃a n c,r.va=aA a n c)/\∃a n c,r.vd=aA a n c from fun r f=>af.out.2 r (az.out r f));go_wp2;go_loopw [6,16] (fun q i wr=>∃(j:Nat) (done:List LAt),j<=J/\i=.int .i64 (j:Int)/\Hid (done=ls++(U.take j).map Od)/\done.length<=120+j/\wr.ownsRow w1.heap.size 115 2 q done.length (done.flatMap LAt.cells)/\Below w1.heap.size w1 wr) (fun _ i _=>J-(intOf i).toNat)
 case atStart=>exact⟨0,ls,by omega,rfl,(by simp:ls=ls++(U.take 0).map Od),by omega,ai.out,a4⟩
 case round =>
  obtain⟨j,done,c5,rfl,K,c6,s,V⟩:=hrel;obtain⟨M,N,rfl,_⟩:=Al s;have a7:=V.size;by_cases c7:j<J
  ·obtain⟨D,r,T,X,aj⟩:=AC U j (by have:=a6.out;omega);have ak:=b9.out.V V;rw[X]at ak;obtain⟨g,off,rfl,cg,a8,c3,c4⟩:=ak.rule;rw[aj]at cg a8 c3 c4;have I:r∈U:=by rw[X];simp
   obtain⟨⟨av,z,A,a9⟩,⟨l,m,o,al⟩⟩:=cf.out r I;have ch:=Ab (show done++[Od r]=ls++(U.take (j+1)).map Od from by rw[K.out,X,<-aj,By,Bk,bV,List.append_assoc];rfl);have ci:=Ab (show (Od r).cells=[aE r.key,aA l m o] from by unfold LAt.cells Od;rw[al]);rw[a9]at a8;rw[al]at c4;have ba:=(aJ wr.heap.size wr).alloc (aG _) (aD #[aE r.key,aA av z A,.bool r.many,aA l m o] 54);have kk:=AH (w:=wr) (cs:=#[aE r.key,aA av z A,.bool r.many,aA l m o]) (T:=54);have k0:=kk 0;have S:=kk 1;have bb:=kk 2;have bc:=kk 3;simp only[aC,aB,aH]at k0 S bb bc;have bd:=Le r.key (aA av z A) (aA l m o) r.many (w:=wr.alloc (aD #[aE r.key,aA av z A,.bool r.many,aA l m o] 54)) ⟨_,_,_,rfl⟩ ⟨_,_,_,rfl⟩;have c8:(0:Int)<=(j:Int):=by omega
   have i2:(j:Int)<(J:Int):=by omega
   have be:=Ab s;have bf:=Ab (show ∀k,(bH M done.length N).ownBlock=aL k->w1.heap.size<=k from fun k am=>(s.lt k am).1);clear s K ak X aj I a9 al kk ai;generalize r.key=rk at *;generalize r.many=bg at *;go_wp2_with (go_at_call 125;refine bd.mono ?_)
   first|rintro e an rfl ap|rintro e an ⟨rfl,ap⟩
   have bh:Below (wr.alloc (aD #[aE rk,aA av z A,.bool bg,aA l m o] 54)).heap.size (wr.alloc (aD #[aE rk,aA av z A,.bool bg,aA l m o] 54)) an:=by simpa using ap
   have Y:=ba.trans (bh.mono ba.size);have bi:=(AI be.out Y).alloc (aD #[aE rk,aA l m o] 115);have cj:=Y.alloc Y.size (aD #[aE rk,aA l m o] 115);have bj:=Bn an #[aE rk,aA l m o] 115 2 rfl;have ck:=Y.size;clear bd k0 S bb bc ap bh be;go_wp2_with (at_builtin;refine AD (by rfl) _ _ 44 (by rfl) w1.heap.size 115 i0 _ 2 40 underlying44 ca cb cc cd rfl (by decide) _ done.length _ (by rfl) bi _ 1 _ (by rfl) bj (by intro c9 bk;simp at bk;rcases bk with rfl|rfl <;> rfl) ?c3 ?c4 (aQ a7 (aQ ck (by simp))) ?_)
   case c3=>unfold maxLen;omega
   case c4=>omega
   intro cl cm cn bl bm _;have co:=(V.trans (cj.mono a7)).grown bm (by simp;omega) bf.out;have cp:=Ab (show cn.ownsRow w1.heap.size 115 2 (aA cl (done.length+1) cm) (done++[Od r]).length ((done++[Od r]).flatMap LAt.cells) from by
    rw[bP,bG,ci.out,bQ];exact bl)
   clear bi bj bl bm bf;go_wp2;go_roundw;case rel=>exact⟨j+1,done++[Od r],by omega,by go_num,ch,by simp;omega,cp.out,co⟩
   case measure=>simp[intOf];omega
  ·obtain rfl:j=J:=by omega
   have bn:U.take j=U:=by rw[<-a6.out,bS]
   rw[bn]at K;have bo:=R.trans (V.mono (by have:=R.size;omega));have bp:=E4 (v:=aA ac L.length ad) ⟨_,_,_,rfl⟩ wr;have bq:Below wr.heap.size wr (wr.alloc (aD #[aA ac L.length ad] 47)):=(aJ _ _).alloc (aG _) _;have br:=AH (w:=wr) (cs:=#[aA ac L.length ad]) (T:=47) 0;simp only[aC,aB]at br;have g3:=bo.trans (bq.mono bo.size);have C:=Ab (show ∀x∈done,BL w x/\x.ws.length<=1048576/\∀y∈x.ws,y.length<=1048576 from fun x d=>by
    rw[K.out]at d;rcases List.mem_append.1 d with d|d
    ·exact⟨a0.out.2 x d,a1.out.2 x d⟩
    ·obtain⟨r,f,rfl⟩:=List.mem_map.1 d;exact ce.out r f)
   have O:∀q,(bH M done.length N).ownBlock=aL q->w1.heap.size<=q/\q<wr.heap.size:=fun q P=>s.lt q P
   have da:=R.size
   have bs:=I4 (g:=wr.heap.size) (AI s bq) (by exact ab) (af.out.V g3) br (fun x d=>⟨BL.V (C.out x d).1 g3,(C.out x d).2.1⟩)
    (fun q P=>⟨Bx.of_lt af.out.1 (by decide) (by have:=(O q P).1;omega),by have:=(O q P).2;omega,fun x d=>Bx.of_lt (C.out x d).1 (by decide) (by have:=(O q P).1;omega)⟩) (by omega)
   have bt:=Ab O;have db:done.length<=132:=by omega
   have dc:¬((j:Int)<(j:Int)):=by omega
   clear s bn O ai;go_wp2_with (first|(go_at_call 75;refine bp.mono ?_;rintro e w3 ⟨rfl,rfl⟩)|(go_at_call 74;refine bs.mono ?_))
   first|rintro e aq rfl E G o5 ar t|rintro e aq ⟨rfl,E,G,o5,ar,t⟩
   have bu:E.map LAt.I=He (L.map AL.I) (ls.map LAt.I):=by
    refine Il b3.out ?_ ?_
    ·rw[<-b7.out,<-bV,<-K.out];exact G.map _
    ·intro i k cq a b bv bw;rw[List.getElem?_map,Option.map_eq_some_iff]at bv bw;obtain⟨a',cr,rfl⟩:=bv;obtain⟨b',ct,rfl⟩:=bw;exact ar i k cq a' b' cr ct
   have bx:E.length=done.length:=G.length_eq;have bz:Ap aq (aA M done.length N) E:=by
    refine⟨AF (by rw[bx];exact o5),fun x d=>?_⟩;have b0:x∈done:=G.mem_iff.1 d;have b1:=BL.V (C.out x b0).1 g3;cases au:(bH M done.length N).ownBlock with
    | none =>
     rw[au]at t;exact Am.V b1 (S0 t)
    | some q =>
     rw[au]at t;exact Am.aj b1 (Bx.of_lt (C.out x b0).1 (by decide) (by have:=(bt.out q au).1;omega)) t
   have b2:Aj E:=⟨by rw[bx];omega,fun x d=>(C.out x (G.mem_iff.1 d)).2⟩;have cu:=g3.grown t g3.size (fun k am=>by have:=(bt.out k am).1;omega);have cv:=Ab (show Tu (He (L.map AL.I) (ls.map LAt.I)) w (aT (aA M done.length N)) aq from⟨_,E,rfl,bu,bz,b2,cu⟩);clear bs bp bu bz b2 G o5 ar t;go_wp2;go_ret;exact cv.out
theorem QD(bs:List PBlock):fillS bs=H4 He bs:=rfl
theorem JI(n:Au w v bs)(o:A3 bs)(y:BZ w):Calls prog 15 #[aS #[v]] w fun e w'=>∃v' bs',e=aT (aS #[v'])/\bs'.map BAt.I=fillS (bs.map BAt.I)/\Ax w.heap.size w' v' bs'/\Below w.heap.size w w':=by
 obtain⟨ao,f,rfl⟩:=n.1.ad;have g:Below w.heap.size w ((w.alloc (aD #[aA ao bs.length f] 25)).alloc (aD #[aA aF 0 0] 25)):=((aJ _ _).alloc (aG _) _).alloc (by simp) _;have z:=Ct (w:=w) (cs:=#[aA ao bs.length f]) (ds:=#[aA aF 0 0]) (T:=25) (U:=25);have c0:=z.1 0;simp only[aC,aB]at c0;have p:=Ai (w.alloc (aD #[aA ao bs.length f] 25)) (aD #[aA aF 0 0] 25);simp only[bC]at p
 have q:=Lf (F:=61) He (n.V g) o (y.V g) (enters_of func61 (by kernel_rfl) rfl)
  (fun G W B vr L x A r H I=>by
    have h:=Oe H r I (o.2 x A).2 (by rw[r];exact((AS.1 G).2.1 x.I (bO A)).2.2);rw[r]at h;exact h)
 rw[<-QD]at q;generalize fillS (bs.map BAt.I)=M at *;clear n o y z;generalize bs.length=C at *;go_enter func15,ntmps15;go_wp2_with (go_at_call 60;refine q.mono ?_)
 first|rintro e w2 v2 rfl d j o2 l|rintro e w2 v2 d rfl j o2 l|rintro e w2 ⟨v2,d,rfl,j,o2,l⟩
 have s:Below ((w.alloc (aD #[aA ao C f] 25)).alloc (aD #[aA aF 0 0] 25)).heap.size ((w.alloc (aD #[aA ao C f] 25)).alloc (aD #[aA aF 0 0] 25)) w2:=by simpa using l
 have t:Ax (w.heap.size+2) w2 v2 d:=by simpa using o2
 have D:=(s.block (w.heap.size+1) (by simp)).trans p;have i:=g.trans (s.mono g.size);obtain⟨a,b,rfl,_⟩:=Al t.row;have J:=Ab t;have E:=Ab j;clear q o2 t j l s c0 p g;generalize d.length=c at *;go_wp2_with (with_reducible show bK _ _ _ (bF _ (bA _ (aR 2) _) _ _ _ _::_) _ _;refine aO rfl 25 _ _ rfl (w.heap.size+1) #[aA a c b] ?_ ?_ 25 _ D ?_ ?_ ?_ ?_)
 all_goals (first|rfl|kernel_rfl|exact Bg|skip)
 have z5:(w2.setRow (w.heap.size+1) #[aA a c b]).heap[w.heap.size+1]?=aL (aD #[aA a c b] 25 (0,0)):=bU _ _ _ _ _ _ D
 have u:Below w.heap.size w (w2.setRow (w.heap.size+1) #[aA a c b]) :=
  ⟨i.os,i.tape,i.output,by rw[setRow_size];exact i.size,fun k K=>by rw[setRow_other _ _ _ _ (by omega)];exact i.block k K⟩
 have o5:=(J.out.setRow (w.heap.size+1) (by omega) #[aA a c b]).mono (show w.heap.size<=w.heap.size+2 by omega);have m:=Aa z5 0;simp only[aC,aB]at m;generalize w2.setRow (w.heap.size+1) #[aA a c b]=W at u m z5 o5⊢;first|exact bB (v:=aS #[aA a c b]) (by simp[bM,results15,go_sem,m]) rfl ⟨_,d,rfl,E.out,o5,u⟩|exact bB (v:=aS #[aA a c b]) (by simp[bM,results15,go_sem,m]) rfl ⟨_,rfl,d,E.out,o5,u⟩
variable {p c S Y n sc:Nat}{w1 W W':World}{bs':List BAt}{sa:Option Addr}
def Aee(B p k:Nat)(w1:World)(S n:Nat)(i:Value)(W:World):Prop:=∃(j kk:Nat) (v:Value) (cs:List BAt),i=.int .i64 (j:Int)/\j<=n/\cs.length<=j/\kk<=k+102*j/\IV B p w1 S kk v cs W
def Aef(B p k:Nat)(w1:World)(S:Nat)(i:Value)(W:World):Prop:=∃(m kk:Nat) (v:Value) (cs:List BAt),i=.int .i64 (m:Int)/\m<=2/\cs.length<=62/\kk+100*m<=k+201/\IV B p w1 S kk v cs W
theorem Aeg(h:Au w1 v bs)(a:A7 p v bs)(g:w1.grownBy W (aL p)):Au W v bs:=h.aj a g
theorem XT(h:Ap W' v ls)(a:∀q,q<W.heap.size->Aw q v ls)(f:c<=W.heap.size)(d:S<W.heap.size)(e:Y<W.heap.size):CH c [S,Y] W' v ls:=⟨h,fun q b=>by
 simp only[bI,bD,or_false]at b;rcases b with rfl|rfl
 ·exact a _ d
 ·exact a _ e,fun q b=>a q (by omega)⟩
theorem ER{x:BAt}{cs:List BAt}(b:∀y∈bs',y=x\/y∈cs)(c:E9 x.name x.ls)(d:∀y∈cs,E9 y.name y.ls):∀y∈bs',E9 y.name y.ls:=fun y a=>by
 rcases b y a with rfl|a
 ·exact c
 ·exact d y a
theorem Acn{u o:BAt}{a:Option Addr}{d:Nat}(h:Ap W' (aA a n d) ls)(e:∀q,q<W.heap.size->Aw q u.v u.ls->Aw q o.v o.ls->Aw q (aA a n d) ls)(i:c<=W.heap.size)(j:S<W.heap.size)(k:Y<W.heap.size)(f:CH c [S,Y] W u.v u.ls)(g:CH c [S,Y] W o.v o.ls):CH c [S,Y] W' (aA a n d) ls:=⟨h,fun q b=>e q (by
 simp only[bI,bD,or_false]at b;rcases b with rfl|rfl <;> omega) (f.2.1 q b) (g.2.1 q b),fun q b=>e q (by omega) (f.2.2 q b) (g.2.2 q b)⟩
theorem Aab{u o:BAt}(a:ls.map LAt.I=SO (rulesOf o.aa) (u.ls.map LAt.I) (o.ls.map LAt.I))(b:∀y∈ls,y∈o.ls\/y∈u.ls)(c:Aj u.ls)(d:Aj o.ls)(e:o.ls.length+u.ls.length<=1048576):Aj ls:=by
 refine Kw d c b ?_;have:=Aaa (R:=rulesOf o.aa) (u:=u.ls.map LAt.I) (o:=o.ls.map LAt.I);rw[<-a]at this;simp only[bW]at this;omega
theorem V6(B p k:Nat)(w:World)(h:Rd B w p k)(fm:k<=100000)(bt:Au w (aA sa n sc) bs)(cl:A7 p (aA sa n sc) bs)(cm:A3 bs)(ek:bs.length<=62)(cn:∀b∈bs,b.ls.length<=1000):Calls prog 45 #[aK (aL ⟨p,0,aF⟩),aS #[aA sa n sc]] w fun e w'=>Kt 7000 B p k w e w':=by
 have el:=h.lt;have co:n=bs.length:=by obtain⟨a',fn,e⟩:=bt.1.ad;cases e;rfl
 have a2:Below w.heap.size w ((w.alloc (aD #[aA sa n sc] 25)).alloc (aD #[aA aF 0 0] 25)):=((aJ w.heap.size w).alloc (aG _) _).alloc (by simp) _;have cp:=h.V a2;have em:=Ar a2 (aL p);have cq:((w.alloc (aD #[aA sa n sc] 25)).alloc (aD #[aA aF 0 0] 25)).heap.size=w.heap.size+2:=by simp
 have en:((w.alloc (aD #[aA sa n sc] 25)).alloc (aD #[aA aF 0 0] 25)).heap[w.heap.size]?=aL (aD #[aA sa n sc] 25 (0,0)):=by
  have eo:=(aJ (w.alloc (aD #[aA sa n sc] 25)).heap.size (w.alloc (aD #[aA sa n sc] 25))).alloc (aG _) (aD #[aA aF 0 0] 25);rw[eo.block w.heap.size (by simp)];exact Ai w _
 have ep:((w.alloc (aD #[aA sa n sc] 25)).alloc (aD #[aA aF 0 0] 25)).heap[w.heap.size+1]?=aL (aD #[aA aF 0 0] 25 (0,0)):=by
  have:=Ai (w.alloc (aD #[aA sa n sc] 25)) (aD #[aA aF 0 0] 25);rw[bC]at this;exact this
 have cr:=bt.V a2;generalize ct:(w.alloc (aD #[aA sa n sc] 25)).alloc (aD #[aA aF 0 0] 25)=w1 at *;have eq:=Ab ct;clear ct;have z2:=Ai w1 (aD #[aA aF 0 0] 25);have bu:=(aJ w1.heap.size w1).alloc (aG _) (aD #[aA aF 0 0] 25);rw[cq]at z2;have cu:IV B p w1 (w.heap.size+2) k (aA aF 0 0) [] (w1.alloc (aD #[aA aF 0 0] 25)):=⟨cp.V bu,Ar bu _,z2,by omega,by omega,⟨⟨rfl,aF,0,rfl,⟨aG _,cE _⟩,.inl rfl⟩,by simp⟩,fun q _=>⟨.inl rfl,by simp⟩,⟨.inl rfl,by simp⟩,by simp⟩;clear z2 bu cp a2 h;generalize cv:w1.alloc (aD #[aA aF 0 0] 25)=w2 at *;have er:=Ab cv;have cw:=Ab cu;have es:=Ab cr;have et:=Ab cl;have bw:=Ab cm;have eu:=Ab cn;have cx:=Ab co;have fo:n<=62:=by omega
 clear cv cu cr bt cl cm cn co ek;go_enter func45,ntmps45;go_wp2;rw[eq.out,er.out];rw[show w.heap.size+1+1=w.heap.size+2 from rfl];go_loopw [6] (fun i wr=>Aee B p k w1 (w.heap.size+2) n i wr) (fun i _=>n-(intOf i).toNat)
 case atStart=>exact⟨0,k,aA aF 0 0,[],rfl,by omega,by simp,by omega,cw.out⟩
 case round =>
  obtain⟨j,kk,v,cs,rfl,fp,fq,fr,a⟩:=hrel;obtain⟨xa,xc,rfl⟩:=a.bin.1.ad;have fs:=a.gr.size;have bx:=(a.gr.block w.heap.size (by omega) (by intro e;have:=aM e;omega)).trans en;have bz:=Aa bx 0;simp only[aC,aB]at bz;clear cw;by_cases ft:j<n
  ·have b1:=Aeg es.out et.out a.gr;obtain⟨D,⟨bk,bn,bv,M⟩,T,ad,b2⟩:=AC bs j (by have:=cx.out;omega);have ak:(⟨bk,bn,bv,M⟩:BAt)∈bs:=by rw[ad];simp
   have b3:=b1.2 _ ak;obtain⟨ae,af,cy⟩:=b3.1.ad;simp only at cy;subst cy;have b4:=b1.1;rw[<-cx.out,ad]at b4;obtain⟨b0,off,ev,cz,c1,c2⟩:=b4.block;cases ev
   simp only[b2]at cz c1 c2;have b5:=KB b3 (bw.out.2 _ ak).2;simp only at b5;have a4:=(bw.out.2 _ ak).1;have al:=eu.out _ ak;have c4:=Ab (bw.out.2 _ ak).2;simp only at a4 al;have fu:(0:Int)<=(j:Int):=by omega
   have fv:(j:Int)<(n:Int):=by omega
   have c:=Ab a;clear a b1 b4 b3 ak ad b2 bx;generalize b6:M.length=nl at *;go_wp2_with (go_at_call 105;refine b5.mono ?_)
   first|rintro e w3 v3 rfl J ap o3 a5|rintro e w3 v3 J rfl ap o3 a5|rintro e w3 ⟨v3,J,rfl,ap,o3,a5⟩
   obtain⟨a3,c3,rfl,_⟩:=Al o3.row;have b7:J.length=nl:=by have:=congrArg List.length ap;simpa [b6] using this
   have U:=c.out.V a5;have ew:=U.bin;have L:=(aJ w3.heap.size w3).alloc (aG _) (aD #[aE bk,aE bn,aA a3 J.length c3] 46);have ag:=U.V L;have ex:=U.Slt;have fw:=U.gr.size;have fx:=a5.size;have c6:=Ab (TN U.bin (aG w3.heap.size));have b8:Lk w1.heap.size (w.heap.size+2) w3.heap.size bk bn (aA a3 J.length c3) J (w3.alloc (aD #[aE bk,aE bn,aA a3 J.length c3] 46)):=⟨Ai _ _,by omega,by omega,⟨o3.lin.V L,fun q F=>by
    simp only[bI,bD,or_false]at F;rcases F with rfl|rfl
    ·exact⟨Bx.above o3.row (c.out.Slt),fun y a6=>Bx.above (o3.words y a6) c.out.Slt⟩
    ·exact Ap.fresh o3.lin (aG _),fun q F=>⟨Bx.above o3.row (by omega),fun y a6=>Bx.above (o3.words y a6) (by omega)⟩⟩,a4,c4.out.same ap⟩
   rw[b7]at b8 L ag;generalize ey:w3.heap.size=Y at *;have ez:(w3.alloc (aD #[aE bk,aE bn,aA a3 nl c3] 46)).heap.size=Y+1:=by simp[ey]
   have fy:Y<(w3.alloc (aD #[aE bk,aE bn,aA a3 nl c3] 46)).heap.size:=by omega
   have aq:=A1 B p kk 5 _ ag.rd (by omega) (by omega) (by omega);have b9:=Ab ag;have c7:=Ab b8;have ar:=Ab b7;rw[b7];clear b5 c U ew ag b8 o3 L ap c4 cz c1 c2 bz ex;generalize c8:w3.alloc (aD #[aE bk,aE bn,aA a3 nl c3] 46)=ah at *;have e0:=Ab c8;clear c8;go_wp2_with (go_at_call 44;(try rw[e0.out]);refine aq.mono ?_)
   rintro e ca ⟨y,a6,rfl,da,a7⟩;have G:=b9.out.grown a7 da;have N:=c7.out.grown a7 b9.out.plt;have fz:=a7.size;clear aq b9 c7 da a7;obtain rfl|rfl|rfl|f0:y=0\/y=1\/y=2\/3<=y:=by omega
   ·have c:=Ab G;clear G N;go_wp2;go_roundw;case rel=>exact⟨j+1,kk+1,aA xa cs.length xc,cs,by go_num,by omega,by omega,by omega,c.out⟩
    case measure=>simp[intOf];omega
   ·have au:=E8 B p (kk+1) ca G.rd (by omega);have c:=Ab G;have l:=Ab N;have e1:=G.plt;have e2:=G.Slt;have e3:=N.lt;have e4:=G.gr.size;clear G N;go_wp2_with (go_at_call 106;refine au.mono ?_)
    rintro e ai ⟨b,db,rfl,f1,dc,a8,⟨ba,cb⟩,dd,bb,bc,_⟩;obtain⟨Z,yc,de⟩:=ba.1.ad;obtain⟨yk,yn,yv,O⟩:=b;simp only at ba cb dd bb bc de;subst de;have av:=c.out.grown a8 dc;have df:=l.out.grown a8 e1;have f2:=a8.size;have L:=(aJ ai.heap.size ai).alloc (aG _) (aD #[aE yk,aE yn,aA Z O.length yc] 46);have aa:=Ai ai (aD #[aE yk,aE yn,aA Z O.length yc] 46);have r:=av.V L;have aw:=df.V L;have dg:=Aa aa 0;have cc:=Aa aa 2;have A:=Aa aw.box 0;have H:=Aa aw.box 1;have C:=Aa aw.box 2;simp only[aC,aB,aH]at dg cc A H C;have bd:=Ab (show CH w1.heap.size [w.heap.size+2,Y] (ai.alloc (aD #[aE yk,aE yn,aA Z O.length yc] 46)) (aA Z O.length yc) O from XT (W:=ca) (ba.V L) cb e4 e2 e3);have be:=Ab (show Aj O from⟨by omega,fun x dh=>⟨aQ (bc x dh).1 (by decide),fun e5 e6=>aQ ((bc x dh).2 e5 e6) (by decide)⟩⟩);have am:=Ab r;have V:=Ab aw;clear au c l av df r aw ba cb bc dc a8 L aa dd;generalize di:O.length=bf at *;have dj:=Ab di;clear di;generalize dk:ai.alloc (aD #[aE yk,aE yn,aA Z bf yc] 46)=aj at *;have dl:=Ab dk;clear dk;go_upto_region 10 with fail
    rw[dl.out];cases f3:(yk.toList==bk.toList)
    ·have a:=am.out;have g:=V.out;clear am V bd be cc A H C;have X:=a.Slt;have bg:=g.lt;have K:=Aa a.box 0;have A:=Aa g.box 0;have H:=Aa g.box 1;have C:=Aa g.box 2;simp only[aC,aB,aH]at K A H C;have ax:=a.gr.size;have E:=BT (x:=⟨bk,bn,aA a3 nl c3,J⟩) a.bin (by omega) g.free.1;have c:=Ab a;have l:=Ab g;clear a g;simp only at E;go_wp2_with (go_at_call 54;refine E.mono ?_)
     rintro e aj ⟨s,t,z,I,rfl,f,P⟩;have r:=c.out.V P;have Q:=r.box;have R:=Ab (r.put (v':=aA s t z) (bs':=I) f.2.2.2.1 (fun q F=>f.2.2.2.2 q (by omega) (c.out.abv q F) (l.out.free.2.2 q F)) (f.2.2.2.2 _ X c.out.farS (l.out.free.2.1 _ (by simp))) (ER f.2.2.1 l.out.ah c.out.ah));have ay:=f.2.1;clear E f r c l K A H C;go_wp2_with (with_reducible show bK _ _ _ (bF _ (bA _ (aR 5) _) _ _ _ _::_) _ _;refine aO rfl 25 _ _ rfl (w.heap.size+2) #[aA s t z] ?_ ?_ 25 _ Q ?_ ?_ ?_ ?_)
     all_goals (first|rfl|kernel_rfl|exact Bg|skip)
     go_roundw;case rel=>exact⟨j+1,db,aA s t z,I,by go_num,by omega,by omega,by omega,R.out⟩
     case measure=>simp[intOf];omega
    ·have dm:O.length+J.length<=1000000:=by have:=dj.out;have:=ar.out;omega
     have cd:=TK (u:=⟨bk,bn,aA a3 nl c3,J⟩) (o:=⟨bk,bn,aA Z bf yc,O⟩) (w:=aj) V.out.free.1 bd.out.1 V.out.ah.2 be.out dm;simp only at cd;clear dm;go_wp2_with (go_at_call 53;(try rw[dl.out]);refine cd.mono ?_)
     rintro e dn ⟨bh,bi,bj,e7,rfl,⟨dp,dq,dr,dt⟩,du⟩;have dv:=am.out.V du;have an:=V.out.V du;have ce:=an.box;have e8:=am.out.gr.size;have dw:=Acn (u:=⟨bk,bn,aA a3 nl c3,J⟩) (o:=⟨bk,bn,aA Z bf yc,O⟩) dr dt e8 am.out.Slt V.out.lt V.out.free bd.out;have dx:=Aab (u:=⟨bk,bn,aA a3 nl c3,J⟩) (o:=⟨bk,bn,aA Z bf yc,O⟩) dp dq V.out.ah.2 be.out (by have:=dj.out;have:=ar.out;simp only;omega);have cf:=Br dn Y #[aE bk,aE bn,aA bh bi bj];have dy:=Ab (dv.turn cf an.cY an.YS c6.out);have dz:=Ab (an.put cf (bU _ _ _ _ _ _ ce) dw ⟨an.ah.1,dx⟩);clear cd am V dv an bd be dp dq dr dt dw dx cf dg cc A H C;go_upto_region 15 with (with_reducible show bK _ _ _ (bF _ (bA _ (aR 7) _) _ _ _ _::_) _ _;refine aO rfl 46 _ _ rfl Y #[aE bk,aE bn,aA bh bi bj] ?_ ?_ 46 _ ce ?_ ?_ ?_ ?_)
     all_goals (first|rfl|kernel_rfl|exact⟨rfl,rfl,rfl⟩|(obtain⟨i9,e9,_,fa,_⟩:=bY Cj;exact⟨i9,e9,fa⟩)|skip)
     generalize dn.setRow Y #[aE bk,aE bn,aA bh bi bj]=ao at *;have a:=dy.out;have g:=dz.out;clear dy dz ce;have X:=a.Slt;have bg:=g.lt;have K:=Aa a.box 0;have A:=Aa g.box 0;have H:=Aa g.box 1;have C:=Aa g.box 2;simp only[aC,aB,aH]at K A H C;have ax:=a.gr.size;have E:=BT (x:=⟨bk,bn,aA bh bi bj,e7⟩) a.bin (by omega) g.free.1;have c:=Ab a;have l:=Ab g;clear a g;simp only at E;go_wp2_with (go_at_call 54;refine E.mono ?_)
     rintro e aj ⟨s,t,z,I,rfl,f,P⟩;have r:=c.out.V P;have Q:=r.box;have R:=Ab (r.put (v':=aA s t z) (bs':=I) f.2.2.2.1 (fun q F=>f.2.2.2.2 q (by omega) (c.out.abv q F) (l.out.free.2.2 q F)) (f.2.2.2.2 _ X c.out.farS (l.out.free.2.1 _ (by simp))) (ER f.2.2.1 l.out.ah c.out.ah));have ay:=f.2.1;clear E f r c l K A H C;go_wp2_with (with_reducible show bK _ _ _ (bF _ (bA _ (aR 5) _) _ _ _ _::_) _ _;refine aO rfl 25 _ _ rfl (w.heap.size+2) #[aA s t z] ?_ ?_ 25 _ Q ?_ ?_ ?_ ?_)
     all_goals (first|rfl|kernel_rfl|exact Bg|skip)
     go_roundw;case rel=>exact⟨j+1,db,aA s t z,I,by go_num,by omega,by omega,by omega,R.out⟩
     case measure=>simp[intOf];omega
   ·have C:=Aa N.box 2;simp only[aC,aB,aH]at C;by_cases d0:nl=0
    ·have a:=G;have g:=N;clear G N;have fb:¬((nl:Int)>0):=by omega
     clear d0;go_upto_region 15 with fail
     clear C;have X:=a.Slt;have bg:=g.lt;have K:=Aa a.box 0;have A:=Aa g.box 0;have H:=Aa g.box 1;have C:=Aa g.box 2;simp only[aC,aB,aH]at K A H C;have ax:=a.gr.size;have E:=BT (x:=⟨bk,bn,aA a3 nl c3,J⟩) a.bin (by omega) g.free.1;have c:=Ab a;have l:=Ab g;clear a g;simp only at E;go_wp2_with (go_at_call 54;refine E.mono ?_)
     rintro e aj ⟨s,t,z,I,rfl,f,P⟩;have r:=c.out.V P;have Q:=r.box;have R:=Ab (r.put (v':=aA s t z) (bs':=I) f.2.2.2.1 (fun q F=>f.2.2.2.2 q (by omega) (c.out.abv q F) (l.out.free.2.2 q F)) (f.2.2.2.2 _ X c.out.farS (l.out.free.2.1 _ (by simp))) (ER f.2.2.1 l.out.ah c.out.ah));have ay:=f.2.1;clear E f r c l K A H C;go_wp2_with (with_reducible show bK _ _ _ (bF _ (bA _ (aR 5) _) _ _ _ _::_) _ _;refine aO rfl 25 _ _ rfl (w.heap.size+2) #[aA s t z] ?_ ?_ 25 _ Q ?_ ?_ ?_ ?_)
     all_goals (first|rfl|kernel_rfl|exact Bg|skip)
     go_roundw;case rel=>exact⟨j+1,kk+1,aA s t z,I,by go_num,by omega,by omega,by omega,R.out⟩
     case measure=>simp[intOf];omega
    ·have fb:((nl:Int)>0):=by omega
     have c:=Ab G;have l:=Ab N;clear G N;obtain⟨d1,d2,fc⟩:∃d1 d2,(bH a3 nl c3)=aA (aL ⟨d1,d2,aF⟩) nl c3:=by
      have d3:=l.out.free.1.1;obtain⟨D,x,T,az,b2⟩:=AC J 0 (by have:=ar.out;omega);rw[ar.out,az]at d3;obtain⟨b',fd,bl,_,_⟩:=d3.ai;cases bl
      exact⟨b',fd,rfl⟩
     cases fc
     go_upto_region 14 with fail
     clear C;refine XS (B:=B) (w1:=w1) (S:=w.heap.size+2) c.out l.out c6.out ar.out (by omega) (by omega) (by omega) (by kernel_rfl) (by kernel_rfl) (by kernel_rfl) ?_;intro u fe m ff fg fh ao a' d4 f4 a g;simp only[An,CY,aU,aY,aZ]at d4;subst d4;clear c l;have X:=a.Slt;have bg:=g.lt;have K:=Aa a.box 0;have A:=Aa g.box 0;have H:=Aa g.box 1;have C:=Aa g.box 2;simp only[aC,aB,aH]at K A H C;have ax:=a.gr.size;have E:=BT (x:=⟨bk,bn,aA fe m ff,fg⟩) a.bin (by omega) g.free.1;have c:=Ab a;have l:=Ab g;clear a g;simp only at E;go_wp2_with (go_at_call 54;refine E.mono ?_)
     rintro e aj ⟨s,t,z,I,rfl,f,P⟩;have r:=c.out.V P;have Q:=r.box;have R:=Ab (r.put (v':=aA s t z) (bs':=I) f.2.2.2.1 (fun q F=>f.2.2.2.2 q (by omega) (c.out.abv q F) (l.out.free.2.2 q F)) (f.2.2.2.2 _ X c.out.farS (l.out.free.2.1 _ (by simp))) (ER f.2.2.1 l.out.ah c.out.ah));have ay:=f.2.1;clear E f r c l K A H C;go_wp2_with (with_reducible show bK _ _ _ (bF _ (bA _ (aR 5) _) _ _ _ _::_) _ _;refine aO rfl 25 _ _ rfl (w.heap.size+2) #[aA s t z] ?_ ?_ 25 _ Q ?_ ?_ ?_ ?_)
     all_goals (first|rfl|kernel_rfl|exact Bg|skip)
     go_roundw;case rel=>exact⟨j+1,fh,aA s t z,I,by go_num,by omega,by omega,by omega,R.out⟩
     case measure=>simp[intOf];omega
   ·have d5:((y:Int)==0)=false:=by rw[beq_eq_false_iff_ne];omega
    have f5:((y:Int)==1)=false:=by rw[beq_eq_false_iff_ne];omega
    have f6:((y:Int)==2)=false:=by rw[beq_eq_false_iff_ne];omega
    have a:=G;have g:=N;clear G N;have X:=a.Slt;have bg:=g.lt;have K:=Aa a.box 0;have A:=Aa g.box 0;have H:=Aa g.box 1;have C:=Aa g.box 2;simp only[aC,aB,aH]at K A H C;have ax:=a.gr.size;have E:=BT (x:=⟨bk,bn,aA a3 nl c3,J⟩) a.bin (by omega) g.free.1;have c:=Ab a;have l:=Ab g;clear a g;simp only at E;go_wp2_with (go_at_call 54;refine E.mono ?_)
    rintro e aj ⟨s,t,z,I,rfl,f,P⟩;have r:=c.out.V P;have Q:=r.box;have R:=Ab (r.put (v':=aA s t z) (bs':=I) f.2.2.2.1 (fun q F=>f.2.2.2.2 q (by omega) (c.out.abv q F) (l.out.free.2.2 q F)) (f.2.2.2.2 _ X c.out.farS (l.out.free.2.1 _ (by simp))) (ER f.2.2.1 l.out.ah c.out.ah));have ay:=f.2.1;clear E f r c l K A H C;go_wp2_with (with_reducible show bK _ _ _ (bF _ (bA _ (aR 5) _) _ _ _ _::_) _ _;refine aO rfl 25 _ _ rfl (w.heap.size+2) #[aA s t z] ?_ ?_ 25 _ Q ?_ ?_ ?_ ?_)
    all_goals (first|rfl|kernel_rfl|exact Bg|skip)
    go_roundw;case rel=>exact⟨j+1,kk+1,aA s t z,I,by go_num,by omega,by omega,by omega,R.out⟩
    case measure=>simp[intOf];omega
  ·obtain rfl:j=n:=by omega
   have f7:¬((j:Int)<(j:Int)):=by omega
   have aq:=A1 B p kk 3 wr a.rd (by omega) (by omega) (by omega);have c:=Ab a;clear a;go_wp2_with (go_at_call 44;refine aq.mono ?_)
   rintro e w3 ⟨d5,d0,rfl,d6,d7⟩;have U:=Ab (c.out.grown d7 d6);clear aq c d6 d7 bz bx;go_wp2;go_loopw [9] (fun i wr=>Aef B p kk w1 (w.heap.size+2) i wr) (fun i _=>(intOf i).toNat)
   case atStart=>exact⟨d5,kk+1,aA xa cs.length xc,cs,rfl,by omega,by omega,by omega,U.out⟩
   case round =>
    obtain⟨m,fi,v,ds,rfl,f8,f9,ga,a⟩:=hrel;obtain⟨ta,gb,rfl⟩:=a.bin.1.ad;have c0:=Aa a.box 0;simp only[aC,aB]at c0;clear U;cases m with
    | zero =>
     have d8:=Di a.bin ⟨by omega,a.ah⟩;have c:=Ab a;have ax:=a.gr.size;have d9:=(a.gr.block (w.heap.size+1) (by omega) (by intro e;have:=aM e;omega)).trans ep;clear a;go_wp2_with (go_at_call 55;refine d8.mono ?_)
     first|rintro e ao v9 rfl bm bo o9 a0|rintro e ao v9 bm rfl bo o9 a0|rintro e ao ⟨v9,bm,rfl,bo,o9,a0⟩
     have z9:=(a0.block (w.heap.size+1) (by omega)).trans d9;obtain⟨a9,c9,rfl,_⟩:=Al o9.row;have ea:=Ab (c.out.out (d:=7000) (k:=k) cq em el (by omega) (by omega) bo o9 a0 #[aA a9 bm.length c9]);clear d8 c o9 bo a0 d9;generalize bm.length=a1 at *;go_wp2_with (with_reducible show bK _ _ _ (bF _ (bA _ (aR 4) _) _ _ _ _::_) _ _;refine aO rfl 25 _ _ rfl (w.heap.size+1) #[aA a9 a1 c9] ?_ ?_ 25 _ z9 ?_ ?_ ?_ ?_)
     all_goals (first|rfl|kernel_rfl|exact Bg|skip)
     have z5:(ao.setRow (w.heap.size+1) #[aA a9 a1 c9]).heap[w.heap.size+1]?=aL (aD #[aA a9 a1 c9] 25 (0,0)):=bU _ _ _ _ _ _ z9;have A:=Aa z5 0;simp only[aC,aB]at A;generalize ao.setRow (w.heap.size+1) #[aA a9 a1 c9]=W at ea A z5⊢;exact bB (v:=aS #[aA a9 a1 c9]) (by simp[bM,results45,go_sem,A]) rfl ea.out
    | succ m =>
     have gc:((m+1:Nat):Int)>0:=by omega
     have au:=E8 B p fi wr a.rd (by omega);have c:=Ab a;have fj:=a.Slt;have gd:=a.gr.size;clear a;go_wp2_with (go_at_call 106;refine au.mono ?_)
     rintro e ah ⟨b,cg,rfl,ge,eb,ch,⟨al,ci⟩,a4,bb,cj,_⟩;obtain⟨ae,af,bl⟩:=al.1.ad;obtain⟨bk,bn,bv,M⟩:=b;simp only at al ci a4 bb cj bl;subst bl;have ag:=c.out.grown ch eb;have gf:=ch.size;have L:=(aJ ah.heap.size ah).alloc (aG _) (aD #[aE bk,aE bn,aA ae M.length af] 46);have G:=ag.V L;have aa:=Ai ah (aD #[aE bk,aE bn,aA ae M.length af] 46);have bp:=Aa aa 0;have bq:=Aa aa 1;have br:=Aa aa 2;have c5:=Aa G.box 0;simp only[aC,aB,aH]at bp bq br c5;have ec:=Ab (al.V L);have ed:=Ab ci;have fk:=Ab (show E9 bn M from(show CO ⟨bk,bn,aA ae M.length af,M⟩ from⟨by simp only;omega,bb,cj⟩).x);have ee:=MB bk bn G.bin (by omega);have ef:=Ab G;have ez:(ah.alloc (aD #[aE bk,aE bn,aA ae M.length af] 46)).heap.size=ah.heap.size+1:=by simp
     clear au c ag G al ci cj eb ch L aa c0;generalize b6:M.length=nl at *;clear b6;generalize eg:ah.alloc (aD #[aE bk,aE bn,aA ae nl af] 46)=ca at *;go_wp2_with (go_at_call 52;(try rw[eg]);refine ee.mono ?_)
     first|rintro e ai eh ab|rintro e ai ⟨eh,ab⟩
     have av:=ef.out.V ab;have ad:=(ab.cell (aP _ _ bp)).trans bp;have ck:=(ab.cell (aP _ _ bq)).trans bq;have az:=(ab.cell (aP _ _ br)).trans br;have ei:=(ab.cell (aP _ _ c5)).trans c5;have gg:=ab.size;have ej:=Ab (ec.out.V ab);have ac:=Ab av;clear ee ef ec bp bq br c5 av eg;rcases eh with ⟨_,rfl⟩|⟨D,x,T,_,_,rfl⟩
     ·by_cases gh:ds.length<60
      ·have fl:((ds.length:Int)<60):=by omega
       have E:=BT (x:=⟨bk,bn,aA ae nl af,M⟩) ac.out.bin (by omega) ej.out;go_wp2_with (go_at_call 54;refine E.mono ?_)
       rintro e aj ⟨s,t,z,I,rfl,f,P⟩;have r:=ac.out.V P;have Q:=r.box;have R:=Ab (r.put (v':=aA s t z) (bs':=I) f.2.2.2.1 (fun q F=>f.2.2.2.2 q (by omega) (ac.out.abv q F) (ed.out q (by omega))) (f.2.2.2.2 _ (by omega) ac.out.farS (ed.out _ fj)) (ER f.2.2.1 fk.out ac.out.ah));have ay:=f.2.1;clear E f r ac ej ad ck az ei;go_wp2_with (with_reducible show bK _ _ _ (bF _ (bA _ (aR 5) _) _ _ _ _::_) _ _;refine aO rfl 25 _ _ rfl (w.heap.size+2) #[aA s t z] ?_ ?_ 25 _ Q ?_ ?_ ?_ ?_)
       all_goals (first|rfl|kernel_rfl|exact Bg|skip)
       go_roundw;case rel=>exact⟨m,cg,aA s t z,I,by go_num,by omega,by omega,by omega,R.out⟩
       case measure=>simp[intOf]
      ·have fl:¬((ds.length:Int)<60):=by omega
       clear ad ck az;go_wp2;go_roundw;case rel=>exact⟨m,cg,_,ds,by go_num,by omega,by omega,by omega,ac.out⟩
       case measure=>simp[intOf]
     ·have gi:¬((D.length:Int)<0):=by omega
      clear ad ck az ei;go_wp2;go_roundw;case rel=>exact⟨m,cg,_,ds,by go_num,by omega,by omega,by omega,ac.out⟩
      case measure=>simp[intOf]
def Agg(i:Nat)(b:BAt):MapEntry:=⟨aS #[aE b.aa,aE b.name],aS #[aE b.aa,aE b.name,b.v],i⟩
def Agh(bs:List BAt):Obj:=.map (bs.mapIdx Agg).toArray bs.length
structure OvI(w:World)(r:Nat)(bs:List BAt)(W:World):Prop where
 bw:Below w.heap.size w W
 mp:W.heap[r]?=aL (Agh bs)
 mem:Ay (r+1) W (bs.flatMap BAt.rows)
 ok:∀b∈bs,AG (rulesOf b.aa) (b.ls.map LAt.I)
 sm:∀b∈bs,b.name.size<=1048576/\Aj b.ls
 wr:w.heap.size<=r
section
open Go.Shelf
attribute [local go_sem] bL
section
variable {F:Fence} {n:Nat} (w:World) {ops:Array Oper} {rest:List Oper} {o:Oper} {a:Act} {Q:Exit->Act->World->Prop}
end
end
section
open Go.Shelf
attribute [local go_sem] bL
end
section
open Go.Shelf
attribute [local go_sem] bL
end
def TO(T:List PBlock)(v:Value)(W:World):Prop:=∃bs,bs.map BAt.I=T/\Au W v bs/\A3 bs
theorem TO.V{T:List PBlock}(h:TO T v W)(a:Below W.heap.size W W'):TO T v W':=by
 obtain⟨bs,h1,b,c⟩:=h;exact⟨bs,h1,b.V a,c⟩
theorem TO.nil(W:World):TO [] (aA aF 0 0) W:=⟨[],rfl,⟨⟨rfl,aF,0,rfl,⟨aG _,cE _⟩,.inl rfl⟩,by simp⟩,by simp[A3]⟩
def Afq(T:List PBlock)(w:World)(e:Ending)(w':World):Prop:=∃a n c,e=aT (aS #[aA a n c])/\TO T (aA a n c) w'/\Below w.heap.size w w'
structure FoS(w:World)(TA TB TC:List PBlock)(A B C:Nat)(av bv cv:Value)(W:World):Prop where
 bw:Below w.heap.size w W
 ca:W.cell? ⟨A,0,aF⟩=aL av
 cb:W.cell? ⟨B,0,aF⟩=aL bv
 cc:W.cell? ⟨C,0,aF⟩=aL cv
 ia:TO TA av W
 ib:TO TB bv W
 ic:TO TC cv W
 st:BZ W
theorem Aeh(w:World)(x y:Value):Below w.heap.size w ((w.alloc (aD #[x] 25)).alloc (aD #[y] 25))/\((w.alloc (aD #[x] 25)).alloc (aD #[y] 25)).cell? ⟨w.heap.size,0,aF⟩=aL x/\((w.alloc (aD #[x] 25)).alloc (aD #[y] 25)).cell? ⟨w.heap.size+1,0,aF⟩=aL y:=by
 have b0:=(aJ w.heap.size w).alloc (aG _) (aD #[x] 25);have a:=(aJ (w.alloc (aD #[x] 25)).heap.size (w.alloc (aD #[x] 25))).alloc (aG _) (aD #[y] 25);have z0:=Ai w (aD #[x] 25);have d:=Ai (w.alloc (aD #[x] 25)) (aD #[y] 25);have b:=Aa ((a.block w.heap.size (by simp)).trans z0) 0;have c:=Aa d 0;simp only[aC,aB,bC]at b c;exact⟨b0.trans (a.mono b0.size),b,c⟩
variable {a:Act}{ds:List Nat}{d m i kk k:Nat}{v0 av bv:Value}{w' W0:World}{Q:Exit -> Act -> World -> Prop}
def Rw: Oper := ⟨aL 17, .load 25 (.tmp 5), 25, "l8_draw.go:374", #[], aF⟩
def Rx: Oper := ⟨aL 18, .move (.tmp 4), 65, "l8_draw.go:374", #[], aF⟩
def Ry: Oper := ⟨aL 19, .load 25 (.tmp 5), 25, "l8_draw.go:374", #[], aF⟩
def Rz: Oper := ⟨aL 20, .call { callee := .value (.func 45), args := #[.tmp 18, .tmp 19], argTypes := #[65, 25] }, 25, "l8_draw.go:374", #[⟨1, .data⟩, ⟨2, .data⟩], aF⟩
def R3: Oper := ⟨aF, .store 25 (.tmp 2) (.tmp 17), 0, "l8_draw.go:374", #[⟨0, .data⟩, ⟨3, .chain⟩, ⟨0, .phase⟩, { on := 1, ground := aW bE }, { on := 2, ground := aW bE }, { on := 3, ground := aW bJ }], aF⟩
def R9: Oper := ⟨aF, .store 25 (.tmp 3) (.tmp 20), 0, "l8_draw.go:374", #[⟨3, .data⟩, ⟨4, .chain⟩, ⟨0, .phase⟩, ⟨1, .phase⟩, ⟨2, .phase⟩, ⟨3, .phase⟩, ⟨4, .phase⟩], aF⟩
def Afr:List Oper:=[Rw,Rx,Ry,Rz,R3,R9]
def RA: Oper := ⟨aL 21, .load 25 (.tmp 5), 25, "l8_draw.go:376", #[], aF⟩
def RB: Oper := ⟨aL 22, .move (.tmp 4), 65, "l8_draw.go:376", #[], aF⟩
def RC: Oper := ⟨aL 23, .call { callee := .value (.func 43), args := #[.tmp 22], argTypes := #[65] }, 25, "l8_draw.go:376", #[⟨1, .data⟩], aF⟩
def RD: Oper := ⟨aF, .store 25 (.tmp 2) (.tmp 21), 0, "l8_draw.go:376", #[⟨0, .data⟩, ⟨2, .chain⟩, ⟨0, .phase⟩, { on := 1, ground := aW bE }, { on := 2, ground := aW bJ }], aF⟩
def RE: Oper := ⟨aF, .store 25 (.tmp 3) (.tmp 23), 0, "l8_draw.go:376", #[⟨2, .data⟩, ⟨3, .chain⟩, ⟨0, .phase⟩, ⟨1, .phase⟩, ⟨2, .phase⟩, ⟨3, .phase⟩], aF⟩
def Afs:List Oper:=[RA,RB,RC,RD,RE]
theorem TP{v:Nat->Value}(k:Nat){x:Value}(b:ds.Nodup)(c:ds[k]?=aL d)(hd:a.tmps.size<=d):An a ds v=An a ds (fun j=>if j=k then x else v j):=by
 rw[<-Av k b c];have e:=OJ ds v 0 a.tmps;show An a ds v=({ (An a ds v) with tmps:=(An a ds v).tmps.setIfInBounds d x }:Act)
 have:(An a ds v).tmps.setIfInBounds d x=(An a ds v).tmps:=Array.setIfInBounds_eq_of_size_le (by unfold An;simp only;omega);rw[this]
structure V7(w:World)(p A:Nat)(v0 av:Value)(bs:List BAt)(W:World):Prop where
 bw:Below w.heap.size w W
 r0:W.heap[w.heap.size]?=aL (aD #[v0] 25 (0,0))
 r1:W.heap[w.heap.size+1]?=aL (aD #[aA aF 0 0] 25 (0,0))
 ab:W.heap[A]?=aL (aD #[av] 25 (0,0))
 ain:Au W av bs
 aj:∀q,q<=p->A7 q av bs
 hp:w.heap.size+2<=p
 pA:p<A
theorem V7.V{A:Nat}(h:V7 w p A v0 av bs W)(a:Below W.heap.size W W'):V7 w p A v0 av bs W' :=
 ⟨h.bw.trans (a.mono h.bw.size),(a.block _ (aI.1 h.r0).1).trans h.r0,(a.block _ (aI.1 h.r1).1).trans h.r1,(a.block A (aI.1 h.ab).1).trans h.ab,h.ain.V a,h.aj,h.hp,h.pA⟩
theorem V7.grown{A:Nat}(h:V7 w p A v0 av bs W)(a:W.grownBy W' (aL p)):V7 w p A v0 av bs W':=by
 have h1:=h.hp;have c:=h.pA;have b:=h.bw.size;exact⟨C7 h.bw b (by omega) a,(a.block w.heap.size (aI.1 h.r0).1 (by intro e;have:=aM e;omega)).trans h.r0,(a.block (w.heap.size+1) (aI.1 h.r1).1 (by intro e;have:=aM e;omega)).trans h.r1,(a.block A (aI.1 h.ab).1 (by intro e;have:=aM e;omega)).trans h.ab,h.ain.aj (h.aj p (aG _)) a,h.aj,h.hp,h.pA⟩
theorem V7.store{A:Nat}(h:V7 w p A v0 av bs W):V7 w p A av av bs (W.setCell ⟨w.heap.size,0,aF⟩ av):=by
 have h1:=h.hp;have c:=h.pA;have b:=h.bw.size;have a:=AN W w.heap.size 0 av;refine⟨C7 h.bw b (aG _) a,?_,(a.block (w.heap.size+1) (aI.1 h.r1).1 (by intro e;have:=aM e;omega)).trans h.r1,(a.block A (aI.1 h.ab).1 (by intro e;have:=aM e;omega)).trans h.ab,h.ain.aj (h.aj _ (by omega)) a,h.aj,h.hp,h.pA⟩;rw[cA W w.heap.size 0 _ _ _ h.r0];rfl
def DvE(w:World)(av bv:Value)(bs cs:List BAt)(W:World):Prop:=Below w.heap.size w W/\W.cell? ⟨w.heap.size,0,aF⟩=aL av/\W.cell? ⟨w.heap.size+1,0,aF⟩=aL bv/\Au W av bs/\Au W bv cs/\A3 cs
theorem V7.fin{A:Nat}{cs:List BAt}(h:V7 w p A av av bs W)(c:Au W bv cs)(d:∀q,q<=p->A7 q bv cs)(f:A3 cs):DvE w av bv bs cs (W.setCell ⟨w.heap.size+1,0,aF⟩ bv):=by
 have h1:=h.hp;have g:=h.bw.size;have a:=AN W (w.heap.size+1) 0 bv;have i:(W.setCell ⟨w.heap.size+1,0,aF⟩ bv).heap[w.heap.size+1]?=aL (aD #[bv] 25 (0,0)):=by rw[cA W (w.heap.size+1) 0 _ _ _ h.r1];rfl
 have z0:=(a.block w.heap.size (aI.1 h.r0).1 (by intro e;have:=aM e;omega)).trans h.r0;have c0:=Aa z0 0;have b:=Aa i 0;simp only[aC,aB]at c0 b;exact⟨C7 h.bw g (by omega) a,c0,b,h.ain.aj (h.aj _ (by omega)) a,c.aj (d _ (by omega)) a,f⟩
def DvF(p m:Nat)(av:Value)(i:Nat)(x:Value)(W:World):Prop:=(i=0->x=aS #[av])/\(i=1->x=aK (aL ⟨p,0,aF⟩))/\(i=2->m=3->x=aS #[av])/\(i=m->∃a n c cs,x=aS #[aA a n c]/\Au W (aA a n c) cs/\A3 cs/\∀q,q<=p->A7 q (aA a n c) cs)
theorem DvF.af{x:Value}(h:DvF p m av i x W)(k:i=m->∀v cs,Au W v cs->(∀q,q<=p->A7 q v cs)->Au W' v cs):DvF p m av i x W' :=
 ⟨h.1,h.2.1,h.2.2.1,fun e=>by
   obtain⟨a,n,c,cs,h1,d,f,b⟩:=h.2.2.2 e;exact⟨a,n,c,cs,h1,k e _ _ d b,f,b⟩⟩
def DvG(w:World)(B p A kk m s:Nat)(av:Value)(bs:List BAt)(L:Nat->Bool)(W:World):Prop:=∃v0,(L s=true->v0=av)/\(L m=false->Rd B W p kk)/\V7 w p A v0 av bs W
theorem DvG.af{A s:Nat}{L:Nat->Bool}(h:DvG w B p A kk m s av bs L W)(h1:i≠s)(a:i≠m):DvG w B p A kk m s av bs (BN L i) W:=by
 obtain⟨v0,a1,a2,a3⟩:=h;exact⟨v0,by simpa [BN,Ne.symm h1] using a1,by simpa [BN,Ne.symm a] using a2,a3⟩
theorem XV(h:Bw (bs.map BAt.I)=true):∀b∈bs,b.ls.length<=1000:=fun b a=>by
 have h1:=((AS.1 h).2.1 b.I (bO a)).2.2.few;have c:=(Bm b.aa).1;simp only[BAt.I,bW]at h1;omega
theorem Pa{a:Option Addr}(h:Kt d B p k w (aT (aS #[aA a n c])) w')(j:p<w.heap.size):∃cs,w.grownBy w' (aL p)/\Au w' (aA a n c) cs/\A3 cs/\∀q,q<=p->A7 q (aA a n c) cs:=by
 obtain⟨a',n',l,bs,k',b,_,_,e,f,g,i⟩:=h;cases b
 exact⟨bs,e,f,g.1,fun q m=>i q (by omega)⟩
theorem Aag{A D:Nat}(U:V7 w p A (aA aF 0 0) (aA sa n sc) bs W0)(V:Rd B W0 p kk)(X:∀W,Rd B W p kk->Au W (aA sa n sc) bs->Calls prog 45 #[(aK (aL ⟨p,0,aF⟩)),aS #[(aA sa n sc)]] W fun e w'=>Kt D B p kk W e w')(H:a.eval (.tmp 2)=aK (aL ⟨w.heap.size,0,aF⟩))(Y:a.eval (.tmp 3)=aK (aL ⟨w.heap.size+1,0,aF⟩))(Z:a.eval (.tmp 4)=(aK (aL ⟨p,0,aF⟩)))(R:a.eval (.tmp 5)=(aK (aL ⟨A,0,aF⟩)))(ao:a.tmps.size=24)
  (aa:∀u b m c cs W' a',a'=An a [17,18,19,20,24] u->DvE w (aA sa n sc) (aA b m c) bs cs W'->Q .normal a' W'):(cD 4 Afr.toArray true).wp prog Q a W0:=by
 have r:([17,18,19,20,24]:List Nat).Nodup:=by decide
 refine Bu [17,18,19,20,24] (DvF p 3 (aA sa n sc)) (DvG w B p A kk 3 4 (aA sa n sc) bs) 5 6 [0,1,2,3,4,5] (by kernel_rfl) rfl (by decide) (by kernel_rfl) ?h1 ⟨_,(fun h=>by cases h),fun _=>V.V (aJ _ _).drew,U.V (aJ _ _).drew⟩ ?hall;case h1 =>
  intro i x W ap;exact⟨fun e=>by omega,fun e=>by omega,fun e=>by omega,fun e=>by omega⟩
 refine Ak.ae (o:=Rw) [] (by kernel_rfl) (by decide) (by kernel_rfl) rfl ?o0 (Ak.ae (o:=Rx) [] (by kernel_rfl) (by decide) (by kernel_rfl) rfl ?o1 (Ak.ae (o:=Ry) [] (by kernel_rfl) (by decide) (by kernel_rfl) rfl ?o2 (Ak.ae (o:=Rz) [1,2] (by kernel_rfl) (by decide) (by kernel_rfl) rfl ?o3 (Ak.ae (o:=R3) [0,3,0] (by kernel_rfl) (by decide) (by kernel_rfl) rfl ?o4 (Ak.lastQ (o:=R9) [3,4,0,1,2,3,4] (by kernel_rfl) (by kernel_rfl) rfl ?o5)))));case o0 =>
  rintro G L _ W C l ⟨v,rfl,g,k⟩ K q;obtain⟨v0,E,F,f⟩:=id k;have cs:=Aa f.ab 0;simp only[aC,aB]at cs;have I:=(A6 (v:=v) (show 5 ∉ ([17,18,19,20,24]:List Nat) by decide)).trans R;have d : aN (An a [17, 18, 19, 20, 24] v).eval Rw = aN (aV ⟨#[undef], []⟩) ⟨aL 0, .load 25 (.const (aK (aL ⟨A, 0, aF⟩))), 0, "", #[], aF⟩ := by simp only[aN, Ae, Rw, I]
  refine BJ.mk ?_;unfold aX;rw[d];clear d;go_simp;exact q.out _ _ (AE.next (W:=W) g 0 (aS #[(aA sa n sc)]) (Av 0 r rfl) (fun _ _ h=>h) ⟨fun _=>rfl,fun e=>by omega,fun _ _=>rfl,fun e=>by omega⟩ (k.af (by decide) (by decide)))
 case o1 =>
  rintro G L _ W C l ⟨v,rfl,g,k⟩ K q;have ab:=(A6 (v:=v) (show 4 ∉ ([17,18,19,20,24]:List Nat) by decide)).trans Z;have d : aN (An a [17, 18, 19, 20, 24] v).eval Rx = aN (aV ⟨#[undef], []⟩) ⟨aL 0, .move (.const (aK (aL ⟨p, 0, aF⟩))), 0, "", #[], aF⟩ := by simp only[aN, Ae, Rx, ab]
  refine BJ.mk ?_;unfold aX;rw[d];clear d;go_simp;exact q.out _ _ (AE.next (W:=W) g 1 (aK (aL ⟨p,0,aF⟩)) (Av 1 r rfl) (fun _ _ h=>h) ⟨fun e=>by omega,fun _=>rfl,fun e=>by omega,fun e=>by omega⟩ (k.af (by decide) (by decide)))
 case o2 =>
  rintro G L _ W C l ⟨v,rfl,g,k⟩ K q;obtain⟨v0,E,F,f⟩:=id k;have cs:=Aa f.ab 0;simp only[aC,aB]at cs;have I:=(A6 (v:=v) (show 5 ∉ ([17,18,19,20,24]:List Nat) by decide)).trans R;have d : aN (An a [17, 18, 19, 20, 24] v).eval Ry = aN (aV ⟨#[undef], []⟩) ⟨aL 0, .load 25 (.const (aK (aL ⟨A, 0, aF⟩))), 0, "", #[], aF⟩ := by simp only[aN, Ae, Ry, I]
  refine BJ.mk ?_;unfold aX;rw[d];clear d;go_simp;exact q.out _ _ (AE.next (W:=W) g 2 (aS #[(aA sa n sc)]) (Av 2 r rfl) (fun _ _ h=>h) ⟨fun e=>by omega,fun e=>by omega,fun _ _=>rfl,fun e=>by omega⟩ (k.af (by decide) (by decide)))
 case o3 =>
  rintro G L _ W C l ⟨v,rfl,g,k⟩ K q;obtain⟨v0,E,F,f⟩:=id k;have ac:=X W (F C) f.ain;have ad:(An a [17,18,19,20,24] v).eval (.tmp 18)=_:=(Ao 1 r rfl (by omega)).trans ((g 1 (l 1 (by simp))).2.1 rfl);have ae:(An a [17,18,19,20,24] v).eval (.tmp 19)=_:=(Ao 2 r rfl (by omega)).trans ((g 2 (l 2 (by simp))).2.2.1 rfl rfl);have d : aN (An a [17, 18, 19, 20, 24] v).eval Rz = aN (aV ⟨#[undef], []⟩) ⟨aL 0, .call { callee := .value (.func 45), args := #[.const (aK (aL ⟨p, 0, aF⟩)), .const (aS #[(aA sa n sc)])], argTypes := #[65, 25] }, 0, "", #[], aF⟩ := by simp only[aN, Ae, Rz, resolve, Cu, bT, bZ, cB, ad, ae]
  refine BJ.mk ?_;unfold aX;rw[d];clear d;go_simp;refine ac.mono ?_;rintro e W' S;have af:=(F C).lt;obtain⟨s,t,z,ag⟩:∃s t z,e=aT (aS #[aA s t z]):=by obtain⟨s,t,z,_,_,d,_⟩:=S;exact⟨s,t,z,d⟩
  subst ag;obtain⟨cs,ah,J,M,N⟩:=Pa S af;refine q.out _ _ (AE.ak (W:=W) g 3 (aS #[aA s t z]) (Av 3 r rfl) (fun j y T h=>h.af (fun e=>by rw[e,C]at T;cases T)) ⟨fun e=>by omega,fun e=>by omega,fun e=>by omega,fun _=>⟨s,t,z,cs,rfl,J,M,N⟩⟩ ⟨v0,by simpa [BN] using E,by simp[BN],f.grown ah⟩)
 case o4 =>
  rintro G L _ W C l ⟨v,rfl,g,k⟩ K q;obtain⟨v0,E,F,f⟩:=id k;have O:=Aa f.r0 0;have fr:=Ac f.r0 0;simp only[aC,aB]at O;have P:=Ab f.store;have ai:=l 3 (by simp);have aq:=f.hp;have aj:=(A6 (v:=v) (show 2 ∉ ([17,18,19,20,24]:List Nat) by decide)).trans H;have ak:(An a [17,18,19,20,24] v).eval (.tmp 17)=_:=(Ao 0 r rfl (by omega)).trans ((g 0 (l 0 (by simp))).1 rfl);have d : aN (An a [17, 18, 19, 20, 24] v).eval R3 = aN (aV ⟨#[undef], []⟩) ⟨aL 0, .store 25 (.const (aK (aL ⟨w.heap.size, 0, aF⟩))) (.const (aS #[(aA sa n sc)])), 0, "", #[], aF⟩ := by simp only[aN, Ae, R3, aj, ak]
  refine BJ.mk ?_;unfold aX;rw[d];clear d;go_simp;refine q.out _ _ (AE.next (W:=W) g 4 undef (TP 4 r rfl (by omega)) (fun j y h=>h.af (fun _ u cs h1 H=>h1.aj (H w.heap.size (by omega)) (AN W w.heap.size 0 _))) ⟨fun e=>by omega,fun e=>by omega,fun e=>by omega,fun e=>by omega⟩ ⟨_,fun _=>rfl,fun e=>?_,P.out⟩);have:(BN L 4) 3=L 3:=by simp[BN]
  rw[this,ai]at e;cases e
 case o5 =>
  rintro G L _ W C l ⟨v,rfl,g,k⟩ K q;obtain⟨v0,E,F,f⟩:=id k;obtain rfl:=E (l 4 (by simp));obtain⟨s,t,z,cs,al,J,M,N⟩:=(g 3 (l 3 (by simp))).2.2.2 rfl;have O:=Aa f.r1 0;have fr:=Ac f.r1 0;simp only[aC,aB]at O;have P:=Ab (f.fin J N M);have am:=(A6 (v:=v) (show 3 ∉ ([17,18,19,20,24]:List Nat) by decide)).trans Y;have an:(An a [17,18,19,20,24] v).eval (.tmp 20)=_:=(Ao 3 r rfl (by omega)).trans al;have d : aN (An a [17, 18, 19, 20, 24] v).eval R9 = aN (aV ⟨#[undef], []⟩) ⟨aL 0, .store 25 (.const (aK (aL ⟨w.heap.size + 1, 0, aF⟩))) (.const (aS #[aA s t z])), 0, "", #[], aF⟩ := by simp only[aN, Ae, R9, am, an]
  refine BJ.mk ?_;unfold aX;rw[d];clear d;go_simp;exact q.out _ _ (bR (aa v s t z cs _ _ rfl P.out))
theorem TQ{A D:Nat}(S:V7 w p A (aA aF 0 0) (aA sa n sc) bs W0)(T:Rd B W0 p kk)(U:∀W,Rd B W p kk->Au W (aA sa n sc) bs->Calls prog 43 #[(aK (aL ⟨p,0,aF⟩))] W fun e w'=>Kt D B p kk W e w')(H:a.eval (.tmp 2)=aK (aL ⟨w.heap.size,0,aF⟩))(V:a.eval (.tmp 3)=aK (aL ⟨w.heap.size+1,0,aF⟩))(X:a.eval (.tmp 4)=(aK (aL ⟨p,0,aF⟩)))(Y:a.eval (.tmp 5)=(aK (aL ⟨A,0,aF⟩)))(an:a.tmps.size=24)
  (Z:∀u b m c cs W' a',a'=An a [21,22,23,24] u->DvE w (aA sa n sc) (aA b m c) bs cs W'->Q .normal a' W'):(cD 5 Afs.toArray true).wp prog Q a W0:=by
 have z:([21,22,23,24]:List Nat).Nodup:=by decide
 refine Bu [21,22,23,24] (DvF p 2 (aA sa n sc)) (DvG w B p A kk 2 3 (aA sa n sc) bs) 4 5 [0,1,2,3,4] (by kernel_rfl) rfl (by decide) (by kernel_rfl) ?h1 ⟨_,(fun h=>by cases h),fun _=>T.V (aJ _ _).drew,S.V (aJ _ _).drew⟩ ?hall;case h1 =>
  intro i x W ao;exact⟨fun e=>by omega,fun e=>by omega,fun e=>by omega,fun e=>by omega⟩
 refine Ak.ae (o:=RA) [] (by kernel_rfl) (by decide) (by kernel_rfl) rfl ?o0 (Ak.ae (o:=RB) [] (by kernel_rfl) (by decide) (by kernel_rfl) rfl ?o1 (Ak.ae (o:=RC) [1] (by kernel_rfl) (by decide) (by kernel_rfl) rfl ?o2 (Ak.ae (o:=RD) [0,2,0] (by kernel_rfl) (by decide) (by kernel_rfl) rfl ?o3 (Ak.lastQ (o:=RE) [2,3,0,1,2,3] (by kernel_rfl) (by kernel_rfl) rfl ?o4))));case o0 =>
  rintro G L _ W C l ⟨v,rfl,g,k⟩ K q;obtain⟨v0,E,F,f⟩:=id k;have cs:=Aa f.ab 0;simp only[aC,aB]at cs;have aa:=(A6 (v:=v) (show 5 ∉ ([21,22,23,24]:List Nat) by decide)).trans Y;have d : aN (An a [21, 22, 23, 24] v).eval RA = aN (aV ⟨#[undef], []⟩) ⟨aL 0, .load 25 (.const (aK (aL ⟨A, 0, aF⟩))), 0, "", #[], aF⟩ := by simp only[aN, Ae, RA, aa]
  refine BJ.mk ?_;unfold aX;rw[d];clear d;go_simp;exact q.out _ _ (AE.next (W:=W) g 0 (aS #[(aA sa n sc)]) (Av 0 z rfl) (fun _ _ h=>h) ⟨fun _=>rfl,fun e=>by omega,fun _ _=>rfl,fun e=>by omega⟩ (k.af (by decide) (by decide)))
 case o1 =>
  rintro G L _ W C l ⟨v,rfl,g,k⟩ K q;have ab:=(A6 (v:=v) (show 4 ∉ ([21,22,23,24]:List Nat) by decide)).trans X;have d : aN (An a [21, 22, 23, 24] v).eval RB = aN (aV ⟨#[undef], []⟩) ⟨aL 0, .move (.const (aK (aL ⟨p, 0, aF⟩))), 0, "", #[], aF⟩ := by simp only[aN, Ae, RB, ab]
  refine BJ.mk ?_;unfold aX;rw[d];clear d;go_simp;exact q.out _ _ (AE.next (W:=W) g 1 (aK (aL ⟨p,0,aF⟩)) (Av 1 z rfl) (fun _ _ h=>h) ⟨fun e=>by omega,fun _=>rfl,fun e=>by omega,fun e=>by omega⟩ (k.af (by decide) (by decide)))
 case o2 =>
  rintro G L _ W C l ⟨v,rfl,g,k⟩ K q;obtain⟨v0,E,F,f⟩:=id k;have ac:=U W (F C) f.ain;have ad:(An a [21,22,23,24] v).eval (.tmp 22)=_:=(Ao 1 z rfl (by omega)).trans ((g 1 (l 1 (by simp))).2.1 rfl);have d : aN (An a [21, 22, 23, 24] v).eval RC = aN (aV ⟨#[undef], []⟩) ⟨aL 0, .call { callee := .value (.func 43), args := #[.const (aK (aL ⟨p, 0, aF⟩))], argTypes := #[65] }, 0, "", #[], aF⟩ := by simp only[aN, Ae, RC, resolve, Cu, bT, bZ, cB, ad]
  refine BJ.mk ?_;unfold aX;rw[d];clear d;go_simp;refine ac.mono ?_;rintro e W' P;have ae:=(F C).lt;obtain⟨r,s,t,af⟩:∃r s t,e=aT (aS #[aA r s t]):=by obtain⟨r,s,t,_,_,d,_⟩:=P;exact⟨r,s,t,d⟩
  subst af;obtain⟨cs,ag,I,J,M⟩:=Pa P ae;refine q.out _ _ (AE.ak (W:=W) g 2 (aS #[aA r s t]) (Av 2 z rfl) (fun j y R h=>h.af (fun e=>by rw[e,C]at R;cases R)) ⟨fun e=>by omega,fun e=>by omega,fun e=>by omega,fun _=>⟨r,s,t,cs,rfl,I,J,M⟩⟩ ⟨v0,by simpa [BN] using E,by simp[BN],f.grown ag⟩)
 case o3 =>
  rintro G L _ W C l ⟨v,rfl,g,k⟩ K q;obtain⟨v0,E,F,f⟩:=id k;have N:=Aa f.r0 0;have fr:=Ac f.r0 0;simp only[aC,aB]at N;have O:=Ab f.store;have ah:=l 2 (by simp);have ap:=f.hp;have ai:=(A6 (v:=v) (show 2 ∉ ([21,22,23,24]:List Nat) by decide)).trans H;have aj:(An a [21,22,23,24] v).eval (.tmp 21)=_:=(Ao 0 z rfl (by omega)).trans ((g 0 (l 0 (by simp))).1 rfl);have d : aN (An a [21, 22, 23, 24] v).eval RD = aN (aV ⟨#[undef], []⟩) ⟨aL 0, .store 25 (.const (aK (aL ⟨w.heap.size, 0, aF⟩))) (.const (aS #[(aA sa n sc)])), 0, "", #[], aF⟩ := by simp only[aN, Ae, RD, ai, aj]
  refine BJ.mk ?_;unfold aX;rw[d];clear d;go_simp;refine q.out _ _ (AE.next (W:=W) g 3 undef (TP 3 z rfl (by omega)) (fun j y h=>h.af (fun _ u cs h1 H=>h1.aj (H w.heap.size (by omega)) (AN W w.heap.size 0 _))) ⟨fun e=>by omega,fun e=>by omega,fun e=>by omega,fun e=>by omega⟩ ⟨_,fun _=>rfl,fun e=>?_,O.out⟩);have:(BN L 3) 2=L 2:=by simp[BN]
  rw[this,ah]at e;cases e
 case o4 =>
  rintro G L _ W C l ⟨v,rfl,g,k⟩ K q;obtain⟨v0,E,F,f⟩:=id k;obtain rfl:=E (l 3 (by simp));obtain⟨r,s,t,cs,ak,I,J,M⟩:=(g 2 (l 2 (by simp))).2.2.2 rfl;have N:=Aa f.r1 0;have fr:=Ac f.r1 0;simp only[aC,aB]at N;have O:=Ab (f.fin I M J);have al:=(A6 (v:=v) (show 3 ∉ ([21,22,23,24]:List Nat) by decide)).trans V;have am:(An a [21,22,23,24] v).eval (.tmp 23)=_:=(Ao 2 z rfl (by omega)).trans ak;have d : aN (An a [21, 22, 23, 24] v).eval RE = aN (aV ⟨#[undef], []⟩) ⟨aL 0, .store 25 (.const (aK (aL ⟨w.heap.size + 1, 0, aF⟩))) (.const (aS #[aA r s t])), 0, "", #[], aF⟩ := by simp only[aN, Ae, RE, al, am]
  refine BJ.mk ?_;unfold aX;rw[d];clear d;go_simp;exact q.out _ _ (bR (Z v r s t cs _ _ rfl O.out))
def Pb(w:World)(e:Ending)(w':World):Prop:=∃a n c b m d bs f,e=aT (bX #[aS #[aA a n c],aS #[aA b m d]])/\((Au w' (aA a n c) bs/\(∀b∈bs,Cz b)/\bs.length<=62)/\TO f (aA b m d) w')/\Below w.heap.size w w'
theorem DvE.two{a b:Option Addr}{cs:List BAt}(h:DvE w (aA a n c) (aA b m d) bs cs W)(e:(∀b∈bs,Cz b)/\bs.length<=62):Pb w (aT (bX #[aS #[aA a n c],aS #[aA b m d]])) W :=
 ⟨a,n,c,b,m,d,bs,cs.map BAt.I,rfl,⟨⟨h.2.2.2.1,e⟩,⟨cs,rfl,h.2.2.2.2.1,h.2.2.2.2.2⟩⟩,h.1⟩
theorem Nx(a:Option Addr)(B cap:Nat)(w:World)(M:Code w.heap.size w a B cap):Calls prog 10 #[aA a B cap] w fun e w'=>Pb w e w':=by
 have b0:Below w.heap.size w ((w.alloc (aD #[aA aF 0 0] 25)).alloc (aD #[aA aF 0 0] 25)):=((aJ w.heap.size w).alloc (aG _) _).alloc (by simp) _;have ai:((w.alloc (aD #[aA aF 0 0] 25)).alloc (aD #[aA aF 0 0] 25)).heap.size=w.heap.size+2:=by simp
 have z0:((w.alloc (aD #[aA aF 0 0] 25)).alloc (aD #[aA aF 0 0] 25)).heap[w.heap.size]?=aL (aD #[aA aF 0 0] 25 (0,0)):=by
  have aj:=(aJ (w.alloc (aD #[aA aF 0 0] 25)).heap.size (w.alloc (aD #[aA aF 0 0] 25))).alloc (aG _) (aD #[aA aF 0 0] 25);rw[aj.block w.heap.size (by simp)];exact Ai w _
 have N:((w.alloc (aD #[aA aF 0 0] 25)).alloc (aD #[aA aF 0 0] 25)).heap[w.heap.size+1]?=aL (aD #[aA aF 0 0] 25 (0,0)):=by
  have:=Ai (w.alloc (aD #[aA aF 0 0] 25)) (aD #[aA aF 0 0] 25);rw[bC]at this;exact this
 have l:=M.V b0 (show w.heap.size<=w.heap.size+2 by omega);generalize O:(w.alloc (aD #[aA aF 0 0] 25)).alloc (aD #[aA aF 0 0] 25)=w1 at *;have C:=Nt (w.heap.size+2) a B cap w1 (by omega) l.1 l.2.1 l.2.2.1 l.2.2.2;rw[ai]at C;clear M l;go_enter func10,ntmps10;go_wp2_with (go_at_call 42;(try rw[O]);refine C.mono ?_)
 rintro e w2 ⟨rfl,D,o⟩;have P:=Kv _ _ 0 w2 D (by omega);have ap:=o.size;have Q:=(o.block w.heap.size (by omega)).trans z0;have R:=(o.block (w.heap.size+1) (by omega)).trans N;have E:=b0.trans (o.mono (by omega));have aq:=D.lt;clear C D O z0 N b0 o;go_wp2_with (go_at_call 43;refine P.mono ?_)
 rintro e w3 ⟨sa,n,sc,bs,ak,rfl,ar,S,p,T,⟨F,G⟩,U⟩;have au:=p.size;have i:=(aJ w3.heap.size w3).alloc (aG _) (aD #[aA sa n sc] 25);have V:=Ai w3 (aD #[aA sa n sc] 25);have X:V7 w (w.heap.size+2) w3.heap.size (aA aF 0 0) (aA sa n sc) bs (w3.alloc (aD #[aA sa n sc] 25)):=by
  have Y:=C7 E E.size (show w.heap.size<=w.heap.size+2 by omega) p;refine⟨Y.trans (i.mono Y.size),?_,?_,V,T.V i,fun q av=>U q (by omega),aG _,by omega⟩
  ·rw[i.block _ (by omega),p.block _ (by omega) (by intro e;have:=aM e;omega)];exact Q
  ·rw[i.block _ (by omega),p.block _ (by omega) (by intro e;have:=aM e;omega)];exact R
 have Z:=S.V i;have aa:=A1 _ _ ak 2 _ Z (by omega) (by omega) (by omega);have ab:=Ab X;have ac:=Ab (Er (aQ G (by decide)) F);have H:=Ab (And.intro F G);clear P X S Z p T F U i V Q R E;generalize ad:w3.alloc (aD #[aA sa n sc] 25)=aw at *;generalize al:w3.heap.size=A at *;go_upto_region 3 with fail
 (try rw[ad])
 go_wp2_with (go_at_call 44;refine aa.mono ?_)
 rintro e ax ⟨y,ay,rfl,ae,af⟩;have j:=ab.out.grown af;have I:=Aa j.ab 0;simp only[aC,aB]at I;have r:=Ab j;have s:=Ab ae;clear aa ab ae af ad al;by_cases am:y=0
 ·subst am;have k:=D6 j.ain ac.out;have ag:=j.ain;clear j;cases J:Bw (bs.map BAt.I)
  ·rw[J]at k;clear ag;go_wp2_with (go_at_call 14;refine k.mono ?_)
   first|rintro e K rfl f|rintro e K ⟨rfl,f⟩
   have z:=Ab (r.out.V f);have L:=Ab (s.out.V f);clear k r s f I;go_upto_region 5 with fail
   refine TQ z.out L.out (fun W t _=>(Kv _ _ _ W t (by omega)).mono fun e w' h=>h.weak) (by kernel_rfl) (by kernel_rfl) (by kernel_rfl) (by kernel_rfl) (by kernel_rfl) ?_;intro u b m c cs W' a' g d;simp only[An,CY,aU,aY,aZ]at g;subst g;have t0:=d.2.1;have x:=d.2.2.1;go_wp2;exact bB (v:=bX #[aS #[aA sa n sc],aS #[aA b m c]]) (by simp[bM,results10,go_sem,t0,x]) rfl (d.two H.out)
  ·rw[J]at k;have ah:∀b∈bs,b.ls.length<=1000:=XV J;have an:=Ab ah;clear ag ah;go_wp2_with (go_at_call 14;refine k.mono ?_)
   first|rintro e K rfl f|rintro e K ⟨rfl,f⟩
   have z:=Ab (r.out.V f);have L:=Ab (s.out.V f);clear k r s f I;go_upto_region 4 with fail
   refine Aag z.out L.out (fun W t ao=>V6 _ _ _ W t (by omega) ao (z.out.aj _ (aG _)) ac.out G an.out) (by kernel_rfl) (by kernel_rfl) (by kernel_rfl) (by kernel_rfl) (by kernel_rfl) ?_;intro u b m c cs W' a' g d;simp only[An,CY,aU,aY,aZ]at g;subst g;have t0:=d.2.1;have x:=d.2.2.1;go_wp2;exact bB (v:=bX #[aS #[aA sa n sc],aS #[aA b m c]]) (by simp[bM,results10,go_sem,t0,x]) rfl (d.two H.out)
 ·have az:((y:Int)==0)=false:=by rw[beq_eq_false_iff_ne];omega
  clear j;go_upto_region 5 with fail
  refine TQ r.out s.out (fun W t _=>(Kv _ _ _ W t (by omega)).mono fun e w' h=>h.weak) (by kernel_rfl) (by kernel_rfl) (by kernel_rfl) (by kernel_rfl) (by kernel_rfl) ?_;intro u b m c cs W' a' g d;simp only[An,CY,aU,aY,aZ]at g;subst g;have t0:=d.2.1;have x:=d.2.2.1;go_wp2;exact bB (v:=bX #[aS #[aA sa n sc],aS #[aA b m c]]) (by simp[bM,results10,go_sem,t0,x]) rfl (d.two H.out)
theorem NA{T:List PBlock}(f:BZ W)(h:TO T v W):Calls prog 15 #[aS #[v]] W fun e w'=>Afq (fillS T) W e w':=by
 obtain⟨bs,rfl,i,s⟩:=h;refine(JI i s f).mono ?_;rintro e w' ⟨v',bs',rfl,b,d,g⟩;obtain⟨a,c,rfl,_⟩:=Al d.row;refine⟨a,_,c,rfl,⟨bs',b,d.bin,Ey ?_⟩,g⟩;rw[b];unfold fillS;split
 ·rename_i h;exact Fd (AS.1 h)
 ·exact Zi
