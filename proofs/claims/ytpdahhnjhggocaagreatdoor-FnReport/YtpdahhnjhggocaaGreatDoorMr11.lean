import Derived.Test.YtpdahhnjhggocaaGreatDoorMr8
import Derived.Test.YtpdahhnjhggocaaGreatDoorMr10
open Go.Proofs.Tryz
open Go.Value renaming string->aA,slice->aB,agg->aW,pointer->bK,slice->bL
open List renaming getElem?_cons_zero->aC,getElem?_toArray->aD,getElem?_cons_succ->aH,map_append->aM,map_singleton->aP,flatMap_singleton->aQ,take_length->aS,mem_map_of_mem->aU,length_append->aV,length_map->aY,mem_singleton->bD,length->bG,length_filter_le->bM,countP_singleton->bN,flatMap_append->bO,filter_append->bR,countP_append->bS,mem_filter->bU,mem_append->bV,filter_map->bW,mem_map->cA,any_map->cB
open Go.Obj renaming cells->aE
open Go.RowKit.Below renaming refl->aF,heap_setCell->bC
open Go.World renaming block_lt_of_cell?->aG,size_alloc->aR,setRow->bI,ownsRow_nil->bP,ownsRow_lit->bQ
open Option renaming none->aI,some->aN
open Go.Ending renaming returned->aJ
open Nat renaming le_trans->aK,le_refl->aL
open Go renaming bodyPost_ret->aO,wpList_store_row->aT,setRow_other->aZ,results->bA,info_parts->bB,setRow_size->bE,setRow_heap->bF,below_drewN->bT,wpList->bX,maxLen->bY,Ending->bZ
open Go.Operand renaming tmp->aX
open Go.Op renaming store->bH
open Go.Oper renaming mk->bJ
namespace Go.Proofs.YtpdahhnjhggocaaGreatDoor
open Go.RowKit
set_option maxHeartbeats 16000000
set_option maxRecDepth 100000
variable {v:Value}{ls:List LAt}{w:World}
theorem NQ{F:FuncId}{q:Value}(p:LAt->Bool)(h:Ap w v ls)(ar:ls.length<=1048576)(z:∀x∈ls,∀W,Below w.heap.size w W->Calls prog F #[aW #[aA x.key,x.v],q] W fun e w'=>e=aJ (.bool (p x))/\Below W.heap.size W w')(au:∀args w,(callFunc F args).run prog w=.ok (.enter F args) w):
  Calls prog 109 #[v,.func (.func F) #[] #[q]] w fun e w'=>∃v',e=aJ v'/\w'.ownsRow w.heap.size 115 2 v' (ls.filter p).length ((ls.filter p).flatMap LAt.cells)/\Below w.heap.size w w':=by
 obtain⟨ao,av,rfl⟩:=h.1.ad;generalize Q:ls.length=r at *;have R:=Ab Q;clear Q;obtain⟨i0,aa,ab,ac,ad⟩:=bB CQ;go_enter func109,ntmps109;go_wp2;go_loopw [5,10] (fun u i wr=>∃(j:Nat) (done:List LAt),j<=r/\i=.int .i64 (j:Int)/\done=(ls.take j).filter p/\wr.ownsRow w.heap.size 115 2 u done.length (done.flatMap LAt.cells)/\Below w.heap.size w wr) (fun _ i _=>r-(intOf i).toNat)
 case atStart=>exact⟨0,[],by omega,rfl,by simp,bP _ _ _ _,aF _ _⟩
 case round =>
  obtain⟨j,done,aw,rfl,m,a,b⟩:=hrel;obtain⟨S,U,rfl,_⟩:=Al a;have ax:done.length<=j:=by rw[m];exact aK (bM _ _) (by simp;omega)
  by_cases ay:j<r
  ·obtain⟨D,x,T,s,A⟩:=AC ls j (by have:=R.out;omega);have B:=h.V b;have C:x∈ls:=by rw[s];simp
   have E:=B;rw[s]at E;obtain⟨g,off,rfl,ae,c2⟩:=E.1.ai;obtain⟨c,d,t⟩:=Am.ad (B.2 x C);have G:=Ab (show (ls.take (j+1)).filter p=done++[x].filter p from by rw[m,s,<-A,Bk,By,bR]);have H:=(aF wr.heap.size wr).alloc (aL _) (aE #[aA x.key,aB c x.ws.length d] 115);have k0:=AH (w:=wr) (cs:=#[aA x.key,aB c x.ws.length d]) (T:=115) 0;have J:=AH (w:=wr) (cs:=#[aA x.key,aB c x.ws.length d]) (T:=115) 1;simp only[aD,aC,aH]at k0 J;have f:=z x C _ (b.trans (H.mono b.size));rw[t]at f c2;rw[A]at ae c2;have az:(0:Int)<=(j:Int):=by omega
   have a0:(j:Int)<(r:Int):=by omega
   have K:=Ab (show (LAt.cells x)=[aA x.key,aB c x.ws.length d] from by unfold LAt.cells;rw[t]);have L:=Ab a;have M:=b.size;have V:=Ab (show ∀k,(bL S done.length U).ownBlock=aN k->w.heap.size<=k from fun k af=>(a.lt k af).1);cases n:p x
   ·have N:=Ab (show (ls.take (j+1)).filter p=done from by rw[G.out];simp[n]);rw[n]at f;clear h B E z m a s t A C G K n;generalize x.key=xk at *;generalize x.ws.length=a1 at *;go_wp2_with (go_at_fn F;refine f.mono ?_;rintro e w2 ⟨rfl,o⟩)
    have l:=H.trans (o.mono H.size);have I:=AI L.out l;clear f;go_roundw;case rel=>exact⟨j+1,done,by omega,by go_num,N.out.symm,I,b.trans (l.mono M)⟩
    case measure=>simp[intOf];omega
   ·have N:=Ab (show (ls.take (j+1)).filter p=done++[x] from by rw[G.out];simp[n]);rw[n]at f;have O:=CM (ls:=[x]) (fun y ag=>by rw[bD.1 ag];exact⟨_,_,_,t⟩);rw[aQ,K.out]at O;clear h B E z m a s t A C G n;go_wp2_with (go_at_fn F;refine f.mono ?_)
    first|rintro e w2 rfl o|rintro e w2 ⟨rfl,o⟩
    have l:=H.trans (o.mono (by simp));have ah:=(o.cell (p:=⟨wr.heap.size,0,aI⟩) (by simp)).trans k0;have ai:=(o.cell (p:=⟨wr.heap.size,1,aI⟩) (by simp)).trans J;have I:=(AI L.out l).alloc (aE #[aA x.key,aB c x.ws.length d] 115);have aj:=l.alloc l.size (aE #[aA x.key,aB c x.ws.length d] 115);have X:=Bn w2 #[aA x.key,aB c x.ws.length d] 115 2 rfl;have ak:=l.size;clear f k0 J;go_wp2_with (at_builtin;refine AD (by rfl) _ _ 44 (by rfl) w.heap.size 115 i0 _ 2 40 underlying44 aa ab ac ad rfl (by decide) _ done.length _ (by rfl) I _ 1 _ (by rfl) X O ?c3 ?c4 (aK M (aK ak (by simp))) ?_)
    case c3=>unfold bY;omega
    case c4=>omega
    intro al am an Y Z _;have ap:=(b.trans (aj.mono M)).grown Z (by simp;omega) V.out;have P:=Ab (show an.ownsRow w.heap.size 115 2 (aB al (done.length+1) am) (done++[x]).length ((done++[x]).flatMap LAt.cells) from by
     rw[bO,aQ,K.out,aV];exact Y)
    clear I X O Y Z ah ai V L;go_wp2;go_roundw;case rel=>exact⟨j+1,done++[x],by omega,by go_num,N.out.symm,P.out,ap⟩
    case measure=>simp[intOf];omega
  ·obtain rfl:j=r:=by omega
   have aq:ls.take j=ls:=by rw[<-R.out,aS]
   have P:=Ab (show wr.ownsRow w.heap.size 115 2 (aB S done.length U) (ls.filter p).length ((ls.filter p).flatMap LAt.cells) from by rw[<-aq,<-m];exact a);clear h z a m;go_wp2;go_ret;exact⟨_,rfl,P.out,b⟩
theorem Xf(x:LAt)(rk:ByteArray)(g:Nat)(f:∃a n c,x.v=aB a n c)(b:w.cell? ⟨g,0,aI⟩=aN (aA rk)):Calls prog 215 #[aW #[aA x.key,x.v],bK (aN ⟨g,0,aI⟩)] w fun e w'=>e=aJ (.bool (x.key.toList==rk.toList))/\Below w.heap.size w w':=by
 obtain⟨a,n,c,h⟩:=f;rw[h];have d:=(aF w.heap.size w).alloc (aL _) (aE #[aA x.key,aB a n c] 115);have i:=(d.cell (aG w _ b)).trans b;have k0:=AH (w:=w) (cs:=#[aA x.key,aB a n c]) (T:=115) 0;simp only[aD,aC]at k0;generalize x.key=xk at *;go_enter func215,ntmps215;go_wp2;go_ret;exact⟨rfl,d⟩
theorem Le(rk:ByteArray)(va f:Value)(many:Bool)(m:∃a n c,va=aB a n c)(o:∃a n c,f=aB a n c):Calls prog 125 #[aW #[aA rk,va,.bool many,f]] w fun e w'=>e=aJ (aW #[aA rk,f])/\Below w.heap.size w w':=by
 obtain⟨a,n,c,rfl⟩:=m;obtain⟨a',n',b,rfl⟩:=o;have g:=Ct (w:=w) (cs:=#[aA rk,aB a n c,.bool many,aB a' n' b]) (ds:=#[aA ⟨#[]⟩,aB aI 0 0]) (T:=54) (U:=115);have c0:=g.1 0;have c3:=g.1 3;simp only[aD,aC,aH]at c0 c3;have d:Below w.heap.size w ((w.alloc (aE #[aA rk,aB a n c,.bool many,aB a' n' b] 54)).alloc (aE #[aA ⟨#[]⟩,aB aI 0 0] 115)):=((aF _ _).alloc (aL _) _).alloc (by simp) _;have h:=Ai (w.alloc (aE #[aA rk,aB a n c,.bool many,aB a' n' b] 54)) (aE #[aA ⟨#[]⟩,aB aI 0 0] 115);simp only[aR]at h;clear g;go_enter func125,ntmps125;go_wp2_with (with_reducible show bX _ _ _ (bJ _ (bH _ (aX 2) _) _ _ _ _::_) _ _;refine aT rfl 115 _ _ rfl (w.heap.size+1) #[aA rk,aB a' n' b] ?_ ?_ 115 _ h ?_ ?_ ?_ ?_)
 all_goals (first|rfl|kernel_rfl|skip)
 have p:=d.size;have z5:(bI ((w.alloc (aE #[aA rk,aB a n c,.bool many,aB a' n' b] 54)).alloc (aE #[aA ⟨#[]⟩,aB aI 0 0] 115)) (w.heap.size+1) #[aA rk,aB a' n' b]).heap[w.heap.size+1]?=aN (aE #[aA rk,aB a' n' b] 115 (0,0)):=bF _ _ _ _ _ _ h
 have l:Below w.heap.size w (bI ((w.alloc (aE #[aA rk,aB a n c,.bool many,aB a' n' b] 54)).alloc (aE #[aA ⟨#[]⟩,aB aI 0 0] 115)) (w.heap.size+1) #[aA rk,aB a' n' b]) :=
  ⟨d.os,d.tape,d.output,by rw[bE];exact p,fun k q=>by rw[aZ _ _ _ _ (by omega)];exact d.block k q⟩
 have i:=Aa z5 0;have j:=Aa z5 1;simp only[aD,aC,aH]at i j;generalize bI _ _ _=W at l i j z5⊢;exact aO (v:=aW #[aA rk,aB a' n' b]) (by simp[bA,results125,go_sem,i,j]) rfl ⟨rfl,l⟩
def YR(a:List LAt)(w:World)(e:bZ)(w':World):Prop:=∃v',e=aJ v'/\w'.ownsRow w.heap.size 115 2 v' a.length (a.flatMap LAt.cells)/\Below w.heap.size w w'
def withKey(ls:List LAt)(k:ByteArray):List LAt:=ls.filter fun x=>x.key.toList==k.toList
theorem Iv(ls:List LAt)(k:ByteArray):(withKey ls k).map LAt.I=GH (ls.map LAt.I) k:=by
 unfold GH withKey;rw[bW];rfl
theorem FT(rk:ByteArray)(h:Ap w v ls)(i:ls.length<=1048576):Calls prog 158 #[v,aA rk] w fun e w'=>YR (withKey ls rk) w e w':=by
 have b:=(aF w.heap.size w).alloc (aL _) (aE #[aA rk] 9);have d:=AH (w:=w) (cs:=#[aA rk]) (T:=9) 0;simp only[aD,aC]at d;have f:=NQ (F:=215) (q:=bK (aN ⟨w.heap.size,0,aI⟩)) (fun x=>x.key.toList==rk.toList) (h.V b) i (fun x j W k=>Xf x rk w.heap.size (by obtain⟨a,c,e⟩:=Am.ad (h.2 x j);exact⟨a,_,c,e⟩) ((k.cell (aG _ _ d)).trans d)) (enters_of func215 (by kernel_rfl) rfl);obtain⟨ao,o,rfl⟩:=h.1.ad;rw[show ls.filter (fun x=>x.key.toList==rk.toList)=withKey ls rk from rfl]at f;generalize withKey ls rk=p at *;clear h i d;generalize ls.length=n at *;go_enter func158,ntmps158;go_wp2_with (go_at_call 109;refine f.mono ?_)
 first|rintro e w2 v2 rfl o2 g|rintro e w2 ⟨v2,rfl,o2,g⟩
 have l:=b.trans (g.mono b.size);have m:=Ab (C3 o2 b.size);obtain⟨a2,c2,rfl,_⟩:=Al o2;clear f o2 g;go_wp2;go_ret;exact⟨_,rfl,m.out,l⟩
variable {L:List AL}{kind:ByteArray}
theorem DX(kind:ByteArray)(h:L.map AL.I=rulesOf kind):L.length<=12:=by
 have:=(Bm kind).1;rw[<-h,aY]at this;exact this
theorem MC(h:L.map AL.I=rulesOf kind){r:AL}(a:r∈L):r.ds.length<=1048576/\∀y∈r.ds,y.length<=1048576:=by
 have b:r.I∈rulesOf kind:=by rw[<-h];exact aU a
 have:=Hd kind r.I b;exact⟨aK this.1 (by decide),fun y c=>aK (this.2 y c) (by decide)⟩
variable {B g:Nat}{W:World}{u1 u2:Value}{bs:List BAt}
theorem Ex{u3:Value}(a:Below B w W)(c:w.cell? ⟨g,0,aI⟩=aN u1/\w.cell? ⟨g,1,aI⟩=aN u2/\w.cell? ⟨g,2,aI⟩=aN u3)(b:g<B):W.cell? ⟨g,0,aI⟩=aN u1/\W.cell? ⟨g,1,aI⟩=aN u2/\W.cell? ⟨g,2,aI⟩=aN u3 :=
 ⟨(a.cell (p:=⟨g,0,aI⟩) b).trans c.1,(a.cell (p:=⟨g,1,aI⟩) b).trans c.2.1,(a.cell (p:=⟨g,2,aI⟩) b).trans c.2.2⟩
noncomputable def H4(a:List Plain->List PLine->List PLine)(bs:List PBlock):List PBlock:=if Bw bs=true then bs.map (fun b=>⟨b.aa,b.name,a (rulesOf b.aa) b.ac⟩) else []
theorem DM(B:Nat)(w:World):Ax B w (aB aI 0 0) []:=Ay.own1 (bP _ _ _ _)
theorem Xg:(Tryz.prog.info? 25).map (fun i=>(i.zero,i.size,i.bytes))=aN (aN (aW #[aB aI 0 0]),1,24):=by kernel_rfl
theorem Bg:∃a,Tryz.prog.info? 25=aN a/\a.size=1:=by
 obtain⟨i,b,_,c,_⟩:=bB Xg;exact⟨i,b,c⟩
theorem Lf{F:FuncId}(l:List Plain->List PLine->List PLine)(P:Au w v bs)(Q:A3 bs)(ay:BZ w)(cj:∀args w,(callFunc F args).run prog w=.ok (.enter F args) w)
  (az:Bw (bs.map BAt.I)=true->∀(W:World) (B:Nat) (vr:Value) (L:List AL) (x:BAt),x∈bs->L.map AL.I=rulesOf x.aa->Bh B W vr L->Ap W x.v x.ls->Calls prog F #[vr,x.v] W fun e w'=>∃v' ls',e=aJ v'/\ls'.map LAt.I=l (rulesOf x.aa) (x.ls.map LAt.I)/\Ap w' v' ls'/\Aj ls'/\Below W.heap.size W w') :
  Calls prog 60 #[aW #[v],.func (.func F) #[] #[]] w fun e w'=>∃v' bs',e=aJ (aW #[v'])/\bs'.map BAt.I=H4 l (bs.map BAt.I)/\Ax w.heap.size w' v' bs'/\Below w.heap.size w w':=by
 obtain⟨ao,R,rfl⟩:=P.1.ad;have a0:=Q.1;generalize a1:bs.length=a at *;have S:=Ab a1;clear a1;have a2:=Ct (w:=w) (cs:=#[aB ao a R]) (ds:=#[aB aI 0 0]) (T:=25) (U:=25);have c0:=a2.1 0;simp only[aD,aC]at c0;clear a2;have V:Below w.heap.size w ((w.alloc (aE #[aB ao a R] 25)).alloc (aE #[aB aI 0 0] 25)):=((aF _ _).alloc (aL _) _).alloc (by simp) _;have af:=Ai (w.alloc (aE #[aB ao a R] 25)) (aE #[aB aI 0 0] 25);simp only[aR]at af;have a3:=F9 (P.V V) Q (ay.V V);have bw:=Ab P;have ck:=Ab Q;have ag:=Ab az;clear P Q ay az;generalize a4:(w.alloc (aE #[aB ao a R] 25)).alloc (aE #[aB aI 0 0] 25)=W0 at *;have cl:W0.heap.size=w.heap.size+2:=by rw[<-a4];simp
 go_enter func60,ntmps60;go_wp2_with (go_at_call 19;(try rw[a4]);refine a3.mono ?_)
 first|rintro e w1 rfl C|rintro e w1 ⟨rfl,C⟩
 have cm:=(C.cell (p:=⟨w.heap.size,0,aI⟩) (by simp;omega)).trans c0;have ah:=(C.block (w.heap.size+1) (by omega)).trans af;have cn:=C.size;have t:=V.trans (C.mono V.size);clear a3 c0 af;cases E:Bw (bs.map BAt.I)
 ·have G:=Ab (show ([]:List BAt).map BAt.I=H4 l (bs.map BAt.I) from by unfold H4;rw[E];rfl);clear E ag;go_wp2_with (with_reducible show bX _ _ _ (bJ _ (bH _ (aX 4) _) _ _ _ _::_) _ _;refine aT rfl 25 _ _ rfl (w.heap.size+1) #[aB aI 0 0] ?_ ?_ 25 _ ah ?_ ?_ ?_ ?_)
  all_goals (first|rfl|kernel_rfl|exact Bg|skip)
  have z5:(w1.setRow (w.heap.size+1) #[aB aI 0 0]).heap[w.heap.size+1]?=aN (aE #[aB aI 0 0] 25 (0,0)):=bF _ _ _ _ _ _ ah
  have m:Below w.heap.size w (w1.setRow (w.heap.size+1) #[aB aI 0 0]) :=
   ⟨t.os,t.tape,t.output,by rw[bE];exact t.size,fun k ai=>by rw[aZ _ _ _ _ (by omega)];exact t.block k ai⟩
  have h:=Aa z5 0;simp only[aD,aC]at h;generalize w1.setRow (w.heap.size+1) #[aB aI 0 0]=W at m h z5⊢;first|exact aO (v:=aW #[aB aI 0 0]) (by simp[bA,results60,go_sem,h]) rfl ⟨_,[],rfl,G.out,DM _ _,m⟩|exact aO (v:=aW #[aB aI 0 0]) (by simp[bA,results60,go_sem,h]) rfl ⟨_,rfl,[],G.out,DM _ _,m⟩
 ·have a5:=Ab E;have co:a<=60:=by rw[<-S.out,<-aY (f:=BAt.I)];exact(AS.1 E).1
  clear E;obtain⟨i0,bx,bz,b0,b1⟩:=bB Cj;go_wp2;go_loopw [5,16] (fun q i wr=>∃(j:Nat) (done:List BAt),j<=a/\i=.int .i64 (j:Int)/\done.map BAt.I=((bs.take j).map BAt.I).map (fun b=>⟨b.aa,b.name,l (rulesOf b.aa) b.ac⟩)/\Ax (w.heap.size+2) wr q done/\Below (w.heap.size+2) w1 wr) (fun _ i _=>a-(intOf i).toNat)
  case atStart=>exact⟨0,[],by omega,rfl,by simp,DM _ _,aF _ _⟩
  case round =>
   obtain⟨j,done,cp,rfl,u,H,X⟩:=hrel;obtain⟨c,d,rfl,_⟩:=Al H.row;have b2:done.length=j:=by have:=congrArg bG u;simp at this;have:=S.out;omega
   subst b2;have cq:=X.size;have z:=t.trans (X.mono (by omega));by_cases cr:done.length<a
   ·obtain⟨D,x,T,Y,aj⟩:=AC bs done.length (by have:=S.out;omega);have Z:=bw.out.V z;have aa:x∈bs:=by rw[Y];simp
    have ak:=Z;rw[Y]at ak;obtain⟨g,off,rfl,b3,b4,d3⟩:=ak.1.block;rw[aj]at b3 b4 d3;have a6:=Ab (show ∀(v':Value) (ls':List LAt),ls'.map LAt.I=l (rulesOf x.aa) (x.ls.map LAt.I)->(done++[⟨x.aa,x.name,v',ls'⟩]:List BAt).map BAt.I=((bs.take (done.length+1)).map BAt.I).map (fun b=>⟨b.aa,b.name,l (rulesOf b.aa) b.ac⟩) from by
     intro v' ls' b5;rw[aM,u,Y,<-aj,Bk,By,aM,aM,aP,aP,aP];unfold BAt.I;rw[b5])
    have a7:=Ab (Z.2 x aa);have a8:=Ab (fun W B vr L=>ag.out a5.out W B vr L x aa);obtain⟨xa,xc,b6⟩:=(Z.2 x aa).1.ad;have b7:=(aF wr.heap.size wr).alloc (aL _) (aE #[aA x.aa,aA x.name,aB xa x.ls.length xc] 46);have k0:=AH (w:=wr) (cs:=#[aA x.aa,aA x.name,aB xa x.ls.length xc]) (T:=46) 0;have al:=AH (w:=wr) (cs:=#[aA x.aa,aA x.name,aB xa x.ls.length xc]) (T:=46) 1;have am:=AH (w:=wr) (cs:=#[aA x.aa,aA x.name,aB xa x.ls.length xc]) (T:=46) 2;simp only[aD,aC,aH]at k0 al am;have a9:=b7.drew;have an:(wr.alloc (aE #[aA x.aa,aA x.name,aB xa x.ls.length xc] 46)).drew.cell? ⟨wr.heap.size,0,aI⟩=aN (aA x.aa)/\(wr.alloc (aE #[aA x.aa,aA x.name,aB xa x.ls.length xc] 46)).drew.cell? ⟨wr.heap.size,1,aI⟩=aN (aA x.name)/\(wr.alloc (aE #[aA x.aa,aA x.name,aB xa x.ls.length xc] 46)).drew.cell? ⟨wr.heap.size,2,aI⟩=aN (aB xa x.ls.length xc):=⟨k0,al,am⟩;have ba:=Ab (show Ap (wr.alloc (aE #[aA x.aa,aA x.name,aB xa x.ls.length xc] 46)).drew x.v x.ls from Ap.V a7.out a9);have bb:=CU x.aa (wr.alloc (aE #[aA x.aa,aA x.name,aB xa x.ls.length xc] 46)).drew;have ct:(wr.alloc (aE #[aA x.aa,aA x.name,aB xa x.ls.length xc] 46)).drew.heap.size=wr.heap.size+1:=by simp
    have bc:=Ab H;have cu:(0:Int)<=(done.length:Int):=by omega
    have i2:(done.length:Int)<(a:Int):=by omega
    obtain⟨xk,A,cv,b8⟩:=x;simp only at *;subst b6;clear Z ak H u Y aj aa k0 al am a7;generalize cw:b8.length=nl at *;go_wp2
    go_region_held3 (fun W=>W.cell? ⟨wr.heap.size,0,aI⟩=aN (aA xk)/\W.cell? ⟨wr.heap.size,1,aI⟩=aN (aA A)/\W.cell? ⟨wr.heap.size,2,aI⟩=aN (aB xa nl xc))
     (first|exact an|exact ab|exact bd)
     (first
       | (go_at_call 29
          refine bb.mono ?_;rintro e be ⟨vr,L,rfl,bf,ap,I⟩;have ab:=Ex I an (by omega);have bg:=a8.out be _ vr L bf ap (ba.out.V I);obtain⟨cx,cy,rfl,_⟩:=Al (show be.ownsRow _ 54 4 vr L.length (L.flatMap AL.cells) from Ay.head ap))
       | (go_at_fn F
          refine bg.mono ?_;rintro e n ⟨cz,b9,rfl,bh,aq,bi,ar⟩;have bd:=Ex ar ab (by have:=I.size;omega)))
    obtain⟨c1,c2,rfl⟩:=aq.1.ad;have ca:=I.size;have c3:=ar.size;have bj:=ar.drew;have ac:=Ex bj ab (by omega);have bk:=FD (aq.V ((aF n.heap.size n).drew)) bi;have au:Below wr.heap.size wr n.drew:=a9.trans ((I.trans (bj.mono ca)).mono (by omega));have av:Ax (w.heap.size+2) n.drew (aB c done.length d) done:=bc.out.V au;have bl:w.heap.size+2<=n.drew.heap.size:=aK (by omega) au.size;have bm:=Ab (show ∀r,Below n.drew.heap.size n.drew r->∀cs,(r.alloc (aE cs 46)).ownsRow (w.heap.size+2) 46 3 (aB c done.length d) done.length (done.flatMap BAt.cells) from fun r cb cs=>(AI av.row cb).alloc _);have bn:=Ab av;have ad:=Ab (show ∀(ae w3:World),ae.grownBy w3 (bL c done.length d).ownBlock->wr.heap.size<ae.heap.size->∀o,w3.cell? ⟨wr.heap.size,o,aI⟩=ae.cell? ⟨wr.heap.size,o,aI⟩ from fun ae w3 cc a0 o=>cc.cell_far _ a0 (fun e=>by have:=(bc.out.row.lt _ e.symm).2;simp at this));have cd:=Ab bh;clear aq bi bh av bg ap bf an ab bd bb ba a8 ag;generalize b9.length=c4 at *;go_wp2
    go_region_held3 (fun W=>W.cell? ⟨wr.heap.size,0,aI⟩=aN (aA xk)/\W.cell? ⟨wr.heap.size,1,aI⟩=aN (aA A)/\W.cell? ⟨wr.heap.size,2,aI⟩=aN (aB xa nl xc))
     (first|exact ac|exact bo|exact J|exact bp)
     (first
       | (go_at_call 94
          refine bk.mono ?_;rintro e r ⟨c5,s,rfl,ce,o7,K⟩;obtain⟨M,N,rfl,_⟩:=Al o7.row;have aw:=K.size;have bo:=Ex K ac (by simp;omega);have J:=Ex (K.alloc aw (aE #[aA xk,aA A,aB M s.length N] 46)) ac (by simp;omega))
       | (refine A0 (by rfl) _ _ 23 (by rfl) (w.heap.size+2) 46 i0 _ 3 56 underlying23 bx bz b0 b1 rfl (by decide) _ done.length _ (by rfl) (bm.out r K _) _ 1 _ (by rfl) (Bn r #[aA xk,aA A,aB M s.length N] 46 3 rfl) (by intro y bq;simp at bq;rcases bq with rfl|rfl|rfl <;> rfl) (by unfold bY;omega) (by omega) (aK (aK bl aw) (by simp)) ?_
          intro c6 c7 cf o8 O br;have bt:=KA (x:=⟨xk,A,aB M s.length N,s⟩) bn.out bl o7 K o8 O br;have ax:wr.heap.size<(r.alloc (aE #[aA xk,aA A,aB M s.length N] 46)).heap.size:=by simp at aw⊢;omega
          have bp:=And.intro ((ad.out _ _ O ax 0).trans J.1) (And.intro ((ad.out _ _ O ax 1).trans J.2.1) ((ad.out _ _ O ax 2).trans J.2.2))))
    have cg:=Ab (a6.out (aB M s.length N) s (ce.trans cd.out));have ch:Below (w.heap.size+2) w1 cf:=X.trans ((au.mono (by omega)).trans bt.2);clear a6 bm bn ad ac bo J bp o7 o8 O br bk;go_wp2;go_roundw;case rel=>exact⟨done.length+1,_,by omega,by go_num,cg.out,bt.1,ch⟩
    case measure=>simp[intOf];omega
   ·have bu:done.length=a:=by omega
    have bv:bs.take done.length=bs:=by rw[bu,<-S.out,aS]
    rw[bv]at u;have G:=Ab (show done.map BAt.I=H4 l (bs.map BAt.I) from by unfold H4;rw[if_pos a5.out];exact u);have c8:¬((done.length:Int)<(a:Int)):=by omega
    have z2:=(X.block (w.heap.size+1) (by omega)).trans ah;have ci:=Ab H;clear H u bv bu;go_wp2_with (with_reducible show bX _ _ _ (bJ _ (bH _ (aX 4) _) _ _ _ _::_) _ _;refine aT rfl 25 _ _ rfl (w.heap.size+1) #[aB c done.length d] ?_ ?_ 25 _ z2 ?_ ?_ ?_ ?_)
    all_goals (first|rfl|kernel_rfl|exact Bg|skip)
    have z5:(wr.setRow (w.heap.size+1) #[aB c done.length d]).heap[w.heap.size+1]?=aN (aE #[aB c done.length d] 25 (0,0)):=bF _ _ _ _ _ _ z2
    have m:Below w.heap.size w (wr.setRow (w.heap.size+1) #[aB c done.length d]) :=
     ⟨z.os,z.tape,z.output,by rw[bE];exact z.size,fun k ai=>by rw[aZ _ _ _ _ (by omega)];exact z.block k ai⟩
    have o5:=(ci.out.setRow (w.heap.size+1) (by omega) #[aB c done.length d]).mono (show w.heap.size<=w.heap.size+2 by omega);have h:=Aa z5 0;simp only[aD,aC]at h;generalize wr.setRow (w.heap.size+1) #[aB c done.length d]=W at m h z5 o5⊢;first|exact aO (v:=aW #[aB c done.length d]) (by simp[bA,results60,go_sem,h]) rfl ⟨_,done,rfl,G.out,o5,m⟩|exact aO (v:=aW #[aB c done.length d]) (by simp[bA,results60,go_sem,h]) rfl ⟨_,rfl,done,G.out,o5,m⟩
variable {w':World}
theorem KB{x:BAt}(h:Bf w x)(q:Aj x.ls):Calls prog 105 #[aW #[aA x.aa,aA x.name,x.v]] w fun e w'=>∃v ls',e=aJ (aW #[aA x.aa,aA x.name,v])/\ls'.map LAt.I=x.ls.map LAt.I/\A4 w.heap.size w' v ls'/\Below w.heap.size w w':=by
 obtain⟨f,g,r⟩:=h.1.ad;unfold Bf at h;rw[r]at h⊢;have b0:Below w.heap.size w ((w.alloc (aE #[aA x.aa,aA x.name,aB f x.ls.length g] 46)).alloc (aE #[aA ⟨#[]⟩,aA ⟨#[]⟩,aB aI 0 0] 46)):=((aF _ _).alloc (aL _) _).alloc (by simp) _;have l:((w.alloc (aE #[aA x.aa,aA x.name,aB f x.ls.length g] 46)).alloc (aE #[aA ⟨#[]⟩,aA ⟨#[]⟩,aB aI 0 0] 46)).heap.size=w.heap.size+2:=by simp
 have m:((w.alloc (aE #[aA x.aa,aA x.name,aB f x.ls.length g] 46)).alloc (aE #[aA ⟨#[]⟩,aA ⟨#[]⟩,aB aI 0 0] 46)).heap[w.heap.size]?=aN (aE #[aA x.aa,aA x.name,aB f x.ls.length g] 46 (0,0)):=by rw[Cs _ _ _ (by simp),Ai]
 have s:((w.alloc (aE #[aA x.aa,aA x.name,aB f x.ls.length g] 46)).alloc (aE #[aA ⟨#[]⟩,aA ⟨#[]⟩,aB aI 0 0] 46)).heap[w.heap.size+1]?=aN (aE #[aA ⟨#[]⟩,aA ⟨#[]⟩,aB aI 0 0] 46 (0,0)):=by
  have:=Ai (w.alloc (aE #[aA x.aa,aA x.name,aB f x.ls.length g] 46)) (aE #[aA ⟨#[]⟩,aA ⟨#[]⟩,aB aI 0 0] 46)
  rwa [aR]at this
 have t:=Fx (h.V b0) q;have u:=Aa m 2;simp only[aD,aC,aH]at u;generalize x.ls.map LAt.I=F at *;clear h r q;generalize x.ls.length=G at *;generalize x.aa=xk at *;generalize x.name=c at *;go_enter func105,ntmps105;go_wp2_with (go_at_call 97;refine t.mono ?_)
 first|rintro e w2 v rfl ls' i o2 d|rintro e w2 v ls' rfl i o2 d|rintro e w2 ⟨v,ls',rfl,i,o2,d⟩
 first|rw[l]at o2 d|skip
 have z0:=(d.block w.heap.size (by omega)).trans m;have B:=(d.block (w.heap.size+1) (by omega)).trans s;have H:w.heap.size+2<=w2.heap.size:=by have:=d.size;rw[l]at this;exact this
 have j:=b0.trans (d.mono (by omega));have c0:=Aa z0 0;have C:=Aa z0 1;have c2:=Aa z0 2;have I:=Ac z0 2;simp only[aD,aC,aH]at c0 C c2;obtain⟨av,a,rfl,_⟩:=Al o2.row;have y:=Ab i;have D:=Ab o2;clear i o2;generalize ls'.length=b at *;have z:(w2.setCell ⟨w.heap.size,2,aI⟩ (aB av b a)).heap[w.heap.size+1]?=aN (aE #[aA ⟨#[]⟩,aA ⟨#[]⟩,aB aI 0 0] 46 (0,0)):=by rw[bC _ _ _ _ (by simp)];exact B
 clear t m s l u;go_wp2_with (with_reducible show bX _ _ _ (bJ _ (bH _ (aX 2) _) _ _ _ _::_) _ _;refine aT rfl 46 _ _ rfl (w.heap.size+1) #[aA xk,aA c,aB av b a] ?_ ?_ 46 _ z ?_ ?_ ?_ ?_)
 all_goals (first|rfl|kernel_rfl|skip)
 have z5:((w2.setCell ⟨w.heap.size,2,aI⟩ (aB av b a)).setRow (w.heap.size+1) #[aA xk,aA c,aB av b a]).heap[w.heap.size+1]?=aN (aE #[aA xk,aA c,aB av b a] 46 (0,0)):=bF _ _ _ _ _ _ z;have o5:=((D.out.setCell ⟨w.heap.size,2,aI⟩ (by simp) (aB av b a)).setRow (w.heap.size+1) (by omega) #[aA xk,aA c,aB av b a]).mono (show w.heap.size<=w.heap.size+2 by omega)
 have A:Below w.heap.size w ((w2.setCell ⟨w.heap.size,2,aI⟩ (aB av b a)).setRow (w.heap.size+1) #[aA xk,aA c,aB av b a]) :=
  ⟨j.os,j.tape,j.output,by rw[bE];simp;omega,fun k E=>by rw[aZ _ _ _ _ (by omega),bC _ _ _ _ (by simp;omega)];exact j.block k E⟩
 have n:=Aa z5 0;have o:=Aa z5 1;have p:=Aa z5 2;simp only[aD,aC,aH]at n o p;generalize (w2.setCell ⟨w.heap.size,2,aI⟩ (aB av b a)).setRow (w.heap.size+1) #[aA xk,aA c,aB av b a]=W at *;first|exact aO (v:=aW #[aA xk,aA c,aB av b a]) (by simp[bA,results105,go_sem,n,o,p]) rfl ⟨_,ls',rfl,y.out,o5,A⟩|exact aO (v:=aW #[aA xk,aA c,aB av b a]) (by simp[bA,results105,go_sem,n,o,p]) rfl ⟨_,rfl,ls',y.out,o5,A⟩
theorem Ad(h:Below B w w')(p:Addr)(a:B<=p.block)(u:Value):Below B w (w'.setCell p u):=h.setCell (p:=p) a u
theorem Abi{u:Value}(a:w.cell? ⟨g,0,aI⟩=aN v)(b:w.frozen? ⟨g,0,aI⟩=false):(w.setCell ⟨g,0,aI⟩ u).cell? ⟨g,0,aI⟩=aN u/\(w.setCell ⟨g,0,aI⟩ u).frozen? ⟨g,0,aI⟩=false :=
 ⟨World.cell?_setCell_same' _ _ _ (by rw[a];rfl),by rw[World.frozen?_setCell];exact b⟩
theorem YT{p:Addr}(h:w.cell? p=aN v/\w.frozen? p=false)(a:Below B w w')(b:p.block<B):w'.cell? p=aN v/\w'.frozen? p=false:=⟨(a.cell b).trans h.1,(a.frozen b).trans h.2⟩
theorem Di(h:Au w v bs)(G:A3 bs):Calls prog 55 #[aW #[v]] w fun e w'=>∃v' bs',e=aJ (aW #[v'])/\bs'.map BAt.I=bs.map BAt.I/\Ax w.heap.size w' v' bs'/\Below w.heap.size w w':=by
 obtain⟨ao,H,rfl⟩:=h.1.ad;have bm:=G.1;obtain⟨i0,ay,az,a0,a1⟩:=bB Cj;have b0:Below w.heap.size w (((w.alloc (aE #[aB ao bs.length H] 25)).alloc (aE #[aB aI 0 0] 25)).alloc (aE #[aB aI 0 0] 25)):=(((aF _ _).alloc (aL _) _).alloc (by simp) _).alloc (by simp;omega) _;obtain⟨a2,V,X,I⟩:=Py (w:=w) (o1:=aE #[aB ao bs.length H] 25) (o2:=aE #[aB aI 0 0] 25) (o3:=aE #[aB aI 0 0] 25);have k0:=Aa V 0;have J:=Aa I 0;have Y:=Ac I 0;simp only[aD,aC]at k0 J;generalize Z:bs.length=d at *;have K:=Ab Z;clear Z;have a3:=Ab h;have a4:=Ab G;clear h G V I;go_enter func55,ntmps55;go_wp2;go_loopw [4] (fun i wr=>∃(j:Nat) (done:List BAt) (a:Option Addr) (b:Nat),j<=d/\i=.int .i64 (j:Int)/\done.map BAt.I=(bs.take j).map BAt.I/\Ax (w.heap.size+3) wr (aB a done.length b) done/\Below w.heap.size w wr/\w.heap.size+3<=wr.heap.size/\wr.cell? ⟨w.heap.size,0,aI⟩=aN (aB ao d H)/\wr.heap[w.heap.size+1]?=aN (aE #[aB aI 0 0] 25 (0,0))/\wr.cell? ⟨w.heap.size+2,0,aI⟩=aN (aB a done.length b)/\wr.frozen? ⟨w.heap.size+2,0,aI⟩=false) (fun i _=>d-(intOf i).toNat)
 case atStart=>exact⟨0,[],aI,0,by omega,rfl,by simp,DM _ _,b0,by simp,k0,X,J,Y⟩
 case round =>
  obtain⟨j,done,a,b,bn,rfl,l,s,f,aa,c0,L,c2,ab⟩:=hrel;clear k0 J X Y b0 a2;have a5:done.length=j:=by have:=congrArg bG l;simp at this;have:=K.out;omega
  subst a5;by_cases bo:done.length<d
  ·obtain⟨D,x,T,t,M⟩:=AC bs done.length (by have:=K.out;omega);have N:=a3.out.V f;have O:x∈bs:=by rw[t];simp
   have P:=N;rw[t]at P;obtain⟨g,off,rfl,ac,ad,d3⟩:=P.1.block;rw[M]at ac ad d3;have ae:=Ab (show ∀(v':Value) (ls':List LAt),ls'.map LAt.I=x.ls.map LAt.I->(done++[⟨x.aa,x.name,v',ls'⟩]:List BAt).map BAt.I=(bs.take (done.length+1)).map BAt.I from by
    intro v' ls' a6;rw[aM,l,t,<-M,Bk,By,aM,aP,aP];unfold BAt.I;rw[a6])
   have Q:=N.2 x O;obtain⟨xa,xc,a7⟩:=Q.1.ad;have af:Below wr.heap.size wr wr.drew:=(aF _ _).drew;have ag:=KB (Bf.V Q af) (a4.out.2 x O).2;have R:Ax (w.heap.size+3) wr.drew (aB a done.length b) done:=s.V af;have ah:=Ab (show ∀m,Below wr.heap.size wr.drew m->∀cs,(m.alloc (aE cs 46)).ownsRow (w.heap.size+3) 46 3 (aB a done.length b) done.length (done.flatMap BAt.cells) from fun m a8 cs=>(AI R.row a8).alloc _);have ai:=Ab R;have bp:(0:Int)<=(done.length:Int):=by omega
   have i2:(done.length:Int)<(d:Int):=by omega
   have z:(wr.drew).cell? ⟨w.heap.size+2,0,aI⟩=aN (aB a done.length b)/\(wr.drew).frozen? ⟨w.heap.size+2,0,aI⟩=false:=⟨c2,ab⟩;obtain⟨xk,S,bq,a9⟩:=x;simp only at *;subst a7;clear N P s l t M O Q R;generalize br:a9.length=nl at *;go_wp2
   go_region_law (first
    | (refine A0 (by rfl) _ _ 23 (by rfl) (w.heap.size+3) 46 i0 _ 3 56 underlying23 ay az a0 a1 rfl (by decide) _ done.length _ (by rfl) (ah.out m o _) _ 1 _ (by rfl) (Bn m #[aA xk,aA S,aB A n.length B] 46 3 rfl) (by intro y aj;simp at aj;rcases aj with rfl|rfl|rfl <;> rfl) (by unfold bY;omega) (by omega) (aK (aK aa ak) (by simp)) ?_
       intro q r al o8 am an;have C:=KA (x:=⟨xk,S,aB A n.length B,n⟩) ai.out aa o7 o o8 am an;have ap:=YT z C.2 (by simp);have ba:=ap.1;have bb:=ap.2)
    | (go_simp
       go_wp2_with (go_at_call 105;refine ag.mono ?_;rintro e m ⟨bt,n,rfl,aq,o7,o⟩;obtain⟨A,B,rfl,_⟩:=Al o7.row;have ak:=o.size;have ar:=YT z o (by simp;omega);have bc:=ar.1;have bd:=(YT z (o.alloc ak (aE #[aA xk,aA S,aB A n.length B] 46)) (by simp;omega)).1)))
   all_goals
    have be:=Ab (ae.out (aB A n.length B) n aq);have bf:=Ab C.1;have E:=C.2;have bg:=E.size;have bh:=(World.cell?_setCell_far al ⟨w.heap.size+2,0,aI⟩ ⟨w.heap.size,0,aI⟩ (aB q (done.length+1) r) (by simp)).trans ((E.cell (p:=⟨w.heap.size,0,aI⟩) (by simp)).trans c0);have bi:(al.setCell ⟨w.heap.size+2,0,aI⟩ (aB q (done.length+1) r)).heap[w.heap.size+1]?=aN (aE #[aB aI 0 0] 25 (0,0)):=by rw[bC _ _ _ _ (by simp)];exact(E.block (w.heap.size+1) (by omega)).trans L
    have au:=Ab (Abi (u:=aB q (done.length+1) r) ba bb);have bj:=(f.drew.trans (E.mono (show w.heap.size<=w.heap.size+3 by omega))).setCell (p:=⟨w.heap.size+2,0,aI⟩) (by simp) (aB q (done.length+1) r);clear ag ah ai ae z o7 o8 am an C aq ac ad d3 c0 c2 ab ar bc bd;go_wp2;go_roundw;case rel=>exact⟨done.length+1,_,q,r,by omega,by go_num,be.out,by rw[aV];exact bf.out.setCell _ (by simp) _,bj,by simp at bg⊢;omega,bh,bi,by rw[aV];exact au.out.1,au.out.2⟩
    case measure=>simp[intOf];omega
  ·have av:done.length=d:=by omega
   have aw:bs.take done.length=bs:=by rw[av,<-K.out,aS]
   rw[aw]at l;have bk:=Ab s;have ax:=Ab l;have bu:¬((done.length:Int)<(d:Int)):=by omega
   clear s l aw av;generalize done.length=c at *;go_wp2_with (with_reducible show bX _ _ _ (bJ _ (bH _ (aX 2) _) _ _ _ _::_) _ _;refine aT rfl 25 _ _ rfl (w.heap.size+1) #[aB a c b] ?_ ?_ 25 _ L ?_ ?_ ?_ ?_)
   all_goals (first|rfl|kernel_rfl|exact Bg|skip)
   have z5:(wr.setRow (w.heap.size+1) #[aB a c b]).heap[w.heap.size+1]?=aN (aE #[aB a c b] 25 (0,0)):=bF _ _ _ _ _ _ L
   have U:Below w.heap.size w (wr.setRow (w.heap.size+1) #[aB a c b]) :=
    ⟨f.os,f.tape,f.output,by rw[bE];exact f.size,fun k bl=>by rw[aZ _ _ _ _ (by omega)];exact f.block k bl⟩
   have o5:=(bk.out.setRow (w.heap.size+1) (by omega) #[aB a c b]).mono (show w.heap.size<=w.heap.size+3 by omega);have F:=Aa z5 0;simp only[aD,aC]at F;generalize wr.setRow (w.heap.size+1) #[aB a c b]=W at U F z5 o5⊢;first|exact aO (v:=aW #[aB a c b]) (by simp[bA,results55,go_sem,F]) rfl ⟨_,done,rfl,ax.out,o5,U⟩|exact aO (v:=aW #[aB a c b]) (by simp[bA,results55,go_sem,F]) rfl ⟨_,rfl,done,ax.out,o5,U⟩
variable {va vb:Value}{ys:List (List UInt8)}
theorem UB(xs ys:List (List UInt8)):(!decide (xs<ys) && !decide (ys<xs))=decide (xs=ys):=by
 by_cases h:xs=ys
 ·subst h;have:=Fp.irr xs;simp[this]
 ·by_cases h1:xs<ys
  ·simp[h,h1]
  ·by_cases a:ys<xs
   ·simp[h,a]
   ·exact absurd (Fp.tri _ _ h1 a) h
theorem KC{xs:List (List UInt8)}(h1:Am w va xs.length 1 (strs xs))(d:Am w vb ys.length 1 (strs ys))(i:xs.length<=1048576)(j:ys.length<=1048576):Calls prog 91 #[va,vb] w fun e w'=>e=aJ (.bool (decide (xs=ys)))/\Below w.heap.size w w':=by
 obtain⟨ao,ca,rfl⟩:=h1.ad;obtain⟨bo,cb,rfl⟩:=d.ad;have a:=fun W c=>IH (w:=W) (h1.V c) (d.V c) i j
 have f:=fun W c=>IH (w:=W) (d.V c) (h1.V c) j i
 have b:=UB xs ys;generalize decide (xs=ys)=E at *;clear h1 d;generalize xs.length=n at *;generalize ys.length=m at *;cases hd:decide (xs<ys)
 ·rw[hd]at a b;go_enter func91,ntmps91;go_wp2_with (go_at_call 156;refine(a _ (aF _ _)).mono ?_)
  first|rintro e w2 rfl q rfl|rintro e w2 ⟨rfl,q,rfl⟩
  have g:Below w.heap.size w (w.drewN q):=bT (aF _ _) q;have k:=f _ g;have h:=Ab b;clear a b;generalize decide (ys<xs)=o at *;go_wp2_with (go_at_call 156;refine k.mono ?_)
  first|rintro e w3 rfl l rfl|rintro e w3 ⟨rfl,l,rfl⟩
  clear f k;go_wp2;go_ret;exact⟨As (by have:=h.out;simpa using this),bT (aF _ _) _⟩
 ·rw[hd]at a b;have h:=Ab b;clear f b;go_enter func91,ntmps91;go_wp2_with (go_at_call 156;refine(a _ (aF _ _)).mono ?_)
  first|rintro e w2 rfl q rfl|rintro e w2 ⟨rfl,q,rfl⟩
  have g:Below w.heap.size w (w.drewN q):=bT (aF _ _) q;clear a;go_wp2;go_ret;exact⟨As (by have:=h.out;simpa using this),g⟩
theorem MD{b:BAt}(key:ByteArray)(t:Bf w b)(l:Aj b.ls):Calls prog 89 #[aW #[aA b.aa,aA b.name,b.v],aA key] w fun e w'=>∃v' ls',e=aJ v'/\ls'.map LAt.I=GH (b.ls.map LAt.I) key/\A4 w.heap.size w' v' ls'/\Aj ls'/\Below w.heap.size w w':=by
 obtain⟨bk,bn,bv,ls⟩:=b;unfold Bf at t;simp only at *;obtain⟨ao,m,rfl⟩:=t.1.ad;have O:(ls.filter fun x=>x.key.toList==key.toList).map LAt.I=GH (ls.map LAt.I) key:=by
  unfold GH;rw[bW];rfl
 have P:=Ab O;clear O;have a6:=l.1;generalize Q:ls.length=a at *;have R:=Ab Q;clear Q;obtain⟨i0,an,ap,aq,ar⟩:=bB CQ;have S:=(aF w.heap.size w).alloc (aL _) (aE #[aA bk,aA bn,aB ao a m] 46);have U:=AH (w:=w) (cs:=#[aA bk,aA bn,aB ao a m]) (T:=46) 2;simp only[aD,aC,aH]at U;have n:=t.V S;have V:=bQ (base:=w.heap.size+1) (e:=115) (size:=2) (w.alloc (aE #[aA bk,aA bn,aB ao a m] 46)) #[] 0 (by simp) (by decide) rfl;simp only[aR]at V;have au:=(aF (w.heap.size+1) (w.alloc (aE #[aA bk,aA bn,aB ao a m] 46))).alloc (by simp) (aE #[] 115);clear t;go_enter func89,ntmps89;go_wp2;go_loopw [5,6] (fun u i wr=>∃(j:Nat) (done:List LAt),j<=a/\i=.int .i64 (j:Int)/\done=(ls.take j).filter (fun x=>x.key.toList==key.toList)/\wr.ownsRow (w.heap.size+1) 115 2 u done.length (done.flatMap LAt.cells)/\Below (w.heap.size+1) (w.alloc (aE #[aA bk,aA bn,aB ao a m] 46)) wr) (fun _ i _=>a-(intOf i).toNat)
 case atStart=>exact⟨0,[],by omega,rfl,by simp,by simpa using V,au⟩
 case round =>
  obtain⟨j,done,a7,rfl,c,d,f⟩:=hrel;obtain⟨W,X,rfl,_⟩:=Al d;have a8:done.length<=j:=by rw[c];exact aK (bM _ _) (by simp;omega)
  have a9:=(f.cell (p:=⟨w.heap.size,2,aI⟩) (by simp)).trans U;have G:=f.size;simp only[aR]at G;by_cases ba:j<a
  ·obtain⟨D,x,T,o,v⟩:=AC ls j (by have:=R.out;omega);have h:=n.V (by simpa using f);have H:x∈ls:=by rw[o];simp
   have z:=h;rw[o]at z;obtain⟨g,off,rfl,av,c2⟩:=z.1.ai;obtain⟨A,B,q⟩:=Am.ad (h.2 x H);have C:=Ab (show (ls.take (j+1)).filter (fun x=>x.key.toList==key.toList)=done++[x].filter (fun x=>x.key.toList==key.toList) from by rw[c,o,<-v,Bk,By,bR]);rw[q]at c2;rw[v]at av c2;have bb:(0:Int)<=(j:Int):=by omega
   have bc:(j:Int)<(a:Int):=by omega
   have I:=Ab (show (LAt.cells x)=[aA x.key,aB A x.ws.length B] from by unfold LAt.cells;rw[q]);have J:=Ab d;have Y:=Ab (show ∀k,(bL W done.length X).ownBlock=aN k->w.heap.size+1<=k from fun k aw=>(d.lt k aw).1);cases Z:(x.key.toList==key.toList)
   ·have K:=Ab (show (ls.take (j+1)).filter (fun x=>x.key.toList==key.toList)=done from by rw[C.out];simp[Z]);clear h z c d o q v H C I n l;generalize x.key=xk at *;generalize x.ws.length=bd at *;go_wp2;go_roundw;case rel=>exact⟨j+1,done,by omega,by go_num,K.out.symm,J.out,f⟩
    case measure=>simp[intOf];omega
   ·have K:=Ab (show (ls.take (j+1)).filter (fun x=>x.key.toList==key.toList)=done++[x] from by rw[C.out];simp[Z]);have L:=CM (ls:=[x]) (fun y ax=>by rw[bD.1 ax];exact⟨_,_,_,q⟩);rw[aQ,I.out]at L;clear h z c d o q v H C n l;have aa:=J.out.alloc (aE #[aA x.key,aB A x.ws.length B] 115);have ay:=f.alloc G (aE #[aA x.key,aB A x.ws.length B] 115);have ab:=Bn wr #[aA x.key,aB A x.ws.length B] 115 2 rfl;go_wp2_with (at_builtin;refine AD (by rfl) _ _ 44 (by rfl) (w.heap.size+1) 115 i0 _ 2 40 underlying44 an ap aq ar rfl (by decide) _ done.length _ (by rfl) aa _ 1 _ (by rfl) ab L ?c3 ?c4 (aK G (by simp)) ?_)
    case c3=>unfold bY;omega
    case c4=>omega
    intro az a0 a1 ac ad _;have a2:=ay.grown ad (by simp;omega) Y.out;have a3:=Ab (show a1.ownsRow (w.heap.size+1) 115 2 (aB az (done.length+1) a0) (done++[x]).length ((done++[x]).flatMap LAt.cells) from by
     rw[bO,aQ,I.out,aV];exact ac)
    clear aa ab L ac ad Y J;go_wp2;go_roundw;case rel=>exact⟨j+1,done++[x],by omega,by go_num,K.out.symm,a3.out,a2⟩
    case measure=>simp[intOf];omega
  ·obtain rfl:j=a:=by omega
   have ae:ls.take j=ls:=by rw[<-R.out,aS]
   rw[ae]at c;have h:=n.V (by simpa using f);have af:Ap wr (aB W done.length X) done:=⟨AF d,fun x r=>h.2 x (by rw[c]at r;exact(bU.1 r).1)⟩;have M:Aj done:=⟨by omega,fun x r=>l.2 x (by rw[c]at r;exact(bU.1 r).1)⟩;have ag:=Fx af M;have N:Below w.heap.size w wr:=S.trans (f.mono (by omega));have a4:=Ab (show done.map LAt.I=GH (ls.map LAt.I) key from by rw[c];exact P.out);have a5:=Ab M;clear h n l d c ae af M P;generalize done.length=be at *;go_wp2_with (go_at_call 97;refine ag.mono ?_)
   first|rintro e ah ai rfl E s o7 F|rintro e ah ai E rfl s o7 F|rintro e ah ⟨ai,E,rfl,s,o7,F⟩
   have aj:=Ab (s.trans a4.out);have ak:=Ab (o7.mono N.size);have al:=N.trans (F.mono N.size);have am:=Ab (a5.out.same s);obtain⟨bf,bg,rfl,_⟩:=Al o7.row;clear ag o7 s F;go_wp2;go_ret;first|exact⟨_,E,rfl,aj.out,ak.out,am.out,al⟩|exact⟨_,rfl,E,aj.out,ak.out,am.out,al⟩
variable {D T:List BAt}{R:List Plain}
def P5(bs:List BAt)(D T:List BAt):Prop:=∃a:List BAt,bs=a++T/\D.map BAt.I=(a.map BAt.I).map fillP
theorem P5.step{x b:BAt}(h:P5 bs D (x::T))(a:b.I=fillP x.I):P5 bs (D++[b]) T:=by
 obtain⟨c,d,e⟩:=h;refine⟨c++[x],by rw[d];simp,?_⟩;rw[aM,e,aM,aM];congr 1;show [_]=[_]
 rw[a]
theorem UJ{xs:List BAt}(k:AA (bs.map BAt.I))(h:A3 bs)(c:xs.map BAt.I=(bs.map BAt.I).map fillP):A3 xs:=by
 rw[List.map_map]at c;refine⟨by have:=congrArg bG c;simp at this;rw[this];exact h.1,fun x l=>?_⟩;have:x.I∈xs.map BAt.I:=aU l;rw[c]at this;obtain⟨b,e,f⟩:=cA.1 this;have g:=h.2 b e;have m:=(k.2.1 b.I (aU e)).2.2;have n:b.name=x.name:=congrArg PBlock.name f;have i:He (rulesOf b.aa) (b.ls.map LAt.I)=x.ls.map LAt.I:=congrArg PBlock.ac f;have o:=(VM m (Gi b.aa) (CB b.aa)).few;refine⟨by rw[<-n];exact g.1,?_,fun y q=>?_⟩
 ·have h1:=congrArg bG i;rw[aY]at h1;have z:=(Bm b.aa).1;rw[show b.I.aa=b.aa from rfl,show b.I.ac=b.ls.map LAt.I from rfl]at o;omega
 ·have a:y.I∈x.ls.map LAt.I:=aU q;rw[<-i]at a;have a:=(Cb _ _).mem_iff.1 a;rcases bV.1 a with a|a
  ·obtain⟨j,r,s⟩:=cA.1 a;have:=g.2.2 j r;have d:j.ws=y.ws:=congrArg PLine.ws s;rw[<-d];exact this
  ·obtain⟨p,t,_,_,v⟩:=Mg a;have d:y.ws=p.2.2.2:=congrArg PLine.ws v;have:=Hd b.aa p t;rw[d];exact⟨aK this.1 (by decide),fun u w=>aK (this.2 u w) (by decide)⟩
def Jv(K:Bool)(w:World)(e:bZ)(w':World):Prop:=∃a n c,e=aJ (aB a n c)/\(((n:Int)==0)=K)/\Below w.heap.size w w'
theorem OG{b:BAt}(key:ByteArray)(d:Bf w b)(f:Aj b.ls):Calls prog 89 #[aW #[aA b.aa,aA b.name,b.v],aA key] w fun e w'=>Jv (!hasK (b.ls.map LAt.I) key) w e w':=by
 refine(MD key d f).mono ?_;rintro e w' ⟨v',ls',rfl,g,h,_,i⟩;obtain⟨a,c,rfl,_⟩:=Al h.row;refine⟨a,_,c,rfl,?_,i⟩;rw[<-Aa7,<-g];cases ls' with
 | nil=>rfl
 | cons x l=>simp;omega
theorem UK{ls:List PLine}{D T:List Plain}{p:Plain}(e:R=D++p::T):(R.take (D.length+1)).foldl (EC R) ls=EC R ((R.take D.length).foldl (EC R) ls) p:=by
 have h1:R.take D.length=D:=by rw[e];simp
 have a:R.take (D.length+1)=D++[p]:=by rw[e];simp[List.take_append,List.take_of_length_le (Nat.le_succ D.length)]
 rw[h1,a,List.foldl_append];rfl
def sameN(ls:List PLine)(a:PLine):Nat:=ls.countP (fun o=>o.key.toList==a.key.toList&&decide (o.ws=a.ws))
def Abp(n m:Nat)(w:World)(e:bZ)(w':World):Prop:=e=aJ (.tuple #[.int .i64 (n:Int),.int .i64 (m:Int)])/\Below w.heap.size w w'
theorem Xl(ls:List PLine)(a:PLine)(k:ByteArray):keyN (ls++[a]) k=keyN ls k+(if (a.key.toList==k.toList)=true then 1 else 0):=by
 unfold keyN;rw[bS,bN]
theorem UO(ls:List PLine)(a x:PLine):sameN (ls++[a]) x=sameN ls x+(if (a.key.toList==x.key.toList&&decide (a.ws=x.ws))=true then 1 else 0):=by
 unfold sameN;rw[bS,bN]
theorem OH{b:BAt}{x:LAt}(B:Bf w b)(J:Aj b.ls)(C:BL w x)(au:x.ws.length<=1048576):Calls prog 155 #[aW #[aA b.aa,aA b.name,b.v],aW #[aA x.key,x.v]] w fun e w'=>Abp (keyN (b.ls.map LAt.I) x.key) (sameN (b.ls.map LAt.I) x.I) w e w':=by
 obtain⟨bk,bn,bv,f⟩:=b;obtain⟨xk,a3,d⟩:=x;unfold Bf at B;unfold BL at C;simp only at *;obtain⟨K,L,rfl⟩:=B.1.ad;obtain⟨xa,xc,rfl⟩:=C.ad;have E:=Ct (w:=w) (cs:=#[aA bk,aA bn,aB K f.length L]) (ds:=#[aA xk,aB xa d.length xc]) (T:=46) (U:=115);have c2:=E.1 2;have s:=E.2 0;have t:=E.2 1;simp only[aD,aC,aH]at c2 s t;clear E;have F:Below w.heap.size w ((w.alloc (aE #[aA bk,aA bn,aB K f.length L] 46)).alloc (aE #[aA xk,aB xa d.length xc] 115)):=((aF _ _).alloc (aL _) _).alloc (by simp) _;have M:=Ab (B.V F);have N:=Ab (Am.V C F);have O:=Ab J;have a4:=J.1;clear B J C;generalize ac:f.length=o at *;have ad:=Ab ac;clear ac;generalize ae:d.length=P at *;have af:=Ab ae;clear ae;generalize ag:(w.alloc (aE #[aA bk,aA bn,aB K o L] 46)).alloc (aE #[aA xk,aB xa P xc] 115)=W0 at *;have av:=Ab ag;clear ag;go_enter func155,ntmps155;go_wp2;go_loopw [6,7,8] (fun n m i wr=>∃(D T:List LAt) (a c:Nat),i=.int .i64 (D.length:Int)/\n=.int .i64 (a:Int)/\m=.int .i64 (c:Int)/\D.length<=o/\a<=D.length/\c<=D.length/\Hid (f=D++T)/\Hid (a=keyN (D.map LAt.I) xk/\c=sameN (D.map LAt.I) ⟨xk,d⟩)/\Below W0.heap.size W0 wr) (fun _ _ i _=>o-(intOf i).toNat)
 case atStart =>
  rw[av.out];exact⟨[],f,0,0,rfl,rfl,rfl,by simp,by simp,by simp,(rfl:f=[]++f),(⟨rfl,rfl⟩:(0:Nat)=keyN [] xk/\(0:Nat)=sameN [] ⟨xk,d⟩),aF _ _⟩
 case round =>
  obtain⟨D,T,a,c,rfl,rfl,rfl,a5,a6,a7,j,u,k⟩:=hrel;have q:=(k.cell (aG W0 _ c2)).trans c2;have G:=(k.cell (aG W0 _ s)).trans s;have v:=(k.cell (aG W0 _ t)).trans t;cases T with
  | nil =>
   have aw:D.length=o:=by rw[<-ad.out,j.out];simp
   have a8:¬((D.length:Int)<(o:Int)):=by omega
   have ah:=Ab (show a=keyN (f.map LAt.I) xk/\c=sameN (f.map LAt.I) ⟨xk,d⟩ from by rw[j.out,List.append_nil];exact u.out);clear j u M N O c2 s t;go_wp2;go_ret2
   exact⟨by rw[ah.out.1,ah.out.2];rfl,F.trans (k.mono F.size)⟩
  | cons y T =>
   have aw:D.length<o:=by have:=ad.out;rw[j.out]at this;simp at this;omega
   have Q:=M.out.V k;have R:=Q;rw[j.out]at R;obtain⟨g,off,rfl,H,r⟩:=R.1.ai;have S:y∈f:=by rw[j.out];simp
   have V:=Q.2 y S;obtain⟨ai,yc,X⟩:=Am.ad V;have aj:=(O.out.2 y S).1;have a9:((D.length:Int)<(o:Int)):=by omega
   have ba:(0:Int)<=(D.length:Int):=by omega
   rw[X]at r;have I:∀W,Below wr.heap.size wr W->Calls prog 91 #[aB ai y.ws.length yc,aB xa P xc] W fun e w'=>e=aJ (.bool (decide (y.ws=d)))/\Below W.heap.size W w':=fun W ak=>KC (by have:=Am.V V ak;rw[X]at this;exact this) (by rw[af.out]at *;exact(Am.V N.out k).V ak) aj (by rw[af.out];exact au)
   have z:Hid (f=(D++[y])++T):=by have:=j.out;show f=_;rw[this];simp
   have h:=Ab (show keyN ((D++[y]).map LAt.I) xk=a+(if (y.key.toList==xk.toList)=true then 1 else 0)/\sameN ((D++[y]).map LAt.I) ⟨xk,d⟩=c+(if (y.key.toList==xk.toList&&decide (y.ws=d))=true then 1 else 0) from by
    rw[aM,u.out.1,u.out.2];exact⟨Xl _ _ _,UO _ _ _⟩)
   clear Q R V X j u S aj M N O c2 s t;generalize al:(y.key.toList==xk.toList)=am at *;generalize ax:decide (y.ws=d)=Y at *;have an:=Ab al;clear al ax;generalize ao:y.key=yk at *;have bb:=Ab ao;clear ao;generalize y.ws.length=ay at *;go_upto_region 6 with fail
   go_cut [24] from 16 to 24 (fun c Z=>c=.bool am/\Below wr.heap.size wr Z)
   case first =>
    have v2:=fun p:Gr wr=>Aq q p
    have bc:=fun p:Gr wr=>Aq G p
    have w1:=fun p:Gr wr=>Aq H p
    have ap:=an.out;clear I z h q G v H r an;refine A5 (by kernel_rfl) (by kernel_rfl) ?_;iterate 9 quiet_step (fail)
    refine wpQuiet_nil ?_;rintro _ ⟨⟨az,aa⟩,rfl⟩;go_wp2_with fail
    go_meet;exact⟨by first|rfl|(rw[<-ap];rfl)|simp[ap],aa⟩
   case rest =>
    obtain⟨l,a0⟩:∃l,l=wc:=⟨_,rfl⟩;subst a0;obtain⟨rfl,bk'⟩:=hcut;have ab:=k.trans (bk'.mono k.size);cases am
    ·have A:=Ab (show a=keyN ((D++[y]).map LAt.I) xk/\c=sameN ((D++[y]).map LAt.I) ⟨xk,d⟩ from by rw[h.out.1,h.out.2];exact⟨rfl,rfl⟩);clear h I q G v H r;go_wp2;go_roundw;case rel=>exact⟨D++[y],T,a,c,by simp,rfl,rfl,by simp;omega,by simp;omega,by simp;omega,z,A,ab⟩
     case measure=>simp[intOf];omega
    ·have v2:=fun p:Gr l=>Aq ((bk'.cell (aG wr _ q)).trans q) p
     have u1:=fun p:Gr l=>Aq ((bk'.cell (aG wr _ v)).trans v) p
     have w2:=fun p:Gr l=>Aq ((bk'.cell (aG wr _ r)).trans r) p
     have aq:∀p:Gr l,Calls prog 91 #[aB ai ay yc,aB xa P xc] p.u fun e w'=>e=aJ (.bool Y)/\Below p.u.heap.size p.u w':=fun p=>I p.u (bk'.trans (p.h.mono bk'.size))
     clear I q G v H r;go_upto_region 8 with fail
     go_cut [35] from 27 to 35 (fun c Z=>c=.bool Y/\Below l.heap.size l Z)
     case first =>
      clear h z;refine A5 (by kernel_rfl) (by kernel_rfl) ?_;iterate 8 quiet_step (fail)
      quiet_step ((go_at_call 91;refine CD (aq _)))
      refine wpQuiet_nil ?_;rintro _ ⟨⟨az,aa⟩,rfl⟩;go_wp2_with fail
      go_meet;exact⟨rfl,aa⟩
     case rest =>
      obtain⟨ar,a1⟩:∃ar,ar=wc:=⟨_,rfl⟩;subst a1;obtain⟨rfl,a2⟩:=hcut;have BM:=ab.trans (a2.mono ab.size);clear aq v2 u1 w2;cases Y
      ·have A:=Ab (show a+1=keyN ((D++[y]).map LAt.I) xk/\c=sameN ((D++[y]).map LAt.I) ⟨xk,d⟩ from by rw[h.out.1,h.out.2];exact⟨rfl,rfl⟩);clear h;go_wp2;go_roundw;case rel=>exact⟨D++[y],T,a+1,c,by simp,by go_num,rfl,by simp;omega,by simp;omega,by simp;omega,z,A,BM⟩
       case measure=>simp[intOf];omega
      ·have A:=Ab (show a+1=keyN ((D++[y]).map LAt.I) xk/\c+1=sameN ((D++[y]).map LAt.I) ⟨xk,d⟩ from by rw[h.out.1,h.out.2];exact⟨rfl,rfl⟩);clear h;go_wp2;go_roundw;case rel=>exact⟨D++[y],T,a+1,c+1,by simp,by go_num,by go_num,by simp;omega,by simp;omega,by simp;omega,z,A,BM⟩
       case measure=>simp[intOf];omega
def Abr(p:Plain)(P:Nat)(W:World)(e:bZ)(w':World):Prop:=∃(g m c:Nat) (key:ByteArray) (av:Option Addr) (d f:Nat) (a:Option Addr) (b:Nat),e=aJ (aB (aN ⟨g,0,aI⟩) m c)/\((0:Int)<=(P:Int)/\(P:Int)<(m:Int))/\(w'.cell? ⟨g,P*4,aI⟩=aN (aA key)/\w'.cell? ⟨g,P*4+1,aI⟩=aN (aB av d f)/\w'.cell? ⟨g,P*4+2,aI⟩=aN (.bool p.2.2.1)/\w'.cell? ⟨g,P*4+3,aI⟩=aN (aB a p.2.2.2.length b))/\(w'.ownsRow W.heap.size 9 1 (aB a p.2.2.2.length b) p.2.2.2.length (strs p.2.2.2))/\Below W.heap.size W w'
theorem VV{key:ByteArray}{p:Plain}(u:Bv (rulesOf kind) key=aN p):∃P:Nat,placeI (rulesOf kind) key=(P:Int)/\∀W:World,Calls prog 56 #[aA kind] W fun e w'=>Abr p P W e w':=by
 obtain⟨i,w,j,_⟩:=De u;refine⟨i,w,fun W=>(Cf kind W).mono ?_⟩;rintro e w' ⟨v,L,rfl,q,d,x⟩;have y:i<L.length:=by have:=(List.getElem?_eq_some_iff.1 j).1;rw[<-q,aY]at this;exact this
 obtain⟨f,a,g,rfl,s⟩:=AC L i y;have t:a.I=p:=by
  rw[<-q,<-s]at j;simpa using j
 have z:=(show DA w' v (f++a::g) from d.rin).2 a (by simp);have h:=(Bh.rm d).defs;obtain⟨J,A,rfl,k⟩:=Al (show w'.ownsRow W.heap.size 54 4 v (f++a::g).length ((f++a::g).flatMap AL.cells) from Ay.head d);rcases k with k|⟨B,rfl⟩
 ·simp at k
 have b:=fun c b=>(Bh.rm d).cell (D:=f) (r:=a) (T:=g) c b
 obtain⟨⟨av,C,E,ev⟩,_⟩:=z;obtain⟨F,G,l,_⟩:=Al h;have H:a.many=p.2.2.1:=by rw[<-t];rfl
 have I:a.ds=p.2.2.2:=by rw[<-t];rfl
 rw[I]at h l;rw[l]at h;have k0:=b 0 (by decide);have m:=b 1 (by decide);have n:=b 2 (by decide);have o:=b 3 (by decide);rw[s]at k0 m n o;simp only[AL.cells,aC,aH,ev,l,H,Nat.add_zero]at k0 m n o;exact⟨B,_,A,a.key,av,C,E,F,G,rfl,⟨by omega,by simp;omega⟩,⟨k0,m,n,o⟩,h,x⟩
theorem Vq(x:LAt)(rk:ByteArray)(g:Nat)(f:∃a n c,x.v=aB a n c)(b:w.cell? ⟨g,0,aI⟩=aN (aA rk)):Calls prog 167 #[aW #[aA x.key,x.v],bK (aN ⟨g,0,aI⟩)] w fun e w'=>e=aJ (.bool (x.key.toList==rk.toList))/\Below w.heap.size w w':=by
 obtain⟨a,n,c,h⟩:=f;rw[h];have d:=(aF w.heap.size w).alloc (aL _) (aE #[aA x.key,aB a n c] 115);have i:=(d.cell (aG w _ b)).trans b;have k0:=AH (w:=w) (cs:=#[aA x.key,aB a n c]) (T:=115) 0;simp only[aD,aC]at k0;generalize x.key=xk at *;go_enter func167,ntmps167;go_wp2;go_ret;exact⟨rfl,d⟩
def JG(ls:List LAt)(k:ByteArray)(j:Nat):Prop:=∀x∈ls.take j,(x.key.toList==k.toList)=false
def Ad4(b:Bool)(w:World)(e:bZ)(w':World):Prop:=(∃n:Int,e=aJ (.int .i64 n)/\(decide (n≥0))=b)/\Below w.heap.size w w'
theorem Np(key:ByteArray)(g:Nat)(h:Ap w v ls)(G:ls.length<=1048576)(q:w.cell? ⟨g,0,aI⟩=aN (aA key)):Calls prog 220 #[v,.func (.func 167) #[] #[bK (aN ⟨g,0,aI⟩)]] w fun e w'=>Ad4 (hasK (ls.map LAt.I) key) w e w':=by
 obtain⟨ao,H,rfl⟩:=h.1.ad;generalize z:ls.length=n at *;have A:=Ab z;clear z;go_enter func220,ntmps220;go_wp2;go_loopw [8] (fun i wr=>∃j:Nat,j<=n/\i=.int .i64 (j:Int)/\Below w.heap.size w wr/\JG ls key j) (fun i _=>n-(intOf i).toNat)
 case atStart=>exact⟨0,by omega,rfl,aF _ _,by simp[JG]⟩
 case round =>
  obtain⟨j,I,rfl,c,a⟩:=hrel;by_cases J:j<n
  ·obtain⟨D,x,T,f,l⟩:=AC ls j (by have:=A.out;omega);have r:=h.V c;have s:x∈ls:=by rw[f];simp
   have t:=r;rw[f]at t;obtain⟨b,off,rfl,c0,B⟩:=t.1.ai;obtain⟨K,L,C⟩:=Am.ad (r.2 x s);have u:wr.cell? ⟨g,0,aI⟩=aN (aA key):=(c.cell (aG w _ q)).trans q;have d:=Vq x key g ⟨_,_,_,C⟩ u;rw[C]at d B;rw[l]at c0 B;have E:(0:Int)<=(j:Int):=by omega
   have i2:(j:Int)<(n:Int):=by omega
   cases k:(x.key.toList==key.toList)
   ·have m:=Ab (show JG ls key (j+1) from by
     unfold JG at a⊢;rw[f,<-l,Bk]at a;rw[f,<-l,By];intro y o;rcases bV.1 o with o|o
     ·exact a y o
     ·rw[bD.1 o];exact k)
    rw[k]at d;clear h r t a q u f l s k;go_wp2_with (go_at_call 167;refine d.mono ?_)
    first|rintro e w1 rfl p|rintro e w1 ⟨rfl,p⟩
    clear d;go_wp2;go_roundw;case rel=>exact⟨j+1,by omega,by go_num,c.trans (p.mono c.size),m.out⟩
    case measure=>simp[intOf];omega
   ·have m:=Ab (show hasK (ls.map LAt.I) key=true from by
     unfold hasK;rw[cB,List.any_eq_true];exact⟨x,s,k⟩)
    rw[k]at d;clear h r t a q u f l s k;go_wp2_with (go_at_call 167;refine d.mono ?_)
    first|rintro e w1 rfl p|rintro e w1 ⟨rfl,p⟩
    clear d;go_wp2;go_ret;exact⟨⟨(j:Int),rfl,by rw[m.out];exact decide_eq_true E⟩,c.trans (p.mono c.size)⟩
  ·obtain rfl:j=n:=by omega
   have m:=Ab (show hasK (ls.map LAt.I) key=false from by
    unfold hasK;rw[cB,List.any_eq_false];unfold JG at a;rw[<-A.out,aS]at a;intro x F;have:=a x F;show ¬(x.key.toList==key.toList)=true
    rw[this];decide)
   clear a h;go_wp2;go_ret;exact⟨⟨-1,rfl,by rw[m.out];rfl⟩,c⟩
theorem JH(key:ByteArray)(g:Nat)(h:Ap w v ls)(c:ls.length<=1048576)(a:w.cell? ⟨g,0,aI⟩=aN (aA key)):Calls prog 166 #[v,.func (.func 167) #[] #[bK (aN ⟨g,0,aI⟩)]] w fun e w'=>e=aJ (.bool (hasK (ls.map LAt.I) key))/\Below w.heap.size w w':=by
 have b:=Np key g h c a;generalize hasK (ls.map LAt.I) key=K at *;clear h a;obtain⟨v0,d⟩:∃v0,v0=v:=⟨_,rfl⟩;subst d;go_enter func166,ntmps166;go_wp2_with (go_at_call 220;refine b.mono ?_)
 rintro e w1 ⟨⟨n,rfl,f⟩,i⟩;clear b;subst f;go_wp2;go_ret;exact⟨rfl,i⟩
theorem Vr(key:ByteArray)(h:Ap w v ls)(d:ls.length<=1048576):Calls prog 111 #[v,aA key] w fun e w'=>e=aJ (.bool (hasK (ls.map LAt.I) key))/\Below w.heap.size w w':=by
 have a:=(aF w.heap.size w).alloc (aL _) (aE #[aA key] 9);have k0:=AH (w:=w) (cs:=#[aA key]) (T:=9) 0;simp only[aD,aC]at k0;have b:=JH key w.heap.size (h.V a) d k0;generalize hasK (ls.map LAt.I) key=K at *;clear h;go_enter func111,ntmps111;go_wp2_with (go_at_call 166;refine b.mono ?_)
 first|rintro e w1 rfl c|rintro e w1 ⟨rfl,c⟩
 clear b;go_wp2;go_ret;exact⟨rfl,a.trans (c.mono (by simp))⟩
theorem Nq(h:Ap w v ls)(E:ls.length<=1048576):Calls prog 124 #[v] w fun e w'=>∃ao g,e=aJ (aB ao ls.length g)/\w'.ownsRow w.heap.size 115 2 (aB ao ls.length g) ls.length (ls.flatMap LAt.cells)/\Below w.heap.size w w':=by
 have m:=CM (fun x o=>by obtain⟨a,c,e⟩:=Am.ad (h.2 x o);exact⟨a,_,c,e⟩);have F:(ls.flatMap LAt.cells).length=ls.length*2:=Bs _ 2 LAt.len ls;replace h:=h.1;obtain⟨ao,g,rfl⟩:=h.ad;generalize ls.flatMap LAt.cells=xs at *;generalize ls.length=n at *;obtain⟨i0,p,q,r,s⟩:=bB CQ;have G:∀(w:World) (a:Option Addr) (n c n' d:Nat),(binOp .eql 44 (aB a n c) (aB aI n' d)).run prog w=.ok (.bool a.isNone) w:=fun w a n c n' d=>Lib.run_eql_slice_nil w _ _ a n c n' d underlying44
 cases ao with
 | none =>
  have f:n=0:=by
   obtain⟨_,j,d,t,_,u⟩:=h;cases t
   rcases u with f|⟨b,off,e,_⟩
   ·exact f
   ·cases e
  have y:w.ownsRow w.heap.size 115 2 (aB aI n 0) n xs:=Lp f (by omega);clear h;subst f;go_enter func124,ntmps124;go_wp2;go_ret;exact⟨aI,0,rfl,y,aF _ _⟩
 | some a =>
  have b0:=(aF w.heap.size w).alloc (aL _) (aE #[] 115);have h1:=h.V b0;have i:=bQ (base:=w.heap.size) (e:=115) (size:=2) w #[] 0 (aL _) (by decide) rfl;clear h;go_enter func124,ntmps124;go_wp2_with (at_builtin;refine AD (by rfl) _ _ 44 (by rfl) w.heap.size 115 i0 _ 2 40 underlying44 p q r s rfl (by decide) _ 0 [] (by rfl) i _ n xs (by rfl) h1 m ?c3 ?c4 (by simp) ?_)
  case c3=>unfold bY;omega
  case c4=>omega
  intro j z w1 A l B;have C:=b0.grown l (by simp) (fun k D=>(i.lt k D).1);clear h1 i B l;go_wp2;go_ret;exact⟨j,z,rfl,by simpa using A,C⟩
