import Derived.Test.YtpdahhnjhggocaaGreatDoorMu9
import Derived.Shelf.Abstract
open Go.Proofs.Tryz
open Go.Value renaming string->aA,slice->aB,agg->aS,pointer->aW,slice->bD
open List renaming getElem?_cons_zero->aC,getElem?_toArray->aD,getElem?_cons_succ->aH,map_singleton->aN,map_append->aO,length_append->aP,take_length->aQ,mem_map_of_mem->aU,getElem?_append_right->aZ,flatMap_singleton->bB,length_filter_le->bF,length->bG,flatMap_append->bH,mem_singleton->bJ,length_take->bM,length_map->bN,filter_map->bO,append_nil->bP,any_map->bQ
open Go.Obj renaming cells->aE
open Option renaming none->aF,some->aJ
open Go.RowKit.Below renaming refl->aG,heap_setCell->aV
open Go.World renaming block_lt_of_cell?->aI,size_alloc->aT,setRow->bA,ownsRow_nil->bI
open Nat renaming le_refl->aK,le_trans->aL,add_zero->bE
open Go.Ending renaming returned->aM
open Go.Operand renaming tmp->aR
open Go.Op renaming store->aX
open Go.Oper renaming mk->aY
open And renaming intro->bC
open Go.Builtin renaming clear_->bK
open Go.Proofs.Tryz renaming prog->bL
namespace Go.Proofs.YtpdahhnjhggocaaGreatDoor
open Go.RowKit
set_option maxHeartbeats 16000000
set_option maxRecDepth 100000
variable {v:Value}{ls:List LAt}{w:World}
theorem E0{F:FuncId}{q:Value}(p:LAt->Bool)(h:An w v ls)(ar:ls.length<=1048576)(z:∀x∈ls,∀W,Below w.heap.size w W->Calls prog F #[aS #[aA x.key,x.v],q] W fun e w'=>e=aM (.bool (p x))/\Below W.heap.size W w')(au:∀args w,(callFunc F args).run prog w=.ok (.enter F args) w):
  Calls prog 109 #[v,.func (.func F) #[] #[q]] w fun e w'=>∃v',e=aM v'/\w'.ownsRow w.heap.size 115 2 v' (ls.filter p).length ((ls.filter p).flatMap LAt.cells)/\Below w.heap.size w w':=by
 obtain⟨ao,av,rfl⟩:=h.1.ae;generalize Q:ls.length=r at *;have R:=Aa Q;clear Q;obtain⟨i0,aa,ab,ac,ad⟩:=info_parts CK;go_enter func109,ntmps109;go_wp2;go_loopw [5,10] (fun u i wr=>∃(j:Nat) (done:List LAt),j<=r/\i=.int .i64 (j:Int)/\done=(ls.take j).filter p/\wr.ownsRow w.heap.size 115 2 u done.length (done.flatMap LAt.cells)/\Below w.heap.size w wr) (fun _ i _=>r-(intOf i).toNat)
 case atStart=>exact⟨0,[],by omega,rfl,by simp,bI _ _ _ _,aG _ _⟩
 case round =>
  obtain⟨j,done,aw,rfl,m,a,b⟩:=hrel;obtain⟨S,U,rfl,_⟩:=Ak a;have ax:done.length<=j:=by rw[m];exact aL (bF _ _) (by simp;omega)
  by_cases ay:j<r
  ·obtain⟨D,x,T,s,A⟩:=AS ls j (by have:=R.out;omega);have B:=h.V b;have C:x∈ls:=by rw[s];simp
   have E:=B;rw[s]at E;obtain⟨g,off,rfl,ae,c2⟩:=E.1.line;obtain⟨c,d,t⟩:=Ap.ae (B.2 x C);have G:=Aa (show (ls.take (j+1)).filter p=done++[x].filter p from by rw[m,s,<-A,Bk,BG,List.filter_append]);have H:=(aG wr.heap.size wr).alloc (aK _) (aE #[aA x.key,aB c x.ws.length d] 115);have k0:=A3 (w:=wr) (cs:=#[aA x.key,aB c x.ws.length d]) (T:=115) 0;have J:=A3 (w:=wr) (cs:=#[aA x.key,aB c x.ws.length d]) (T:=115) 1;simp only[aD,aC,aH]at k0 J;have f:=z x C _ (b.trans (H.mono b.size));rw[t]at f c2;rw[A]at ae c2;have az:(0:Int)<=(j:Int):=by omega
   have a0:(j:Int)<(r:Int):=by omega
   have K:=Aa (show (LAt.cells x)=[aA x.key,aB c x.ws.length d] from by unfold LAt.cells;rw[t]);have L:=Aa a;have M:=b.size;have V:=Aa (show ∀k,(bD S done.length U).ownBlock=aJ k->w.heap.size<=k from fun k af=>(a.lt k af).1);cases n:p x
   ·have N:=Aa (show (ls.take (j+1)).filter p=done from by rw[G.out];simp[n]);rw[n]at f;clear h B E z m a s t A C G K n;generalize x.key=xk at *;generalize x.ws.length=a1 at *;go_wp2_with (go_at_fn F;refine f.mono ?_;rintro e w2 ⟨rfl,o⟩)
    have l:=H.trans (o.mono H.size);have I:=AL L.out l;clear f;go_roundw;case rel=>exact⟨j+1,done,by omega,by go_num,N.out.symm,I,b.trans (l.mono M)⟩
    case measure=>simp[intOf];omega
   ·have N:=Aa (show (ls.take (j+1)).filter p=done++[x] from by rw[G.out];simp[n]);rw[n]at f;have O:=Cy (ls:=[x]) (fun y ag=>by rw[bJ.1 ag];exact⟨_,_,_,t⟩);rw[bB,K.out]at O;clear h B E z m a s t A C G n;go_wp2_with (go_at_fn F;refine f.mono ?_)
    first | rintro e w2 rfl o | rintro e w2 ⟨rfl,o⟩
    have l:=H.trans (o.mono (by simp));have ah:=(o.cell (p:=⟨wr.heap.size,0,aF⟩) (by simp)).trans k0;have ai:=(o.cell (p:=⟨wr.heap.size,1,aF⟩) (by simp)).trans J;have I:=(AL L.out l).alloc (aE #[aA x.key,aB c x.ws.length d] 115);have aj:=l.alloc l.size (aE #[aA x.key,aB c x.ws.length d] 115);have X:=Bz w2 #[aA x.key,aB c x.ws.length d] 115 2 rfl;have ak:=l.size;clear f k0 J;go_wp2_with (at_builtin;refine A8 (by rfl) _ _ 44 (by rfl) w.heap.size 115 i0 _ 2 40 underlying44 aa ab ac ad rfl (by decide) _ done.length _ (by rfl) I _ 1 _ (by rfl) X O ?c3 ?c4 (aL M (aL ak (by simp))) ?_)
    case c3=>unfold maxLen;omega
    case c4=>omega
    intro al am an Y Z _;have ap:=(b.trans (aj.mono M)).grown Z (by simp;omega) V.out;have P:=Aa (show an.ownsRow w.heap.size 115 2 (aB al (done.length+1) am) (done++[x]).length ((done++[x]).flatMap LAt.cells) from by
     rw[bH,bB,K.out,aP];exact Y)
    clear I X O Y Z ah ai V L;go_wp2;go_roundw;case rel=>exact⟨j+1,done++[x],by omega,by go_num,N.out.symm,P.out,ap⟩
    case measure=>simp[intOf];omega
  ·obtain rfl:j=r:=by omega
   have aq:ls.take j=ls:=by rw[<-R.out,aQ]
   have P:=Aa (show wr.ownsRow w.heap.size 115 2 (aB S done.length U) (ls.filter p).length ((ls.filter p).flatMap LAt.cells) from by rw[<-aq,<-m];exact a);clear h z a m;go_wp2;go_ret;exact⟨_,rfl,P.out,b⟩
theorem XO(x:LAt)(rk:ByteArray)(g:Nat)(f:∃a n c,x.v=aB a n c)(b:w.cell? ⟨g,0,aF⟩=aJ (aA rk)):Calls prog 215 #[aS #[aA x.key,x.v],aW (aJ ⟨g,0,aF⟩)] w fun e w'=>e=aM (.bool (x.key.toList==rk.toList))/\Below w.heap.size w w':=by
 obtain⟨a,n,c,h⟩:=f;rw[h];have d:=(aG w.heap.size w).alloc (aK _) (aE #[aA x.key,aB a n c] 115);have i:=(d.cell (aI w _ b)).trans b;have k0:=A3 (w:=w) (cs:=#[aA x.key,aB a n c]) (T:=115) 0;simp only[aD,aC]at k0;generalize x.key=xk at *;go_enter func215,ntmps215;go_wp2;go_ret;exact⟨rfl,d⟩
theorem L7(rk:ByteArray)(va f:Value)(many:Bool)(m:∃a n c,va=aB a n c)(o:∃a n c,f=aB a n c):Calls prog 125 #[aS #[aA rk,va,.bool many,f]] w fun e w'=>e=aM (aS #[aA rk,f])/\Below w.heap.size w w':=by
 obtain⟨a,n,c,rfl⟩:=m;obtain⟨a',n',b,rfl⟩:=o;have g:=BO (w:=w) (cs:=#[aA rk,aB a n c,.bool many,aB a' n' b]) (ds:=#[aA ⟨#[]⟩,aB aF 0 0]) (T:=54) (U:=115);have c0:=g.1 0;have c3:=g.1 3;simp only[aD,aC,aH]at c0 c3;have d:Below w.heap.size w ((w.alloc (aE #[aA rk,aB a n c,.bool many,aB a' n' b] 54)).alloc (aE #[aA ⟨#[]⟩,aB aF 0 0] 115)):=((aG _ _).alloc (aK _) _).alloc (by simp) _;have h:=Al (w.alloc (aE #[aA rk,aB a n c,.bool many,aB a' n' b] 54)) (aE #[aA ⟨#[]⟩,aB aF 0 0] 115);simp only[aT]at h;clear g;go_enter func125,ntmps125;go_wp2_with (with_reducible show wpList _ _ _ (aY _ (aX _ (aR 2) _) _ _ _ _::_) _ _;refine wpList_store_row rfl 115 _ _ rfl (w.heap.size+1) #[aA rk,aB a' n' b] ?_ ?_ 115 _ h ?_ ?_ ?_ ?_)
 all_goals (first | rfl | kernel_rfl | skip)
 have p:=d.size;have z5:(bA ((w.alloc (aE #[aA rk,aB a n c,.bool many,aB a' n' b] 54)).alloc (aE #[aA ⟨#[]⟩,aB aF 0 0] 115)) (w.heap.size+1) #[aA rk,aB a' n' b]).heap[w.heap.size+1]?=aJ (aE #[aA rk,aB a' n' b] 115 (0,0)):=setRow_heap _ _ _ _ _ _ h
 have l:Below w.heap.size w (bA ((w.alloc (aE #[aA rk,aB a n c,.bool many,aB a' n' b] 54)).alloc (aE #[aA ⟨#[]⟩,aB aF 0 0] 115)) (w.heap.size+1) #[aA rk,aB a' n' b]) :=
  ⟨d.os,d.tape,d.output,by rw[setRow_size];exact p,fun k q=>by rw[setRow_other _ _ _ _ (by omega)];exact d.block k q⟩
 have i:=Ab z5 0;have j:=Ab z5 1;simp only[aD,aC,aH]at i j;generalize bA _ _ _=W at l i j z5⊢;exact bodyPost_ret (v:=aS #[aA rk,aB a' n' b]) (by simp[results,results125,go_sem,i,j]) rfl ⟨rfl,l⟩
def ZJ(a:List LAt)(w:World)(e:Ending)(w':World):Prop:=∃v',e=aM v'/\w'.ownsRow w.heap.size 115 2 v' a.length (a.flatMap LAt.cells)/\Below w.heap.size w w'
def withKey(ls:List LAt)(k:ByteArray):List LAt:=ls.filter fun x=>x.key.toList==k.toList
theorem I9(ls:List LAt)(k:ByteArray):(withKey ls k).map LAt.I=Iy (ls.map LAt.I) k:=by
 unfold Iy withKey;rw[bO];rfl
theorem Ce(rk:ByteArray)(h:An w v ls)(i:ls.length<=1048576):Calls prog 158 #[v,aA rk] w fun e w'=>ZJ (withKey ls rk) w e w':=by
 have b:=(aG w.heap.size w).alloc (aK _) (aE #[aA rk] 9);have d:=A3 (w:=w) (cs:=#[aA rk]) (T:=9) 0;simp only[aD,aC]at d;have f:=E0 (F:=215) (q:=aW (aJ ⟨w.heap.size,0,aF⟩)) (fun x=>x.key.toList==rk.toList) (h.V b) i (fun x j W k=>XO x rk w.heap.size (by obtain⟨a,c,e⟩:=Ap.ae (h.2 x j);exact⟨a,_,c,e⟩) ((k.cell (aI _ _ d)).trans d)) (enters_of func215 (by kernel_rfl) rfl);obtain⟨ao,o,rfl⟩:=h.1.ae;rw[show ls.filter (fun x=>x.key.toList==rk.toList)=withKey ls rk from rfl]at f;generalize withKey ls rk=p at *;clear h i d;generalize ls.length=n at *;go_enter func158,ntmps158;go_wp2_with (go_at_call 109;refine f.mono ?_)
 first | rintro e w2 v2 rfl o2 g | rintro e w2 ⟨v2,rfl,o2,g⟩
 have l:=b.trans (g.mono b.size);have m:=Aa (Cu o2 b.size);obtain⟨a2,c2,rfl,_⟩:=Ak o2;clear f o2 g;go_wp2;go_ret;exact⟨_,rfl,m.out,l⟩
variable {L:List AO}{kind:ByteArray}
theorem Ds(kind:ByteArray)(h:L.map AO.I=rulesOf kind):L.length<=12:=by
 have:=(Bf kind).1;rw[<-h,bN]at this;exact this
theorem Np(h:L.map AO.I=rulesOf kind){r:AO}(a:r∈L):r.ds.length<=1048576/\∀y∈r.ds,y.length<=1048576:=by
 have b:r.I∈rulesOf kind:=by rw[<-h];exact aU a
 have:=MT kind r.I b;exact⟨aL this.1 (by decide),fun y c=>aL (this.2 y c) (by decide)⟩
variable {R:List Plain}{B:Nat}{vr:Value}
theorem Ve{a:PLine}{p:Plain}(h:Bt R a.key=aJ p):DE R a=(p.2.2.1 || !decide (a.ws=p.2.2.2)):=by unfold DE;rw[h]
theorem Vf(x:LAt)(g:Nat)(c:AX B w vr L)(P:L.length<=12)(n:w.cell? ⟨g,0,aF⟩=aJ vr)(i:BL w x)(Q:x.ws.length<=1048576)(C:Bt (L.map AO.I) x.key≠aF)(D:∀r∈L,r.ds.length<=1048576):
  Calls prog 126 #[aS #[aA x.key,x.v],aW (aJ ⟨g,0,aF⟩)] w fun e w'=>e=aM (.bool (DE (L.map AO.I) x.I))/\Below w.heap.size w w':=by
 obtain⟨xk,xv,b⟩:=x;unfold BL at i;simp only[LAt.I]at *;obtain⟨d,f,rfl⟩:=i.ae;have j:=(aG w.heap.size w).alloc (aK _) (aE #[aA xk,aB d b.length f] 115);have R:=(j.cell (aI w _ n)).trans n;have k0:=A3 (w:=w) (cs:=#[aA xk,aB d b.length f]) (T:=115) 0;have o:=A3 (w:=w) (cs:=#[aA xk,aB d b.length f]) (T:=115) 1;simp only[aD,aC,aH]at k0 o;obtain⟨ab,ac,rfl,_⟩:=Ak (show w.ownsRow B 54 4 vr L.length (L.flatMap AO.cells) from Az.head c);have E:=J4 xk (show AX B _ _ L from Az.V c j) P;have S:=aI _ _ k0;generalize U:L.length=ad at *;clear U;go_enter func126,ntmps126;go_wp2_with (go_at_call 93;refine E.mono ?_)
 first | rintro e w1 s F | rintro e w1 ⟨s,F⟩
 have t:Below (w.alloc (aE #[aA xk,aB d b.length f] 115)).heap.size (w.alloc (aE #[aA xk,aB d b.length f] 115)) w1:=by simpa using s
 have G:=(t.cell (p:=⟨w.heap.size,1,aF⟩) S).trans o;have H:=j.trans (t.mono j.size);rcases F with ⟨V,rfl⟩ | ⟨r,k,I,rfl⟩
 ·exact absurd V C
 have J:=Ve (a:=⟨xk,b⟩) I;obtain⟨ae,af,K⟩:=List.append_of_mem k;have u:Ap w r.vd r.ds.length 1 (strs r.ds):=AG (by have:=c.rm;rw[K]at this;exact this.defs);have W:=(show D6 w _ L from c.rin).2 r k;have X:=D r k;obtain⟨rk,ag,ah,l,ai,h⟩:=r;simp only[AO.I]at *;obtain⟨⟨av,v,cv,rfl⟩,_⟩:=W;obtain⟨y,z,rfl⟩:=u.ae;have M:=(aG w1.heap.size w1).alloc (aK _) (aE #[aA rk,aB av v cv,.bool l,aB y h.length z] 54);have aj:=(M.cell (p:=⟨w.heap.size,1,aF⟩) (aI w1 _ G)).trans G;have m:=H.trans (M.mono H.size);have Y:=A3 (w:=w1) (cs:=#[aA rk,aB av v cv,.bool l,aB y h.length z]) (T:=54) 2;have Z:=A3 (w:=w1) (cs:=#[aA rk,aB av v cv,.bool l,aB y h.length z]) (T:=54) 3;simp only[aD,aC,aH]at Y Z;have A:=EL (i.V m) (u.V m) Q X;have N:=Aa J;clear E c C D K k I u i s t k0 o J n R;generalize b.length=ak at *;generalize h.length=al at *;generalize O:decide (b=h)=am at *;have aa:=Aa O;clear O;cases l
 ·go_wp2_with (go_at_call 127;refine A.mono ?_)
  first | rintro e w3 rfl q rfl | rintro e w3 ⟨rfl,q,rfl⟩
  have g3:=below_drewN m q;clear A;go_wp2;go_ret;exact⟨by rw[N.out,<-aa.out];simp;congr,g3⟩
 ·clear A;go_wp2;go_ret;exact⟨by rw[N.out];simp,m⟩
theorem Ow(f:AX B w vr L)(z:L.length<=12)(h:An w v ls)(c:Ah ls)(k:∀x∈ls,Bt (L.map AO.I) x.key≠aF)(l:∀r∈L,r.ds.length<=1048576):
  Calls prog 62 #[vr,v] w fun e w'=>∃v' ls',e=aM v'/\ls'.map LAt.I=(ls.map LAt.I).filter (DE (L.map AO.I))/\An w' v' ls'/\Ah ls'/\Below w.heap.size w w':=by
 obtain⟨ao,G,rfl⟩:=h.1.ae;obtain⟨m,n,rfl,_⟩:=Ak (show w.ownsRow B 54 4 vr L.length (L.flatMap AO.cells) from Az.head f);have b:=(aG w.heap.size w).alloc (aK _) (aE #[aB m L.length n] 47);have k0:=A3 (w:=w) (cs:=#[aB m L.length n]) (T:=47) 0;simp only[aD,aC]at k0;have A:=aI _ _ k0;have o:=E0 (F:=126) (q:=aW (aJ ⟨w.heap.size,0,aF⟩)) (fun x=>DE (L.map AO.I) x.I) (h.V b) c.1 (fun x a W g=>Vf x w.heap.size (show AX B W _ L from Az.V f (b.trans (g.mono b.size))) z ((g.cell A).trans k0) ((h.2 x a).V (b.trans (g.mono b.size))) (c.2 x a).1 (k x a) l) (enters_of func126 (by kernel_rfl) rfl);have p:(ls.filter fun x=>DE (L.map AO.I) x.I).map LAt.I=(ls.map LAt.I).filter (DE (L.map AO.I)):=by rw[bO];rfl
 have s:=Aa (show ∀x∈ls.filter (fun x=>DE (L.map AO.I) x.I),x∈ls from fun x a=>(List.mem_filter.1 a).1);have C:(ls.filter (fun x=>DE (L.map AO.I) x.I)).length<=1048576:=aL (bF _ _) c.1;generalize ls.filter (fun x=>DE (L.map AO.I) x.I)=d at *;generalize (ls.map LAt.I).filter (DE (L.map AO.I))=H at *;have t:=Aa p;have D:=Aa h;have E:=Aa c;clear f k l p h c;generalize L.length=I at *;generalize ls.length=nl at *;go_enter func62,ntmps62;go_wp2_with (go_at_call 109;refine o.mono ?_)
 first | rintro e w2 v2 rfl o2 i | rintro e w2 ⟨v2,rfl,o2,i⟩
 have j:=b.trans (i.mono (by first | omega | (simp;done) | (simp;omega)))
 have u:=Aa (show An w2 v2 d from⟨AG o2,fun x a=>(D.out.2 x (s.out x a)).V j⟩);have y:=Aa (show Ah d from⟨C,fun x a=>E.out.2 x (s.out x a)⟩);obtain⟨a2,J,rfl,_⟩:=Ak o2;clear o o2 i;go_wp2;go_ret;first | exact⟨_,d,rfl,t.out,u.out,y.out,j⟩ | exact⟨_,rfl,d,t.out,u.out,y.out,j⟩
variable {W:World}{g:Nat}{u1 u2:Value}{bs:List BAt}
theorem Dt{d:Value}(a:Below B w W)(c:w.cell? ⟨g,0,aF⟩=aJ u1/\w.cell? ⟨g,1,aF⟩=aJ u2/\w.cell? ⟨g,2,aF⟩=aJ d)(b:g<B):W.cell? ⟨g,0,aF⟩=aJ u1/\W.cell? ⟨g,1,aF⟩=aJ u2/\W.cell? ⟨g,2,aF⟩=aJ d :=
 ⟨(a.cell (p:=⟨g,0,aF⟩) b).trans c.1,(a.cell (p:=⟨g,1,aF⟩) b).trans c.2.1,(a.cell (p:=⟨g,2,aF⟩) b).trans c.2.2⟩
noncomputable def GM(a:List Plain->List PLine->List PLine)(bs:List PBlock):List PBlock:=if AJ bs=true then bs.map (fun b=>⟨b.aa,b.name,a (rulesOf b.aa) b.ac⟩) else []
theorem BP(B:Nat)(w:World):Aq B w (aB aF 0 0) []:=Az.own1 (bI _ _ _ _)
theorem XP:(bL.info? 25).map (fun i=>(i.zero,i.size,i.bytes))=aJ (aJ (aS #[aB aF 0 0]),1,24):=by kernel_rfl
theorem AB:∃a,bL.info? 25=aJ a/\a.size=1:=by
 obtain⟨i,b,_,c,_⟩:=info_parts XP;exact⟨i,b,c⟩
theorem GY{F:FuncId}(l:List Plain->List PLine->List PLine)(O:As w v bs)(P:Ax bs)(ax:BJ w)(cj:∀args w,(callFunc F args).run prog w=.ok (.enter F args) w)
  (ay:AJ (bs.map BAt.I)=true->∀(W:World) (B:Nat) (vr:Value) (L:List AO) (x:BAt),x∈bs->L.map AO.I=rulesOf x.aa->AX B W vr L->An W x.v x.ls->Calls prog F #[vr,x.v] W fun e w'=>∃v' ls',e=aM v'/\ls'.map LAt.I=l (rulesOf x.aa) (x.ls.map LAt.I)/\An w' v' ls'/\Ah ls'/\Below W.heap.size W w') :
  Calls prog 60 #[aS #[v],.func (.func F) #[] #[]] w fun e w'=>∃v' bs',e=aM (aS #[v'])/\bs'.map BAt.I=GM l (bs.map BAt.I)/\Aq w.heap.size w' v' bs'/\Below w.heap.size w w':=by
 obtain⟨ao,Q,rfl⟩:=O.1.ae;have az:=P.1;generalize a0:bs.length=a at *;have R:=Aa a0;clear a0;have a1:=BO (w:=w) (cs:=#[aB ao a Q]) (ds:=#[aB aF 0 0]) (T:=25) (U:=25);have c0:=a1.1 0;simp only[aD,aC]at c0;clear a1;have S:Below w.heap.size w ((w.alloc (aE #[aB ao a Q] 25)).alloc (aE #[aB aF 0 0] 25)):=((aG _ _).alloc (aK _) _).alloc (by simp) _;have ae:=Al (w.alloc (aE #[aB ao a Q] 25)) (aE #[aB aF 0 0] 25);simp only[aT]at ae;have a2:=Cs (O.V S) P (ax.V S);have bv:=Aa O;have ck:=Aa P;have af:=Aa ay;clear O P ax ay;generalize a3:(w.alloc (aE #[aB ao a Q] 25)).alloc (aE #[aB aF 0 0] 25)=W0 at *;have cl:W0.heap.size=w.heap.size+2:=by rw[<-a3];simp
 go_enter func60,ntmps60;go_wp2_with (go_at_call 19;(try rw[a3]);refine a2.mono ?_)
 first | rintro e w1 rfl A | rintro e w1 ⟨rfl,A⟩
 have cm:=(A.cell (p:=⟨w.heap.size,0,aF⟩) (by simp;omega)).trans c0;have ag:=(A.block (w.heap.size+1) (by omega)).trans ae;have cn:=A.size;have t:=S.trans (A.mono S.size);clear a2 c0 ae;cases C:AJ (bs.map BAt.I)
 ·have E:=Aa (show ([]:List BAt).map BAt.I=GM l (bs.map BAt.I) from by unfold GM;rw[C];rfl);clear C af;go_wp2_with (with_reducible show wpList _ _ _ (aY _ (aX _ (aR 4) _) _ _ _ _::_) _ _;refine wpList_store_row rfl 25 _ _ rfl (w.heap.size+1) #[aB aF 0 0] ?_ ?_ 25 _ ag ?_ ?_ ?_ ?_)
  all_goals (first | rfl | kernel_rfl | exact AB | skip)
  have z5:(w1.setRow (w.heap.size+1) #[aB aF 0 0]).heap[w.heap.size+1]?=aJ (aE #[aB aF 0 0] 25 (0,0)):=setRow_heap _ _ _ _ _ _ ag
  have m:Below w.heap.size w (w1.setRow (w.heap.size+1) #[aB aF 0 0]) :=
   ⟨t.os,t.tape,t.output,by rw[setRow_size];exact t.size,fun k ah=>by rw[setRow_other _ _ _ _ (by omega)];exact t.block k ah⟩
  have h:=Ab z5 0;simp only[aD,aC]at h;generalize w1.setRow (w.heap.size+1) #[aB aF 0 0]=W at m h z5⊢;first | exact bodyPost_ret (v:=aS #[aB aF 0 0]) (by simp[results,results60,go_sem,h]) rfl ⟨_,[],rfl,E.out,BP _ _,m⟩ | exact bodyPost_ret (v:=aS #[aB aF 0 0]) (by simp[results,results60,go_sem,h]) rfl ⟨_,rfl,[],E.out,BP _ _,m⟩
 ·have a4:=Aa C;have co:a<=60:=by rw[<-R.out,<-bN (f:=BAt.I)];exact(A0.1 C).1
  clear C;obtain⟨i0,bw,bx,bz,b0⟩:=info_parts Bg;go_wp2;go_loopw [5,16] (fun q i wr=>∃(j:Nat) (done:List BAt),j<=a/\i=.int .i64 (j:Int)/\done.map BAt.I=((bs.take j).map BAt.I).map (fun b=>⟨b.aa,b.name,l (rulesOf b.aa) b.ac⟩)/\Aq (w.heap.size+2) wr q done/\Below (w.heap.size+2) w1 wr) (fun _ i _=>a-(intOf i).toNat)
  case atStart=>exact⟨0,[],by omega,rfl,by simp,BP _ _,aG _ _⟩
  case round =>
   obtain⟨j,done,cp,rfl,u,G,V⟩:=hrel;obtain⟨c,d,rfl,_⟩:=Ak G.row;have b1:done.length=j:=by have:=congrArg bG u;simp at this;have:=R.out;omega
   subst b1;have cq:=V.size;have z:=t.trans (V.mono (by omega));by_cases cr:done.length<a
   ·obtain⟨D,x,T,X,ai⟩:=AS bs done.length (by have:=R.out;omega);have Y:=bv.out.V z;have Z:x∈bs:=by rw[X];simp
    have aj:=Y;rw[X]at aj;obtain⟨g,off,rfl,b2,b3,b4⟩:=aj.1.block;rw[ai]at b2 b3 b4;have a5:=Aa (show ∀(v':Value) (ls':List LAt),ls'.map LAt.I=l (rulesOf x.aa) (x.ls.map LAt.I)->(done++[⟨x.aa,x.name,v',ls'⟩]:List BAt).map BAt.I=((bs.take (done.length+1)).map BAt.I).map (fun b=>⟨b.aa,b.name,l (rulesOf b.aa) b.ac⟩) from by
     intro v' ls' b5;rw[aO,u,X,<-ai,Bk,BG,aO,aO,aN,aN,aN];unfold BAt.I;rw[b5])
    have a6:=Aa (Y.2 x Z);have a7:=Aa (fun W B vr L=>af.out a4.out W B vr L x Z);obtain⟨xa,xc,b6⟩:=(Y.2 x Z).1.ae;have b7:=(aG wr.heap.size wr).alloc (aK _) (aE #[aA x.aa,aA x.name,aB xa x.ls.length xc] 46);have k0:=A3 (w:=wr) (cs:=#[aA x.aa,aA x.name,aB xa x.ls.length xc]) (T:=46) 0;have ak:=A3 (w:=wr) (cs:=#[aA x.aa,aA x.name,aB xa x.ls.length xc]) (T:=46) 1;have al:=A3 (w:=wr) (cs:=#[aA x.aa,aA x.name,aB xa x.ls.length xc]) (T:=46) 2;simp only[aD,aC,aH]at k0 ak al;have a8:=b7.drew;have am:(wr.alloc (aE #[aA x.aa,aA x.name,aB xa x.ls.length xc] 46)).drew.cell? ⟨wr.heap.size,0,aF⟩=aJ (aA x.aa)/\(wr.alloc (aE #[aA x.aa,aA x.name,aB xa x.ls.length xc] 46)).drew.cell? ⟨wr.heap.size,1,aF⟩=aJ (aA x.name)/\(wr.alloc (aE #[aA x.aa,aA x.name,aB xa x.ls.length xc] 46)).drew.cell? ⟨wr.heap.size,2,aF⟩=aJ (aB xa x.ls.length xc):=⟨k0,ak,al⟩;have a9:=Aa (show An (wr.alloc (aE #[aA x.aa,aA x.name,aB xa x.ls.length xc] 46)).drew x.v x.ls from An.V a6.out a8);have ba:=Cr x.aa (wr.alloc (aE #[aA x.aa,aA x.name,aB xa x.ls.length xc] 46)).drew;have ct:(wr.alloc (aE #[aA x.aa,aA x.name,aB xa x.ls.length xc] 46)).drew.heap.size=wr.heap.size+1:=by simp
    have bb:=Aa G;have cu:(0:Int)<=(done.length:Int):=by omega
    have i2:(done.length:Int)<(a:Int):=by omega
    obtain⟨xk,xn,xv,b8⟩:=x;simp only at *;subst b6;clear Y aj G u X ai Z k0 ak al a6;generalize cv:b8.length=nl at *;go_wp2
    go_region_held3 (fun W=>W.cell? ⟨wr.heap.size,0,aF⟩=aJ (aA xk)/\W.cell? ⟨wr.heap.size,1,aF⟩=aJ (aA xn)/\W.cell? ⟨wr.heap.size,2,aF⟩=aJ (aB xa nl xc))
     (first | exact am | exact aa | exact bc)
     (first
       | (go_at_call 29
          refine ba.mono ?_;rintro e bd ⟨vr,L,rfl,be,an,H⟩;have aa:=Dt H am (by omega);have bf:=a7.out bd _ vr L be an (a9.out.V H);obtain⟨cw,cx,rfl,_⟩:=Ak (show bd.ownsRow _ 54 4 vr L.length (L.flatMap AO.cells) from Az.head an))
       | (go_at_fn F
          refine bf.mono ?_;rintro e n ⟨cy,b9,rfl,bg,ap,bh,aq⟩;have bc:=Dt aq aa (by have:=H.size;omega)))
    obtain⟨cz,c1,rfl⟩:=ap.1.ae;have ca:=H.size;have c2:=aq.size;have bi:=aq.drew;have ab:=Dt bi aa (by omega);have bj:=CB (ap.V ((aG n.heap.size n).drew)) bh;have ar:Below wr.heap.size wr n.drew:=a8.trans ((H.trans (bi.mono ca)).mono (by omega));have au:Aq (w.heap.size+2) n.drew (aB c done.length d) done:=bb.out.V ar;have bk:w.heap.size+2<=n.drew.heap.size:=aL (by omega) ar.size;have bl:=Aa (show ∀r,Below n.drew.heap.size n.drew r->∀cs,(r.alloc (aE cs 46)).ownsRow (w.heap.size+2) 46 3 (aB c done.length d) done.length (done.flatMap BAt.cells) from fun r cb cs=>(AL au.row cb).alloc _);have bm:=Aa au;have ac:=Aa (show ∀(ad w3:World),ad.grownBy w3 (bD c done.length d).ownBlock->wr.heap.size<ad.heap.size->∀o,w3.cell? ⟨wr.heap.size,o,aF⟩=ad.cell? ⟨wr.heap.size,o,aF⟩ from fun ad w3 cc az o=>cc.cell_far _ az (fun e=>by have:=(bb.out.row.lt _ e.symm).2;simp at this));have cd:=Aa bg;clear ap bh bg au bf an be am aa bc ba a9 a7 af;generalize b9.length=c3 at *;go_wp2
    go_region_held3 (fun W=>W.cell? ⟨wr.heap.size,0,aF⟩=aJ (aA xk)/\W.cell? ⟨wr.heap.size,1,aF⟩=aJ (aA xn)/\W.cell? ⟨wr.heap.size,2,aF⟩=aJ (aB xa nl xc))
     (first | exact ab | exact bn | exact I | exact bo)
     (first
       | (go_at_call 94
          refine bj.mono ?_;rintro e r ⟨c4,s,rfl,ce,o7,J⟩;obtain⟨K,M,rfl,_⟩:=Ak o7.row;have av:=J.size;have bn:=Dt J ab (by simp;omega);have I:=Dt (J.alloc av (aE #[aA xk,aA xn,aB K s.length M] 46)) ab (by simp;omega))
       | (refine AC (by rfl) _ _ 23 (by rfl) (w.heap.size+2) 46 i0 _ 3 56 underlying23 bw bx bz b0 rfl (by decide) _ done.length _ (by rfl) (bl.out r J _) _ 1 _ (by rfl) (Bz r #[aA xk,aA xn,aB K s.length M] 46 3 rfl) (by intro y bp;simp at bp;rcases bp with rfl | rfl | rfl <;> rfl) (by unfold maxLen;omega) (by omega) (aL (aL bk av) (by simp)) ?_
          intro c5 c6 cf o8 N bq;have br:=Hp (x:=⟨xk,xn,aB K s.length M,s⟩) bm.out bk o7 J o8 N bq;have aw:wr.heap.size<(r.alloc (aE #[aA xk,aA xn,aB K s.length M] 46)).heap.size:=by simp at av⊢;omega
          have bo:=bC ((ac.out _ _ N aw 0).trans I.1) (bC ((ac.out _ _ N aw 1).trans I.2.1) ((ac.out _ _ N aw 2).trans I.2.2))))
    have cg:=Aa (a5.out (aB K s.length M) s (ce.trans cd.out));have ch:Below (w.heap.size+2) w1 cf:=V.trans ((ar.mono (by omega)).trans br.2);clear a5 bl bm ac ab bn I bo o7 o8 N bq bj;go_wp2;go_roundw;case rel=>exact⟨done.length+1,_,by omega,by go_num,cg.out,br.1,ch⟩
    case measure=>simp[intOf];omega
   ·have bt:done.length=a:=by omega
    have bu:bs.take done.length=bs:=by rw[bt,<-R.out,aQ]
    rw[bu]at u;have E:=Aa (show done.map BAt.I=GM l (bs.map BAt.I) from by unfold GM;rw[if_pos a4.out];exact u);have c7:¬((done.length:Int)<(a:Int)):=by omega
    have z2:=(V.block (w.heap.size+1) (by omega)).trans ag;have ci:=Aa G;clear G u bu bt;go_wp2_with (with_reducible show wpList _ _ _ (aY _ (aX _ (aR 4) _) _ _ _ _::_) _ _;refine wpList_store_row rfl 25 _ _ rfl (w.heap.size+1) #[aB c done.length d] ?_ ?_ 25 _ z2 ?_ ?_ ?_ ?_)
    all_goals (first | rfl | kernel_rfl | exact AB | skip)
    have z5:(wr.setRow (w.heap.size+1) #[aB c done.length d]).heap[w.heap.size+1]?=aJ (aE #[aB c done.length d] 25 (0,0)):=setRow_heap _ _ _ _ _ _ z2
    have m:Below w.heap.size w (wr.setRow (w.heap.size+1) #[aB c done.length d]) :=
     ⟨z.os,z.tape,z.output,by rw[setRow_size];exact z.size,fun k ah=>by rw[setRow_other _ _ _ _ (by omega)];exact z.block k ah⟩
    have o5:=(ci.out.setRow (w.heap.size+1) (by omega) #[aB c done.length d]).mono (show w.heap.size<=w.heap.size+2 by omega);have h:=Ab z5 0;simp only[aD,aC]at h;generalize wr.setRow (w.heap.size+1) #[aB c done.length d]=W at m h z5 o5⊢;first | exact bodyPost_ret (v:=aS #[aB c done.length d]) (by simp[results,results60,go_sem,h]) rfl ⟨_,done,rfl,E.out,o5,m⟩ | exact bodyPost_ret (v:=aS #[aB c done.length d]) (by simp[results,results60,go_sem,h]) rfl ⟨_,rfl,done,E.out,o5,m⟩
variable {w':World}
theorem KW{x:BAt}(h:AH w x)(o:Ah x.ls):Calls prog 105 #[aS #[aA x.aa,aA x.name,x.v]] w fun e w'=>∃v ls',e=aM (aS #[aA x.aa,aA x.name,v])/\ls'.map LAt.I=x.ls.map LAt.I/\A5 w.heap.size w' v ls'/\Below w.heap.size w w':=by
 obtain⟨c,d,p⟩:=h.1.ae;unfold AH at h;rw[p]at h⊢;have b0:Below w.heap.size w ((w.alloc (aE #[aA x.aa,aA x.name,aB c x.ls.length d] 46)).alloc (aE #[aA ⟨#[]⟩,aA ⟨#[]⟩,aB aF 0 0] 46)):=((aG _ _).alloc (aK _) _).alloc (by simp) _;have i:((w.alloc (aE #[aA x.aa,aA x.name,aB c x.ls.length d] 46)).alloc (aE #[aA ⟨#[]⟩,aA ⟨#[]⟩,aB aF 0 0] 46)).heap.size=w.heap.size+2:=by simp
 have j:((w.alloc (aE #[aA x.aa,aA x.name,aB c x.ls.length d] 46)).alloc (aE #[aA ⟨#[]⟩,aA ⟨#[]⟩,aB aF 0 0] 46)).heap[w.heap.size]?=aJ (aE #[aA x.aa,aA x.name,aB c x.ls.length d] 46 (0,0)):=by rw[Cj _ _ _ (by simp),Al]
 have q:((w.alloc (aE #[aA x.aa,aA x.name,aB c x.ls.length d] 46)).alloc (aE #[aA ⟨#[]⟩,aA ⟨#[]⟩,aB aF 0 0] 46)).heap[w.heap.size+1]?=aJ (aE #[aA ⟨#[]⟩,aA ⟨#[]⟩,aB aF 0 0] 46 (0,0)):=by
  have:=Al (w.alloc (aE #[aA x.aa,aA x.name,aB c x.ls.length d] 46)) (aE #[aA ⟨#[]⟩,aA ⟨#[]⟩,aB aF 0 0] 46)
  rwa [aT]at this
 have r:=KV (h.V b0) o;have s:=Ab j 2;simp only[aD,aC,aH]at s;generalize x.ls.map LAt.I=D at *;clear h p o;generalize x.ls.length=E at *;generalize x.aa=xk at *;generalize x.name=xn at *;go_enter func105,ntmps105;go_wp2_with (go_at_call 97;refine r.mono ?_)
 first | rintro e w2 v rfl ls' f o2 b | rintro e w2 v ls' rfl f o2 b | rintro e w2 ⟨v,ls',rfl,f,o2,b⟩
 first | rw[i]at o2 b | skip
 have z0:=(b.block w.heap.size (by omega)).trans j;have z:=(b.block (w.heap.size+1) (by omega)).trans q;have F:w.heap.size+2<=w2.heap.size:=by have:=b.size;rw[i]at this;exact this
 have g:=b0.trans (b.mono (by omega));have c0:=Ab z0 0;have A:=Ab z0 1;have c2:=Ab z0 2;have G:=Ad z0 2;simp only[aD,aC,aH]at c0 A c2;obtain⟨av,cv,rfl,_⟩:=Ak o2.row;have t:=Aa f;have B:=Aa o2;clear f o2;generalize ls'.length=a at *;have u:(w2.setCell ⟨w.heap.size,2,aF⟩ (aB av a cv)).heap[w.heap.size+1]?=aJ (aE #[aA ⟨#[]⟩,aA ⟨#[]⟩,aB aF 0 0] 46 (0,0)):=by rw[aV _ _ _ _ (by simp)];exact z
 clear r j q i s;go_wp2_with (with_reducible show wpList _ _ _ (aY _ (aX _ (aR 2) _) _ _ _ _::_) _ _;refine wpList_store_row rfl 46 _ _ rfl (w.heap.size+1) #[aA xk,aA xn,aB av a cv] ?_ ?_ 46 _ u ?_ ?_ ?_ ?_)
 all_goals (first | rfl | kernel_rfl | skip)
 have z5:((w2.setCell ⟨w.heap.size,2,aF⟩ (aB av a cv)).setRow (w.heap.size+1) #[aA xk,aA xn,aB av a cv]).heap[w.heap.size+1]?=aJ (aE #[aA xk,aA xn,aB av a cv] 46 (0,0)):=setRow_heap _ _ _ _ _ _ u;have o5:=((B.out.setCell ⟨w.heap.size,2,aF⟩ (by simp) (aB av a cv)).setRow (w.heap.size+1) (by omega) #[aA xk,aA xn,aB av a cv]).mono (show w.heap.size<=w.heap.size+2 by omega)
 have y:Below w.heap.size w ((w2.setCell ⟨w.heap.size,2,aF⟩ (aB av a cv)).setRow (w.heap.size+1) #[aA xk,aA xn,aB av a cv]) :=
  ⟨g.os,g.tape,g.output,by rw[setRow_size];simp;omega,fun k C=>by rw[setRow_other _ _ _ _ (by omega),aV _ _ _ _ (by simp;omega)];exact g.block k C⟩
 have l:=Ab z5 0;have m:=Ab z5 1;have n:=Ab z5 2;simp only[aD,aC,aH]at l m n;generalize (w2.setCell ⟨w.heap.size,2,aF⟩ (aB av a cv)).setRow (w.heap.size+1) #[aA xk,aA xn,aB av a cv]=W at *;first | exact bodyPost_ret (v:=aS #[aA xk,aA xn,aB av a cv]) (by simp[results,results105,go_sem,l,m,n]) rfl ⟨_,ls',rfl,t.out,o5,y⟩ | exact bodyPost_ret (v:=aS #[aA xk,aA xn,aB av a cv]) (by simp[results,results105,go_sem,l,m,n]) rfl ⟨_,rfl,ls',t.out,o5,y⟩
theorem AP(h:Below B w w')(p:Addr)(a:B<=p.block)(u:Value):Below B w (w'.setCell p u):=h.setCell (p:=p) a u
theorem Ac4{u:Value}(a:w.cell? ⟨g,0,aF⟩=aJ v)(b:w.frozen? ⟨g,0,aF⟩=false):(w.setCell ⟨g,0,aF⟩ u).cell? ⟨g,0,aF⟩=aJ u/\(w.setCell ⟨g,0,aF⟩ u).frozen? ⟨g,0,aF⟩=false :=
 ⟨World.cell?_setCell_same' _ _ _ (by rw[a];rfl),by rw[World.frozen?_setCell];exact b⟩
theorem ZK{p:Addr}(h:w.cell? p=aJ v/\w.frozen? p=false)(a:Below B w w')(b:p.block<B):w'.cell? p=aJ v/\w'.frozen? p=false:=⟨(a.cell b).trans h.1,(a.frozen b).trans h.2⟩
theorem Fw(h:As w v bs)(G:Ax bs):Calls prog 55 #[aS #[v]] w fun e w'=>∃v' bs',e=aM (aS #[v'])/\bs'.map BAt.I=bs.map BAt.I/\Aq w.heap.size w' v' bs'/\Below w.heap.size w w':=by
 obtain⟨ao,H,rfl⟩:=h.1.ae;have bm:=G.1;obtain⟨i0,ay,az,a0,a1⟩:=info_parts Bg;have b0:Below w.heap.size w (((w.alloc (aE #[aB ao bs.length H] 25)).alloc (aE #[aB aF 0 0] 25)).alloc (aE #[aB aF 0 0] 25)):=(((aG _ _).alloc (aK _) _).alloc (by simp) _).alloc (by simp;omega) _;obtain⟨a2,U,V,I⟩:=Ho (w:=w) (o1:=aE #[aB ao bs.length H] 25) (o2:=aE #[aB aF 0 0] 25) (o3:=aE #[aB aF 0 0] 25);have k0:=Ab U 0;have J:=Ab I 0;have X:=Ad I 0;simp only[aD,aC]at k0 J;generalize Y:bs.length=d at *;have K:=Aa Y;clear Y;have a3:=Aa h;have a4:=Aa G;clear h G U I;go_enter func55,ntmps55;go_wp2;go_loopw [4] (fun i wr=>∃(j:Nat) (done:List BAt) (a:Option Addr) (b:Nat),j<=d/\i=.int .i64 (j:Int)/\done.map BAt.I=(bs.take j).map BAt.I/\Aq (w.heap.size+3) wr (aB a done.length b) done/\Below w.heap.size w wr/\w.heap.size+3<=wr.heap.size/\wr.cell? ⟨w.heap.size,0,aF⟩=aJ (aB ao d H)/\wr.heap[w.heap.size+1]?=aJ (aE #[aB aF 0 0] 25 (0,0))/\wr.cell? ⟨w.heap.size+2,0,aF⟩=aJ (aB a done.length b)/\wr.frozen? ⟨w.heap.size+2,0,aF⟩=false) (fun i _=>d-(intOf i).toNat)
 case atStart=>exact⟨0,[],aF,0,by omega,rfl,by simp,BP _ _,b0,by simp,k0,V,J,X⟩
 case round =>
  obtain⟨j,done,a,b,bn,rfl,l,s,f,Z,c0,L,c2,aa⟩:=hrel;clear k0 J V X b0 a2;have a5:done.length=j:=by have:=congrArg bG l;simp at this;have:=K.out;omega
  subst a5;by_cases bo:done.length<d
  ·obtain⟨D,x,T,t,M⟩:=AS bs done.length (by have:=K.out;omega);have N:=a3.out.V f;have O:x∈bs:=by rw[t];simp
   have P:=N;rw[t]at P;obtain⟨g,off,rfl,ab,ac,ad⟩:=P.1.block;rw[M]at ab ac ad;have ae:=Aa (show ∀(v':Value) (ls':List LAt),ls'.map LAt.I=x.ls.map LAt.I->(done++[⟨x.aa,x.name,v',ls'⟩]:List BAt).map BAt.I=(bs.take (done.length+1)).map BAt.I from by
    intro v' ls' a6;rw[aO,l,t,<-M,Bk,BG,aO,aN,aN];unfold BAt.I;rw[a6])
   have Q:=N.2 x O;obtain⟨xa,xc,a7⟩:=Q.1.ae;have af:Below wr.heap.size wr wr.drew:=(aG _ _).drew;have ag:=KW (AH.V Q af) (a4.out.2 x O).2;have R:Aq (w.heap.size+3) wr.drew (aB a done.length b) done:=s.V af;have ah:=Aa (show ∀m,Below wr.heap.size wr.drew m->∀cs,(m.alloc (aE cs 46)).ownsRow (w.heap.size+3) 46 3 (aB a done.length b) done.length (done.flatMap BAt.cells) from fun m a8 cs=>(AL R.row a8).alloc _);have ai:=Aa R;have bp:(0:Int)<=(done.length:Int):=by omega
   have i2:(done.length:Int)<(d:Int):=by omega
   have z:(wr.drew).cell? ⟨w.heap.size+2,0,aF⟩=aJ (aB a done.length b)/\(wr.drew).frozen? ⟨w.heap.size+2,0,aF⟩=false:=⟨c2,aa⟩;obtain⟨xk,xn,xv,a9⟩:=x;simp only at *;subst a7;clear N P s l t M O Q R;generalize bq:a9.length=nl at *;go_wp2
   go_region_law (first
    | (refine AC (by rfl) _ _ 23 (by rfl) (w.heap.size+3) 46 i0 _ 3 56 underlying23 ay az a0 a1 rfl (by decide) _ done.length _ (by rfl) (ah.out m o _) _ 1 _ (by rfl) (Bz m #[aA xk,aA xn,aB A n.length B] 46 3 rfl) (by intro y aj;simp at aj;rcases aj with rfl | rfl | rfl <;> rfl) (by unfold maxLen;omega) (by omega) (aL (aL Z ak) (by simp)) ?_
       intro q r al o8 am an;have C:=Hp (x:=⟨xk,xn,aB A n.length B,n⟩) ai.out Z o7 o o8 am an;have ap:=ZK z C.2 (by simp);have ba:=ap.1;have bb:=ap.2)
    | (go_simp
       go_wp2_with (go_at_call 105;refine ag.mono ?_;rintro e m ⟨br,n,rfl,aq,o7,o⟩;obtain⟨A,B,rfl,_⟩:=Ak o7.row;have ak:=o.size;have ar:=ZK z o (by simp;omega);have bc:=ar.1;have bd:=(ZK z (o.alloc ak (aE #[aA xk,aA xn,aB A n.length B] 46)) (by simp;omega)).1)))
   all_goals
    have be:=Aa (ae.out (aB A n.length B) n aq);have bf:=Aa C.1;have E:=C.2;have bg:=E.size;have bh:=(World.cell?_setCell_far al ⟨w.heap.size+2,0,aF⟩ ⟨w.heap.size,0,aF⟩ (aB q (done.length+1) r) (by simp)).trans ((E.cell (p:=⟨w.heap.size,0,aF⟩) (by simp)).trans c0);have bi:(al.setCell ⟨w.heap.size+2,0,aF⟩ (aB q (done.length+1) r)).heap[w.heap.size+1]?=aJ (aE #[aB aF 0 0] 25 (0,0)):=by rw[aV _ _ _ _ (by simp)];exact(E.block (w.heap.size+1) (by omega)).trans L
    have au:=Aa (Ac4 (u:=aB q (done.length+1) r) ba bb);have bj:=(f.drew.trans (E.mono (show w.heap.size<=w.heap.size+3 by omega))).setCell (p:=⟨w.heap.size+2,0,aF⟩) (by simp) (aB q (done.length+1) r);clear ag ah ai ae z o7 o8 am an C aq ab ac ad c0 c2 aa ar bc bd;go_wp2;go_roundw;case rel=>exact⟨done.length+1,_,q,r,by omega,by go_num,be.out,by rw[aP];exact bf.out.setCell _ (by simp) _,bj,by simp at bg⊢;omega,bh,bi,by rw[aP];exact au.out.1,au.out.2⟩
    case measure=>simp[intOf];omega
  ·have av:done.length=d:=by omega
   have aw:bs.take done.length=bs:=by rw[av,<-K.out,aQ]
   rw[aw]at l;have bk:=Aa s;have ax:=Aa l;have bt:¬((done.length:Int)<(d:Int)):=by omega
   clear s l aw av;generalize done.length=c at *;go_wp2_with (with_reducible show wpList _ _ _ (aY _ (aX _ (aR 2) _) _ _ _ _::_) _ _;refine wpList_store_row rfl 25 _ _ rfl (w.heap.size+1) #[aB a c b] ?_ ?_ 25 _ L ?_ ?_ ?_ ?_)
   all_goals (first | rfl | kernel_rfl | exact AB | skip)
   have z5:(wr.setRow (w.heap.size+1) #[aB a c b]).heap[w.heap.size+1]?=aJ (aE #[aB a c b] 25 (0,0)):=setRow_heap _ _ _ _ _ _ L
   have S:Below w.heap.size w (wr.setRow (w.heap.size+1) #[aB a c b]) :=
    ⟨f.os,f.tape,f.output,by rw[setRow_size];exact f.size,fun k bl=>by rw[setRow_other _ _ _ _ (by omega)];exact f.block k bl⟩
   have o5:=(bk.out.setRow (w.heap.size+1) (by omega) #[aB a c b]).mono (show w.heap.size<=w.heap.size+3 by omega);have F:=Ab z5 0;simp only[aD,aC]at F;generalize wr.setRow (w.heap.size+1) #[aB a c b]=W at S F z5 o5⊢;first | exact bodyPost_ret (v:=aS #[aB a c b]) (by simp[results,results55,go_sem,F]) rfl ⟨_,done,rfl,ax.out,o5,S⟩ | exact bodyPost_ret (v:=aS #[aB a c b]) (by simp[results,results55,go_sem,F]) rfl ⟨_,rfl,done,ax.out,o5,S⟩
variable {va vb:Value}{ys:List (List UInt8)}
theorem Vh(xs ys:List (List UInt8)):(!decide (xs<ys) && !decide (ys<xs))=decide (xs=ys):=by
 by_cases h:xs=ys
 ·subst h;have:=FJ.irr xs;simp[this]
 ·by_cases h1:xs<ys
  ·simp[h,h1]
  ·by_cases a:ys<xs
   ·simp[h,a]
   ·exact absurd (FJ.tri _ _ h1 a) h
theorem Tg{xs:List (List UInt8)}(h1:Ap w va xs.length 1 (strs xs))(d:Ap w vb ys.length 1 (strs ys))(i:xs.length<=1048576)(j:ys.length<=1048576):Calls prog 91 #[va,vb] w fun e w'=>e=aM (.bool (decide (xs=ys)))/\Below w.heap.size w w':=by
 obtain⟨ao,ca,rfl⟩:=h1.ae;obtain⟨bo,cb,rfl⟩:=d.ae;have a:=fun W c=>IW (w:=W) (h1.V c) (d.V c) i j
 have f:=fun W c=>IW (w:=W) (d.V c) (h1.V c) j i
 have b:=Vh xs ys;generalize decide (xs=ys)=E at *;clear h1 d;generalize xs.length=n at *;generalize ys.length=m at *;cases k:decide (xs<ys)
 ·rw[k]at a b;go_enter func91,ntmps91;go_wp2_with (go_at_call 156;refine(a _ (aG _ _)).mono ?_)
  first | rintro e w2 rfl q rfl | rintro e w2 ⟨rfl,q,rfl⟩
  have g:Below w.heap.size w (w.drewN q):=below_drewN (aG _ _) q;have l:=f _ g;have h:=Aa b;clear a b;generalize decide (ys<xs)=p at *;go_wp2_with (go_at_call 156;refine l.mono ?_)
  first | rintro e w3 rfl o rfl | rintro e w3 ⟨rfl,o,rfl⟩
  clear f l;go_wp2;go_ret;exact⟨Au (by have:=h.out;simpa using this),below_drewN (aG _ _) _⟩
 ·rw[k]at a b;have h:=Aa b;clear f b;go_enter func91,ntmps91;go_wp2_with (go_at_call 156;refine(a _ (aG _ _)).mono ?_)
  first | rintro e w2 rfl q rfl | rintro e w2 ⟨rfl,q,rfl⟩
  have g:Below w.heap.size w (w.drewN q):=below_drewN (aG _ _) q;clear a;go_wp2;go_ret;exact⟨Au (by have:=h.out;simpa using this),g⟩
theorem Vt(h:AJ (bs.map BAt.I)=true){b:BAt}(a:b∈bs){x:LAt}(c:x∈b.ls):Bt (rulesOf b.aa) x.key≠aF:=by
 have h1:=((A0.1 h).2.1 b.I (aU a)).2.2.1 x.I (aU c);intro e;rw[show b.I.aa=b.aa from rfl,show x.I.key=x.key from rfl,Cq _ e]at h1;cases h1
theorem Qn(bs:List PBlock):trimS bs=GM (fun R ls=>ls.filter (DE R)) bs:=rfl
theorem Qo(n:As w v bs)(o:Ax bs)(A:BJ w):Calls prog 16 #[aS #[v]] w fun e w'=>∃v' bs',e=aM (aS #[v'])/\bs'.map BAt.I=trimS (bs.map BAt.I)/\Aq w.heap.size w' v' bs'/\Below w.heap.size w w':=by
 obtain⟨ao,d,rfl⟩:=n.1.ae;have f:Below w.heap.size w ((w.alloc (aE #[aB ao bs.length d] 25)).alloc (aE #[aB aF 0 0] 25)):=((aG _ _).alloc (aK _) _).alloc (by simp) _;have C:=BO (w:=w) (cs:=#[aB ao bs.length d]) (ds:=#[aB aF 0 0]) (T:=25) (U:=25);have c0:=C.1 0;simp only[aD,aC]at c0;have p:=Al (w.alloc (aE #[aB ao bs.length d] 25)) (aE #[aB aF 0 0] 25);simp only[aT]at p
 have q:=GY (F:=62) (fun R ls=>ls.filter (DE R)) (n.V f) o (A.V f) (enters_of func62 (by kernel_rfl) rfl)
  (fun I W B vr L x D i s J=>by
    have h:=Ow s (Ds _ i) J (o.2 x D).2 (fun y K=>by rw[i];exact Vt I D K) (fun r s=>(Np i s).1);rw[i]at h;exact h)
 rw[<-Qn]at q;generalize trimS (bs.map BAt.I)=O at *;clear n o A C;generalize bs.length=E at *;go_enter func16,ntmps16;go_wp2_with (go_at_call 60;refine q.mono ?_)
 first | rintro e w2 v2 rfl c j o2 l | rintro e w2 v2 c rfl j o2 l | rintro e w2 ⟨v2,c,rfl,j,o2,l⟩
 have t:Below ((w.alloc (aE #[aB ao E d] 25)).alloc (aE #[aB aF 0 0] 25)).heap.size ((w.alloc (aE #[aB ao E d] 25)).alloc (aE #[aB aF 0 0] 25)) w2:=by simpa using l
 have u:Aq (w.heap.size+2) w2 v2 c:=by simpa using o2
 have G:=(t.block (w.heap.size+1) (by simp)).trans p;have g:=f.trans (t.mono f.size);obtain⟨a,b,rfl,_⟩:=Ak u.row;have M:=Aa u;have H:=Aa j;clear q o2 u j l t c0 p f;generalize c.length=n2 at *;go_wp2_with (with_reducible show wpList _ _ _ (aY _ (aX _ (aR 2) _) _ _ _ _::_) _ _;refine wpList_store_row rfl 25 _ _ rfl (w.heap.size+1) #[aB a n2 b] ?_ ?_ 25 _ G ?_ ?_ ?_ ?_)
 all_goals (first | rfl | kernel_rfl | exact AB | skip)
 have z5:(w2.setRow (w.heap.size+1) #[aB a n2 b]).heap[w.heap.size+1]?=aJ (aE #[aB a n2 b] 25 (0,0)):=setRow_heap _ _ _ _ _ _ G
 have z:Below w.heap.size w (w2.setRow (w.heap.size+1) #[aB a n2 b]) :=
  ⟨g.os,g.tape,g.output,by rw[setRow_size];exact g.size,fun k N=>by rw[setRow_other _ _ _ _ (by omega)];exact g.block k N⟩
 have o5:=(M.out.setRow (w.heap.size+1) (by omega) #[aB a n2 b]).mono (show w.heap.size<=w.heap.size+2 by omega);have m:=Ab z5 0;simp only[aD,aC]at m;generalize w2.setRow (w.heap.size+1) #[aB a n2 b]=W at z m z5 o5⊢;first | exact bodyPost_ret (v:=aS #[aB a n2 b]) (by simp[results,results16,go_sem,m]) rfl ⟨_,c,rfl,H.out,o5,z⟩ | exact bodyPost_ret (v:=aS #[aB a n2 b]) (by simp[results,results16,go_sem,m]) rfl ⟨_,rfl,c,H.out,o5,z⟩
theorem VM(x:LAt)(rk:ByteArray)(g:Nat)(f:∃a n c,x.v=aB a n c)(b:w.cell? ⟨g,0,aF⟩=aJ (aA rk)):Calls prog 167 #[aS #[aA x.key,x.v],aW (aJ ⟨g,0,aF⟩)] w fun e w'=>e=aM (.bool (x.key.toList==rk.toList))/\Below w.heap.size w w':=by
 obtain⟨a,n,c,h⟩:=f;rw[h];have d:=(aG w.heap.size w).alloc (aK _) (aE #[aA x.key,aB a n c] 115);have i:=(d.cell (aI w _ b)).trans b;have k0:=A3 (w:=w) (cs:=#[aA x.key,aB a n c]) (T:=115) 0;simp only[aD,aC]at k0;generalize x.key=xk at *;go_enter func167,ntmps167;go_wp2;go_ret;exact⟨rfl,d⟩
def Ka(ls:List LAt)(k:ByteArray)(j:Nat):Prop:=∀x∈ls.take j,(x.key.toList==k.toList)=false
def Afa(b:Bool)(w:World)(e:Ending)(w':World):Prop:=(∃n:Int,e=aM (.int .i64 n)/\(decide (n≥0))=b)/\Below w.heap.size w w'
theorem NJ(key:ByteArray)(g:Nat)(h:An w v ls)(G:ls.length<=1048576)(q:w.cell? ⟨g,0,aF⟩=aJ (aA key)):Calls prog 220 #[v,.func (.func 167) #[] #[aW (aJ ⟨g,0,aF⟩)]] w fun e w'=>Afa (hasK (ls.map LAt.I) key) w e w':=by
 obtain⟨ao,H,rfl⟩:=h.1.ae;generalize z:ls.length=n at *;have A:=Aa z;clear z;go_enter func220,ntmps220;go_wp2;go_loopw [8] (fun i wr=>∃j:Nat,j<=n/\i=.int .i64 (j:Int)/\Below w.heap.size w wr/\Ka ls key j) (fun i _=>n-(intOf i).toNat)
 case atStart=>exact⟨0,by omega,rfl,aG _ _,by simp[Ka]⟩
 case round =>
  obtain⟨j,I,rfl,c,a⟩:=hrel;by_cases J:j<n
  ·obtain⟨D,x,T,f,l⟩:=AS ls j (by have:=A.out;omega);have r:=h.V c;have s:x∈ls:=by rw[f];simp
   have t:=r;rw[f]at t;obtain⟨b,off,rfl,c0,B⟩:=t.1.line;obtain⟨K,L,C⟩:=Ap.ae (r.2 x s);have u:wr.cell? ⟨g,0,aF⟩=aJ (aA key):=(c.cell (aI w _ q)).trans q;have d:=VM x key g ⟨_,_,_,C⟩ u;rw[C]at d B;rw[l]at c0 B;have E:(0:Int)<=(j:Int):=by omega
   have i2:(j:Int)<(n:Int):=by omega
   cases k:(x.key.toList==key.toList)
   ·have m:=Aa (show Ka ls key (j+1) from by
     unfold Ka at a⊢;rw[f,<-l,Bk]at a;rw[f,<-l,BG];intro y o;rcases List.mem_append.1 o with o | o
     ·exact a y o
     ·rw[bJ.1 o];exact k)
    rw[k]at d;clear h r t a q u f l s k;go_wp2_with (go_at_call 167;refine d.mono ?_)
    first | rintro e w1 rfl p | rintro e w1 ⟨rfl,p⟩
    clear d;go_wp2;go_roundw;case rel=>exact⟨j+1,by omega,by go_num,c.trans (p.mono c.size),m.out⟩
    case measure=>simp[intOf];omega
   ·have m:=Aa (show hasK (ls.map LAt.I) key=true from by
     unfold hasK;rw[bQ,List.any_eq_true];exact⟨x,s,k⟩)
    rw[k]at d;clear h r t a q u f l s k;go_wp2_with (go_at_call 167;refine d.mono ?_)
    first | rintro e w1 rfl p | rintro e w1 ⟨rfl,p⟩
    clear d;go_wp2;go_ret;exact⟨⟨(j:Int),rfl,by rw[m.out];exact decide_eq_true E⟩,c.trans (p.mono c.size)⟩
  ·obtain rfl:j=n:=by omega
   have m:=Aa (show hasK (ls.map LAt.I) key=false from by
    unfold hasK;rw[bQ,List.any_eq_false];unfold Ka at a;rw[<-A.out,aQ]at a;intro x F;have:=a x F;show ¬(x.key.toList==key.toList)=true
    rw[this];decide)
   clear a h;go_wp2;go_ret;exact⟨⟨-1,rfl,by rw[m.out];rfl⟩,c⟩
theorem Kb(key:ByteArray)(g:Nat)(h:An w v ls)(c:ls.length<=1048576)(a:w.cell? ⟨g,0,aF⟩=aJ (aA key)):Calls prog 166 #[v,.func (.func 167) #[] #[aW (aJ ⟨g,0,aF⟩)]] w fun e w'=>e=aM (.bool (hasK (ls.map LAt.I) key))/\Below w.heap.size w w':=by
 have b:=NJ key g h c a;generalize hasK (ls.map LAt.I) key=K at *;clear h a;obtain⟨v0,d⟩:∃v0,v0=v:=⟨_,rfl⟩;subst d;go_enter func166,ntmps166;go_wp2_with (go_at_call 220;refine b.mono ?_)
 rintro e w1 ⟨⟨n,rfl,f⟩,i⟩;clear b;subst f;go_wp2;go_ret;exact⟨rfl,i⟩
theorem Je(key:ByteArray)(h:An w v ls)(d:ls.length<=1048576):Calls prog 111 #[v,aA key] w fun e w'=>e=aM (.bool (hasK (ls.map LAt.I) key))/\Below w.heap.size w w':=by
 have a:=(aG w.heap.size w).alloc (aK _) (aE #[aA key] 9);have k0:=A3 (w:=w) (cs:=#[aA key]) (T:=9) 0;simp only[aD,aC]at k0;have b:=Kb key w.heap.size (h.V a) d k0;generalize hasK (ls.map LAt.I) key=K at *;clear h;go_enter func111,ntmps111;go_wp2_with (go_at_call 166;refine b.mono ?_)
 first | rintro e w1 rfl c | rintro e w1 ⟨rfl,c⟩
 clear b;go_wp2;go_ret;exact⟨rfl,a.trans (c.mono (by simp))⟩
theorem NK(h:An w v ls)(E:ls.length<=1048576):Calls prog 124 #[v] w fun e w'=>∃ao g,e=aM (aB ao ls.length g)/\w'.ownsRow w.heap.size 115 2 (aB ao ls.length g) ls.length (ls.flatMap LAt.cells)/\Below w.heap.size w w':=by
 have m:=Cy (fun x o=>by obtain⟨a,c,e⟩:=Ap.ae (h.2 x o);exact⟨a,_,c,e⟩);have F:(ls.flatMap LAt.cells).length=ls.length*2:=Bn _ 2 LAt.len ls;replace h:=h.1;obtain⟨ao,g,rfl⟩:=h.ae;generalize ls.flatMap LAt.cells=xs at *;generalize ls.length=n at *;obtain⟨i0,p,q,r,s⟩:=info_parts CK;have G:∀(w:World) (a:Option Addr) (n c n' d:Nat),(binOp .eql 44 (aB a n c) (aB aF n' d)).run prog w=.ok (.bool a.isNone) w:=fun w a n c n' d=>Lib.run_eql_slice_nil w _ _ a n c n' d underlying44
 cases ao with
 | none =>
  have f:n=0:=by
   obtain⟨_,j,d,t,_,u⟩:=h;cases t
   rcases u with f | ⟨b,off,e,_⟩
   ·exact f
   ·cases e
  have y:w.ownsRow w.heap.size 115 2 (aB aF n 0) n xs:=LH f (by omega);clear h;subst f;go_enter func124,ntmps124;go_wp2;go_ret;exact⟨aF,0,rfl,y,aG _ _⟩
 | some a =>
  have b0:=(aG w.heap.size w).alloc (aK _) (aE #[] 115);have h1:=h.V b0;have i:=World.ownsRow_lit (base:=w.heap.size) (e:=115) (size:=2) w #[] 0 (aK _) (by decide) rfl;clear h;go_enter func124,ntmps124;go_wp2_with (at_builtin;refine A8 (by rfl) _ _ 44 (by rfl) w.heap.size 115 i0 _ 2 40 underlying44 p q r s rfl (by decide) _ 0 [] (by rfl) i _ n xs (by rfl) h1 m ?c3 ?c4 (by simp) ?_)
  case c3=>unfold maxLen;omega
  case c4=>omega
  intro j z w1 A l B;have C:=b0.grown l (by simp) (fun k D=>(i.lt k D).1);clear h1 i B l;go_wp2;go_ret;exact⟨j,z,rfl,by simpa using A,C⟩
theorem Od(G:As w v bs)(H:Ax bs):Calls prog 129 #[v] w fun e w'=>∃v' bs',e=aM v'/\bs'.map BAt.I=bs.map BAt.I/\Aq w.heap.size w' v' bs'/\Below w.heap.size w w':=by
 obtain⟨ao,a8,rfl⟩:=G.1.ae;have Q:=H.1;generalize R:bs.length=c at *;have I:=Aa R;clear R;have ak:=Aa G;have al:=Aa H;clear G H;obtain⟨i0,am,an,ap,aq⟩:=info_parts Bg;go_enter func129,ntmps129;go_wp2;go_loopw [3,8] (fun q i wr=>∃(j:Nat) (done:List BAt),j<=c/\i=.int .i64 (j:Int)/\done.map BAt.I=(bs.take j).map BAt.I/\Aq w.heap.size wr q done/\Below w.heap.size w wr) (fun _ i _=>c-(intOf i).toNat)
 case atStart=>exact⟨0,[],by omega,rfl,by simp,BP _ _,aG _ _⟩
 case round =>
  obtain⟨j,done,a9,rfl,d,f,h⟩:=hrel;obtain⟨s,t,rfl,_⟩:=Ak f.row;have ar:done.length=j:=by have:=congrArg bG d;simp at this;have:=I.out;omega
  subst ar;have ba:=h.size;by_cases bb:done.length<c
  ·obtain⟨D,x,T,u,J⟩:=AS bs done.length (by have:=I.out;omega);have z:=ak.out.V h;have A:x∈bs:=by rw[u];simp
   have K:=z;rw[u]at K;obtain⟨g,off,rfl,au,av,aw⟩:=K.1.block;rw[J]at au av aw;have S:=Aa (show ∀(v':Value) (ls':List LAt),ls'.map LAt.I=x.ls.map LAt.I->(done++[⟨x.aa,x.name,v',ls'⟩]:List BAt).map BAt.I=(bs.take (done.length+1)).map BAt.I from by
    intro v' ls' ax;rw[aO,d,u,<-J,Bk,BG,aO,aN,aN];unfold BAt.I;rw[ax])
   have U:=Aa (z.2 x A);have V:=Aa (al.out.2 x A).2;obtain⟨xa,xc,ay⟩:=(z.2 x A).1.ae;have az:=(aG wr.heap.size wr).alloc (aK _) (aE #[aA x.aa,aA x.name,aB xa x.ls.length xc] 46);have k0:=A3 (w:=wr) (cs:=#[aA x.aa,aA x.name,aB xa x.ls.length xc]) (T:=46) 0;have L:=A3 (w:=wr) (cs:=#[aA x.aa,aA x.name,aB xa x.ls.length xc]) (T:=46) 1;have M:=A3 (w:=wr) (cs:=#[aA x.aa,aA x.name,aB xa x.ls.length xc]) (T:=46) 2;simp only[aD,aC,aH]at k0 L M;have B:=az.drew;have C:(wr.alloc (aE #[aA x.aa,aA x.name,aB xa x.ls.length xc] 46)).drew.cell? ⟨wr.heap.size,0,aF⟩=aJ (aA x.aa)/\(wr.alloc (aE #[aA x.aa,aA x.name,aB xa x.ls.length xc] 46)).drew.cell? ⟨wr.heap.size,1,aF⟩=aJ (aA x.name)/\(wr.alloc (aE #[aA x.aa,aA x.name,aB xa x.ls.length xc] 46)).drew.cell? ⟨wr.heap.size,2,aF⟩=aJ (aB xa x.ls.length xc):=⟨k0,L,M⟩;have X:=CB (show An (wr.alloc (aE #[aA x.aa,aA x.name,aB xa x.ls.length xc] 46)).drew x.v x.ls from An.V U.out B) V.out;have bc:(wr.alloc (aE #[aA x.aa,aA x.name,aB xa x.ls.length xc] 46)).drew.heap.size=wr.heap.size+1:=by simp
   have a0:=Aa f;have bd:(0:Int)<=(done.length:Int):=by omega
   have i2:(done.length:Int)<(c:Int):=by omega
   obtain⟨xk,xn,xv,k⟩:=x;simp only at *;subst ay;have N:Aq w.heap.size (wr.alloc (aE #[aA xk,aA xn,aB xa k.length xc] 46)).drew (aB s done.length t) done:=f.V B;have Y:w.heap.size<=(wr.alloc (aE #[aA xk,aA xn,aB xa k.length xc] 46)).drew.heap.size:=aL (by omega) B.size;have Z:=Aa (show ∀a,Below (wr.alloc (aE #[aA xk,aA xn,aB xa k.length xc] 46)).drew.heap.size (wr.alloc (aE #[aA xk,aA xn,aB xa k.length xc] 46)).drew a->∀cs,(a.alloc (aE cs 46)).ownsRow w.heap.size 46 3 (aB s done.length t) done.length (done.flatMap BAt.cells) from fun a a1 cs=>(AL N.row a1).alloc _);have aa:=Aa N;have E:=Aa (show ∀(F w3:World),F.grownBy w3 (bD s done.length t).ownBlock->wr.heap.size<F.heap.size->∀o,w3.cell? ⟨wr.heap.size,o,aF⟩=F.cell? ⟨wr.heap.size,o,aF⟩ from fun F w3 a2 Q o=>a2.cell_far _ Q (fun e=>by have:=(a0.out.row.lt _ e.symm).2;simp at this));clear z K f d u J A k0 L M U N V;generalize a3:k.length=nl at *;clear a3;go_wp2
   go_region_held3 (fun W=>W.cell? ⟨wr.heap.size,0,aF⟩=aJ (aA xk)/\W.cell? ⟨wr.heap.size,1,aF⟩=aJ (aA xn)/\W.cell? ⟨wr.heap.size,2,aF⟩=aJ (aB xa nl xc))
    (first | exact C | exact ab | exact l | exact ac)
    (first
      | (go_at_call 94
         refine X.mono ?_;rintro e a ⟨be,b,rfl,a4,o7,m⟩;obtain⟨n,p,rfl,_⟩:=Ak o7.row;have O:=m.size;have ab:=Dt m C (by simp);have l:=Dt (m.alloc O (aE #[aA xk,aA xn,aB n b.length p] 46)) C (by simp))
      | (refine AC (by rfl) _ _ 23 (by rfl) w.heap.size 46 i0 _ 3 56 underlying23 am an ap aq rfl (by decide) _ done.length _ (by rfl) (Z.out a m _) _ 1 _ (by rfl) (Bz a #[aA xk,aA xn,aB n b.length p] 46 3 rfl) (by intro y ad;simp at ad;rcases ad with rfl | rfl | rfl <;> rfl) (by unfold maxLen;omega) (by omega) (aL (aL Y O) (by simp)) ?_
         intro bf bg a5 o8 r ae;have af:=Hp (x:=⟨xk,xn,aB n b.length p,b⟩) aa.out Y o7 m o8 r ae;have P:wr.heap.size<(a.alloc (aE #[aA xk,aA xn,aB n b.length p] 46)).heap.size:=by simp at O⊢;omega
         have ac:=bC ((E.out _ _ r P 0).trans l.1) (bC ((E.out _ _ r P 1).trans l.2.1) ((E.out _ _ r P 2).trans l.2.2))))
   have a6:=Aa (S.out (aB n b.length p) b a4);have a7:Below w.heap.size w a5:=h.trans ((B.mono (by omega)).trans af.2);clear S Z aa E C ab l ac o7 o8 r ae X;go_wp2;go_roundw;case rel=>exact⟨done.length+1,_,by omega,by go_num,a6.out,af.1,a7⟩
   case measure=>simp[intOf];omega
  ·have ag:done.length=c:=by omega
   have ah:bs.take done.length=bs:=by rw[ag,<-I.out,aQ]
   rw[ah]at d;have ai:=Aa d;have bh:¬((done.length:Int)<(c:Int)):=by omega
   have aj:=Aa f;clear f d ah ag;go_wp2;exact bodyPost_ret (v:=aB s done.length t) (by simp[results,results129,go_sem]) rfl (by first | exact⟨_,done,rfl,ai.out,aj.out,h⟩ | exact⟨_,rfl,done,ai.out,aj.out,h⟩)
variable {n i:Nat}{xs:List Value}{D T:List BAt}
theorem Wn(w:World)(g:TypeId)(b o c:Nat)(d:w.there b o 3):(bK #[23] g #[aB (aJ ⟨b,o,aF⟩) 1 c]).run prog w=.ok (.tuple #[]) (w.setCells b o [aA ⟨#[]⟩,aA ⟨#[]⟩,aB aF 0 0]):=by
 obtain⟨i0,h,i,m,n⟩:=info_parts Bg;have k:(zeroValue 46).run prog w=.ok (aS #[aA ⟨#[]⟩,aA ⟨#[]⟩,aB aF 0 0]) w:=by simp[zeroValue,typeInfo,h,i]
 have e:=run_storeCells_cells (P:=prog) b o [aA ⟨#[]⟩,aA ⟨#[]⟩,aB aF 0 0] 0 w (fun j a=>by rw[bE];exact(d j (by simpa using a)).1) (fun j a=>by rw[bE];exact(d j (by simpa using a)).2) (by intro v f;simp at f;rcases f with rfl | rfl | rfl <;> rfl)
 simp only[bE]at e;have l:(Builtin.zeroCells (Value.agg #[aA ⟨#[]⟩,aA ⟨#[]⟩,aB aF 0 0]).cells 1).toList=[aA ⟨#[]⟩,aA ⟨#[]⟩,aB aF 0 0]:=by kernel_rfl
 simp[bK,run_underlying underlying23,k,l,e]
theorem Ut{cap:Nat}{ys:List Value}(h:w.ownsRow B 46 3 (aB (aJ ⟨g,0,aF⟩) (n+1) cap) (n+1) xs)(a:xs.take (n*3)=ys):w.ownsRow B 46 3 (aB (aJ ⟨g,0,aF⟩) n cap) n ys:=by
 obtain⟨b,h⟩:=h;rcases h with ⟨h,_⟩ | ⟨l,m,c,d,e,f,o,i,j,k⟩
 ·cases h
 ·cases d
  refine⟨?_,.inr ⟨g,cap,c,rfl,e,f,by omega,i,j,?_⟩⟩
  ·rw[<-a,bM,b];omega
  ·rw[<-a,<-k,List.take_take,Nat.min_eq_left (by omega)]
theorem Wo{cap:Nat}{x:BAt}(h:w.ownsRow B 46 3 (aB (aJ ⟨g,0,aF⟩) (n+1) cap) (n+1) ((D++x::T).flatMap BAt.cells))(k:(D++x::T).length=n+1)(r:D.length=i)(s:∀y∈D++x::T,∃a m c,y.v=aB a m c):
  Calls prog 174 #[aB (aJ ⟨g,0,aF⟩) (n+1) cap,.int .i64 (i:Int),.int .i64 ((i:Int)+1)] w fun e w'=>e=aM (aB (aJ ⟨g,0,aF⟩) n cap)/\w'.ownsRow B 46 3 (aB (aJ ⟨g,0,aF⟩) n cap) n ((D++T).flatMap BAt.cells)/\w.grownBy w' (aJ g):=by
 obtain⟨i0,O,af,P,ag⟩:=info_parts Bg;have Q:n+1<=cap/\cap<=maxLen:=(AG h).cap;have z:T.length=n-i:=by simp at k;omega
 have ah:i<=n:=by simp at k;omega
 have b:(T.flatMap BAt.cells).length=(n-i)*3:=by rw[Bn BAt.cells 3 BAt.len,z]
 have d:(D.flatMap BAt.cells).length=i*3:=by rw[Bn BAt.cells 3 BAt.len,r]
 have R:=Aa (Fu (bs:=T) (fun y S=>s y (by simp[S])));obtain⟨ys,l,C,E⟩:=BT (T.flatMap BAt.cells) (0+i*3) w.drew _ (show w.drew.ownsRow B 46 3 (aB (aJ ⟨g,0,aF⟩) (n+1) cap) (n+1) ((D++x::T).flatMap BAt.cells) from h);have o:(D++x::T).flatMap BAt.cells=D.flatMap BAt.cells++(x.cells++T.flatMap BAt.cells):=by simp
 have F:D.flatMap BAt.cells++(x.cells++T.flatMap BAt.cells)=D.flatMap BAt.cells++(x.cells++T.flatMap BAt.cells).take ((n-i)*3)++(x.cells++T.flatMap BAt.cells).drop ((n-i)*3):=by rw[List.append_assoc,List.take_append_drop]
 have p:(x.cells++T.flatMap BAt.cells).length=(n-i)*3+3:=by rw[aP,b,BAt.len];omega
 have G:ys=D.flatMap BAt.cells++T.flatMap BAt.cells++(x.cells++T.flatMap BAt.cells).drop ((n-i)*3):=E _ _ _ (o.trans F) (by rw[d];omega) (by rw[bM,p,b];omega);obtain⟨U,H,I,J⟩:=BT [aA ⟨#[]⟩,aA ⟨#[]⟩,aB aF 0 0] (n*3) _ _ l;have q:(D.flatMap BAt.cells++T.flatMap BAt.cells).length=n*3:=by rw[aP,d,b];omega
 have K:U=(D.flatMap BAt.cells++T.flatMap BAt.cells)++[aA ⟨#[]⟩,aA ⟨#[]⟩,aB aF 0 0]++[]:=J (D.flatMap BAt.cells++T.flatMap BAt.cells) ((x.cells++T.flatMap BAt.cells).drop ((n-i)*3)) [] (by rw[bP];exact G) q (by rw[List.length_drop,p];simp);have V:=Aa (Ut (ys:=(D++T).flatMap BAt.cells) H (by rw[K,bP,bH,<-q,List.take_left]));have f:=Ar C I;have W:=Aa (show w.grownBy _ (aJ g) from⟨f.os,f.tape,f.output,f.size,f.block⟩);clear f;have L:=CJ l (n*3) 3 (by omega);have X:=Aa (show ∀t,t<(T.flatMap BAt.cells).length->(w.drew.cell? ⟨g,0+i*3+t,aF⟩).isSome=true/\w.drew.frozen? ⟨g,0+i*3+t,aF⟩=false from fun t Y=>CJ (show w.drew.ownsRow B 46 3 (aB (aJ ⟨g,0,aF⟩) (n+1) cap) (n+1) _ from h) (0+i*3) ((n-i)*3) (by omega) t (by rw[<-b];exact Y));have M:=Aa (show ∀t u,(T.flatMap BAt.cells)[t]?=aJ u->w.cell? ⟨g,(i+1)*3+t,aF⟩=aJ u from fun t u j=>by
  have:=h.cells rfl ((i+1)*3+t) u (by rw[o,aZ (by rw[d];omega),aZ (by rw[d,BAt.len];omega),d,BAt.len,show (i+1)*3+t-i*3-3=t by omega];exact j);simpa [Ge] using this)
 obtain⟨A,ai,Z⟩:∃A:Addr,(if cap=i+1 then aJ (⟨g,0,aF⟩:Addr) else aJ ⟨g,(i+1)*3,aF⟩)=aJ A/\Hid (∀t u,(T.flatMap BAt.cells)[t]?=aJ u->w.drew.cell? (A.add t)=aJ u):=by
  by_cases N:cap=i+1
  ·refine⟨⟨g,0,aF⟩,by simp[N],Aa fun t u j=>?_⟩;have aa:(T.flatMap BAt.cells).length=0:=by rw[b];omega
   rw[List.length_eq_zero_iff.1 aa]at j;simp at j
  ·exact⟨⟨g,(i+1)*3,aF⟩,by simp[N],Aa fun t u j=>by rw[Ge];exact M.out t u j⟩
 have ab:=Aa b;have aj:=fun ac=>Wn (w.drew.setCells g (0+i*3) (T.flatMap BAt.cells)) ac g (n*3) (cap-n) L
 have ak:cap<=9223372036854775807:=Q.2;have al:(0:Int)<=(i:Int):=by omega
 have am:(i:Int)<=(i:Int)+1:=by omega
 have an:(i:Int)+1<=(n:Int)+1:=by omega
 have ao:(n:Int)+1<=(cap:Int):=by omega
 have ap:(i:Int)<=(cap:Int):=by omega
 have aq:(i:Int)+1<=(cap:Int):=by omega
 have ad:¬((i:Int)=(i:Int)+1):=by omega
 have ar:((i:Int)==(i:Int)+1)=false:=by simpa using ad
 have au:((i:Int)+1).toNat=i+1:=by omega
 have av:¬(cap=n):=by omega
 have aw:(0:Int)<=(i:Int)+1:=by omega
 have mixed:bL.follows .mixedOrders=true:=by kernel_rfl
 clear l C E G H I J K F o p d q b k r z s h M L;go_enter func174,ntmps174;go_wp2_with fail
 generalize ae:w.drew.setCells g (0+i*3) (T.flatMap BAt.cells)=W1 at *;go_region_law_o (refine step_append_room rfl (.tmp 22) (.tmp 25) 23 rfl 46 i0 3 underlying23 O P g 0 i cap (by simp[Act.eval,Act.put]) A (n-i) (cap-(i+1)) (T.flatMap BAt.cells) (by simp[Act.eval,Act.put]) ab.out Z.out R.out (by omega) X.out ?_;rw[ae])
 go_wp2;exact bodyPost_ret (v:=aB (aJ ⟨g,0,aF⟩) n cap) (by simp[results,results174,go_sem]) rfl ⟨rfl,V.out,W.out⟩
