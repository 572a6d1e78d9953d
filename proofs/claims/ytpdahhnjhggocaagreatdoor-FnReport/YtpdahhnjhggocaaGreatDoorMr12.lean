import Derived.Test.YtpdahhnjhggocaaGreatDoorMr9
import Derived.Test.YtpdahhnjhggocaaGreatDoorMr11
open Go.Proofs.Tryz
open Go.Value renaming string->aA,slice->aB,pointer->aN,agg->aQ,slice->bH
open Go.World renaming block_lt_of_cell?->aC,size_alloc->aP,ownsRow_lit->bD,setRow->bM
open List renaming getElem?_cons_zero->aD,getElem?_toArray->aG,getElem?_cons_succ->aI,setIfInBounds_toArray->aO,flatMap_append->aU,set_cons_zero->aV,set_cons_succ->aW,mem_singleton->aY,flatMap_singleton->aZ,mem_append->bA,map_append->bB,length_map->bC,map_cons->bE,take_of_length_le->bI,take_length->bK,map_nil->bN,map_singleton->bS,map_toArray->bW,mem_cons_self->bY,length_append->bZ,append_assoc->cB,append_nil->cD,getElem?_append_right->cG,mem_cons->cI,length_eq_zero_iff->cK,length_filter_le->cN,mem_append_left->cO,filter_append->cS,take_left->cW,drop_left->cX
open Go.Obj renaming cells->aE
open Option renaming none->aF,some->aH,map_some->cU
open Nat renaming le_refl->aJ,zero_add->bQ,le_trans->cL,add_zero->cM,zero_le->cQ
open Go renaming execOp->aK,wpList_store_row->bF,bodyPost_ret->bG,heap_setCell_same->bL,wpQuiet_nil->bO,setRow_heap->bP,setRow_other->bT,maxLen->bU,info_parts->bV,setRow_size->bX,results->cA,Ending->cH,wpList->cT,resolve->cY
open Go.RowKit.Below renaming refl->aL,heap_setCell->cR
open Array renaming getElem?_eq_some_iff->aM
open Go.Ending renaming returned->aR
open Go.Act renaming eval->aS,put->cV
open Go.Oper renaming wp->aT,mk->cE
open Go.NoPanic renaming normal->aX
open Option.some renaming inj->bJ
open Go.Operand renaming tmp->bR
open Go.Op renaming store->cC
open Int renaming natCast_add->cF
open Go.ByteArray renaming toList_eq->cJ
open Go.Code renaming region->cP
namespace Go.Proofs.YtpdahhnjhggocaaGreatDoor
open Go.RowKit
set_option maxHeartbeats 16000000
set_option maxRecDepth 100000
variable {va vb:Value}{w:World}
open Classical in
noncomputable def UC(P Q:List PLine):Bool:=decide (P=Q)
open Classical in
theorem Xh{P Q:List PLine}(h:P=Q):UC P Q=true:=decide_eq_true h
open Classical in
theorem ME{P Q:List PLine}(h:P≠Q):UC P Q=false:=decide_eq_false h
theorem OD{a b:ByteArray}(h:a.toList=b.toList):a=b:=by
 rw[cJ,cJ]at h;exact ByteArray.ext (Array.toList_inj.1 h)
theorem YU{x y:LAt}(h:¬(x.key.toList=y.key.toList/\x.ws=y.ws)):x.I≠y.I:=fun e=>h ⟨congrArg (fun p:PLine=>p.key.toList) e,congrArg PLine.ws e⟩
theorem YV{x y:LAt}(h:x.key.toList=y.key.toList)(a:x.ws=y.ws):x.I=y.I:=by
 show (⟨x.key,x.ws⟩:PLine)=⟨y.key,y.ws⟩
 rw[OD h,a]
theorem UD{xs ys:List LAt}(h1:Ap w va xs)(s:Ap w vb ys)(t:Aj xs)(F:Aj ys):Calls prog 159 #[va,vb] w fun e w'=>e=aR (.bool (UC (xs.map LAt.I) (ys.map LAt.I)))/\Below w.heap.size w w':=by
 obtain⟨ao,ca,rfl⟩:=h1.1.ad;obtain⟨bo,cb,rfl⟩:=s.1.ad;by_cases b:xs.length=ys.length
 ·have P:=Ab b;have aa:=Ab h1;have ab:=Ab s;have ac:=Ab t;have ad:=Ab F;have ar:xs.length<=1048576:=t.1;rw[<-b];clear h1 s t F b;generalize Q:xs.length=n at *;have u:=Ab Q;clear Q;have au:((n:Int) != (n:Int))=false:=by simp
  go_enter func159,ntmps159;go_wp2;go_loopw [5] (fun i wr=>∃j:Nat,i=.int .i64 (j:Int)/\j<=n/\Hid ((xs.take j).map LAt.I=(ys.take j).map LAt.I)/\Below w.heap.size w wr) (fun i _=>n-(intOf i).toNat)
  case atStart=>exact⟨0,rfl,by omega,Ab (by simp),aL _ _⟩
  case round =>
   obtain⟨j,rfl,av,v,a⟩:=hrel;by_cases aw:j<n
   ·obtain⟨D,x,T,c,z⟩:=AC xs j (by have:=u.out;omega);obtain⟨ae,y,ax,d,A⟩:=AC ys j (by have:=P.out;have:=u.out;omega);have G:=aa.out.V a;have H:=ab.out.V a;have I:x∈xs:=by rw[c];simp
    have J:y∈ys:=by rw[d];simp
    have K:=G.1;have L:=H.1;rw[c]at K;rw[d]at L;obtain⟨g,off,rfl,M,c2⟩:=K.ai;obtain⟨ay,az,rfl,N,C⟩:=L.ai;have f:=G.2 x I;have k:=H.2 y J;obtain⟨af,ag,R⟩:=Am.ad f;obtain⟨ah,ai,S⟩:=Am.ad k;have U:=(ac.out.2 x I).1;have V:=(ad.out.2 y J).1;unfold BL at f k;rw[R]at c2 f;rw[S]at C k;simp only[z]at M c2;simp only[A]at N C;have W:=Ab (show ¬(x.key.toList=y.key.toList/\x.ws=y.ws)->UC (xs.map LAt.I) (ys.map LAt.I)=false from fun h=>ME (fun e=>by
     have X:=congrArg (fun l:List PLine=>l[j]?) e;simp only[List.getElem?_map,c,d,cG (show D.length<=j by omega),cG (show ae.length<=j by omega),z,A,Nat.sub_self,aD,cU]at X;exact YU h (bJ X)))
    have aj:=Ab (show x.key.toList=y.key.toList->x.ws=y.ws->(xs.take (j+1)).map LAt.I=(ys.take (j+1)).map LAt.I from fun h ak=>by
     have al:xs.take (j+1)=xs.take j++[x]:=by rw[c,<-z,Bk,By]
     have t2:ys.take (j+1)=ys.take j++[y]:=by rw[d,<-A,Bk,By]
     rw[al,t2,bB,bB,v.out,bS,bS,YV h ak])
    have a0:(0:Int)<=(j:Int):=by omega
    have a1:(j:Int)<(n:Int):=by omega
    have u1:=fun p:Gr wr=>Aq M p
    have u2:=fun p:Gr wr=>Aq c2 p
    have v1:=fun p:Gr wr=>Aq N p
    have v2:=fun p:Gr wr=>Aq C p
    have E:∀p:Gr wr,Calls prog 91 #[aB af x.ws.length ag,aB ah y.ws.length ai] p.u fun e w'=>e=aR (.bool (decide (x.ws=y.ws)))/\Below p.u.heap.size p.u w':=fun p=>KC (f.V p.h) (k.V p.h) U V
    generalize Y:decide (x.ws=y.ws)=am at E;have Z:=Ab Y;clear G H I J K L f k R S c d z A U V M c2 N C v Y;generalize x.key=xk at *;generalize y.key=yk at *;generalize x.ws.length=a2 at *;generalize y.ws.length=a3 at *;go_upto_region 6 with fail
    refine A5 (by kernel_rfl) (by kernel_rfl) ?_;cases o:(xk.toList==yk.toList)
    ·have an:(xk.toList != yk.toList)=true:=by rw[bne,o];rfl
     have q:=W.out (fun h=>by rw[beq_eq_false_iff_ne]at o;exact o h.1);iterate 12 quiet_step (fail)
     iterate 12 (with_reducible refine AM ?_ ?_;kernel_rfl;simp only[cV,aO,aV,aW])
     quiet_step (fail)
     refine bO ?_;rintro _ ⟨⟨ap,r⟩,rfl⟩;have B:=Ab (a.trans (r.mono a.size));clear u1 u2 v1 v2 E r a;go_wp2;go_ret;exact⟨q▸rfl,B.out⟩
    ·have an:(xk.toList != yk.toList)=false:=by rw[bne,o];rfl
     have aq:=Ab (beq_iff_eq.1 o);iterate 22 quiet_step (fail)
     quiet_step ((go_at_call 91;refine CD (E _)))
     iterate 2 quiet_step (fail)
     refine bO ?_;rintro _ ⟨⟨ap,r⟩,rfl⟩;have B:=Ab (a.trans (r.mono a.size));clear u1 u2 v1 v2 E r a;cases am
     ·have q:=W.out (fun h=>of_decide_eq_false Z.out h.2);go_wp2;go_ret;exact⟨q▸rfl,B.out⟩
     ·have O:=Ab (aj.out aq.out (of_decide_eq_true Z.out));go_wp2;go_roundw;case rel=>exact⟨j+1,by go_num,by omega,O,B.out⟩
      case measure=>simp[intOf];omega
   ·obtain rfl:j=n:=by omega
    have O:=Xh (show xs.map LAt.I=ys.map LAt.I from by
     have h:=v.out;have e:xs.length=ys.length:=u.out.trans P.out;rw[<-u.out,bK,e,bK]at h;exact h)
    clear v;go_wp2;go_ret;exact⟨O▸rfl,a⟩
 ·have q:=ME (show xs.map LAt.I≠ys.map LAt.I from fun e=>b (by have:=congrArg List.length e;simpa using this));have a4:((xs.length:Int) != (ys.length:Int))=true:=by rw[bne_iff_ne];omega
  clear h1 s t F b;generalize xs.length=n at *;generalize ys.length=m at *;go_enter func159,ntmps159;go_wp2;go_ret;exact⟨q▸rfl,aL _ _⟩
variable {B k:Nat}{w2 w3:World}{vk v3:Value}{cs:Array Value}{α β:Type}{y:BAt}
theorem Ix{wc:World}{done:List Bl}{x:Bl}{T:TypeId}{rest:List MRow}(f:Ay B wc (CG vk done++rest))(b:B<=wc.heap.size)(o2:A4 wc.heap.size w2 x.v x.ls)(a:Below wc.heap.size wc w2)
  (g:w3.ownsRow B 93 5 v3 (done.length+1) (done.flatMap Bl.cells++x.cells)) (c:(w2.alloc (aE cs T)).grownBy w3 vk.ownBlock) (h:v3.ownBlock=vk.ownBlock\/v3.ownBlock=aH (w2.alloc (aE cs T)).heap.size) :
  Ay B w3 (CG v3 (done++[x])++rest)/\Below B wc w3:=by
 have i:Ay B w2 (x.rows++(CG vk done++rest)):=Ay.join f o2 a b;have d:Ay B w2 (⟨vk,93,5,done.length,done.flatMap Bl.cells⟩::(done.flatMap Bl.rows++x.rows++rest)):=i.perm (by
  unfold CG;rw[List.cons_append,cB];exact List.perm_middle.trans ((List.perm_append_comm_assoc _ _ _).cons _))
 have e:=(aL w2.heap.size w2).alloc (aJ _) (aE cs T);have j:=d.V e;have l:=j.grow (r':=⟨v3,93,5,done.length+1,done.flatMap Bl.cells++x.cells⟩) g c h;refine⟨?_,?_⟩
 ·unfold CG;rw[aU,aU,bZ,aZ,aZ];exact l
 ·have n:=a.size;exact((a.mono b).trans (e.mono (by omega))).grown c (by simp;omega) (fun k m=>(Ay.lt d (bY ..) m).1)
theorem D8(W:World)(R:Nat)(cs:Array Value):W.grownBy (W.setRow R cs) (aH R):=⟨rfl,rfl,rfl,by rw[bX];exact aJ _,fun i _ a=>bT _ _ _ _ (fun e=>a (by rw[e]))⟩
open Classical in
theorem Abj{P Q:List PLine}(h:UC P Q=true):P=Q:=of_decide_eq_true h
open Classical in
theorem VS{P Q:List PLine}(h:UC P Q=false):P≠Q:=of_decide_eq_false h
def VT(P:List PChange)(w:World)(e:cH)(w':World):Prop:=∃v' a,e=aR v'/\a.map Bl.I=P/\(∀c∈a,Aj c.ls)/\AV w.heap.size w' v' a/\a.length<=12/\Below w.heap.size w w'
def MH(B:Nat)(w2:World)(xk a:ByteArray)(P Q:List PLine)(b:Nat)(d:List MRow)(e i:Value)(wr:World):Prop:=∃(k:Nat) (cs:List Bl),i=.int .i64 (k:Int)/\k<=b/\cs.map Bl.I=((rulesOf xk).take k).flatMap (fun p=>Dx xk a P Q p.1)/\(∀c∈cs,Aj c.ls)/\cs.length<=k/\Ay B wr (CG e cs++d)/\Below B w2 wr
theorem H8{l D T:List α}{x:α}(f:α->List β)(e:l=D++x::T)(a:D.length=k):(l.take (k+1)).flatMap f=(l.take k).flatMap f++f x:=by
 subst e a;rw[Bk,By,aU,aZ]
theorem S4{x:BAt}(ap:Bf w x)(aq:Bf w y)(b7:Aj x.ls)(b8:Aj y.ls):Calls prog 98 #[aQ #[aA x.aa,aA x.name,x.v],aQ #[aA y.aa,aA y.name,y.v]] w fun e w'=>VT (Ip x.I y.I) w e w':=by
 obtain⟨xk,a,ea,l⟩:=x;obtain⟨yk,yn,yv,j⟩:=y;unfold Bf at ap aq;simp only at *;obtain⟨xa,xc,rfl⟩:=ap.1.ad;obtain⟨v,yc,rfl⟩:=aq.1.ad;have ba:Below w.heap.size w ((w.alloc (aE #[aA xk,aA a,aB xa l.length xc] 46)).alloc (aE #[aA yk,aA yn,aB v j.length yc] 46)):=((aL w.heap.size w).alloc (aJ _) _).alloc (by simp) _;have ar:((w.alloc (aE #[aA xk,aA a,aB xa l.length xc] 46)).alloc (aE #[aA yk,aA yn,aB v j.length yc] 46)).heap.size=w.heap.size+2:=by simp
 have b9:((w.alloc (aE #[aA xk,aA a,aB xa l.length xc] 46)).alloc (aE #[aA yk,aA yn,aB v j.length yc] 46)).heap[w.heap.size]?=aH (aE #[aA xk,aA a,aB xa l.length xc] 46 (0,0)):=by
  have Q:=(aL (w.alloc (aE #[aA xk,aA a,aB xa l.length xc] 46)).heap.size (w.alloc (aE #[aA xk,aA a,aB xa l.length xc] 46))).alloc (aJ _) (aE #[aA yk,aA yn,aB v j.length yc] 46);rw[Q.block w.heap.size (by simp)];exact Ai w _
 have dl:((w.alloc (aE #[aA xk,aA a,aB xa l.length xc] 46)).alloc (aE #[aA yk,aA yn,aB v j.length yc] 46)).heap[w.heap.size+1]?=aH (aE #[aA yk,aA yn,aB v j.length yc] 46 (0,0)):=by
  have:=Ai (w.alloc (aE #[aA xk,aA a,aB xa l.length xc] 46)) (aE #[aA yk,aA yn,aB v j.length yc] 46);rw[aP]at this;exact this
 have dm:=Ab (show Ap _ (aB xa l.length xc) l from Ap.V ap ba);have dn:=Ab (show Ap _ (aB v j.length yc) j from Ap.V aq ba);have dp:=Ab b7;have dq:=Ab b8;generalize ca:(w.alloc (aE #[aA xk,aA a,aB xa l.length xc] 46)).alloc (aE #[aA yk,aA yn,aB v j.length yc] 46)=w2 at *;have dr:=Ab ca;have bb:=bD (base:=w.heap.size+2) (e:=93) (size:=5) w2 #[] 0 (by omega) (by decide) rfl;rw[ar]at bb;have bc:=(aL (w.heap.size+2) w2).alloc (by omega) (aE #[] 93);have cb:Ay (w.heap.size+2) (w2.alloc (aE #[] 93)) (CG (aB (aH ⟨w.heap.size+2,0,aF⟩) 0 0) []):=⟨fun r ab=>by rw[aY.1 ab];exact bb,by simp[CG]⟩;have ds:(w2.alloc (aE #[] 93)).heap.size=w.heap.size+3:=by rw[aP,ar]
 have cc:=(bc.block w.heap.size (by omega)).trans b9;have a0:=Aa cc 0;simp only[aG,aD]at a0;have cd:=fun W=>Cf xk W
 obtain⟨i0,ce,cf,cg,ch⟩:=bV Gu;clear ap aq b7 b8 ca bb;generalize ci:l.length=cj at *;have eb:=Ab ci;clear ci;generalize ck:j.length=cl at *;have ec:=Ab ck;clear ck;go_enter func98,ntmps98;go_upto_region 2 with fail
 rw[dr.out];go_wp2_with (go_at_call 56;refine(cd _).mono ?_)
 rintro e au ⟨vr,L,rfl,bd,ab,be⟩;have ed:=DX xk bd;have cm:=Ab bd;obtain⟨cn,co,rfl,_⟩:=Al (show au.ownsRow _ 54 4 vr L.length (L.flatMap AL.cells) from Ay.head ab);obtain⟨H,bf⟩:∃H,(⟨aB cn L.length co,54,4,L.length,L.flatMap AL.cells⟩::L.flatMap AL.rows:List MRow)=H:=⟨_,rfl⟩;have cp:Ay (w.heap.size+2) au (CG (aB (aH ⟨w.heap.size+2,0,aF⟩) 0 0) []++H):=by
  rw[<-bf];exact(Ay.join cb ab be (by omega)).perm List.perm_append_comm
 have cq:Below (w.heap.size+2) w2 au:=bc.trans (be.mono (by omega));have cr:=Ab (show MH (w.heap.size+2) w2 xk a (l.map LAt.I) (j.map LAt.I) L.length H (aB (aH ⟨w.heap.size+2,0,aF⟩) 0 0) (.int .i64 0) au from⟨0,[],rfl,by omega,by simp,by simp,by simp,cp,cq⟩);have dt:=Ab bf;clear ab be bd cd cb cp cq bc cc a0 bf ds;generalize ct:L.length=B at *;have cu:=Ab ct;clear ct;go_wp2;go_loopw [5,7] (fun du i wr=>MH (w.heap.size+2) w2 xk a (l.map LAt.I) (j.map LAt.I) B H du i wr) (fun _ i _=>B-(intOf i).toNat)
 case atStart=>exact cr.out
 case round =>
  clear cr;obtain⟨k,cs,rfl,ee,av,aw,ef,R,U⟩:=hrel;obtain⟨ac,ad,rfl,_⟩:=Al (show wr.ownsRow (w.heap.size+2) 93 5 _ cs.length (cs.flatMap Bl.cells) from Ay.head R);have dv:=U.size;rw[ar]at dv;have cv:Below w2.heap.size w2 wr:=by rw[ar];exact U
  have ax:=(U.block w.heap.size (by omega)).trans b9;have ay:=(U.block (w.heap.size+1) (by omega)).trans dl;by_cases eg:k<B
  ·obtain⟨D,r,T,bg,bh⟩:=AC L k (by have:=cu.out;omega);have F:Am wr (aB cn B co) B 4 (L.flatMap AL.cells):=by
    have:=Ay.right R;rw[<-dt.out]at this;have h:=AF (Ay.head this);exact h
   rw[bg]at F;obtain⟨V,X,rfl,ae,_,_,_⟩:=F.rule;rw[bh]at ae;have a0:=Aa ax 0;have a1:=Aa ax 1;have a2:=Aa ax 2;have b0:=Aa ay 0;have Q:=Aa ay 1;have az:=Aa ay 2;simp only[aG,aD,aI]at a0 a1 a2 b0 Q az;have eh:(0:Int)<=(k:Int):=by omega
   have ei:(k:Int)<(B:Int):=by omega
   have bi:=Ab (show ((rulesOf xk).take (k+1)).flatMap (fun p=>Dx xk a (l.map LAt.I) (j.map LAt.I) p.1)=cs.map Bl.I++Dx xk a (l.map LAt.I) (j.map LAt.I) r.key from by
    have e:rulesOf xk=D.map AL.I++r.I::T.map AL.I:=by rw[<-cm.out,bg];simp
    rw[H8 _ e (by rw[bC];exact bh),av];rfl)
   have cw:=Ab (dm.out.V cv);have cx:=Ab (dn.out.V cv);have cy:=Ab R;have bj:=Ab aw;clear R aw av F ax ay bg bh;generalize r.key=rk at *;have dw:=fun p:Gr wr=>Aq a0 p
   have u1:=fun p:Gr wr=>Aq a1 p
   have u2:=fun p:Gr wr=>Aq a2 p
   have u3:=fun p:Gr wr=>Aq ae p
   have cz:∀p:Gr wr,Calls prog 89 #[aQ #[aA xk,aA a,aB xa cj xc],aA rk] p.u fun e w'=>∃v' ls',e=aR v'/\ls'.map LAt.I=GH (l.map LAt.I) rk/\A4 p.u.heap.size w' v' ls'/\Aj ls'/\Below p.u.heap.size p.u w':=fun p=>by
    have:=MD (b:=⟨xk,a,aB xa cj xc,l⟩) rk (w:=p.u) (cw.out.V p.h) dp.out;exact this
   go_upto_region 6 with fail
   refine CV 7 8 (by kernel_rfl) rfl ?_;refine Dr [true,true,true,true,true,true,false,false] 2 rfl (by kernel_rfl) ?_;simp only[AZ,Bc,AX];iterate 6 (refine Bt (fun K g=>?_);go_simp;refine g _ ?_;clear g K)
   refine Cq ?_;refine DN (f:=1) (rs:=[6]) (by kernel_rfl) (by simp) ?_;rintro⟨z,C⟩;refine Ed.cons rfl (by decide) (fun K g=>?_) Ed.nil;go_simp;go_wp2_with (go_at_call 89;refine(cz ⟨z,C⟩).mono ?_;rintro e ej ⟨v5,dx,rfl,c0,o5,c1,af⟩)
   refine g.out _ _ af ?_;clear g K;refine H7 (by kernel_rfl) rfl (by kernel_rfl) ?_;rintro⟨s,bk⟩ K g;go_simp;refine g.out _ _ (aX ?_);clear g K;have ek:=af.size;have G:Below wr.heap.size wr s:=C.trans ((af.trans (bk.mono af.size)).mono C.size);have dy:=Ab ((o5.V bk).lin);have dz:=Ab c1;have d0:=Ab c0;obtain⟨a5,c5,rfl,_⟩:=Al o5.row;have c2:=(G.cell (aC wr _ b0)).trans b0;have c6:=(G.cell (aC wr _ Q)).trans Q;have c7:=(G.cell (aC wr _ az)).trans az;have bl:=(G.cell (aC wr _ a0)).trans a0;have bm:=(G.cell (aC wr _ a1)).trans a1;have a3:=(G.cell (aC wr _ ae)).trans ae;have c8:=Ab (cx.out.V G);have c9:=Ab (cy.out.V G);have bn:=U.trans (G.mono (by omega));clear dw u1 u2 u3 cz o5 c1 c0 af C bk a0 a1 a2 b0 Q az ae cw cx cy;generalize da:dx.length=el at *;have em:=Ab da;clear da;have v0:=fun p:Gr s=>Aq c2 p
   have v1:=fun p:Gr s=>Aq c6 p
   have v2:=fun p:Gr s=>Aq c7 p
   have v3:=fun p:Gr s=>Aq a3 p
   have db:∀p:Gr s,Calls prog 89 #[aQ #[aA yk,aA yn,aB v cl yc],aA rk] p.u fun e w'=>∃v' ls',e=aR v'/\ls'.map LAt.I=GH (j.map LAt.I) rk/\A4 p.u.heap.size w' v' ls'/\Aj ls'/\Below p.u.heap.size p.u w':=fun p=>by
    have:=MD (b:=⟨yk,yn,aB v cl yc,j⟩) rk (w:=p.u) (c8.out.V p.h) dq.out;exact this
   go_upto_region 7 with fail
   refine CV 7 8 (by kernel_rfl) rfl ?_;refine Dr [true,true,true,true,true,true,false,false] 2 rfl (by kernel_rfl) ?_;simp only[AZ,Bc,AX];iterate 6 (refine Bt (fun K g=>?_);go_simp;refine g _ ?_;clear g K)
   refine Cq ?_;refine DN (f:=1) (rs:=[6]) (by kernel_rfl) (by simp) ?_;rintro⟨z,C⟩;refine Ed.cons rfl (by decide) (fun K g=>?_) Ed.nil;go_simp;go_wp2_with (go_at_call 89;refine(db ⟨z,C⟩).mono ?_;rintro e en ⟨eo,I,rfl,dc,o7,dd,ag⟩)
   refine g.out _ _ ag ?_;clear g K;refine H7 (by kernel_rfl) rfl (by kernel_rfl) ?_;rintro⟨bo,bp⟩ K g;go_simp;refine g.out _ _ (aX ?_);clear g K;have ep:=ag.size;have bq:Below z.heap.size z bo:=ag.trans (bp.mono ag.size);have br:Below s.heap.size s bo:=C.trans (bq.mono C.size);have bs:=Ab (o7.V bp);have S7:=Ab dd;have bt:=Ab dc;obtain⟨m,n,rfl,_⟩:=Al o7.row;have J:=Ab (c9.out.V C);have a4:=bn.trans (C.mono (by have:=bn.size;omega));have a6:=UD (w:=bo) (dy.out.V br) bs.out.lin dz.out S7.out;rw[d0.out,bt.out]at a6;clear v0 v1 v2 v3 db o7 dd dc ag bp c9 bn c8;generalize de:I.length=t at *;have df:=Ab de;clear de;generalize dg:UC (GH (l.map LAt.I) rk) (GH (j.map LAt.I) rk)=d1 at a6;have bu:=Ab dg;clear dg;go_wp2_with (go_at_call 159;refine a6.mono ?_)
   first|rintro e d rfl M|rintro e d ⟨rfl,M⟩
   have Y:Below z.heap.size z d:=bq.trans (M.mono bq.size);have eq:=a4.size;clear a6;cases d1
   ·have bv:Below s.heap.size s d:=br.trans (M.mono br.size);have a7:=(bv.cell (aC s _ bl)).trans bl;have h1:=(bv.cell (aC s _ bm)).trans bm;have a8:=(bv.cell (aC s _ a3)).trans a3;have dh:(fun W:World=>W.cell? ⟨w.heap.size,0,aF⟩=aH (aA xk)/\W.cell? ⟨w.heap.size,1,aF⟩=aH (aA a)/\W.cell? ⟨V,X+k*4,aF⟩=aH (aA rk)) d.drew:=⟨a7,h1,a8⟩;have d2:=fun p:{ W:World // W.cell? ⟨w.heap.size,0,aF⟩=aH (aA xk)/\W.cell? ⟨w.heap.size,1,aF⟩=aH (aA a)/\W.cell? ⟨V,X+k*4,aF⟩=aH (aA rk) }=>p.2.1
    have d3:=fun p:{ W:World // W.cell? ⟨w.heap.size,0,aF⟩=aH (aA xk)/\W.cell? ⟨w.heap.size,1,aF⟩=aH (aA a)/\W.cell? ⟨V,X+k*4,aF⟩=aH (aA rk) }=>p.2.2.1
    have d4:=fun p:{ W:World // W.cell? ⟨w.heap.size,0,aF⟩=aH (aA xk)/\W.cell? ⟨w.heap.size,1,aF⟩=aH (aA a)/\W.cell? ⟨V,X+k*4,aF⟩=aH (aA rk) }=>p.2.2.2
    letI:Inhabited { W:World // W.cell? ⟨w.heap.size,0,aF⟩=aH (aA xk)/\W.cell? ⟨w.heap.size,1,aF⟩=aH (aA a)/\W.cell? ⟨V,X+k*4,aF⟩=aH (aA rk) }:=⟨⟨d.drew,dh⟩⟩;go_upto_region 9 with fail
    refine AK (S:=fun W=>W.cell? ⟨w.heap.size,0,aF⟩=aH (aA xk)/\W.cell? ⟨w.heap.size,1,aF⟩=aH (aA a)/\W.cell? ⟨V,X+k*4,aF⟩=aH (aA rk)) 12 13 (by kernel_rfl) rfl ?_;refine A9 [true,true,true,true,true,true,true,true,true,true,true,false,false] 2 rfl (by kernel_rfl) dh ?_;simp only[AZ,Bc,AX];iterate 11 (refine A2 (fun K g=>?_);go_simp;refine g _ ?_;clear g K)
    refine A8 ?_;clear d2 d3 d4;refine Af (f:=1) (rs:=[11]) (by kernel_rfl) (by simp) ?_;refine Ag.cons rfl (by decide) (fun K g=>?_) Ag.nil;go_simp;have ah:=Ai d (aE #[.int .i64 0,aA ⟨#[]⟩,aA ⟨#[]⟩,aA ⟨#[]⟩,aB aF 0 0] 93);have Z:Below d.heap.size d (d.alloc (aE #[.int .i64 0,aA ⟨#[]⟩,aA ⟨#[]⟩,aA ⟨#[]⟩,aB aF 0 0] 93)).drew:=((aL d.heap.size d).alloc (aJ _) _).drew;refine g.out _ _ ⟨(Z.cell (aC d _ a7)).trans a7,(Z.cell (aC d _ h1)).trans h1,(Z.cell (aC d _ a8)).trans a8⟩ ?_;clear g K;have ah:(d.alloc (aE #[.int .i64 0,aA ⟨#[]⟩,aA ⟨#[]⟩,aA ⟨#[]⟩,aB aF 0 0] 93)).drew.heap[d.heap.size]?=_:=ah;generalize d5:(d.alloc (aE #[.int .i64 0,aA ⟨#[]⟩,aA ⟨#[]⟩,aA ⟨#[]⟩,aB aF 0 0] 93)).drew=a9 at *;clear d5;refine Bi (by kernel_rfl) rfl (by kernel_rfl) ?_;intro K g;rw[if_pos (by rfl)];refine wp_store_row 93 _ _ rfl d.heap.size #[.int .i64 3,aA xk,aA a,aA rk,aB m t n] rfl rfl 93 _ ah (by kernel_rfl) rfl (by first|rfl|kernel_rfl) ?_;refine g.out _ _ (aX ?_);clear g K;have o:=bP a9 d.heap.size _ #[.int .i64 3,aA xk,aA a,aA rk,aB m t n] _ _ ah;have aa:Below d.heap.size d (a9.setRow d.heap.size #[.int .i64 3,aA xk,aA a,aA rk,aB m t n]):=Z.grown (D8 a9 d.heap.size #[.int .i64 3,aA xk,aA a,aA rk,aB m t n]) Z.size (fun q ai=>by cases ai;exact aJ _);generalize a9.setRow d.heap.size #[.int .i64 3,aA xk,aA a,aA rk,aB m t n]=E at *;clear ah Z a7 h1 a8 bl bm c2 c6 c7 a3;by_cases bw:t=0
    ·have bx:=Ab (show I.map LAt.I=[] from by rw[cK.1 (df.out.trans bw)];rfl);subst bw;have d6:=Ac o 0;have di:=Aa o 0;simp only[aG,aD]at di;have dj:(E.setCell ⟨d.heap.size,0,aF⟩ (.int .i64 4)).heap[d.heap.size]?=aH (aE #[.int .i64 4,aA xk,aA a,aA rk,aB m 0 n] 93 (0,0)):=by rw[bL E d.heap.size 0 _ _ _ o];rfl
     have dk:=Ad aa ⟨d.heap.size,0,aF⟩ (aJ _) (.int .i64 4);go_upto_region 12 with fail
     generalize E.setCell ⟨d.heap.size,0,aF⟩ (.int .i64 4)=E at *;rename_i er;have o:=dj;have aa:=dk;clear dj dk d6 di;have bz:=Ab (bs.out.V ((M.trans (aa.mono M.size))));have N:Below z.heap.size z E:=Y.trans (aa.mono Y.size);have b1:=Aa o 0;have b2:=Aa o 1;have b3:=Aa o 2;have g3:=Aa o 3;have g4:=Aa o 4;simp only[aG,aD,aI]at b1 b2 b3 g3 g4;have aj:(E.alloc (aE #[.int .i64 4,aA xk,aA a,aA rk,aB m 0 n] 93)).ownsRow (w.heap.size+2) 93 5 (aB ac cs.length ad) cs.length (cs.flatMap Bl.cells):=(Ay.head (J.out.V N)).alloc _;have F:=Bn E #[.int .i64 4,aA xk,aA a,aA rk,aB m 0 n] 93 5 rfl;have ak:∀u∈(#[.int .i64 4,aA xk,aA a,aA rk,aB m 0 n]:Array Value).toList,u.oneCell'=true:=by intro u al;simp at al;rcases al with rfl|rfl|rfl|rfl|rfl <;> rfl
     have d7:=N.size;have d8:=Ab (show ∀q,(bH ac cs.length ad).ownBlock=aH q->w.heap.size+2<=q from fun q ai=>(Ay.lt J.out (cO _ (bY ..)) ai).1);go_wp2_with (at_builtin;refine AD (by rfl) _ _ 34 (by rfl) (w.heap.size+2) 93 i0 _ 5 80 underlying34 ce cf cg ch rfl (by decide) _ cs.length _ (by rfl) aj _ 1 _ (by rfl) F ak ?c3 ?c4 (by rw[aP];omega) ?_)
     case c3=>unfold bU;omega
     case c4=>omega
     intro b4 b5 b6 am an O;have P:=Ix (x:=⟨4,xk,a,rk,aB m 0 n,I⟩) J.out (by omega) bz.out N am an (by first|exact O|(rw[aP];exact O));have ao:=Ab (show MH (w.heap.size+2) w2 xk a (l.map LAt.I) (j.map LAt.I) B H (aB b4 (cs.length+1) b5) (.int .i64 ((k:Int)+1)) b6 from⟨k+1,cs++[⟨4,xk,a,rk,aB m 0 n,I⟩],by rw[cF];rfl,by omega,by
      rw[bi.out,bB,bS];unfold Dx;rw[if_neg (VS bu.out)];show _=_++[(⟨_,xk,a,rk,GH (j.map LAt.I) rk⟩:PChange)]
      rw[<-bt.out,if_pos (by rw[bx.out];rfl)];rfl,fun c A=>by
      rcases bA.1 A with A|A
      ·exact bj.out c A
      ·rw[aY.1 A];exact S7.out,by simp;omega,P.1,a4.trans (P.2.mono (aJ _))⟩)
     clear aj F ak am an O P;go_wp2;go_roundw;case rel=>exact ao.out
     case measure=>simp[intOf];omega
    ·have bx:=Ab (show I.map LAt.I≠[] from fun e=>bw (by rw[<-df.out];exact cK.2 (List.map_eq_nil_iff.1 e)));have es:((t:Int)==0)=false:=by rw[beq_eq_false_iff_ne];omega
     have bz:=Ab (bs.out.V ((M.trans (aa.mono M.size))));have N:Below z.heap.size z E:=Y.trans (aa.mono Y.size);have b1:=Aa o 0;have b2:=Aa o 1;have b3:=Aa o 2;have g3:=Aa o 3;have g4:=Aa o 4;simp only[aG,aD,aI]at b1 b2 b3 g3 g4;have aj:(E.alloc (aE #[.int .i64 3,aA xk,aA a,aA rk,aB m t n] 93)).ownsRow (w.heap.size+2) 93 5 (aB ac cs.length ad) cs.length (cs.flatMap Bl.cells):=(Ay.head (J.out.V N)).alloc _;have F:=Bn E #[.int .i64 3,aA xk,aA a,aA rk,aB m t n] 93 5 rfl;have ak:∀u∈(#[.int .i64 3,aA xk,aA a,aA rk,aB m t n]:Array Value).toList,u.oneCell'=true:=by intro u al;simp at al;rcases al with rfl|rfl|rfl|rfl|rfl <;> rfl
     have d7:=N.size;have d8:=Ab (show ∀q,(bH ac cs.length ad).ownBlock=aH q->w.heap.size+2<=q from fun q ai=>(Ay.lt J.out (cO _ (bY ..)) ai).1);go_wp2_with (at_builtin;refine AD (by rfl) _ _ 34 (by rfl) (w.heap.size+2) 93 i0 _ 5 80 underlying34 ce cf cg ch rfl (by decide) _ cs.length _ (by rfl) aj _ 1 _ (by rfl) F ak ?c3 ?c4 (by rw[aP];omega) ?_)
     case c3=>unfold bU;omega
     case c4=>omega
     intro b4 b5 b6 am an O;have P:=Ix (x:=⟨3,xk,a,rk,aB m t n,I⟩) J.out (by omega) bz.out N am an (by first|exact O|(rw[aP];exact O));have ao:=Ab (show MH (w.heap.size+2) w2 xk a (l.map LAt.I) (j.map LAt.I) B H (aB b4 (cs.length+1) b5) (.int .i64 ((k:Int)+1)) b6 from⟨k+1,cs++[⟨3,xk,a,rk,aB m t n,I⟩],by rw[cF];rfl,by omega,by
      rw[bi.out,bB,bS];unfold Dx;rw[if_neg (VS bu.out)];show _=_++[(⟨_,xk,a,rk,GH (j.map LAt.I) rk⟩:PChange)]
      rw[<-bt.out,if_neg (by rw[List.isEmpty_iff];exact bx.out)];rfl,fun c A=>by
      rcases bA.1 A with A|A
      ·exact bj.out c A
      ·rw[aY.1 A];exact S7.out,by simp;omega,P.1,a4.trans (P.2.mono (aJ _))⟩)
     clear aj F ak am an O P;go_wp2;go_roundw;case rel=>exact ao.out
     case measure=>simp[intOf];omega
   ·have ao:=Ab (show MH (w.heap.size+2) w2 xk a (l.map LAt.I) (j.map LAt.I) B H _ (.int .i64 ((k:Int)+1)) d from⟨k+1,cs,by rw[cF];rfl,by omega,by
     rw[bi.out];unfold Dx;rw[if_pos (Abj bu.out),cD],bj.out,by omega,J.out.V Y,a4.trans (Y.mono (by omega))⟩)
    go_wp2;go_roundw;case rel=>exact ao.out
    case measure=>simp[intOf];omega
  ·obtain rfl:k=B:=by omega
   have d9:=Ab (show VT (Ip ⟨xk,a,l.map LAt.I⟩ ⟨yk,yn,j.map LAt.I⟩) w (aR (aB ac cs.length ad)) wr from⟨_,cs,rfl,by
    rw[av,<-cu.out,<-bC (f:=AL.I),cm.out,bK];rfl,aw,Ay.mono (Ay.left R) (by omega),by omega,ba.trans (U.mono (by omega))⟩)
   clear R aw av;generalize cs.length=et at *;go_wp2;go_ret;exact d9.out
variable {ao:Option Addr}{n:Nat}{xs:List Value}
theorem Hj{α:Type}(a:α->α->Bool)(x:α):∀(D T:List α),(∀y∈D,a y x=true)->(∀y,T.head?=aH y->a y x=false)->Ca a x (D++T)=D++x::T
 | [],[],_,_=>rfl
 | [],y::T,_,h=>by
  have:=h y rfl;simp[Ca,this]
 | y::D,T,h,b=>by
  have h1:=h y (by simp);simp[Ca,h1,Hj a x D T (fun c d=>h c (by simp[d])) b]
theorem Am.drop{cap size:Nat}(h:Am w (aB ao n cap) n size xs)(k:Nat)(i:k<=n):Am w (aB (if cap=k then ao else ao.map (fun a=>a.add (k*size))) (n-k) (cap-k)) (n-k) size (xs.drop (k*size)):=by
 obtain⟨e,l,m,f,o,c⟩:=h;cases f
 refine⟨?_,_,_,rfl,⟨by omega,by omega⟩,?_⟩
 ·rw[List.length_drop,e,Nat.sub_mul]
 ·by_cases g:n-k=0
  ·exact .inl g
  ·rcases c with p|⟨b,off,rfl,c⟩
   ·exact .inl (by omega)
   ·refine .inr ⟨b,off+k*size,?_,fun j u d=>?_⟩
    ·rw[if_neg (by omega),cU,YQ]
    ·rw[List.getElem?_drop]at d;have:=c _ u d
     rwa [show off+(k*size+j)=off+k*size+j by omega]at this
def Abq(R:List Plain)(b:BAt)(x:LAt)(w:World)(e:cH)(w':World):Prop:=∃v' D T,b.ls=D++T/\e=aR (aQ #[aA b.aa,aA b.name,v'])/\(D++x::T).map LAt.I=Ca (lineLt R) x.I (b.ls.map LAt.I)/\w'.ownsRow w.heap.size 115 2 v' (D++x::T).length ((D++x::T).flatMap LAt.cells)/\Below w.heap.size w w'
theorem Iy{b:BAt}{x:LAt}(av:Bf w b)(a1:Aj b.ls)(aw:BL w x)(ce:x.ws.length<=1048576):Calls prog 86 #[aQ #[aA b.aa,aA b.name,b.v],aQ #[aA x.key,x.v]] w fun e w'=>Abq (rulesOf b.aa) b x w e w':=by
 obtain⟨bk,bn,bv,A⟩:=b;obtain⟨xk,de,r⟩:=x;unfold Bf at av;unfold BL at aw;simp only at *;obtain⟨z,s,rfl⟩:=av.1.ad;obtain⟨xa,xc,rfl⟩:=aw.ad;have b0:Below w.heap.size w (((w.alloc (aE #[aA bk,aA bn,aB z A.length s] 46)).alloc (aE #[aA xk,aB xa r.length xc] 115)).alloc (aE #[aA ⟨#[]⟩,aA ⟨#[]⟩,aB aF 0 0] 46)):=(((aL _ _).alloc (aJ _) _).alloc (by simp) _).alloc (by simp;omega) _;obtain⟨bi,bj,bl,bm⟩:=Py (w:=w) (o1:=aE #[aA bk,aA bn,aB z A.length s] 46) (o2:=aE #[aA xk,aB xa r.length xc] 115) (o3:=aE #[aA ⟨#[]⟩,aA ⟨#[]⟩,aB aF 0 0] 46);have Z:=Ab av;have a2:=Ab a1;have a3:=Ab aw;have df:=a1.1;clear av a1 aw;generalize bo:A.length=o at *;have P:=Ab bo;clear bo;generalize bp:r.length=l at *;have bq:=Ab bp;clear bp;generalize br:((w.alloc (aE #[aA bk,aA bn,aB z o s] 46)).alloc (aE #[aA xk,aB xa l xc] 115)).alloc (aE #[aA ⟨#[]⟩,aA ⟨#[]⟩,aB aF 0 0] 46)=W0 at *;have cf:=Ab br;have cg:=Ab bi;clear br bi;go_enter func86,ntmps86;go_wp2;go_loopw [5] (fun i wr=>∃(D T:List LAt),i=.int .i64 (D.length:Int)/\D.length<=o/\Hid (A=D++T)/\Hid (∀y∈D.map LAt.I,lineLt (rulesOf bk) y ⟨xk,r⟩=true)/\Below W0.heap.size W0 wr) (fun i _=>o-(intOf i).toNat)
 case atStart =>
  rw[cf.out];exact⟨[],A,rfl,by simp,(rfl:A=[]++A),(by simp:∀y∈([]:List LAt).map LAt.I,_),aL _ _⟩
 case round =>
  obtain⟨D,T,rfl,bs,t,ah,Q⟩:=hrel;have ax:=b0.trans (Q.mono b0.size);have dg:=cg.out;have z0:=(Q.block w.heap.size (by omega)).trans bj;have aa:=(Q.block (w.heap.size+1) (by omega)).trans bl;have z2:=(Q.block (w.heap.size+2) (by omega)).trans bm;have c0:=Aa z0 0;have c2:=Aa z0 2;have M:=Aa aa 0;have N:=Aa aa 1;simp only[aG,aD,aI]at c0 c2 M N;have dh:=Q.size;have v0:=fun p:Gr wr=>Aq c0 p
  have v2:=fun p:Gr wr=>Aq c2 p
  have a4:=fun p:Gr wr=>Aq M p
  have u1:=fun p:Gr wr=>Aq N p
  have ab:=Ab (Z.out.V ax);have ai:=Ab (a3.out.V ax);clear c0 c2 M N bj bl bm;go_upto_region 2 with fail
  go_cut [21] from 6 to 21 (fun c ch=>∃B:Bool,c=.bool B/\Hid ((B=true->∃y ac,T=y::ac/\lineLt (rulesOf bk) y.I ⟨xk,r⟩=true)/\(B=false->∀y,(T.map LAt.I).head?=aH y->lineLt (rulesOf bk) y ⟨xk,r⟩=false))/\Below wr.heap.size wr ch)
  case first =>
   cases T with
   | nil =>
    have bt:D.length=o:=by rw[<-P.out,t.out];simp
    have di:¬((D.length:Int)<(o:Int)):=by omega
    clear bt;clear ab ai t ah a4 u1 v0 z0 aa z2 Z a3 a2;refine A5 (by kernel_rfl) (by kernel_rfl) ?_;iterate 6 quiet_step (fail)
    iterate 9 (with_reducible refine AM ?_ ?_;kernel_rfl;simp only[cV,aO,aV,aW])
    quiet_step (fail)
    refine bO ?_;rintro _ ⟨⟨ci,a5⟩,rfl⟩;go_wp2_with fail
    go_meet;exact⟨false,rfl,⟨(fun h=>by cases h),fun _ y R=>by cases R⟩,a5⟩
   | cons y T =>
    have bt:D.length<o:=by have:=P.out;rw[t.out]at this;simp at this;omega
    have a6:=ab.out;rw[t.out]at a6;obtain⟨g,off,rfl,ad,ae⟩:=a6.1.ai;have a7:y∈A:=by rw[t.out];simp
    have a8:=ab.out.2 y a7;obtain⟨cj,yc,a9⟩:=Am.ad a8;have w1:=fun p:Gr wr=>Aq ad p
    have w2:=fun p:Gr wr=>Aq ae p
    rw[a9]at w2;have ay:=(a2.out.2 y a7).1;have bu:∀p:Gr wr,Calls prog 121 #[aA bk,aQ #[aA y.key,aB cj y.ws.length yc],aQ #[aA xk,aB xa l xc]] p.u fun e w'=>e=aR (.bool (lineLt (rulesOf bk) y.I ⟨xk,r⟩))/\Below p.u.heap.size p.u w':=fun p =>
     Hf bk y.I ⟨xk,r⟩ (a9▸Am.V a8 p.h) (by have:=ai.out.V p.h;rw[<-bq.out]at this⊢;exact this) ay (by show r.length<=_;rw[bq.out];exact ce)
    have dj:((D.length:Int)<(o:Int)):=by omega
    have dk:(0:Int)<=(D.length:Int):=by omega
    have ck:=Ab (show ∀B,lineLt (rulesOf bk) y.I ⟨xk,r⟩=B->((B=true->∃af ac,y::T=af::ac/\lineLt (rulesOf bk) af.I ⟨xk,r⟩=true)/\(B=false->∀af,((y::T).map LAt.I).head?=aH af->lineLt (rulesOf bk) af ⟨xk,r⟩=false)) from fun B V=>⟨fun h=>⟨y,T,rfl,by rw[V,h]⟩,fun h af cl=>by cases cl;rw[V,h]⟩);generalize bw:lineLt (rulesOf bk) y.I ⟨xk,r⟩=LT at bu;have cm:=Ab bw;clear bw ab ai a6 a8 a9 t ah z0 aa z2 Z a3 a2 ad ae a7;generalize y.key=yk at *;generalize y.ws.length=dl at *;refine A5 (by kernel_rfl) (by kernel_rfl) ?_;iterate 14 quiet_step (fail)
    quiet_step ((go_at_call 121;refine CD (bu _)))
    quiet_step (fail)
    refine bO ?_;rintro _ ⟨⟨ci,a5⟩,rfl⟩;go_wp2_with fail
    go_meet;exact⟨LT,rfl,ck.out LT cm.out,a5⟩
  case rest =>
   obtain⟨d,cn⟩:∃d,d=wc:=⟨_,rfl⟩;subst cn;obtain⟨B,rfl,V,bk'⟩:=hcut;have co:=Q.trans (bk'.mono Q.size);cases B
   ·have cp:=Ab (V.out.2 rfl);have bx:=(bk'.block w.heap.size (by omega)).trans z0;have bz:=(bk'.block (w.heap.size+1) (by omega)).trans aa;have cq:=(bk'.block (w.heap.size+2) (by omega)).trans z2;have b1:=ax.trans (bk'.mono ax.size);have c2:=Aa bx 2;have M:=Aa bz 0;have N:=Aa bz 1;simp only[aG,aD,aI]at c2 M N;have b2:=Ab (Z.out.1.V b1);have dm:(0:Int)<=(D.length:Int):=by omega
    have dn:(D.length:Int)<=(o:Int):=by omega
    have dp:o<=s:=by have:=Z.out.1.cap.1;rw[P.out]at this;exact this
    have dq:(o:Int)<=(s:Int):=by omega
    have dr:(D.length:Int)<=(s:Int):=by omega
    have b3:d.drew.cell? ⟨w.heap.size,2,aF⟩=aH (aB z o s)/\d.drew.cell? ⟨w.heap.size+1,0,aF⟩=aH (aA xk)/\d.drew.cell? ⟨w.heap.size+1,1,aF⟩=aH (aB xa l xc):=⟨c2,M,N⟩;have ds:=fun p:{ W:World // W.cell? ⟨w.heap.size,2,aF⟩=aH (aB z o s)/\W.cell? ⟨w.heap.size+1,0,aF⟩=aH (aA xk)/\W.cell? ⟨w.heap.size+1,1,aF⟩=aH (aB xa l xc) }=>p.2.1
    have dt:=fun p:{ W:World // W.cell? ⟨w.heap.size,2,aF⟩=aH (aB z o s)/\W.cell? ⟨w.heap.size+1,0,aF⟩=aH (aA xk)/\W.cell? ⟨w.heap.size+1,1,aF⟩=aH (aB xa l xc) }=>p.2.2.1
    have du:=fun p:{ W:World // W.cell? ⟨w.heap.size,2,aF⟩=aH (aB z o s)/\W.cell? ⟨w.heap.size+1,0,aF⟩=aH (aA xk)/\W.cell? ⟨w.heap.size+1,1,aF⟩=aH (aB xa l xc) }=>p.2.2.2
    clear V v0 v2 a4 u1 ab ai;go_upto_region 4 with fail
    letI:Inhabited { W:World // W.cell? ⟨w.heap.size,2,aF⟩=aH (aB z o s)/\W.cell? ⟨w.heap.size+1,0,aF⟩=aH (aA xk)/\W.cell? ⟨w.heap.size+1,1,aF⟩=aH (aB xa l xc) }:=⟨⟨d.drew,b3⟩⟩;refine AK (S:=fun W=>W.cell? ⟨w.heap.size,2,aF⟩=aH (aB z o s)/\W.cell? ⟨w.heap.size+1,0,aF⟩=aH (aA xk)/\W.cell? ⟨w.heap.size+1,1,aF⟩=aH (aB xa l xc)) 15 16 (by kernel_rfl) rfl ?_;refine A9 [false,true,true,true,true,false,true,false,false,true,true,true,true,false,false,false] 7 rfl (by kernel_rfl) b3 ?_;simp only[AZ,Bc,AX];iterate 9 (refine A2 (fun K j=>?_);go_simp;refine j _ ?_;clear j K)
    refine A8 ?_;have G:=Ab (show ∀u,Below d.heap.size d u->u.cell? ⟨w.heap.size,2,aF⟩=aH (aB z o s)/\u.cell? ⟨w.heap.size+1,0,aF⟩=aH (aA xk)/\u.cell? ⟨w.heap.size+1,1,aF⟩=aH (aB xa l xc) from fun u ba=>⟨(ba.cell (aC d _ c2)).trans c2,(ba.cell (aC d _ M)).trans M,(ba.cell (aC d _ N)).trans N⟩);have bb:=Ab (show Am d (aB z D.length s) D.length 2 (D.flatMap LAt.cells) from by
     have h1:=b2.out;rw[P.out]at h1;have aj:=h1.take D.length bs;rw[t.out,aU,<-Bs LAt.cells 2 LAt.len D,cW]at aj;exact aj)
    have b4:=Ab (show Am d (aB (if s=D.length then z else z.map (fun a=>a.add (D.length*2))) (o-D.length) (s-D.length)) (o-D.length) 2 (T.flatMap LAt.cells) from by
     have h1:=b2.out;rw[P.out]at h1;have aj:=h1.drop D.length bs;rw[t.out,aU,<-Bs LAt.cells 2 LAt.len D,cX,Bs LAt.cells 2 LAt.len D]at aj;exact aj)
    have b5:=Ab (show ∀y∈A,∃a n c,y.v=aB a n c from fun y R=>by obtain⟨a,c,e⟩:=Am.ad (Z.out.2 y R);exact⟨a,_,c,e⟩);have bc:=Ab (CM (ls:=D) (fun y R=>b5.out y (by rw[t.out];simp[R])));have cr:=Ab (CM (ls:=T) (fun y R=>b5.out y (by rw[t.out];simp[R])));obtain⟨i0,ak,al,am,an⟩:=bV CQ;generalize (if s=D.length then z else z.map (fun a=>a.add (D.length*2)))=dv at b4⊢;refine Af (f:=6) (rs:=[0,7]) (by kernel_rfl) (by simp) ?_;refine Ag.cons rfl (by decide) (fun K j=>?wayA) (Ag.cons rfl (by decide) (fun K j=>?wayB) Ag.nil);case' wayA =>
     go_simp;have X:Below d.heap.size d (d.alloc (aE #[] 115)).drew:=((aL d.heap.size d).alloc (aJ _) (aE #[] 115)).drew;have az:(d.alloc (aE #[] 115)).drew.ownsRow d.heap.size 115 2 (aB (aH ⟨d.heap.size,0,aF⟩) 0 0) 0 []:=bD (base:=d.heap.size) (e:=115) (size:=2) d #[] 0 (aJ _) (by decide) rfl;refine j.out _ _ (G.out _ X) ?_;clear j K;refine Af (f:=5) (rs:=[5,7]) (by kernel_rfl) (by simp) ?_;refine Ag.cons rfl (by decide) (fun K j=>?wayA1) (Ag.cons rfl (by decide) (fun K j=>?wayA2) Ag.nil)
    case' wayA1 =>
     refine A0 rfl _ _ 44 rfl d.heap.size 115 i0 _ 2 40 underlying44 ak al am an rfl (by decide) _ 0 _ rfl az _ D.length _ rfl (bb.out.V X) bc.out (by unfold bU;omega) (by omega) X.size ?_;intro bd c5 u5 be H _;simp only[bQ]at be⊢;have Y:=X.grown H X.size (fun q L=>by cases L;exact aJ _);refine j.out _ _ (G.out _ Y) ?_;clear j K;refine Af (f:=4) (rs:=[7]) (by kernel_rfl) (by simp) ?_;refine Ag.cons rfl (by decide) (fun K j=>?_) Ag.nil;go_simp;have I:=Y.alloc Y.size (aE #[aA xk,aB xa l xc] 115);have O:=be.alloc (aE #[aA xk,aB xa l xc] 115);have ao:=Bn u5 #[aA xk,aB xa l xc] 115 2 rfl;refine j.out _ _ (G.out _ I) ?_;clear j K;generalize u5.alloc (aE #[aA xk,aB xa l xc] 115)=U at I O ao⊢;clear be H Y az X
    case' wayA2 =>
     go_simp;have C:Below d.heap.size d ((d.alloc (aE #[] 115)).alloc (aE #[aA xk,aB xa l xc] 115)).drew:=(((aL d.heap.size d).alloc (aJ _) (aE #[] 115)).alloc (by simp) _).drew;have o7:((d.alloc (aE #[] 115)).alloc (aE #[aA xk,aB xa l xc] 115)).drew.ownsRow d.heap.size 115 2 (aB (aH ⟨d.heap.size,0,aF⟩) 0 0) 0 []:=az.alloc (aE #[aA xk,aB xa l xc] 115);have ap:Am ((d.alloc (aE #[] 115)).alloc (aE #[aA xk,aB xa l xc] 115)).drew (aB (aH ⟨d.heap.size+1,0,aF⟩) 1 1) 1 2 [aA xk,aB xa l xc]:=by
      have:=Bn (d.alloc (aE #[] 115)) #[aA xk,aB xa l xc] 115 2 rfl;rw[aP]at this;exact this
     refine j.out _ _ (G.out _ C) ?_;clear j K;refine Af (f:=4) (rs:=[5]) (by kernel_rfl) (by simp) ?_;refine Ag.cons rfl (by decide) (fun K j=>?_) Ag.nil;refine A0 rfl _ _ 44 rfl d.heap.size 115 i0 _ 2 40 underlying44 ak al am an rfl (by decide) _ 0 _ rfl o7 _ D.length _ rfl (bb.out.V C) bc.out (by unfold bU;omega) (by omega) C.size ?_;intro bd c5 U O H _;simp only[bQ]at O⊢;have I:=C.grown H C.size (fun q L=>by cases L;exact aJ _);have ao:=ap.aj (.inr (fun b off m c e=>by cases e;show d.heap.size+1≠d.heap.size;omega)) H;refine j.out _ _ (G.out _ I) ?_;clear j K o7 ap H C az X
    case' wayB =>
     go_simp;have b6:Below d.heap.size d (d.alloc (aE #[aA xk,aB xa l xc] 115)).drew:=((aL d.heap.size d).alloc (aJ _) _).drew;refine j.out _ _ (G.out _ b6) ?_;clear j K;refine Af (f:=5) (rs:=[0]) (by kernel_rfl) (by simp) ?_;refine Ag.cons rfl (by decide) (fun K j=>?_) Ag.nil;go_simp;have C:Below d.heap.size d ((d.alloc (aE #[aA xk,aB xa l xc] 115)).alloc (aE #[] 115)).drew:=(((aL d.heap.size d).alloc (aJ _) _).alloc (by simp) _).drew;have o7:((d.alloc (aE #[aA xk,aB xa l xc] 115)).alloc (aE #[] 115)).drew.ownsRow d.heap.size 115 2 (aB (aH ⟨d.heap.size+1,0,aF⟩) 0 0) 0 []:=by
      have:=bD (base:=d.heap.size) (e:=115) (size:=2) (d.alloc (aE #[aA xk,aB xa l xc] 115)) #[] 0 (by simp) (by decide) rfl;rw[aP]at this;exact this
     have ap:Am ((d.alloc (aE #[aA xk,aB xa l xc] 115)).alloc (aE #[] 115)).drew (aB (aH ⟨d.heap.size,0,aF⟩) 1 1) 1 2 [aA xk,aB xa l xc]:=(Bn d #[aA xk,aB xa l xc] 115 2 rfl).V ((aL _ _).alloc (aJ _) _).drew;refine j.out _ _ (G.out _ C) ?_;clear j K;refine Af (f:=4) (rs:=[5]) (by kernel_rfl) (by simp) ?_;refine Ag.cons rfl (by decide) (fun K j=>?_) Ag.nil;refine A0 rfl _ _ 44 rfl d.heap.size 115 i0 _ 2 40 underlying44 ak al am an rfl (by decide) _ 0 _ rfl o7 _ D.length _ rfl (bb.out.V C) bc.out (by unfold bU;omega) (by omega) C.size ?_;intro bd c5 U O H _;simp only[bQ]at O⊢;have I:=C.grown H C.size (fun q L=>by cases L;show d.heap.size<=d.heap.size+1;omega);have ao:=ap.aj (.inr (fun b off m c e=>by cases e;show d.heap.size≠d.heap.size+1;omega)) H;refine j.out _ _ (G.out _ I) ?_;clear j K o7 ap H C b6
    all_goals
     refine Af (f:=3) (rs:=[8]) (by kernel_rfl) (by simp) ?_;refine Ag.cons rfl (by decide) (fun K j=>?_) Ag.nil;have b7:∀q,(bH bd (D.length) c5).ownBlock=aH q->d.heap.size<=q:=fun q L=>(O.lt q L).1
     refine A0 rfl _ _ 44 rfl d.heap.size 115 i0 _ 2 40 underlying44 ak al am an rfl (by decide) _ (D.length) _ rfl O _ 1 _ rfl ao (by intro aq J;simp at J;rcases J with rfl|rfl <;> rfl) (by unfold bU;omega) (by omega) I.size ?_
     intro cs ct dw bf b8 _;have ag:=I.grown b8 I.size b7;refine j.out _ _ (G.out _ ag) ?_;clear j K;refine Af (f:=2) (rs:=[13]) (by kernel_rfl) (by simp) ?_;refine Ag.cons rfl (by decide) (fun K j=>?_) Ag.nil;have b9:∀q,(bH cs (D.length+1) ct).ownBlock=aH q->d.heap.size<=q:=fun q L=>(bf.lt q L).1
     refine A0 rfl _ _ 44 rfl d.heap.size 115 i0 _ 2 40 underlying44 ak al am an rfl (by decide) _ (D.length+1) _ rfl bf _ (o-D.length) _ rfl (b4.out.V ag) cr.out (by unfold bU;omega) (by omega) ag.size ?_;intro E c9 bg ca cb _;have ar:=ag.grown cb ag.size b9;refine j.out _ _ (G.out _ ar) ?_;clear j K O ao bf b8 cb b7 b9 ag I;refine Af (f:=1) (rs:=[14]) (by kernel_rfl) (by simp) ?_;refine Ag.cons rfl (by decide) (fun K j=>?_) Ag.nil;go_simp;refine j.out _ _ (G.out _ ar) ?_;clear j K;have a0:=(ar.block w.heap.size (by have:=bk'.size;omega)).trans bx;have cu:=(ar.block (w.heap.size+2) (by have:=bk'.size;omega)).trans cq;have cv:=Aa a0 0;have cw:=Aa a0 1;have cx:=Aa a0 2;have dx:=Ac a0 2;simp only[aG,aD,aI]at cv cw cx;refine Bi (by kernel_rfl) rfl (by kernel_rfl) ?_;intro K j;have dy:w.heap.size+3<=d.heap.size:=by have:=bk'.size;omega
     have cy:=b1.trans (ar.mono (by omega));have cz:=Ab ca;have cc:(bg.setCell ⟨w.heap.size,2,aF⟩ (aB E (D.length+1+(o-D.length)) c9)).heap[w.heap.size+2]?=aH (aE #[aA ⟨#[]⟩,aA ⟨#[]⟩,aB aF 0 0] 46 (0,0)):=by rw[cR _ _ _ _ (by simp)];exact cu
     clear ca;generalize cd:D.length+1+(o-D.length)=F at *;have c1:=Ab cd;clear cd;go_simp;refine j.out _ _ (aX ?_);clear j K;go_wp2_with (with_reducible show cT _ _ _ (cE _ (cC _ (bR 4) _) _ _ _ _::_) _ _;refine bF rfl 46 _ _ rfl (w.heap.size+2) #[aA bk,aA bn,aB E F c9] ?_ ?_ 46 _ cc ?_ ?_ ?_ ?_)
     all_goals (first|rfl|kernel_rfl|exact⟨rfl,rfl,rfl⟩|(obtain⟨i9,c3,_,c4,_⟩:=bV Cj;exact⟨i9,c3,c4⟩)|skip)
     have z5:(bM (bg.setCell ⟨w.heap.size,2,aF⟩ (aB E F c9)) (w.heap.size+2) #[aA bk,aA bn,aB E F c9]).heap[w.heap.size+2]?=aH (aE #[aA bk,aA bn,aB E F c9] 46 (0,0)):=bP _ _ _ _ _ _ cc;have au:=cy.setCell (p:=⟨w.heap.size,2,aF⟩) (aJ _) (aB E F c9)
     have Y:Below w.heap.size w (bM (bg.setCell ⟨w.heap.size,2,aF⟩ (aB E F c9)) (w.heap.size+2) #[aA bk,aA bn,aB E F c9]) :=
      ⟨au.os,au.tape,au.output,by rw[bX];exact au.size,fun k c6=>by rw[bT _ _ _ _ (by omega)];exact au.block k c6⟩
     have o5:=C3 (Gq (Bo cz.out ⟨w.heap.size,2,aF⟩ (by simp;omega) (aB E F c9)) (w.heap.size+2) (by omega) #[aA bk,aA bn,aB E F c9]) (show w.heap.size<=d.heap.size by omega);have bh:=Aa z5 0;have ad:=Aa z5 1;have ae:=Aa z5 2;simp only[aG,aD,aI]at bh ad ae;generalize bM _ _ _=W at Y bh ad ae z5 o5⊢;have c7:(D++(⟨xk,aB xa l xc,r⟩:LAt)::T).map LAt.I=Ca (lineLt (rulesOf bk)) ⟨xk,r⟩ (A.map LAt.I):=by
      have h1:=Hj (lineLt (rulesOf bk)) ⟨xk,r⟩ (D.map LAt.I) (T.map LAt.I) ah.out cp.out;rw[show (A.map LAt.I)=D.map LAt.I++T.map LAt.I from by rw[t.out];simp];exact(show _=_ from by simp[LAt.I]).trans h1.symm
     have c8:W.ownsRow w.heap.size 115 2 (aB E F c9) (D++(⟨xk,aB xa l xc,r⟩:LAt)::T).length ((D++(⟨xk,aB xa l xc,r⟩:LAt)::T).flatMap LAt.cells):=by
      have da:(D++(⟨xk,aB xa l xc,r⟩:LAt)::T).length=F:=by
       have h1:=P.out;rw[t.out]at h1;rw[<-c1.out];simp at h1⊢;omega
      have db:(D++(⟨xk,aB xa l xc,r⟩:LAt)::T).flatMap LAt.cells=[]++D.flatMap LAt.cells++[aA xk,aB xa l xc]++T.flatMap LAt.cells:=by simp[LAt.cells]
      rw[da,db];exact o5
     exact bG (v:=aQ #[aA bk,aA bn,aB E F c9]) (by simp[cA,results86,go_sem,bh,ad,ae]) rfl ⟨_,D,T,t.out,rfl,c7,c8,Y⟩
   ·obtain⟨y,ac,rfl,ay⟩:=V.out.1 rfl;have dc:Hid (A=(D++[y])++ac):=by have:=t.out;show A=_;rw[this];simp
    have dd:Hid (∀aq∈(D++[y]).map LAt.I,lineLt (rulesOf bk) aq ⟨xk,r⟩=true):=by
     show ∀aq∈_,_
     intro aq J;rw[bB,bA]at J;rcases J with J|J
     ·exact ah.out aq J
     ·simp only[bE,bN,aY]at J;rw[J];exact ay
    have dz:D.length<o:=by have:=P.out;rw[t.out]at this;simp at this;omega
    clear V v0 v2 a4 u1 ab ai t ah ay z0 aa z2;go_wp2;go_roundw;case rel=>exact⟨D++[y],ac,by simp,by simp;omega,dc,dd,co⟩
    case measure=>simp[intOf];omega
variable {bv:Value}
def Zh(bs:List BAt)(x:BAt)(w:World)(e:cH)(w':World):Prop:=∃v' D T,bs=D++T/\e=aR (aQ #[v'])/\(D++x::T).map BAt.I=Ca blockLt x.I (bs.map BAt.I)/\w'.ownsRow w.heap.size 46 3 v' (D++x::T).length ((D++x::T).flatMap BAt.cells)/\Below w.heap.size w w'
theorem MM{t:List BAt}{x:BAt}(ax:Am w bv t.length 3 (t.flatMap BAt.cells))(ba:∀y∈t,∃a n c,y.v=aB a n c)(bb:t.length<=1048576)(cc:∃a n c,x.v=aB a n c):Calls prog 54 #[aQ #[bv],aQ #[aA x.aa,aA x.name,x.v]] w fun e w'=>Zh t x w e w':=by
 obtain⟨xk,j,c4,z⟩:=x;simp only at *;obtain⟨A,s,rfl⟩:=ax.ad;obtain⟨xa,o,xc,rfl⟩:=cc;have b0:Below w.heap.size w (((w.alloc (aE #[aB A t.length s] 25)).alloc (aE #[aA xk,aA j,aB xa o xc] 46)).alloc (aE #[aB aF 0 0] 25)):=(((aL _ _).alloc (aJ _) _).alloc (by simp) _).alloc (by simp;omega) _;obtain⟨bc,bd,be,bf⟩:=Py (w:=w) (o1:=aE #[aB A t.length s] 25) (o2:=aE #[aA xk,aA j,aB xa o xc] 46) (o3:=aE #[aB aF 0 0] 25);have ad:=Ab ax;have ae:=Ab ba;have c6:=bb;clear ax bb ba;generalize bg:t.length=r at *;have au:=Ab bg;clear bg;generalize bh:((w.alloc (aE #[aB A r s] 25)).alloc (aE #[aA xk,aA j,aB xa o xc] 46)).alloc (aE #[aB aF 0 0] 25)=W0 at *;have cd:=Ab bh;have ce:=Ab bc;clear bh bc;go_enter func54,ntmps54;go_wp2;go_loopw [5] (fun i wr=>∃(D T:List BAt),i=.int .i64 (D.length:Int)/\D.length<=r/\Hid (t=D++T)/\Hid (∀y∈D.map BAt.I,blockLt y ⟨xk,j,z.map LAt.I⟩=true)/\Below W0.heap.size W0 wr) (fun i _=>r-(intOf i).toNat)
 case atStart =>
  rw[cd.out];exact⟨[],t,rfl,by simp,(rfl:t=[]++t),(by simp:∀y∈([]:List BAt).map BAt.I,_),aL _ _⟩
 case round =>
  obtain⟨D,T,rfl,bi,C,af,R⟩:=hrel;have ay:=b0.trans (R.mono b0.size);have c7:=ce.out;have z0:=(R.block w.heap.size (by omega)).trans bd;have V:=(R.block (w.heap.size+1) (by omega)).trans be;have z2:=(R.block (w.heap.size+2) (by omega)).trans bf;have c2:=Aa z0 0;have N:=Aa V 0;have O:=Aa V 1;have P:=Aa V 2;simp only[aG,aD,aI]at c2 N O P;have c8:=R.size;have v2:=fun p:Gr wr=>Aq c2 p
  have az:=fun p:Gr wr=>Aq N p
  have u1:=fun p:Gr wr=>Aq O p
  have u2:=fun p:Gr wr=>Aq P p
  have ag:=Ab (ad.out.V ay);clear c2 N O P bd be bf;go_upto_region 2 with fail
  go_cut [19] from 6 to 19 (fun c cf=>∃B:Bool,c=.bool B/\Hid ((B=true->∃y aa,T=y::aa/\blockLt y.I ⟨xk,j,z.map LAt.I⟩=true)/\(B=false->∀y,(T.map BAt.I).head?=aH y->blockLt y ⟨xk,j,z.map LAt.I⟩=false))/\Below wr.heap.size wr cf)
  case first =>
   cases T with
   | nil =>
    have bj:D.length=r:=by rw[<-au.out,C.out];simp
    have da:¬((D.length:Int)<(r:Int)):=by omega
    clear bj;clear ag C af az u1 u2 z0 V z2 ad ae;refine A5 (by kernel_rfl) (by kernel_rfl) ?_;iterate 6 quiet_step (fail)
    iterate 7 (with_reducible refine AM ?_ ?_;kernel_rfl;simp only[cV,aO,aV,aW])
    quiet_step (fail)
    refine bO ?_;rintro _ ⟨⟨cg,a0⟩,rfl⟩;go_wp2_with fail
    go_meet;exact⟨false,rfl,⟨(fun h=>by cases h),fun _ y ah=>by cases ah⟩,a0⟩
   | cons y T =>
    have bj:D.length<r:=by have:=au.out;rw[C.out]at this;simp at this;omega
    have a1:=ag.out;rw[C.out]at a1;obtain⟨g,off,rfl,bk,bl,bm⟩:=a1.block;have bn:y∈t:=by rw[C.out];simp
    obtain⟨bo,bp,yc,bq⟩:=ae.out y bn;have w1:=fun p:Gr wr=>Aq bk p
    have w2:=fun p:Gr wr=>Aq bl p
    have w3:=fun p:Gr wr=>Aq bm p
    rw[bq]at w3;have br:∀p:Gr wr,Calls prog 59 #[aQ #[aA y.aa,aA y.name,aB bo bp yc],aQ #[aA xk,aA j,aB xa o xc]] p.u fun e w'=>e=aR (.bool (blockLt y.I ⟨xk,j,z.map LAt.I⟩))/\Below p.u.heap.size p.u w':=fun p =>
     K4 y.I ⟨xk,j,z.map LAt.I⟩ bp o yc xc bo xa p.u
    have db:((D.length:Int)<(r:Int)):=by omega
    have dc:(0:Int)<=(D.length:Int):=by omega
    have ch:=Ab (show ∀B,blockLt y.I ⟨xk,j,z.map LAt.I⟩=B->((B=true->∃ab aa,y::T=ab::aa/\blockLt ab.I ⟨xk,j,z.map LAt.I⟩=true)/\(B=false->∀ab,((y::T).map BAt.I).head?=aH ab->blockLt ab ⟨xk,j,z.map LAt.I⟩=false)) from fun B X=>⟨fun h=>⟨y,T,rfl,by rw[X,h]⟩,fun h ab ci=>by cases ci;rw[X,h]⟩);generalize bt:blockLt y.I ⟨xk,j,z.map LAt.I⟩=LT at br;have cj:=Ab bt;clear bt ag a1 bq C af z0 V z2 ad ae bk bl bm bn;generalize y.aa=yk at *;generalize y.name=yn at *;refine A5 (by kernel_rfl) (by kernel_rfl) ?_;iterate 12 quiet_step (fail)
    quiet_step ((go_at_call 59;refine CD (br _)))
    quiet_step (fail)
    refine bO ?_;rintro _ ⟨⟨cg,a0⟩,rfl⟩;go_wp2_with fail
    go_meet;exact⟨LT,rfl,ch.out LT cj.out,a0⟩
  case rest =>
   obtain⟨d,ck⟩:∃d,d=wc:=⟨_,rfl⟩;subst ck;obtain⟨B,rfl,X,bk'⟩:=hcut;have cl:=R.trans (bk'.mono R.size);cases B
   ·have cm:=Ab (X.out.2 rfl);have bu:=(bk'.block w.heap.size (by omega)).trans z0;have a2:=(bk'.block (w.heap.size+1) (by omega)).trans V;have cn:=(bk'.block (w.heap.size+2) (by omega)).trans z2;have bw:=ay.trans (bk'.mono ay.size);have c2:=Aa bu 0;have N:=Aa a2 0;have O:=Aa a2 1;have P:=Aa a2 2;simp only[aG,aD,aI]at c2 N O P;have bx:=Ab (ad.out.V bw);have dd:(0:Int)<=(D.length:Int):=by omega
    have de:(D.length:Int)<=(r:Int):=by omega
    have df:r<=s:=by exact ad.out.cap.1
    have dg:(r:Int)<=(s:Int):=by omega
    have dh:(D.length:Int)<=(s:Int):=by omega
    have bz:d.drew.cell? ⟨w.heap.size,0,aF⟩=aH (aB A r s)/\d.drew.cell? ⟨w.heap.size+1,0,aF⟩=aH (aA xk)/\d.drew.cell? ⟨w.heap.size+1,1,aF⟩=aH (aA j)/\d.drew.cell? ⟨w.heap.size+1,2,aF⟩=aH (aB xa o xc):=⟨c2,N,O,P⟩;have di:=fun p:{ W:World // W.cell? ⟨w.heap.size,0,aF⟩=aH (aB A r s)/\W.cell? ⟨w.heap.size+1,0,aF⟩=aH (aA xk)/\W.cell? ⟨w.heap.size+1,1,aF⟩=aH (aA j)/\W.cell? ⟨w.heap.size+1,2,aF⟩=aH (aB xa o xc) }=>p.2.1
    have dj:=fun p:{ W:World // W.cell? ⟨w.heap.size,0,aF⟩=aH (aB A r s)/\W.cell? ⟨w.heap.size+1,0,aF⟩=aH (aA xk)/\W.cell? ⟨w.heap.size+1,1,aF⟩=aH (aA j)/\W.cell? ⟨w.heap.size+1,2,aF⟩=aH (aB xa o xc) }=>p.2.2.1
    have dk:=fun p:{ W:World // W.cell? ⟨w.heap.size,0,aF⟩=aH (aB A r s)/\W.cell? ⟨w.heap.size+1,0,aF⟩=aH (aA xk)/\W.cell? ⟨w.heap.size+1,1,aF⟩=aH (aA j)/\W.cell? ⟨w.heap.size+1,2,aF⟩=aH (aB xa o xc) }=>p.2.2.2.1
    have dl:=fun p:{ W:World // W.cell? ⟨w.heap.size,0,aF⟩=aH (aB A r s)/\W.cell? ⟨w.heap.size+1,0,aF⟩=aH (aA xk)/\W.cell? ⟨w.heap.size+1,1,aF⟩=aH (aA j)/\W.cell? ⟨w.heap.size+1,2,aF⟩=aH (aB xa o xc) }=>p.2.2.2.2
    clear X v2 az u1 u2 ag;go_upto_region 4 with fail
    letI:Inhabited { W:World // W.cell? ⟨w.heap.size,0,aF⟩=aH (aB A r s)/\W.cell? ⟨w.heap.size+1,0,aF⟩=aH (aA xk)/\W.cell? ⟨w.heap.size+1,1,aF⟩=aH (aA j)/\W.cell? ⟨w.heap.size+1,2,aF⟩=aH (aB xa o xc) }:=⟨⟨d.drew,bz⟩⟩;refine AK (S:=fun W=>W.cell? ⟨w.heap.size,0,aF⟩=aH (aB A r s)/\W.cell? ⟨w.heap.size+1,0,aF⟩=aH (aA xk)/\W.cell? ⟨w.heap.size+1,1,aF⟩=aH (aA j)/\W.cell? ⟨w.heap.size+1,2,aF⟩=aH (aB xa o xc)) 15 16 (by kernel_rfl) rfl ?_;refine A9 [false,true,true,true,true,false,true,false,false,true,true,true,true,false,false,false] 7 rfl (by kernel_rfl) bz ?_;simp only[AZ,Bc,AX];iterate 9 (refine A2 (fun K l=>?_);go_simp;refine l _ ?_;clear l K)
    refine A8 ?_;have H:=Ab (show ∀u,Below d.heap.size d u->u.cell? ⟨w.heap.size,0,aF⟩=aH (aB A r s)/\u.cell? ⟨w.heap.size+1,0,aF⟩=aH (aA xk)/\u.cell? ⟨w.heap.size+1,1,aF⟩=aH (aA j)/\u.cell? ⟨w.heap.size+1,2,aF⟩=aH (aB xa o xc) from fun u av=>⟨(av.cell (aC d _ c2)).trans c2,(av.cell (aC d _ N)).trans N,(av.cell (aC d _ O)).trans O,(av.cell (aC d _ P)).trans P⟩);have a3:=Ab (show Am d (aB A D.length s) D.length 3 (D.flatMap BAt.cells) from by
     have h1:=bx.out;have ai:=h1.take D.length bi;rw[C.out,aU,<-Bs BAt.cells 3 BAt.len D,cW]at ai;exact ai)
    have b1:=Ab (show Am d (aB (if s=D.length then A else A.map (fun a=>a.add (D.length*3))) (r-D.length) (s-D.length)) (r-D.length) 3 (T.flatMap BAt.cells) from by
     have h1:=bx.out;have ai:=h1.drop D.length bi;rw[C.out,aU,<-Bs BAt.cells 3 BAt.len D,cX,Bs BAt.cells 3 BAt.len D]at ai;exact ai)
    have a4:=Ab (Gt (bs:=D) (fun y ah=>ae.out y (by rw[C.out];simp[ah])));have co:=Ab (Gt (bs:=T) (fun y ah=>ae.out y (by rw[C.out];simp[ah])));obtain⟨i0,aj,ak,al,am⟩:=bV Cj;generalize (if s=D.length then A else A.map (fun a=>a.add (D.length*3)))=dm at b1⊢;refine Af (f:=6) (rs:=[0,7]) (by kernel_rfl) (by simp) ?_;refine Ag.cons rfl (by decide) (fun K l=>?wayA) (Ag.cons rfl (by decide) (fun K l=>?wayB) Ag.nil);case' wayA =>
     go_simp;have Y:Below d.heap.size d (d.alloc (aE #[] 46)).drew:=((aL d.heap.size d).alloc (aJ _) (aE #[] 46)).drew;have aw:(d.alloc (aE #[] 46)).drew.ownsRow d.heap.size 46 3 (aB (aH ⟨d.heap.size,0,aF⟩) 0 0) 0 []:=bD (base:=d.heap.size) (e:=46) (size:=3) d #[] 0 (aJ _) (by decide) rfl;refine l.out _ _ (H.out _ Y) ?_;clear l K;refine Af (f:=5) (rs:=[5,7]) (by kernel_rfl) (by simp) ?_;refine Ag.cons rfl (by decide) (fun K l=>?wayA1) (Ag.cons rfl (by decide) (fun K l=>?wayA2) Ag.nil)
    case' wayA1 =>
     refine A0 rfl _ _ 23 rfl d.heap.size 46 i0 _ 3 56 underlying23 aj ak al am rfl (by decide) _ 0 _ rfl aw _ D.length _ rfl (a3.out.V Y) a4.out (by unfold bU;omega) (by omega) Y.size ?_;intro a5 c5 u5 a6 I _;simp only[bQ]at a6⊢;have Z:=Y.grown I Y.size (fun q M=>by cases M;exact aJ _);refine l.out _ _ (H.out _ Z) ?_;clear l K;refine Af (f:=4) (rs:=[7]) (by kernel_rfl) (by simp) ?_;refine Ag.cons rfl (by decide) (fun K l=>?_) Ag.nil;go_simp;have J:=Z.alloc Z.size (aE #[aA xk,aA j,aB xa o xc] 46);have Q:=a6.alloc (aE #[aA xk,aA j,aB xa o xc] 46);have an:=Bn u5 #[aA xk,aA j,aB xa o xc] 46 3 rfl;refine l.out _ _ (H.out _ J) ?_;clear l K;generalize u5.alloc (aE #[aA xk,aA j,aB xa o xc] 46)=U at J Q an⊢;clear a6 I Z aw Y
    case' wayA2 =>
     go_simp;have E:Below d.heap.size d ((d.alloc (aE #[] 46)).alloc (aE #[aA xk,aA j,aB xa o xc] 46)).drew:=(((aL d.heap.size d).alloc (aJ _) (aE #[] 46)).alloc (by simp) _).drew;have o7:((d.alloc (aE #[] 46)).alloc (aE #[aA xk,aA j,aB xa o xc] 46)).drew.ownsRow d.heap.size 46 3 (aB (aH ⟨d.heap.size,0,aF⟩) 0 0) 0 []:=aw.alloc (aE #[aA xk,aA j,aB xa o xc] 46);have ao:Am ((d.alloc (aE #[] 46)).alloc (aE #[aA xk,aA j,aB xa o xc] 46)).drew (aB (aH ⟨d.heap.size+1,0,aF⟩) 1 1) 1 3 [aA xk,aA j,aB xa o xc]:=by
      have:=Bn (d.alloc (aE #[] 46)) #[aA xk,aA j,aB xa o xc] 46 3 rfl;rw[aP]at this;exact this
     refine l.out _ _ (H.out _ E) ?_;clear l K;refine Af (f:=4) (rs:=[5]) (by kernel_rfl) (by simp) ?_;refine Ag.cons rfl (by decide) (fun K l=>?_) Ag.nil;refine A0 rfl _ _ 23 rfl d.heap.size 46 i0 _ 3 56 underlying23 aj ak al am rfl (by decide) _ 0 _ rfl o7 _ D.length _ rfl (a3.out.V E) a4.out (by unfold bU;omega) (by omega) E.size ?_;intro a5 c5 U Q I _;simp only[bQ]at Q⊢;have J:=E.grown I E.size (fun q M=>by cases M;exact aJ _);have an:=ao.aj (.inr (fun b off m c e=>by cases e;show d.heap.size+1≠d.heap.size;omega)) I;refine l.out _ _ (H.out _ J) ?_;clear l K o7 ao I E aw Y
    case' wayB =>
     go_simp;have b2:Below d.heap.size d (d.alloc (aE #[aA xk,aA j,aB xa o xc] 46)).drew:=((aL d.heap.size d).alloc (aJ _) _).drew;refine l.out _ _ (H.out _ b2) ?_;clear l K;refine Af (f:=5) (rs:=[0]) (by kernel_rfl) (by simp) ?_;refine Ag.cons rfl (by decide) (fun K l=>?_) Ag.nil;go_simp;have E:Below d.heap.size d ((d.alloc (aE #[aA xk,aA j,aB xa o xc] 46)).alloc (aE #[] 46)).drew:=(((aL d.heap.size d).alloc (aJ _) _).alloc (by simp) _).drew;have o7:((d.alloc (aE #[aA xk,aA j,aB xa o xc] 46)).alloc (aE #[] 46)).drew.ownsRow d.heap.size 46 3 (aB (aH ⟨d.heap.size+1,0,aF⟩) 0 0) 0 []:=by
      have:=bD (base:=d.heap.size) (e:=46) (size:=3) (d.alloc (aE #[aA xk,aA j,aB xa o xc] 46)) #[] 0 (by simp) (by decide) rfl;rw[aP]at this;exact this
     have ao:Am ((d.alloc (aE #[aA xk,aA j,aB xa o xc] 46)).alloc (aE #[] 46)).drew (aB (aH ⟨d.heap.size,0,aF⟩) 1 1) 1 3 [aA xk,aA j,aB xa o xc]:=(Bn d #[aA xk,aA j,aB xa o xc] 46 3 rfl).V ((aL _ _).alloc (aJ _) _).drew;refine l.out _ _ (H.out _ E) ?_;clear l K;refine Af (f:=4) (rs:=[5]) (by kernel_rfl) (by simp) ?_;refine Ag.cons rfl (by decide) (fun K l=>?_) Ag.nil;refine A0 rfl _ _ 23 rfl d.heap.size 46 i0 _ 3 56 underlying23 aj ak al am rfl (by decide) _ 0 _ rfl o7 _ D.length _ rfl (a3.out.V E) a4.out (by unfold bU;omega) (by omega) E.size ?_;intro a5 c5 U Q I _;simp only[bQ]at Q⊢;have J:=E.grown I E.size (fun q M=>by cases M;show d.heap.size<=d.heap.size+1;omega);have an:=ao.aj (.inr (fun b off m c e=>by cases e;show d.heap.size≠d.heap.size+1;omega)) I;refine l.out _ _ (H.out _ J) ?_;clear l K o7 ao I E b2
    all_goals
     refine Af (f:=3) (rs:=[8]) (by kernel_rfl) (by simp) ?_;refine Ag.cons rfl (by decide) (fun K l=>?_) Ag.nil;have b3:∀q,(bH a5 (D.length) c5).ownBlock=aH q->d.heap.size<=q:=fun q M=>(Q.lt q M).1
     refine A0 rfl _ _ 23 rfl d.heap.size 46 i0 _ 3 56 underlying23 aj ak al am rfl (by decide) _ (D.length) _ rfl Q _ 1 _ rfl an (by intro ap L;simp at L;rcases L with rfl|rfl|rfl <;> rfl) (by unfold bU;omega) (by omega) J.size ?_
     intro cp cq dn a7 b4 _;have ac:=J.grown b4 J.size b3;refine l.out _ _ (H.out _ ac) ?_;clear l K;refine Af (f:=2) (rs:=[13]) (by kernel_rfl) (by simp) ?_;refine Ag.cons rfl (by decide) (fun K l=>?_) Ag.nil;have b5:∀q,(bH cp (D.length+1) cq).ownBlock=aH q->d.heap.size<=q:=fun q M=>(a7.lt q M).1
     refine A0 rfl _ _ 23 rfl d.heap.size 46 i0 _ 3 56 underlying23 aj ak al am rfl (by decide) _ (D.length+1) _ rfl a7 _ (r-D.length) _ rfl (b1.out.V ac) co.out (by unfold bU;omega) (by omega) ac.size ?_;intro F c9 a8 b6 b7 _;have aq:=ac.grown b7 ac.size b5;refine l.out _ _ (H.out _ aq) ?_;clear l K Q an a7 b4 b7 b3 b5 ac J;refine Af (f:=1) (rs:=[14]) (by kernel_rfl) (by simp) ?_;refine Ag.cons rfl (by decide) (fun K l=>?_) Ag.nil;go_simp;refine l.out _ _ (H.out _ aq) ?_;clear l K;have b8:=(aq.block w.heap.size (by have:=bk'.size;omega)).trans bu;have cr:=(aq.block (w.heap.size+2) (by have:=bk'.size;omega)).trans cn;have cs:=Aa b8 0;have dp:=Ac b8 0;simp only[aG,aD]at cs;refine Bi (by kernel_rfl) rfl (by kernel_rfl) ?_;intro K l;have dq:w.heap.size+3<=d.heap.size:=by have:=bk'.size;omega
     have ct:=bw.trans (aq.mono (by omega));have cu:=Ab b6;have b9:(a8.setCell ⟨w.heap.size,0,aF⟩ (aB F (D.length+1+(r-D.length)) c9)).heap[w.heap.size+2]?=aH (aE #[aB aF 0 0] 25 (0,0)):=by rw[cR _ _ _ _ (by simp)];exact cr
     clear b6;generalize ca:D.length+1+(r-D.length)=G at *;have cv:=Ab ca;clear ca;go_simp;refine l.out _ _ (aX ?_);clear l K;go_wp2_with (with_reducible show cT _ _ _ (cE _ (cC _ (bR 4) _) _ _ _ _::_) _ _;refine bF rfl 25 _ _ rfl (w.heap.size+2) #[aB F G c9] ?_ ?_ 25 _ b9 ?_ ?_ ?_ ?_)
     all_goals (first|rfl|kernel_rfl|exact Bg|skip)
     have z5:(bM (a8.setCell ⟨w.heap.size,0,aF⟩ (aB F G c9)) (w.heap.size+2) #[aB F G c9]).heap[w.heap.size+2]?=aH (aE #[aB F G c9] 25 (0,0)):=bP _ _ _ _ _ _ b9;have ar:=ct.setCell (p:=⟨w.heap.size,0,aF⟩) (aJ _) (aB F G c9)
     have Z:Below w.heap.size w (bM (a8.setCell ⟨w.heap.size,0,aF⟩ (aB F G c9)) (w.heap.size+2) #[aB F G c9]) :=
      ⟨ar.os,ar.tape,ar.output,by rw[bX];exact ar.size,fun k cw=>by rw[bT _ _ _ _ (by omega)];exact ar.block k cw⟩
     have o5:=C3 (Gq (Bo cu.out ⟨w.heap.size,0,aF⟩ (by simp;omega) (aB F G c9)) (w.heap.size+2) (by omega) #[aB F G c9]) (show w.heap.size<=d.heap.size by omega);have a9:=Aa z5 0;simp only[aG,aD]at a9;generalize bM _ _ _=W at Z a9 z5 o5⊢;have cx:(D++(⟨xk,j,aB xa o xc,z⟩:BAt)::T).map BAt.I=Ca blockLt ⟨xk,j,z.map LAt.I⟩ (t.map BAt.I):=by
      have h1:=Hj blockLt ⟨xk,j,z.map LAt.I⟩ (D.map BAt.I) (T.map BAt.I) af.out cm.out;rw[show (t.map BAt.I)=D.map BAt.I++T.map BAt.I from by rw[C.out];simp];exact(show _=_ from by simp[BAt.I]).trans h1.symm
     have cy:W.ownsRow w.heap.size 46 3 (aB F G c9) (D++(⟨xk,j,aB xa o xc,z⟩:BAt)::T).length ((D++(⟨xk,j,aB xa o xc,z⟩:BAt)::T).flatMap BAt.cells):=by
      have cz:(D++(⟨xk,j,aB xa o xc,z⟩:BAt)::T).length=G:=by
       have h1:=au.out;rw[C.out]at h1;rw[<-cv.out];simp at h1⊢;omega
      have c0:(D++(⟨xk,j,aB xa o xc,z⟩:BAt)::T).flatMap BAt.cells=[]++D.flatMap BAt.cells++[aA xk,aA j,aB xa o xc]++T.flatMap BAt.cells:=by simp[BAt.cells]
      rw[cz,c0];exact o5
     exact bG (v:=aQ #[aB F G c9]) (by simp[cA,results54,go_sem,a9]) rfl ⟨_,D,T,C.out,rfl,cx,cy,Z⟩
   ·obtain⟨y,aa,rfl,cb⟩:=X.out.1 rfl;have c1:Hid (t=(D++[y])++aa):=by have:=C.out;show t=_;rw[this];simp
    have c3:Hid (∀ap∈(D++[y]).map BAt.I,blockLt ap ⟨xk,j,z.map LAt.I⟩=true):=by
     show ∀ap∈_,_
     intro ap L;rw[bB,bA]at L;rcases L with L|L
     ·exact af.out ap L
     ·simp only[bE,bN,aY]at L;rw[L];exact cb
    have dr:D.length<r:=by have:=au.out;rw[C.out]at this;simp at this;omega
    clear X v2 az u1 u2 ag C af cb z0 V z2;go_wp2;go_roundw;case rel=>exact⟨D++[y],aa,by simp,by simp;omega,c1,c3,cl⟩
    case measure=>simp[intOf];omega
variable {p q:Nat}{w':World}{v:Value}{bs:List BAt}{ls:List LAt}
theorem C7{a:World}(h:Below B a w)(b:B<=w.heap.size)(d:B<=p)(g:w.grownBy w' (aH p)):Below B a w' :=
 h.grown g b (fun k c=>by simp at c;omega)
theorem Br(W:World)(R:Nat)(cs:Array Value):W.grownBy (W.setRow R cs) (aH R):=⟨rfl,rfl,rfl,by rw[bX];exact aJ _,fun i _ a=>bT _ _ _ _ (fun e=>a (by rw[e]))⟩
def Adr(R:List Plain)(b:BAt)(x:LAt)(w:World)(e:cH)(w':World):Prop:=∃a n c ls',e=aR (aQ #[aA b.aa,aA b.name,aB a n c])/\(ls'.map LAt.I=Ca (lineLt R) x.I (b.ls.map LAt.I)/\ls'.length=b.ls.length+1/\(∀y∈ls',y=x\/y∈b.ls)/\Ap w' (aB a n c) ls'/\∀q,q<w.heap.size->Aw q b.v b.ls->Bx q x.v x.ws.length->Aw q (aB a n c) ls')/\Below w.heap.size w w'
theorem Eo{b:BAt}{x:LAt}(i:Bf w b)(l:Aj b.ls)(j:BL w x)(m:x.ws.length<=1048576):Calls prog 86 #[aQ #[aA b.aa,aA b.name,b.v],aQ #[aA x.key,x.v]] w fun e w'=>Adr (rulesOf b.aa) b x w e w':=by
 refine(Iy i l j m).mono ?_;rintro e w' ⟨v',D,T,k,rfl,n,f,g⟩;obtain⟨a,c,rfl,_⟩:=Al f;have h:∀y∈D++x::T,y=x\/y∈b.ls:=by
  intro y d;rw[k];simp only[bA,cI]at d⊢;rcases d with d|rfl|d
  ·exact .inr (.inl d)
  ·exact .inl rfl
  ·exact .inr (.inr d)
 refine⟨a,_,c,D++x::T,rfl,⟨n,by rw[k];simp;omega,h,⟨AF f,fun y d=>?_⟩,fun q o p r=>⟨Bx.above f o,fun y d=>?_⟩⟩,g⟩
 ·rcases h y d with rfl|d
  ·exact j.V g
  ·exact(i.2 y d).V g
 ·rcases h y d with rfl|d
  ·exact r
  ·exact p.2 y d
def A7(q:Nat)(v:Value)(bs:List BAt):Prop:=Bx q v bs.length/\∀x∈bs,Aw q x.v x.ls
theorem Au.aj(h:Au w v bs)(a:A7 q v bs)(b:w.grownBy w' (aH q)):Au w' v bs:=⟨h.1.aj a.1 b,fun x c=>Ap.aj (h.2 x c) (a.2 x c) b⟩
theorem Ax.aj(h:Ax B w v bs)(a:q<B):A7 q v bs :=
 ⟨Bx.above h.row a,fun x b=>⟨Bx.above (h.ac x b).row a,fun y c=>Bx.above ((h.ac x b).words y c) a⟩⟩
def PE(v:Value)(bs:List BAt)(x:BAt)(w:World)(e:cH)(w':World):Prop:=∃a n c bs',e=aR (aQ #[aB a n c])/\(bs'.map BAt.I=Ca blockLt x.I (bs.map BAt.I)/\bs'.length=bs.length+1/\(∀y∈bs',y=x\/y∈bs)/\Au w' (aB a n c) bs'/\∀q,q<w.heap.size->A7 q v bs->Aw q x.v x.ls->A7 q (aB a n c) bs')/\Below w.heap.size w w'
theorem BT{x:BAt}(d:Au w v bs)(k:bs.length<=1048576)(i:Bf w x):Calls prog 54 #[aQ #[v],aQ #[aA x.aa,aA x.name,x.v]] w fun e w'=>PE v bs x w e w':=by
 refine(MM d.1 (fun y b=>by obtain⟨a,c,e⟩:=(d.2 y b).1.ad;exact⟨a,_,c,e⟩) k (by obtain⟨a,c,e⟩:=i.1.ad;exact⟨a,_,c,e⟩)).mono ?_;rintro e w' ⟨v',D,T,j,rfl,l,f,g⟩;obtain⟨a,c,rfl,_⟩:=Al f;have h:∀y∈D++x::T,y=x\/y∈bs:=by
  intro y b;rw[j];simp only[bA,cI]at b⊢;rcases b with b|rfl|b
  ·exact .inr (.inl b)
  ·exact .inl rfl
  ·exact .inr (.inr b)
 refine⟨a,_,c,D++x::T,rfl,⟨l,by rw[j];simp;omega,h,⟨AF f,fun y b=>?_⟩,fun q m n o=>⟨Bx.above f m,fun y b=>?_⟩⟩,g⟩
 ·rcases h y b with rfl|b
  ·exact Ap.V i g
  ·exact Ap.V (d.2 y b) g
 ·rcases h y b with rfl|b
  ·exact o
  ·exact n.2 y b
theorem Ap.fresh(h:Ap w v ls)(a:w.heap.size<=q):Aw q v ls:=⟨Bx.of_lt h.1 (by decide) a,fun y b=>Bx.of_lt (h.2 y b) (by decide) a⟩
variable {W W0:World}{X O i b0 off c xc U:Nat}{v':Value}{Q:Exit -> Act -> World -> Prop}{a:Act}{kind name:ByteArray}{xa:Option Addr}
theorem AN(W:World)(g j:Nat)(u:Value):W.grownBy (W.setCell ⟨g,j,aF⟩ u) (aH g):=⟨rfl,rfl,rfl,by simp,fun i _ a=>heap_setCell_other W ⟨g,j,aF⟩ i _ (fun e=>a (by simp[e]))⟩
theorem SQ{k n k' n':ByteArray}(h:W.heap[X]?=aH (aE #[aA k,aA n,v] 46 (0,0))):(((W.setCell ⟨X,0,aF⟩ (aA k')).setCell ⟨X,1,aF⟩ (aA n')).setCell ⟨X,2,aF⟩ v').heap[X]?=aH (aE #[aA k',aA n',v'] 46 (0,0))/\W.grownBy (((W.setCell ⟨X,0,aF⟩ (aA k')).setCell ⟨X,1,aF⟩ (aA n')).setCell ⟨X,2,aF⟩ v') (aH X):=by
 have a:(W.setCell ⟨X,0,aF⟩ (aA k')).heap[X]?=aH (aE #[aA k',aA n,v] 46 (0,0)):=by rw[bL W X 0 _ _ _ h];rfl
 have z2:((W.setCell ⟨X,0,aF⟩ (aA k')).setCell ⟨X,1,aF⟩ (aA n')).heap[X]?=aH (aE #[aA k',aA n',v] 46 (0,0)):=by rw[bL _ X 1 _ _ _ a];rfl
 refine⟨?_,Ah (AN W X 0 _) (Ah (AN _ X 1 _) (AN _ X 2 _))⟩;rw[bL _ X 2 _ _ _ z2];rfl
def OvF(_X O i b0 off n c:Nat)(kind name key:ByteArray)(bv d:Value)(J:Value->World->Prop)(j:Nat)(x:Value)(W:World):Prop:=match j with
 | 0=>x=aQ #[aA kind,aA name,bv]
 | 1=>x=aN (aH ⟨O,2,aF⟩)
 | 2=>x=aB (aH ⟨b0,off,aF⟩) n c
 | 3=>x=.int .i64 (i:Int)
 | 4=>x=aN (aH ⟨b0,off+i*2,aF⟩)
 | 5=>x=aQ #[aA key,d]
 | 6=>∃a m b,x=aQ #[aA kind,aA name,aB a m b]/\J (aB a m b) W
 | _=>True
def PF: Oper := ⟨aH 20, .load 46 (.tmp 5), 46, "l6_over.go:9", #[], aF⟩
def PG: Oper := ⟨aH 21, .fieldAddr 46 (.tmp 3) 2, 0, "l6_over.go:9", #[], aF⟩
def PH: Oper := ⟨aH 22, .load 44 (.tmp 21), 44, "l6_over.go:9", #[⟨1, .data⟩], aF⟩
def PI: Oper := ⟨aH 23, .move (.tmp 6), 3, "l6_over.go:9", #[], aF⟩
def PK: Oper := ⟨aH 24, .indexAddr 44 (.tmp 22) (.tmp 23), 0, "l6_over.go:9", #[⟨2, .data⟩, ⟨3, .data⟩], aF⟩
def PM: Oper := ⟨aH 25, .load 115 (.tmp 24), 115, "l6_over.go:9", #[⟨4, .data⟩], aF⟩
def PN: Oper := ⟨aH 26, .call { callee := .value (.func 86), args := #[.tmp 20, .tmp 25], argTypes := #[46, 115] }, 46, "l6_over.go:9", #[⟨0, .data⟩, ⟨5, .data⟩], aF⟩
def PO: Oper := ⟨aF, .store 46 (.tmp 5) (.tmp 26), 0, "l6_over.go:9", #[⟨6, .data⟩, ⟨6, .chain⟩, ⟨0, .phase⟩, ⟨1, .phase⟩, ⟨2, .phase⟩, ⟨3, .phase⟩, ⟨4, .phase⟩, ⟨5, .phase⟩, ⟨6, .phase⟩], aF⟩
def Aez:List Oper:=[PF,PG,PH,PI,PK,PM,PN,PO]
def Lv: Oper := ⟨aH 44, .load 46 (.tmp 5), 46, "l6_over.go:13", #[], aF⟩
def Lw: Oper := ⟨aH 45, .fieldAddr 46 (.tmp 2) 2, 0, "l6_over.go:13", #[], aF⟩
def Lx: Oper := ⟨aH 46, .load 44 (.tmp 45), 44, "l6_over.go:13", #[⟨1, .data⟩], aF⟩
def Ly: Oper := ⟨aH 47, .move (.tmp 7), 3, "l6_over.go:13", #[], aF⟩
def Lz: Oper := ⟨aH 48, .indexAddr 44 (.tmp 46) (.tmp 47), 0, "l6_over.go:13", #[⟨2, .data⟩, ⟨3, .data⟩], aF⟩
def L0: Oper := ⟨aH 49, .load 115 (.tmp 48), 115, "l6_over.go:13", #[⟨4, .data⟩], aF⟩
def L1: Oper := ⟨aH 50, .call { callee := .value (.func 86), args := #[.tmp 44, .tmp 49], argTypes := #[46, 115] }, 46, "l6_over.go:13", #[⟨0, .data⟩, ⟨5, .data⟩], aF⟩
def L2: Oper := ⟨aF, .store 46 (.tmp 5) (.tmp 50), 0, "l6_over.go:13", #[⟨6, .data⟩, ⟨6, .chain⟩, ⟨0, .phase⟩, ⟨1, .phase⟩, ⟨2, .phase⟩, ⟨3, .phase⟩, ⟨4, .phase⟩, ⟨5, .phase⟩, ⟨6, .phase⟩], aF⟩
def Ads:List Oper:=[Lv,Lw,Lx,Ly,Lz,L0,L1,L2]
def PP: Oper := ⟨aH 34, .load 46 (.tmp 3), 46, "l6_over.go:12", #[], aF⟩
def PQ: Oper := ⟨aH 35, .fieldAddr 46 (.tmp 2) 2, 0, "l6_over.go:12", #[], aF⟩
def PR: Oper := ⟨aH 36, .load 44 (.tmp 35), 44, "l6_over.go:12", #[⟨1, .data⟩], aF⟩
def PT: Oper := ⟨aH 37, .move (.tmp 7), 3, "l6_over.go:12", #[], aF⟩
def PU: Oper := ⟨aH 38, .indexAddr 44 (.tmp 36) (.tmp 37), 0, "l6_over.go:12", #[⟨2, .data⟩, ⟨3, .data⟩], aF⟩
def PV: Oper := ⟨aH 39, .fieldAddr 115 (.tmp 38) 0, 0, "l6_over.go:12", #[⟨4, .data⟩], aF⟩
def PW: Oper := ⟨aH 40, .load 9 (.tmp 39), 9, "l6_over.go:12", #[⟨5, .data⟩], aF⟩
def PX: Oper := ⟨aH 41, .call { callee := .value (.func 89), args := #[.tmp 34, .tmp 40], argTypes := #[46, 9] }, 44, "l6_over.go:12", #[⟨0, .data⟩, ⟨6, .data⟩], aF⟩
def UQ: Oper := ⟨aH 42, .call { callee := .builtin .len, args := #[.tmp 41], argTypes := #[44] }, 3, "l6_over.go:12", #[⟨7, .data⟩], aF⟩
def UR: Oper := ⟨aH 43, .binOp .eql 3 (.tmp 42) (.const (.int .i64 0)) 3, 4, "l6_over.go:12", #[⟨8, .data⟩], aF⟩
def Ae0:List Oper:=[PP,PQ,PR,PT,PU,PV,PW,PX,UQ,UR]
theorem Zj{bn z A:Nat}{key:ByteArray}{B:Option Addr}(P:World->Value->World->Prop)(J:W0.heap[X]?=aH (aE #[aA kind,aA name,(aB B bn z)] 46 (0,0)))(M:W0.cell? ⟨O,2,aF⟩=aH (aB (aH ⟨b0,off,aF⟩) n c))(N:W0.cell? ⟨b0,off+i*2,aF⟩=aH (aA key))(R:W0.cell? ⟨b0,off+i*2+1,aF⟩=aH (aB xa A xc))(S:i<n)(T:∀W,Below W0.heap.size W0 W->Calls prog 86 #[aQ #[aA kind,aA name,(aB B bn z)],aQ #[aA key,(aB xa A xc)]] W fun e w'=>∃q m t,e=aR (aQ #[aA kind,aA name,aB q m t])/\P W (aB q m t) w'/\Below W.heap.size W w')
  (H:a.eval (.tmp 5)=aN (aH ⟨X,0,aF⟩)) (U:a.eval (.tmp 3)=aN (aH ⟨O,0,aF⟩)) (V:a.eval (.tmp 6)=.int .i64 (i:Int)) (ao:a.tmps.size=52)
  (Y:∀v a' q m t W1 W2,a'=An a [20,21,22,23,24,25,26] v->Below W0.heap.size W0 W1->P W1 (aB q m t) W2->Below W1.heap.size W1 W2->Q .normal a' (((W2.setCell ⟨X,0,aF⟩ (aA kind)).setCell ⟨X,1,aF⟩ (aA name)).setCell ⟨X,2,aF⟩ (aB q m t))):(cP 5 Aez.toArray true).wp prog Q a W0:=by
 have r:([20,21,22,23,24,25,26]:List Nat).Nodup:=by decide
 have i3:(0:Int)<=(i:Int):=by omega
 have i4:(i:Int)<(n:Int):=by omega
 refine Bu [20,21,22,23,24,25,26] (OvF X O i b0 off n c kind name key (aB B bn z) (aB xa A xc) (fun v W=>∃W1,Below W0.heap.size W0 W1/\P W1 v W/\Below W1.heap.size W1 W)) (fun _ W=>W.heap[X]?=aH (aE #[aA kind,aA name,(aB B bn z)] 46 (0,0))/\W.cell? ⟨O,2,aF⟩=aH (aB (aH ⟨b0,off,aF⟩) n c)/\W.cell? ⟨b0,off+i*2,aF⟩=aH (aA key)/\W.cell? ⟨b0,off+i*2+1,aF⟩=aH (aB xa A xc)/\Below W0.heap.size W0 W) 7 8 [0,1,2,3,4,5,6,7] (by kernel_rfl) rfl (by decide) (by kernel_rfl) ?h1 ⟨J,M,N,R,(aL _ _).drew⟩ ?hall;case h1 =>
  intro i x W S;unfold OvF;split <;> first|omega|trivial
 refine Ak.ae (o:=PF) [] (by kernel_rfl) (by decide) (by kernel_rfl) rfl ?o0 (Ak.ae (o:=PG) [] (by kernel_rfl) (by decide) (by kernel_rfl) rfl ?o1 (Ak.ae (o:=PH) [1] (by kernel_rfl) (by decide) (by kernel_rfl) rfl ?o2 (Ak.ae (o:=PI) [] (by kernel_rfl) (by decide) (by kernel_rfl) rfl ?o3 (Ak.ae (o:=PK) [2,3] (by kernel_rfl) (by decide) (by kernel_rfl) rfl ?o4 (Ak.ae (o:=PM) [4] (by kernel_rfl) (by decide) (by kernel_rfl) rfl ?o5 (Ak.ae (o:=PN) [0,5] (by kernel_rfl) (by decide) (by kernel_rfl) rfl ?o6 (Ak.lastQ (o:=PO) [6,6,0,1,2,3,4,5,6] (by kernel_rfl) (by kernel_rfl) rfl ?o7)))))));case o0 =>
  rintro w L _ W u s ⟨v,rfl,f,b,k,c0,l,g⟩ K p;have C:=Aa b 0;have D:=Aa b 1;have E:=Aa b 2;simp only[aG,aD,aI]at C D E;have F:=(A6 (v:=v) (show 5 ∉ ([20,21,22,23,24,25,26]:List Nat) by decide)).trans H;have d : aK (An a [20, 21, 22, 23, 24, 25, 26] v).eval PF = aK (aS ⟨#[undef], []⟩) ⟨aH 0, .load 46 (.const (aN (aH ⟨X, 0, aF⟩))), 0, "", #[], aF⟩ := by simp only[aK, Ae, PF, F]
  refine BJ.mk ?_;unfold aT;rw[d];clear d;go_simp;exact p.out _ _ (AE.ak (W:=W) f 0 (aQ #[aA kind,aA name,(aB B bn z)]) (Av 0 r rfl) (fun _ _ _ h=>h) rfl ⟨b,k,c0,l,g⟩)
 case o1 =>
  rintro w L _ W u s ⟨v,rfl,f,b,k,c0,l,g⟩ K p;have Z:=(A6 (v:=v) (show 3 ∉ ([20,21,22,23,24,25,26]:List Nat) by decide)).trans U;have d : aK (An a [20, 21, 22, 23, 24, 25, 26] v).eval PG = aK (aS ⟨#[undef], []⟩) ⟨aH 0, .fieldAddr 46 (.const (aN (aH ⟨O, 0, aF⟩))) 2, 0, "", #[], aF⟩ := by simp only[aK, Ae, PG, Z]
  refine BJ.mk ?_;unfold aT;rw[d];clear d;go_simp;exact p.out _ _ (AE.ak (W:=W) f 1 (aN (aH ⟨O,2,aF⟩)) (Av 1 r rfl) (fun _ _ _ h=>h) rfl ⟨b,k,c0,l,g⟩)
 case o2 =>
  rintro w L _ W u s ⟨v,rfl,f,b,k,c0,l,g⟩ K p;have aa:(An a [20,21,22,23,24,25,26] v).eval (.tmp 21)=_:=(Ao 1 r rfl (by omega)).trans (f 1 (s 1 (by simp)));have d : aK (An a [20, 21, 22, 23, 24, 25, 26] v).eval PH = aK (aS ⟨#[undef], []⟩) ⟨aH 0, .load 44 (.const (aN (aH ⟨O, 2, aF⟩))), 0, "", #[], aF⟩ := by simp only[aK, Ae, PH, aa]
  refine BJ.mk ?_;unfold aT;rw[d];clear d;go_simp;exact p.out _ _ (AE.ak (W:=W) f 2 (aB (aH ⟨b0,off,aF⟩) n c) (Av 2 r rfl) (fun _ _ _ h=>h) rfl ⟨b,k,c0,l,g⟩)
 case o3 =>
  rintro w L _ W u s ⟨v,rfl,f,b,k,c0,l,g⟩ K p;have ab:=(A6 (v:=v) (show 6 ∉ ([20,21,22,23,24,25,26]:List Nat) by decide)).trans V;have d : aK (An a [20, 21, 22, 23, 24, 25, 26] v).eval PI = aK (aS ⟨#[undef], []⟩) ⟨aH 0, .move (.const (.int .i64 (i : Int))), 0, "", #[], aF⟩ := by simp only[aK, Ae, PI, ab]
  refine BJ.mk ?_;unfold aT;rw[d];clear d;go_simp;exact p.out _ _ (AE.ak (W:=W) f 3 (.int .i64 (i:Int)) (Av 3 r rfl) (fun _ _ _ h=>h) rfl ⟨b,k,c0,l,g⟩)
 case o4 =>
  rintro w L _ W u s ⟨v,rfl,f,b,k,c0,l,g⟩ K p;have ac:(An a [20,21,22,23,24,25,26] v).eval (.tmp 22)=_:=(Ao 2 r rfl (by omega)).trans (f 2 (s 2 (by simp)));have ad:(An a [20,21,22,23,24,25,26] v).eval (.tmp 23)=_:=(Ao 3 r rfl (by omega)).trans (f 3 (s 3 (by simp)));have d : aK (An a [20, 21, 22, 23, 24, 25, 26] v).eval PK = aK (aS ⟨#[undef], []⟩) ⟨aH 0, .indexAddr 44 (.const (aB (aH ⟨b0, off, aF⟩) n c)) (.const (.int .i64 (i : Int))), 0, "", #[], aF⟩ := by simp only[aK, Ae, PK, ac, ad]
  refine BJ.mk ?_;unfold aT;rw[d];clear d;go_simp;exact p.out _ _ (AE.ak (W:=W) f 4 (aN (aH ⟨b0,off+i*2,aF⟩)) (Av 4 r rfl) (fun _ _ _ h=>h) rfl ⟨b,k,c0,l,g⟩)
 case o5 =>
  rintro w L _ W u s ⟨v,rfl,f,b,k,c0,l,g⟩ K p;have ae:(An a [20,21,22,23,24,25,26] v).eval (.tmp 24)=_:=(Ao 4 r rfl (by omega)).trans (f 4 (s 4 (by simp)));have d : aK (An a [20, 21, 22, 23, 24, 25, 26] v).eval PM = aK (aS ⟨#[undef], []⟩) ⟨aH 0, .load 115 (.const (aN (aH ⟨b0, off + i*2, aF⟩))), 0, "", #[], aF⟩ := by simp only[aK, Ae, PM, ae]
  refine BJ.mk ?_;unfold aT;rw[d];clear d;go_simp;exact p.out _ _ (AE.ak (W:=W) f 5 (aQ #[aA key,(aB xa A xc)]) (Av 5 r rfl) (fun _ _ _ h=>h) rfl ⟨b,k,c0,l,g⟩)
 case o6 =>
  rintro w L _ W u s ⟨v,rfl,f,b,k,c0,l,g⟩ K p;have af:(An a [20,21,22,23,24,25,26] v).eval (.tmp 20)=_:=(Ao 0 r rfl (by omega)).trans (f 0 (s 0 (by simp)));have ag:(An a [20,21,22,23,24,25,26] v).eval (.tmp 25)=_:=(Ao 5 r rfl (by omega)).trans (f 5 (s 5 (by simp)));have ah:=T W g;have d : aK (An a [20, 21, 22, 23, 24, 25, 26] v).eval PN = aK (aS ⟨#[undef], []⟩) ⟨aH 0, .call { callee := .value (.func 86), args := #[.const (aQ #[aA kind, aA name, (aB B bn z)]), .const (aQ #[aA key, (aB xa A xc)])], argTypes := #[46, 115] }, 0, "", #[], aF⟩ := by simp only[aK, Ae, PN, cY, Cu, bW, bE, bN, af, ag]
  refine BJ.mk ?_;unfold aT;rw[d];clear d;go_simp;refine ah.mono ?_;rintro e W' ⟨q,m,t,rfl,G,b'⟩;refine p.out _ _ (AE.ak (W:=W) f 6 (aQ #[aA kind,aA name,aB q m t]) (Av 6 r rfl) (fun j y I h=>?_) ⟨q,m,t,rfl,W,g,G,b'⟩ ⟨(b'.block X (aM.1 b).1).trans b,(b'.cell (aC _ _ k)).trans k,(b'.cell (aC _ _ c0)).trans c0,(b'.cell (aC _ _ l)).trans l,g.trans (b'.mono g.size)⟩);have ai:j≠6:=fun e=>by rw[e,u]at I;cases I
  unfold OvF at *;split <;> simp only at h
  all_goals first|exact h|exact absurd rfl ai|trivial
 case o7 =>
  rintro w L _ W u s ⟨v,rfl,f,b,k,c0,l,g⟩ K p;obtain⟨q,m,t,aj,W1,ak,G,al⟩:=f 6 (s 6 (by simp));have am:(An a [20,21,22,23,24,25,26] v).eval (.tmp 26)=_:=(Ao 6 r rfl (by omega)).trans aj;have F:=(A6 (v:=v) (show 5 ∉ ([20,21,22,23,24,25,26]:List Nat) by decide)).trans H;have C:=Aa b 0;have D:=Aa b 1;have E:=Aa b 2;simp only[aG,aD,aI]at C D E;have ap:=Ac b 0;have aq:=Ac b 1;have ar:=Ac b 2;have an:=Ab (Y v _ q m t W1 W rfl ak G al);have d : aK (An a [20, 21, 22, 23, 24, 25, 26] v).eval PO = aK (aS ⟨#[undef], []⟩) ⟨aH 0, .store 46 (.const (aN (aH ⟨X, 0, aF⟩))) (.const (aQ #[aA kind, aA name, aB q m t])), 0, "", #[], aF⟩ := by simp only[aK, Ae, PO, F, am]
  refine BJ.mk ?_;unfold aT;rw[d];clear d;go_simp;exact p.out _ _ (aX an.out)
theorem Xp{bn z A:Nat}{key:ByteArray}{B:Option Addr}(P:World->Value->World->Prop)(J:W0.heap[X]?=aH (aE #[aA kind,aA name,(aB B bn z)] 46 (0,0)))(M:W0.cell? ⟨O,2,aF⟩=aH (aB (aH ⟨b0,off,aF⟩) n c))(N:W0.cell? ⟨b0,off+i*2,aF⟩=aH (aA key))(R:W0.cell? ⟨b0,off+i*2+1,aF⟩=aH (aB xa A xc))(S:i<n)(T:∀W,Below W0.heap.size W0 W->Calls prog 86 #[aQ #[aA kind,aA name,(aB B bn z)],aQ #[aA key,(aB xa A xc)]] W fun e w'=>∃q m t,e=aR (aQ #[aA kind,aA name,aB q m t])/\P W (aB q m t) w'/\Below W.heap.size W w')
  (H:a.eval (.tmp 5)=aN (aH ⟨X,0,aF⟩)) (U:a.eval (.tmp 2)=aN (aH ⟨O,0,aF⟩)) (V:a.eval (.tmp 7)=.int .i64 (i:Int)) (ao:a.tmps.size=52)
  (Y:∀v a' q m t W1 W2,a'=An a [44,45,46,47,48,49,50] v->Below W0.heap.size W0 W1->P W1 (aB q m t) W2->Below W1.heap.size W1 W2->Q .normal a' (((W2.setCell ⟨X,0,aF⟩ (aA kind)).setCell ⟨X,1,aF⟩ (aA name)).setCell ⟨X,2,aF⟩ (aB q m t))):(cP 10 Ads.toArray true).wp prog Q a W0:=by
 have r:([44,45,46,47,48,49,50]:List Nat).Nodup:=by decide
 have i3:(0:Int)<=(i:Int):=by omega
 have i4:(i:Int)<(n:Int):=by omega
 refine Bu [44,45,46,47,48,49,50] (OvF X O i b0 off n c kind name key (aB B bn z) (aB xa A xc) (fun v W=>∃W1,Below W0.heap.size W0 W1/\P W1 v W/\Below W1.heap.size W1 W)) (fun _ W=>W.heap[X]?=aH (aE #[aA kind,aA name,(aB B bn z)] 46 (0,0))/\W.cell? ⟨O,2,aF⟩=aH (aB (aH ⟨b0,off,aF⟩) n c)/\W.cell? ⟨b0,off+i*2,aF⟩=aH (aA key)/\W.cell? ⟨b0,off+i*2+1,aF⟩=aH (aB xa A xc)/\Below W0.heap.size W0 W) 7 8 [0,1,2,3,4,5,6,7] (by kernel_rfl) rfl (by decide) (by kernel_rfl) ?h1 ⟨J,M,N,R,(aL _ _).drew⟩ ?hall;case h1 =>
  intro i x W S;unfold OvF;split <;> first|omega|trivial
 refine Ak.ae (o:=Lv) [] (by kernel_rfl) (by decide) (by kernel_rfl) rfl ?o0 (Ak.ae (o:=Lw) [] (by kernel_rfl) (by decide) (by kernel_rfl) rfl ?o1 (Ak.ae (o:=Lx) [1] (by kernel_rfl) (by decide) (by kernel_rfl) rfl ?o2 (Ak.ae (o:=Ly) [] (by kernel_rfl) (by decide) (by kernel_rfl) rfl ?o3 (Ak.ae (o:=Lz) [2,3] (by kernel_rfl) (by decide) (by kernel_rfl) rfl ?o4 (Ak.ae (o:=L0) [4] (by kernel_rfl) (by decide) (by kernel_rfl) rfl ?o5 (Ak.ae (o:=L1) [0,5] (by kernel_rfl) (by decide) (by kernel_rfl) rfl ?o6 (Ak.lastQ (o:=L2) [6,6,0,1,2,3,4,5,6] (by kernel_rfl) (by kernel_rfl) rfl ?o7)))))));case o0 =>
  rintro w L _ W u s ⟨v,rfl,f,b,k,c0,l,g⟩ K p;have C:=Aa b 0;have D:=Aa b 1;have E:=Aa b 2;simp only[aG,aD,aI]at C D E;have F:=(A6 (v:=v) (show 5 ∉ ([44,45,46,47,48,49,50]:List Nat) by decide)).trans H;have d : aK (An a [44, 45, 46, 47, 48, 49, 50] v).eval Lv = aK (aS ⟨#[undef], []⟩) ⟨aH 0, .load 46 (.const (aN (aH ⟨X, 0, aF⟩))), 0, "", #[], aF⟩ := by simp only[aK, Ae, Lv, F]
  refine BJ.mk ?_;unfold aT;rw[d];clear d;go_simp;exact p.out _ _ (AE.ak (W:=W) f 0 (aQ #[aA kind,aA name,(aB B bn z)]) (Av 0 r rfl) (fun _ _ _ h=>h) rfl ⟨b,k,c0,l,g⟩)
 case o1 =>
  rintro w L _ W u s ⟨v,rfl,f,b,k,c0,l,g⟩ K p;have Z:=(A6 (v:=v) (show 2 ∉ ([44,45,46,47,48,49,50]:List Nat) by decide)).trans U;have d : aK (An a [44, 45, 46, 47, 48, 49, 50] v).eval Lw = aK (aS ⟨#[undef], []⟩) ⟨aH 0, .fieldAddr 46 (.const (aN (aH ⟨O, 0, aF⟩))) 2, 0, "", #[], aF⟩ := by simp only[aK, Ae, Lw, Z]
  refine BJ.mk ?_;unfold aT;rw[d];clear d;go_simp;exact p.out _ _ (AE.ak (W:=W) f 1 (aN (aH ⟨O,2,aF⟩)) (Av 1 r rfl) (fun _ _ _ h=>h) rfl ⟨b,k,c0,l,g⟩)
 case o2 =>
  rintro w L _ W u s ⟨v,rfl,f,b,k,c0,l,g⟩ K p;have aa:(An a [44,45,46,47,48,49,50] v).eval (.tmp 45)=_:=(Ao 1 r rfl (by omega)).trans (f 1 (s 1 (by simp)));have d : aK (An a [44, 45, 46, 47, 48, 49, 50] v).eval Lx = aK (aS ⟨#[undef], []⟩) ⟨aH 0, .load 44 (.const (aN (aH ⟨O, 2, aF⟩))), 0, "", #[], aF⟩ := by simp only[aK, Ae, Lx, aa]
  refine BJ.mk ?_;unfold aT;rw[d];clear d;go_simp;exact p.out _ _ (AE.ak (W:=W) f 2 (aB (aH ⟨b0,off,aF⟩) n c) (Av 2 r rfl) (fun _ _ _ h=>h) rfl ⟨b,k,c0,l,g⟩)
 case o3 =>
  rintro w L _ W u s ⟨v,rfl,f,b,k,c0,l,g⟩ K p;have ab:=(A6 (v:=v) (show 7 ∉ ([44,45,46,47,48,49,50]:List Nat) by decide)).trans V;have d : aK (An a [44, 45, 46, 47, 48, 49, 50] v).eval Ly = aK (aS ⟨#[undef], []⟩) ⟨aH 0, .move (.const (.int .i64 (i : Int))), 0, "", #[], aF⟩ := by simp only[aK, Ae, Ly, ab]
  refine BJ.mk ?_;unfold aT;rw[d];clear d;go_simp;exact p.out _ _ (AE.ak (W:=W) f 3 (.int .i64 (i:Int)) (Av 3 r rfl) (fun _ _ _ h=>h) rfl ⟨b,k,c0,l,g⟩)
 case o4 =>
  rintro w L _ W u s ⟨v,rfl,f,b,k,c0,l,g⟩ K p;have ac:(An a [44,45,46,47,48,49,50] v).eval (.tmp 46)=_:=(Ao 2 r rfl (by omega)).trans (f 2 (s 2 (by simp)));have ad:(An a [44,45,46,47,48,49,50] v).eval (.tmp 47)=_:=(Ao 3 r rfl (by omega)).trans (f 3 (s 3 (by simp)));have d : aK (An a [44, 45, 46, 47, 48, 49, 50] v).eval Lz = aK (aS ⟨#[undef], []⟩) ⟨aH 0, .indexAddr 44 (.const (aB (aH ⟨b0, off, aF⟩) n c)) (.const (.int .i64 (i : Int))), 0, "", #[], aF⟩ := by simp only[aK, Ae, Lz, ac, ad]
  refine BJ.mk ?_;unfold aT;rw[d];clear d;go_simp;exact p.out _ _ (AE.ak (W:=W) f 4 (aN (aH ⟨b0,off+i*2,aF⟩)) (Av 4 r rfl) (fun _ _ _ h=>h) rfl ⟨b,k,c0,l,g⟩)
 case o5 =>
  rintro w L _ W u s ⟨v,rfl,f,b,k,c0,l,g⟩ K p;have ae:(An a [44,45,46,47,48,49,50] v).eval (.tmp 48)=_:=(Ao 4 r rfl (by omega)).trans (f 4 (s 4 (by simp)));have d : aK (An a [44, 45, 46, 47, 48, 49, 50] v).eval L0 = aK (aS ⟨#[undef], []⟩) ⟨aH 0, .load 115 (.const (aN (aH ⟨b0, off + i*2, aF⟩))), 0, "", #[], aF⟩ := by simp only[aK, Ae, L0, ae]
  refine BJ.mk ?_;unfold aT;rw[d];clear d;go_simp;exact p.out _ _ (AE.ak (W:=W) f 5 (aQ #[aA key,(aB xa A xc)]) (Av 5 r rfl) (fun _ _ _ h=>h) rfl ⟨b,k,c0,l,g⟩)
 case o6 =>
  rintro w L _ W u s ⟨v,rfl,f,b,k,c0,l,g⟩ K p;have af:(An a [44,45,46,47,48,49,50] v).eval (.tmp 44)=_:=(Ao 0 r rfl (by omega)).trans (f 0 (s 0 (by simp)));have ag:(An a [44,45,46,47,48,49,50] v).eval (.tmp 49)=_:=(Ao 5 r rfl (by omega)).trans (f 5 (s 5 (by simp)));have ah:=T W g;have d : aK (An a [44, 45, 46, 47, 48, 49, 50] v).eval L1 = aK (aS ⟨#[undef], []⟩) ⟨aH 0, .call { callee := .value (.func 86), args := #[.const (aQ #[aA kind, aA name, (aB B bn z)]), .const (aQ #[aA key, (aB xa A xc)])], argTypes := #[46, 115] }, 0, "", #[], aF⟩ := by simp only[aK, Ae, L1, cY, Cu, bW, bE, bN, af, ag]
  refine BJ.mk ?_;unfold aT;rw[d];clear d;go_simp;refine ah.mono ?_;rintro e W' ⟨q,m,t,rfl,G,b'⟩;refine p.out _ _ (AE.ak (W:=W) f 6 (aQ #[aA kind,aA name,aB q m t]) (Av 6 r rfl) (fun j y I h=>?_) ⟨q,m,t,rfl,W,g,G,b'⟩ ⟨(b'.block X (aM.1 b).1).trans b,(b'.cell (aC _ _ k)).trans k,(b'.cell (aC _ _ c0)).trans c0,(b'.cell (aC _ _ l)).trans l,g.trans (b'.mono g.size)⟩);have ai:j≠6:=fun e=>by rw[e,u]at I;cases I
  unfold OvF at *;split <;> simp only at h
  all_goals first|exact h|exact absurd rfl ai|trivial
 case o7 =>
  rintro w L _ W u s ⟨v,rfl,f,b,k,c0,l,g⟩ K p;obtain⟨q,m,t,aj,W1,ak,G,al⟩:=f 6 (s 6 (by simp));have am:(An a [44,45,46,47,48,49,50] v).eval (.tmp 50)=_:=(Ao 6 r rfl (by omega)).trans aj;have F:=(A6 (v:=v) (show 5 ∉ ([44,45,46,47,48,49,50]:List Nat) by decide)).trans H;have C:=Aa b 0;have D:=Aa b 1;have E:=Aa b 2;simp only[aG,aD,aI]at C D E;have ap:=Ac b 0;have aq:=Ac b 1;have ar:=Ac b 2;have an:=Ab (Y v _ q m t W1 W rfl ak G al);have d : aK (An a [44, 45, 46, 47, 48, 49, 50] v).eval L2 = aK (aS ⟨#[undef], []⟩) ⟨aH 0, .store 46 (.const (aN (aH ⟨X, 0, aF⟩))) (.const (aQ #[aA kind, aA name, aB q m t])), 0, "", #[], aF⟩ := by simp only[aK, Ae, L2, F, am]
  refine BJ.mk ?_;unfold aT;rw[d];clear d;go_simp;exact p.out _ _ (aX an.out)
def OvG(U i b0 off n c:Nat)(kind name key:ByteArray)(d:Value)(b:Bool)(j:Nat)(x:Value):Prop:=match j with
 | 0=>x=aQ #[aA kind,aA name,d]
 | 1=>x=aN (aH ⟨U,2,aF⟩)
 | 2=>x=aB (aH ⟨b0,off,aF⟩) n c
 | 3=>x=.int .i64 (i:Int)
 | 4=>x=aN (aH ⟨b0,off+i*2,aF⟩)
 | 5=>x=aN (aH ⟨b0,off+i*2,aF⟩)
 | 6=>x=aA key
 | 7=>∃a m e,x=aB a m e/\((m:Int)==0)=b
 | 8=>∃m:Nat,x=.int .i64 (m:Int)/\((m:Int)==0)=b
 | 9=>x=.bool b
 | _=>True
theorem SR{on u:Nat}{key:ByteArray}{w:Option Addr}{y:Bool}(B:W0.heap[O]?=aH (aE #[aA kind,aA name,(aB w on u)] 46 (0,0)))(C:W0.cell? ⟨U,2,aF⟩=aH (aB (aH ⟨b0,off,aF⟩) n c))(D:W0.cell? ⟨b0,off+i*2,aF⟩=aH (aA key))(E:i<n)(F:∀W,Below W0.heap.size W0 W->Calls prog 89 #[aQ #[aA kind,aA name,(aB w on u)],aA key] W fun e w'=>Jv y W e w')
  (G:a.eval (.tmp 3)=aN (aH ⟨O,0,aF⟩)) (H:a.eval (.tmp 2)=aN (aH ⟨U,0,aF⟩)) (I:a.eval (.tmp 7)=.int .i64 (i:Int)) (ak:a.tmps.size=52)
  (J:∀v a' W',a'=An a [34,35,36,37,38,39,40,41,42,43] v->v 9=.bool y->Below W0.heap.size W0 W'->Q .normal a' W'):(cP 9 Ae0.toArray true).wp prog Q a W0:=by
 have l:([34,35,36,37,38,39,40,41,42,43]:List Nat).Nodup:=by decide
 have i3:(0:Int)<=(i:Int):=by omega
 have i4:(i:Int)<(n:Int):=by omega
 refine E7 [34,35,36,37,38,39,40,41,42,43] (fun j x _=>OvG U i b0 off n c kind name key (aB w on u) y j x) (fun _ W=>W.heap[O]?=aH (aE #[aA kind,aA name,(aB w on u)] 46 (0,0))/\W.cell? ⟨U,2,aF⟩=aH (aB (aH ⟨b0,off,aF⟩) n c)/\W.cell? ⟨b0,off+i*2,aF⟩=aH (aA key)/\Below W0.heap.size W0 W) 10 [0,1,2,3,4,5,6,7,8,9] (by kernel_rfl) rfl (by decide) (by kernel_rfl) ?h1 ⟨B,C,D,(aL _ _).drew⟩ ?hall ?hend;case h1 =>
  intro i x W E;unfold OvG;split <;> first|omega|trivial
 case hend =>
  intro v W' L al b M;exact aX (J v _ W' rfl (b 9) M.2.2.2)
 refine Ak.ae (o:=PP) [] (by kernel_rfl) (by decide) (by kernel_rfl) rfl ?o0 (Ak.ae (o:=PQ) [] (by kernel_rfl) (by decide) (by kernel_rfl) rfl ?o1 (Ak.ae (o:=PR) [1] (by kernel_rfl) (by decide) (by kernel_rfl) rfl ?o2 (Ak.ae (o:=PT) [] (by kernel_rfl) (by decide) (by kernel_rfl) rfl ?o3 (Ak.ae (o:=PU) [2,3] (by kernel_rfl) (by decide) (by kernel_rfl) rfl ?o4 (Ak.ae (o:=PV) [4] (by kernel_rfl) (by decide) (by kernel_rfl) rfl ?o5 (Ak.ae (o:=PW) [5] (by kernel_rfl) (by decide) (by kernel_rfl) rfl ?o6 (Ak.ae (o:=PX) [0,6] (by kernel_rfl) (by decide) (by kernel_rfl) rfl ?o7 (Ak.ae (o:=UQ) [7] (by kernel_rfl) (by decide) (by kernel_rfl) rfl ?o8 (Ak.ae (o:=UR) [8] (by kernel_rfl) (by decide) (by kernel_rfl) rfl ?o9 Ak.nil)))))))));case o0 =>
  rintro s L _ W t r ⟨v,rfl,b,d,k,c0,g⟩ K p;have N:=Aa d 0;have P:=Aa d 1;have R:=Aa d 2;simp only[aG,aD,aI]at N P R;have S:=(A6 (v:=v) (show 3 ∉ ([34,35,36,37,38,39,40,41,42,43]:List Nat) by decide)).trans G;have f : aK (An a [34, 35, 36, 37, 38, 39, 40, 41, 42, 43] v).eval PP = aK (aS ⟨#[undef], []⟩) ⟨aH 0, .load 46 (.const (aN (aH ⟨O, 0, aF⟩))), 0, "", #[], aF⟩ := by simp only[aK, Ae, PP, S]
  refine BJ.mk ?_;unfold aT;rw[f];clear f;go_simp;exact p.out _ _ (AE.next (W:=W) b 0 (aQ #[aA kind,aA name,(aB w on u)]) (Av 0 l rfl) (fun _ _ h=>h) rfl ⟨d,k,c0,g⟩)
 case o1 =>
  rintro s L _ W t r ⟨v,rfl,b,d,k,c0,g⟩ K p;have T:=(A6 (v:=v) (show 2 ∉ ([34,35,36,37,38,39,40,41,42,43]:List Nat) by decide)).trans H;have f : aK (An a [34, 35, 36, 37, 38, 39, 40, 41, 42, 43] v).eval PQ = aK (aS ⟨#[undef], []⟩) ⟨aH 0, .fieldAddr 46 (.const (aN (aH ⟨U, 0, aF⟩))) 2, 0, "", #[], aF⟩ := by simp only[aK, Ae, PQ, T]
  refine BJ.mk ?_;unfold aT;rw[f];clear f;go_simp;exact p.out _ _ (AE.next (W:=W) b 1 (aN (aH ⟨U,2,aF⟩)) (Av 1 l rfl) (fun _ _ h=>h) rfl ⟨d,k,c0,g⟩)
 case o2 =>
  rintro s L _ W t r ⟨v,rfl,b,d,k,c0,g⟩ K p;have V:(An a [34,35,36,37,38,39,40,41,42,43] v).eval (.tmp 35)=_:=(Ao 1 l rfl (by omega)).trans (b 1 (r 1 (by simp)));have f : aK (An a [34, 35, 36, 37, 38, 39, 40, 41, 42, 43] v).eval PR = aK (aS ⟨#[undef], []⟩) ⟨aH 0, .load 44 (.const (aN (aH ⟨U, 2, aF⟩))), 0, "", #[], aF⟩ := by simp only[aK, Ae, PR, V]
  refine BJ.mk ?_;unfold aT;rw[f];clear f;go_simp;exact p.out _ _ (AE.next (W:=W) b 2 (aB (aH ⟨b0,off,aF⟩) n c) (Av 2 l rfl) (fun _ _ h=>h) rfl ⟨d,k,c0,g⟩)
 case o3 =>
  rintro s L _ W t r ⟨v,rfl,b,d,k,c0,g⟩ K p;have X:=(A6 (v:=v) (show 7 ∉ ([34,35,36,37,38,39,40,41,42,43]:List Nat) by decide)).trans I;have f : aK (An a [34, 35, 36, 37, 38, 39, 40, 41, 42, 43] v).eval PT = aK (aS ⟨#[undef], []⟩) ⟨aH 0, .move (.const (.int .i64 (i : Int))), 0, "", #[], aF⟩ := by simp only[aK, Ae, PT, X]
  refine BJ.mk ?_;unfold aT;rw[f];clear f;go_simp;exact p.out _ _ (AE.next (W:=W) b 3 (.int .i64 (i:Int)) (Av 3 l rfl) (fun _ _ h=>h) rfl ⟨d,k,c0,g⟩)
 case o4 =>
  rintro s L _ W t r ⟨v,rfl,b,d,k,c0,g⟩ K p;have Y:(An a [34,35,36,37,38,39,40,41,42,43] v).eval (.tmp 36)=_:=(Ao 2 l rfl (by omega)).trans (b 2 (r 2 (by simp)));have Z:(An a [34,35,36,37,38,39,40,41,42,43] v).eval (.tmp 37)=_:=(Ao 3 l rfl (by omega)).trans (b 3 (r 3 (by simp)));have f : aK (An a [34, 35, 36, 37, 38, 39, 40, 41, 42, 43] v).eval PU = aK (aS ⟨#[undef], []⟩) ⟨aH 0, .indexAddr 44 (.const (aB (aH ⟨b0, off, aF⟩) n c)) (.const (.int .i64 (i : Int))), 0, "", #[], aF⟩ := by simp only[aK, Ae, PU, Y, Z]
  refine BJ.mk ?_;unfold aT;rw[f];clear f;go_simp;exact p.out _ _ (AE.next (W:=W) b 4 (aN (aH ⟨b0,off+i*2,aF⟩)) (Av 4 l rfl) (fun _ _ h=>h) rfl ⟨d,k,c0,g⟩)
 case o5 =>
  rintro s L _ W t r ⟨v,rfl,b,d,k,c0,g⟩ K p;have aa:(An a [34,35,36,37,38,39,40,41,42,43] v).eval (.tmp 38)=_:=(Ao 4 l rfl (by omega)).trans (b 4 (r 4 (by simp)));have f : aK (An a [34, 35, 36, 37, 38, 39, 40, 41, 42, 43] v).eval PV = aK (aS ⟨#[undef], []⟩) ⟨aH 0, .fieldAddr 115 (.const (aN (aH ⟨b0, off + i*2, aF⟩))) 0, 0, "", #[], aF⟩ := by simp only[aK, Ae, PV, aa]
  refine BJ.mk ?_;unfold aT;rw[f];clear f;go_simp;exact p.out _ _ (AE.next (W:=W) b 5 (aN (aH ⟨b0,off+i*2,aF⟩)) (Av 5 l rfl) (fun _ _ h=>h) rfl ⟨d,k,c0,g⟩)
 case o6 =>
  rintro s L _ W t r ⟨v,rfl,b,d,k,c0,g⟩ K p;have ab:(An a [34,35,36,37,38,39,40,41,42,43] v).eval (.tmp 39)=_:=(Ao 5 l rfl (by omega)).trans (b 5 (r 5 (by simp)));have f : aK (An a [34, 35, 36, 37, 38, 39, 40, 41, 42, 43] v).eval PW = aK (aS ⟨#[undef], []⟩) ⟨aH 0, .load 9 (.const (aN (aH ⟨b0, off + i*2, aF⟩))), 0, "", #[], aF⟩ := by simp only[aK, Ae, PW, ab]
  refine BJ.mk ?_;unfold aT;rw[f];clear f;go_simp;exact p.out _ _ (AE.next (W:=W) b 6 (aA key) (Av 6 l rfl) (fun _ _ h=>h) rfl ⟨d,k,c0,g⟩)
 case o7 =>
  rintro s L _ W t r ⟨v,rfl,b,d,k,c0,g⟩ K p;have ac:(An a [34,35,36,37,38,39,40,41,42,43] v).eval (.tmp 34)=_:=(Ao 0 l rfl (by omega)).trans (b 0 (r 0 (by simp)));have ad:(An a [34,35,36,37,38,39,40,41,42,43] v).eval (.tmp 40)=_:=(Ao 6 l rfl (by omega)).trans (b 6 (r 6 (by simp)));have ae:=F W g;have f : aK (An a [34, 35, 36, 37, 38, 39, 40, 41, 42, 43] v).eval PX = aK (aS ⟨#[undef], []⟩) ⟨aH 0, .call { callee := .value (.func 89), args := #[.const (aQ #[aA kind, aA name, (aB w on u)]), .const (aA key)], argTypes := #[46, 9] }, 0, "", #[], aF⟩ := by simp only[aK, Ae, PX, cY, Cu, bW, bE, bN, ac, ad]
  refine BJ.mk ?_;unfold aT;rw[f];clear f;go_simp;refine ae.mono ?_;rintro e W' ⟨q,m,z,rfl,af,b'⟩;exact p.out _ _ (AE.next (W:=W) b 7 (aB q m z) (Av 7 l rfl) (fun _ _ h=>h) ⟨q,m,z,rfl,af⟩ ⟨(b'.block O (aM.1 d).1).trans d,(b'.cell (aC _ _ k)).trans k,(b'.cell (aC _ _ c0)).trans c0,g.trans (b'.mono g.size)⟩)
 case o8 =>
  rintro s L _ W t r ⟨v,rfl,b,d,k,c0,g⟩ K p;obtain⟨q,m,z,ag,A⟩:=b 7 (r 7 (by simp));have ah:(An a [34,35,36,37,38,39,40,41,42,43] v).eval (.tmp 41)=_:=(Ao 7 l rfl (by omega)).trans ag;refine BJ.mk ?_;unfold aT;simp only[aK,UQ,cY,bW,bE,bN,ah];go_simp;exact p.out _ _ (AE.next (W:=W) b 8 (.int .i64 (m:Int)) (Av 8 l rfl) (fun _ _ h=>h) ⟨m,rfl,A⟩ ⟨d,k,c0,g⟩)
 case o9 =>
  rintro s L _ W t r ⟨v,rfl,b,d,k,c0,g⟩ K p;obtain⟨m,ai,A⟩:=b 8 (r 8 (by simp));have aj:(An a [34,35,36,37,38,39,40,41,42,43] v).eval (.tmp 42)=_:=(Ao 8 l rfl (by omega)).trans ai;refine BJ.mk ?_;unfold aT;simp only[aK,UR,Ae,aj];go_simp;exact p.out _ _ (AE.next (W:=W) b 9 (.bool y) (Av 9 l rfl) (fun _ _ h=>h) rfl ⟨d,k,c0,g⟩)
variable {g:Nat}{ls':List LAt}
def Zw(g:Nat)(R:List Plain)(b:BAt)(x:LAt)(w:World)(e:cH)(w':World):Prop:=∃a n c ls',e=aR (aQ #[aA b.aa,aA b.name,aB a n c])/\(ls'.map LAt.I=Ca (lineLt R) x.I (b.ls.map LAt.I)/\ls'.length=b.ls.length+1/\(∀y∈ls',y=x\/y∈b.ls)/\Ap w' (aB a n c) ls'/\Aw g (aB a n c) ls')/\Below w.heap.size w w'
theorem Qu{b:BAt}{x:LAt}(j:Bf w b)(m:Aj b.ls)(k:BL w x)(n:x.ws.length<=1048576)(o:Aw g b.v b.ls)(p:Bx g x.v x.ws.length)(q:g<w.heap.size):Calls prog 86 #[aQ #[aA b.aa,aA b.name,b.v],aQ #[aA x.key,x.v]] w fun e w'=>Zw g (rulesOf b.aa) b x w e w':=by
 refine(Iy j m k n).mono ?_;rintro e w' ⟨v',D,T,l,rfl,r,f,h⟩;obtain⟨a,c,rfl,_⟩:=Al f;have i:∀y∈D++x::T,y=x\/y∈b.ls:=by
  intro y d;rw[l];simp only[bA,cI]at d⊢;rcases d with d|rfl|d
  ·exact .inr (.inl d)
  ·exact .inl rfl
  ·exact .inr (.inr d)
 refine⟨a,_,c,D++x::T,rfl,⟨r,by rw[l];simp;omega,i,⟨AF f,fun y d=>?_⟩,Bx.above f q,fun y d=>?_⟩,h⟩
 ·rcases i y d with rfl|d
  ·exact k.V h
  ·exact(j.2 y d).V h
 ·rcases i y d with rfl|d
  ·exact p
  ·exact o.2 y d
def Wb(B g c c2:Nat)(xk d:ByteArray)(P:List PLine)(D T:List BAt)(e:Nat)(f:World)(i:Value)(a:World):Prop:=∃(k:Nat) (b:BAt),i=.int .i64 (k:Int)/\k<=e/\(b.aa=xk/\b.name=d/\b.ls.map LAt.I=((rulesOf xk).take k).foldl (EC (rulesOf xk)) P/\Aj b.ls/\b.ls.length<=120+k)/\IN B a (aB (aH ⟨g,0,aF⟩) c c2) (D++b::T)/\f.grownBy a (aH g)
theorem X0{a:World}(h:Below B a w)(c:B<=w.heap.size)(d:B<=g)(k:w.grownBy w' (aH g)):Below B a w':=⟨k.os.trans h.os,k.tape.trans h.tape,k.output.trans h.output,cL h.size k.size,fun i b=>(k.block i (Nat.lt_of_lt_of_le b c) (by intro e;cases e;omega)).trans (h.block i b)⟩
theorem X1{x:LAt}(h:Aj ls)(b:x.ws.length<=1048576/\∀y∈x.ws,y.length<=1048576)(c:ls'.length<=1048576)(d:∀y∈ls',y=x\/y∈ls):Aj ls':=⟨c,fun y a=>by
 rcases d y a with rfl|a
 ·exact b
 ·exact h.2 y a⟩
theorem Qv(n:Au w v bs)(bt:A3 bs):Calls prog 27 #[aQ #[v]] w fun e w'=>∃v' bs',e=aR (aQ #[v'])/\bs'.map BAt.I=fillS (bs.map BAt.I)/\Ax w.heap.size w' v' bs'/\Below w.heap.size w w':=by
 obtain⟨ao,aw,rfl⟩:=n.1.ad;have ck:=Ct (w:=w) (cs:=#[aB ao bs.length aw]) (ds:=#[aB aF 0 0]) (T:=25) (U:=25);have c0:=ck.1 0;simp only[aG,aD]at c0;clear ck;have bu:Below w.heap.size w ((w.alloc (aE #[aB ao bs.length aw] 25)).alloc (aE #[aB aF 0 0] 25)):=((aL _ _).alloc (aJ _) _).alloc (by simp) _;have N:=Ai (w.alloc (aE #[aB ao bs.length aw] 25)) (aE #[aB aF 0 0] 25);simp only[aP]at N;have cl:=D6 (n.V bu) bt;have dp:=Ab n;have cm:=Ab bt;clear n bt;generalize dq:bs.length=dr at *;clear dq;generalize bw:(w.alloc (aE #[aB ao dr aw] 25)).alloc (aE #[aB aF 0 0] 25)=W0 at *;have en:W0.heap.size=w.heap.size+2:=by rw[<-bw];simp
 go_enter func27,ntmps27;go_wp2_with (go_at_call 14;(try rw[bw]);refine cl.mono ?_)
 first|rintro e w1 rfl af|rintro e w1 ⟨rfl,af⟩
 have dt:=(af.cell (p:=⟨w.heap.size,0,aF⟩) (by simp;omega)).trans c0;have ax:=(af.block (w.heap.size+1) (by omega)).trans N;have eo:=af.size;have z:=bu.trans (af.mono bu.size);clear cl c0 N bw;cases ay:Bw (bs.map BAt.I)
 ·have ag:=Ab (show ([]:List BAt).map BAt.I=fillS (bs.map BAt.I) from by unfold fillS;rw[ay];rfl);clear ay;go_wp2_with (with_reducible show cT _ _ _ (cE _ (cC _ (bR 2) _) _ _ _ _::_) _ _;refine bF rfl 25 _ _ rfl (w.heap.size+1) #[aB aF 0 0] ?_ ?_ 25 _ ax ?_ ?_ ?_ ?_)
  all_goals (first|rfl|kernel_rfl|exact Bg|skip)
  have z5:(w1.setRow (w.heap.size+1) #[aB aF 0 0]).heap[w.heap.size+1]?=aH (aE #[aB aF 0 0] 25 (0,0)):=bP _ _ _ _ _ _ ax
  have A:Below w.heap.size w (w1.setRow (w.heap.size+1) #[aB aF 0 0]) :=
   ⟨z.os,z.tape,z.output,by rw[bX];exact z.size,fun k az=>by rw[bT _ _ _ _ (by omega)];exact z.block k az⟩
  have B:=Aa z5 0;simp only[aG,aD]at B;generalize w1.setRow (w.heap.size+1) #[aB aF 0 0]=W at A B z5⊢;first|exact bG (v:=aQ #[aB aF 0 0]) (by simp[cA,results27,go_sem,B]) rfl ⟨_,[],rfl,ag.out,DM _ _,A⟩|exact bG (v:=aQ #[aB aF 0 0]) (by simp[cA,results27,go_sem,B]) rfl ⟨_,rfl,[],ag.out,DM _ _,A⟩
 ·have bx:=Ab ay;clear ay;have O:=Di (dp.out.V z) cm.out;go_wp2_with (go_at_call 55;refine O.mono ?_)
  first|rintro e w2 v2 rfl o ah o2 P|rintro e w2 v2 o rfl ah o2 P|rintro e w2 ⟨v2,o,rfl,ah,o2,P⟩
  have bz:=Ab (cm.out.same ah);have b0:=Ab ah;have cn:=z.trans (P.mono z.size);have z2:=(P.block (w.heap.size+1) (by omega)).trans ax;have ep:=P.size;obtain⟨a2,c2,rfl,co⟩:=Al o2.row;have du:=Ab co;have cp:=Ab (fun q (dv:(bH a2 o.length c2).ownBlock=aH q)=>o2.row.lt q dv);have a0:Below w2.heap.size w2 (w2.alloc (aE #[aB a2 o.length c2] 25)):=(aL _ _).alloc (aJ _) _;have o3:=Ab (o2.V a0).brow;have a1:=AH (w:=w2) (cs:=#[aB a2 o.length c2]) (T:=25) 0;simp only[aG,aD]at a1;have z3:=(a0.block (w.heap.size+1) (by omega)).trans z2;have g3:=cn.trans (a0.mono cn.size);have eq:(w2.alloc (aE #[aB a2 o.length c2] 25)).heap.size=w2.heap.size+1:=by simp
  have er:o.length<=1048576:=bz.out.1;clear O ah o2 P ax z2 dt a0 co;generalize cq:o.length=s at *;have dw:=Ab cq;clear cq;generalize cr:w2.alloc (aE #[aB a2 s c2] 25)=w3 at *;have dx:=Ab cr;clear cr;go_wp2;go_loopw [4] (fun i wr=>∃(D T:List BAt),i=.int .i64 (D.length:Int)/\D.length+T.length=s/\P5 o D T/\IN w1.heap.size wr (aB a2 s c2) (D++T)/\Below w1.heap.size w3 wr/\wr.cell? ⟨w2.heap.size,0,aF⟩=aH (aB a2 s c2)) (fun i _=>s-(intOf i).toNat)
  case atStart =>
   rw[dx.out];exact⟨[],o,rfl,by simpa using dw.out,⟨[],rfl,rfl⟩,o3.out,aL _ _,a1⟩
  case round =>
   obtain⟨D,T,rfl,Q,a3,l,a4,b1⟩:=hrel;have es:=a4.size;cases T with
   | nil =>
    simp only[List.length_nil,cM,cD]at Q l;obtain⟨ct,m,t⟩:=a3;rw[cD]at m;subst m;have cu:=UJ (by rw[b0.out];exact AS.1 bx.out) bz.out t;have ag:=Ab (show D.map BAt.I=fillS (bs.map BAt.I) from by unfold fillS;rw[if_pos bx.out,t,b0.out]);have b2:=l.bin;rw[<-Q]at b2;have O:=Di b2 cu;rw[Q]at O;have cv:=g3.trans (a4.mono (by have:=z.size;omega));have z4:=(a4.block (w.heap.size+1) (by omega)).trans z3;have dy:¬((D.length:Int)<(s:Int)):=by omega
    clear l t cu o3 a1 b2;go_wp2_with (go_at_call 55;refine O.mono ?_)
    first|rintro e ai v5 rfl aj a6 o5 A|rintro e ai v5 aj rfl a6 o5 A|rintro e ai ⟨v5,aj,rfl,a6,o5,A⟩
    have z5:=(A.block (w.heap.size+1) (by omega)).trans z4;have ak:=cv.trans (A.mono cv.size);have cw:=Ab (a6.trans ag.out);have dz:=Ab (o5.mono (show w.heap.size+2<=wr.heap.size by omega));obtain⟨a5,c5,rfl,_⟩:=Al o5.row;clear O a6 o5 A ag z4;generalize aj.length=C at *;go_wp2_with (with_reducible show cT _ _ _ (cE _ (cC _ (bR 2) _) _ _ _ _::_) _ _;refine bF rfl 25 _ _ rfl (w.heap.size+1) #[aB a5 C c5] ?_ ?_ 25 _ z5 ?_ ?_ ?_ ?_)
    all_goals (first|rfl|kernel_rfl|exact Bg|skip)
    have cx:(ai.setRow (w.heap.size+1) #[aB a5 C c5]).heap[w.heap.size+1]?=aH (aE #[aB a5 C c5] 25 (0,0)):=bP _ _ _ _ _ _ z5
    have b3:Below w.heap.size w (ai.setRow (w.heap.size+1) #[aB a5 C c5]) :=
     ⟨ak.os,ak.tape,ak.output,by rw[bX];exact ak.size,fun k az=>by rw[bT _ _ _ _ (by omega)];exact ak.block k az⟩
    have o6:=(dz.out.setRow (w.heap.size+1) (by omega) #[aB a5 C c5]).mono (show w.heap.size<=w.heap.size+2 by omega);have B:=Aa cx 0;simp only[aG,aD]at B;generalize ai.setRow (w.heap.size+1) #[aB a5 C c5]=W at b3 B cx o6⊢;first|exact bG (v:=aQ #[aB a5 C c5]) (by simp[cA,results27,go_sem,B]) rfl ⟨_,aj,rfl,cw.out,o6,b3⟩|exact bG (v:=aQ #[aB a5 C c5]) (by simp[cA,results27,go_sem,B]) rfl ⟨_,rfl,aj,cw.out,o6,b3⟩
   | cons x T =>
    simp only[List.length_cons]at Q;obtain⟨R,d0⟩:∃R,R=wr:=⟨_,rfl⟩;subst d0;have dy:((D.length:Int)<(s:Int)):=by omega
    obtain⟨g,rfl⟩:∃g,a2=aH ⟨g,0,aF⟩:=by
     rcases du.out with cy|cy
     ·omega
     ·exact cy
    have cz:=l.cell 0 (by decide);have c1:x∈o:=by obtain⟨ct,m,_⟩:=a3;rw[m];simp
    have c3:=(bz.out.2 x c1).2;have al:=Ab (show AG (rulesOf x.aa) (x.ls.map LAt.I) from((AS.1 bx.out).2.1 x.I (by rw[<-b0.out];exact List.mem_map_of_mem c1)).2.2);have d1:x.ls.length<=120:=by
     have h1:=al.out.few;have et:=(Bm x.aa).1;rw[bC]at h1;omega
    simp only[BAt.cells,aD,cM]at cz;have a7:=Ab l;have a8:=Ab a3;have d2:g<w2.heap.size:=(cp.out g rfl).2;have d3:=(cp.out g rfl).1;have a9:=Ab c3;have c4:=fun W=>Cf x.aa W
    clear l a3 c3 o3 a1;obtain⟨xk,c6,d4,S⟩:=x;simp only at *;have eu:(0:Int)<=(D.length:Int):=by omega
    go_wp2_with (go_at_call 56;refine(c4 _).mono ?_)
    rintro e am ⟨vr,L,rfl,ba,an,bb⟩;have ev:=DX xk ba;have ew:=bb.size;have d5:=(bb.cell (p:=⟨w2.heap.size,0,aF⟩) (aC R _ b1)).trans b1;have bc:=Ab (a7.out.V bb);obtain⟨d6,d7,rfl,_⟩:=Al (show am.ownsRow R.heap.size 54 4 vr L.length (L.flatMap AL.cells) from Ay.head an);have c7:g<R.heap.size:=by omega
    have bd:=Ab an.rin;have be:=Ab (show Bx g (aB d6 L.length d7) L.length from Bx.above (Ay.head an) c7);have b4:=Ab (show ∀r∈L,Am am r.vd r.ds.length 1 (strs r.ds)/\Bx g r.vd r.ds.length/\r.ds.length<=1048576/\∀y∈r.ds,y.length<=1048576 from fun r ap=>by
     obtain⟨ct,ex,Q⟩:=List.append_of_mem ap;have h1:am.ownsRow R.heap.size 9 1 r.vd r.ds.length (strs r.ds):=by have:=an.rm;rw[Q]at this;exact this.defs
     exact⟨AF h1,Bx.above h1 c7,MC ba ap⟩)
    have aq:=Ab ba;clear an ba c4 b1 cz;generalize c8:L.length=V at *;have b5:=Ab c8;clear c8;go_wp2;go_loopw [6] (fun i d=>Wb w1.heap.size g s c2 xk c6 (S.map LAt.I) D T V am i d) (fun i _=>V-(intOf i).toNat)
    case atStart=>exact⟨0,⟨xk,c6,d4,S⟩,rfl,by omega,⟨rfl,rfl,by simp,a9.out,by simpa using d1⟩,bc.out,⟨rfl,rfl,rfl,aJ _,fun _ _ _=>rfl⟩⟩
    case round =>
     obtain⟨d,d8⟩:∃d,d=wr:=⟨_,rfl⟩;subst d8;obtain⟨k,b,rfl,az,bf,l,X⟩:=hrel;have ey:=X.size;have Y:d.cell? ⟨w2.heap.size,0,aF⟩=aH (aB (aH ⟨g,0,aF⟩) s c2):=(X.cell_far ⟨w2.heap.size,0,aF⟩ (by simp;omega) (by intro e;cases e;exact absurd d2 (Nat.lt_irrefl _))).trans d5;by_cases ez:k<V
     ·obtain⟨d9,r,ea,bg,b6⟩:=AC L k (by have:=b5.out;omega);have b7:=bd.out.1.aj (by rw[b5.out];exact be.out) X;rw[bg]at b7;obtain⟨e0,e1,rfl,Z,eb,bh,aa⟩:=b7.rule;have ap:r∈L:=by rw[bg];simp
      obtain⟨c9,bi,da⟩:=b4.out r ap;have bj:=c9.aj bi X;obtain⟨bl,bm,db⟩:=bj.ad;rw[b6]at Z bh aa;have ar:Ap d b.v b.ls:=(l.2 b (by simp)).1;have b8:=(l.2 b (by simp)).2 g rfl;have G:=l.cell 0 (by decide);have m:=l.cell 1 (by decide);have t:=l.cell 2 (by decide);simp only[BAt.cells,aD,aI,cM]at G m t;obtain⟨H,I,dc⟩:=ar.1.ad;obtain⟨bk,bn,bv,a⟩:=b;simp only at bf ar b8 G m t dc;obtain⟨rfl,rfl,ab,n,ec⟩:=bf;subst dc;have au:=Ab (show ((rulesOf bk).take (k+1)).foldl (EC (rulesOf bk)) (S.map LAt.I)=EC (rulesOf bk) (a.map LAt.I) r.I from by
       rw[ab,<-b6];have e:rulesOf bk=d9.map AL.I++r.I::ea.map AL.I:=by rw[<-aq.out,bg];simp
       have:=UK (ls:=S.map LAt.I) e;rw[bC]at this;exact this)
      have dd:r.ds.length<=1048576/\∀y∈r.ds,y.length<=1048576:=da;rw[db]at bj bi aa;have b9:∀p:Gr d,Calls prog 89 #[aQ #[aA bk,aA bn,aB H a.length I],aA r.key] p.u fun e w'=>Jv (!hasK (a.map LAt.I) r.key) p.u e w':=fun p=>OG r.key (b:=⟨bk,bn,aB H a.length I,a⟩) (ar.V p.h) n
      have ca:∀p:Gr d,Calls prog 86 #[aQ #[aA bk,aA bn,aB H a.length I],aQ #[aA r.key,aB bl r.ds.length bm]] p.u fun e w'=>Zw g (rulesOf bk) ⟨bk,bn,aB H a.length I,a⟩ ⟨r.key,aB bl r.ds.length bm,r.ds⟩ p.u e w':=fun p=>Qu (b:=⟨bk,bn,aB H a.length I,a⟩) (x:=⟨r.key,aB bl r.ds.length bm,r.ds⟩) (ar.V p.h) n (Am.V bj p.h) dd.1 b8 bi (by have:=p.h.size;omega)
      have bo:=Ab (show (!r.many && !hasK (a.map LAt.I) r.key)=false->EC (rulesOf bk) (a.map LAt.I) r.I=a.map LAt.I from fun h=>by
       unfold EC;rw[show Cn (a.map LAt.I) r.I=false from h];rfl)
      have bp:=Ab (show (!r.many && !hasK (a.map LAt.I) r.key)=true->EC (rulesOf bk) (a.map LAt.I) r.I=Ca (lineLt (rulesOf bk)) ⟨r.key,r.ds⟩ (a.map LAt.I) from fun h=>by
       unfold EC;rw[show Cn (a.map LAt.I) r.I=true from h];rfl)
      have e2:(0:Int)<=(k:Int):=by omega
      have e3:(k:Int)<(V:Int):=by omega
      have av:=Ab l;have cb:=Ab n;have cc:=Ab dd;clear l b7 eb ap c9 bi da bj db ar b8 ab n bg b6 b4;generalize ed:(!hasK (a.map LAt.I) r.key)=de at *;clear ed;generalize df:a.length=nl at *;have cd:=Ab df;clear df;generalize r.key=rk at *;generalize r.many=ce at *;generalize dg:r.ds.length=ee at *;have ef:=Ab dg;clear dg;go_upto_region 11 with fail
      go_cut [53] from 33 to 53 (fun c eg=>c=.bool (!ce&&de)/\Below d.heap.size d eg)
      case first =>
       have v0:=fun p:Gr d=>Aq Y p
       have v1:=fun p:Gr d=>Aq G p
       have v2:=fun p:Gr d=>Aq m p
       have v3:=fun p:Gr d=>Aq t p
       have v4:=fun p:Gr d=>Aq Z p
       have v5:=fun p:Gr d=>Aq bh p
       clear ca au bo bp av cb cc bc bd be aq a8 al a9 a7 G m t Z bh aa Y;cases ce
       ·refine CV 21 21 (by kernel_rfl) rfl ?_;refine Dr [true,true,true,true,true,true,true,true,true,true,true,true,true,true,true,true,true,false,false,false,false] 4 rfl (by kernel_rfl) ?_;simp only[AZ,Bc,AX];iterate 17 (refine Bt (fun K j=>?_);go_simp;refine j _ ?_;clear j K)
        refine Cq ?_;refine DN (f:=3) (rs:=[17]) (by kernel_rfl) (by simp) ?_;rintro⟨cf,J⟩;refine Ed.cons rfl (by decide) (fun K j=>?_) Ed.nil;go_simp;go_wp2_with (go_at_call 89;refine(b9 ⟨cf,J⟩).mono ?_;rintro e eh ⟨ac,ad,ae,rfl,E,M⟩)
        refine j.out _ _ M ?_;clear j K;refine Dr [false,false,false,false,false,false,false,false,false,false,false,false,false,false,false,false,false,false,true,true,true] 0 rfl (by kernel_rfl) ?_;simp only[AZ,Bc,AX];iterate 3 (refine Bt (fun K j=>?_);go_simp;refine j _ ?_;clear j K)
        refine Cq ?_;refine OE (by kernel_rfl) ?_ 0;rintro⟨dh,bq⟩;refine aX ?_;go_wp2_with fail
        go_meet;exact⟨rfl,J.trans ((M.trans (bq.mono M.size)).mono J.size)⟩
       ·refine A5 (by kernel_rfl) (by kernel_rfl) ?_;iterate 7 quiet_step (fail)
        iterate 13 (with_reducible refine AM ?_ ?_;kernel_rfl;simp only[cV,aO,aV,aW])
        quiet_step (fail)
        refine bO ?_;rintro _ ⟨⟨e4,ei⟩,rfl⟩;go_wp2_with fail
        go_meet;exact⟨rfl,ei⟩
      case rest =>
       obtain⟨F,ej⟩:∃F,F=wc:=⟨_,rfl⟩;subst ej;obtain⟨rfl,u⟩:=hcut;have e5:=u.size;have cg:=Ab (av.out.V u);have di:=Ah X (Ar u (aH g));cases br:(!ce&&de)
       ·have ch:=Ab (au.out.trans (bo.out br));clear au bo bp ca b9 br;go_wp2;go_roundw;case rel=>exact⟨k+1,⟨bk,bn,aB H nl I,a⟩,by go_num,by omega,⟨rfl,rfl,ch.out.symm,cb.out,by have:=cd.out;simp only;omega⟩,cg.out,di⟩
        case measure=>simp[intOf];omega
       ·have ch:=Ab (au.out.trans (bp.out br));have v0:=fun p:Gr F=>Aq ((u.cell (aC d _ Y)).trans Y) p
        have v1:=fun p:Gr F=>Aq ((u.cell (aC d _ G)).trans G) p
        have v2:=fun p:Gr F=>Aq ((u.cell (aC d _ m)).trans m) p
        have v3:=fun p:Gr F=>Aq ((u.cell (aC d _ t)).trans t) p
        have v4:=fun p:Gr F=>Aq ((u.cell (aC d _ Z)).trans Z) p
        have e6:=fun p:Gr F=>Aq ((u.cell (aC d _ aa)).trans aa) p
        have dj:(D++(⟨bk,bn,aB H nl I,a⟩:BAt)::T).length=s:=by simp;omega
        clear au bo bp b9 br av bc bd be aq a8 al a9 a7 G m t Z bh aa Y;go_upto_region 12 with fail
        refine CV 21 22 (by kernel_rfl) rfl ?_;refine Dr [true,true,true,true,true,true,true,true,true,true,true,true,true,true,true,true,true,true,true,false,false,false] 3 rfl (by kernel_rfl) ?_;simp only[AZ,Bc,AX];iterate 19 (refine Bt (fun K j=>?_);go_simp;refine j _ ?_;clear j K)
        refine Cq ?_;refine DN (f:=2) (rs:=[19]) (by kernel_rfl) (by simp) ?_;rintro⟨cf,J⟩;refine Ed.cons rfl (by decide) (fun K j=>?_) Ed.nil;go_simp;go_wp2_with (go_at_call 86;refine(ca ⟨cf,u.trans (J.mono u.size)⟩).mono ?_;rintro e eh ⟨ac,ad,ae,dk,rfl,E,M⟩)
        refine j.out _ _ M ?_;clear j K;refine Dr [false,false,false,false,false,false,false,false,false,false,false,false,false,false,false,false,false,false,false,false,true,false] 1 rfl (by kernel_rfl) ?_;simp only[AZ,Bc,AX];iterate 1 (refine Bt (fun K j=>?_);go_simp;refine j _ ?_;clear j K)
        refine Cq ?_;refine H7 (by kernel_rfl) rfl (by kernel_rfl) ?_;rintro⟨dh,bq⟩ K j;have dl:=J.trans ((M.trans (bq.mono M.size)).mono J.size);have ci:=cg.out.V dl;have cj:=ci.set (b:=⟨bk,bn,aB ac ad ae,dk⟩) dj (E.2.2.2.1.V bq) E.2.2.2.2;have dm:=ci.there dj;rw[if_pos (by rfl)];refine wp_store_mid 46 _ _ rfl g (D.length*3) #[aA bk,aA bn,aB ac ad ae] rfl rfl dm (by kernel_rfl) (all_oneCell_toArray (cs:=[aA bk,aA bn,aB ac ad ae]) (by intro e7 N;simp at N;rcases N with rfl|rfl|rfl <;> rfl)) ?_
        refine j.out _ _ (aX ?_);clear j K
        have ek:=Ab (show Wb w1.heap.size g s c2 bk bn (S.map LAt.I) D T V am (.int .i64 ((k+1:Nat):Int)) (dh.setCells g (D.length*3) [aA bk,aA bn,aB ac ad ae]) from
         ⟨k+1,⟨bk,bn,aB ac ad ae,dk⟩,rfl,by omega,⟨rfl,rfl,E.1.trans ch.out.symm,X1 (x:=⟨rk,aB bl ee bm,r.ds⟩) cb.out ⟨by rw[ef.out];exact cc.out.1,cc.out.2⟩ (by have:=E.2.1;have:=cd.out;simp only at *;omega) E.2.2.1,by have:=E.2.1;have:=cd.out;simp only at *;omega⟩,cj.1,Ah di (Ah (Ar dl (aH g)) cj.2)⟩)
        clear cj dm ci E cg;go_wp2;go_roundw;case rel=>exact ek.out
        case measure=>simp[intOf];omega
     ·obtain rfl:k=V:=by omega
      obtain⟨bk,bn,bv,a⟩:=b;simp only at bf;obtain⟨rfl,rfl,ab,n,ec⟩:=bf;have dn:(rulesOf bk).take k=rulesOf bk:=by rw[bI];rw[<-aq.out,bC,b5.out];exact aJ _
      rw[dn,Us al.out (CB bk)]at ab;have el:=Ab (a8.out.step (b:=⟨bk,bn,bv,a⟩) (show PBlock.mk bk bn (a.map LAt.I)=PBlock.mk bk bn (He (rulesOf bk) (S.map LAt.I)) from by rw[ab]));have e8:¬((k:Int)<(k:Int)):=by omega
      have av:=Ab l;have em:=X0 (a4.trans (bb.mono (by omega))) (by omega) d3 X;clear l ab n dn a7 bc a8 bd be b4 aq al a9;go_wp2;go_roundw;case rel=>exact⟨D++[⟨bk,bn,bv,a⟩],T,by simp,by simp;omega,el.out,by rw[cB];exact av.out,em,Y⟩
      case measure=>simp[intOf];omega
variable {W' W1 W2:World}
structure ZX(w:World)(U O X:Nat)(u o:BAt)(ls:List LAt)(v:Value)(W:World):Prop where
 bw:Below w.heap.size w W
 ub:W.heap[U]?=aH (aE #[aA u.aa,aA u.name,u.v] 46 (0,0))
 ob:W.heap[O]?=aH (aE #[aA o.aa,aA o.name,o.v] 46 (0,0))
 xb:W.heap[X]?=aH (aE #[aA o.aa,aA o.name,v] 46 (0,0))
 rb:W.heap[w.heap.size+2]?=aH (aE #[aA ⟨#[]⟩,aA ⟨#[]⟩,aB aF 0 0] 46 (0,0))
 uin:Bf W u
 oin:Bf W o
 lin:Ap W v ls
 mem:∀y∈ls,y∈o.ls\/y∈u.ls
 aj:∀q,q<=X->Aw q u.v u.ls->Aw q o.v o.ls->Aw q v ls
 ufar:∀q,w.heap.size<=q->Aw q u.v u.ls
 ofar:∀q,w.heap.size<=q->Aw q o.v o.ls
theorem ZX.V{u o:BAt}(h:ZX w U O X u o ls v W)(a:Below W.heap.size W W'):ZX w U O X u o ls v W' :=
 ⟨h.bw.trans (a.mono h.bw.size),(a.block U (aM.1 h.ub).1).trans h.ub,(a.block O (aM.1 h.ob).1).trans h.ob,(a.block X (aM.1 h.xb).1).trans h.xb,(a.block _ (aM.1 h.rb).1).trans h.rb,h.uin.V a,h.oin.V a,h.lin.V a,h.mem,h.aj,h.ufar,h.ofar⟩
theorem ZX.put{u o:BAt}{x:LAt}(h:ZX w U O X u o ls v W)(t:U=w.heap.size)(z:O=w.heap.size+1)(A:X=w.heap.size+3)(j:Below W.heap.size W W1)(k:Below W1.heap.size W1 W2)(l:Ap W2 v' ls')(m:∀y∈ls',y=x\/y∈ls)(c:x∈o.ls\/x∈u.ls)(n:∀q,q<W1.heap.size->Aw q v ls->Bx q x.v x.ws.length->Aw q v' ls'):
  ZX w U O X u o ls' v' (((W2.setCell ⟨X,0,aF⟩ (aA o.aa)).setCell ⟨X,1,aF⟩ (aA o.name)).setCell ⟨X,2,aF⟩ v'):=by
 have h1:=h.V j;have a:=h1.V k;obtain⟨p,b⟩:=SQ (k':=o.aa) (n':=o.name) (v':=v') a.xb;have B:X<W1.heap.size:=(aM.1 h1.xb).1;have C:=a.bw.size;have r:∀q,Aw q u.v u.ls->Aw q o.v o.ls->Bx q x.v x.ws.length:=fun q d f=>by
  rcases c with c|c
  ·exact f.2 x c
  ·exact d.2 x c
 have i:∀q,q<=X->Aw q u.v u.ls->Aw q o.v o.ls->Aw q v' ls':=fun q s d f=>n q (by omega) (h.aj q s d f) (r q d f)
 refine⟨C7 a.bw a.bw.size (by omega) b,(b.block U (aM.1 a.ub).1 (by intro e;have:=bJ e;omega)).trans a.ub,(b.block O (aM.1 a.ob).1 (by intro e;have:=bJ e;omega)).trans a.ob,p,(b.block _ (aM.1 a.rb).1 (by intro e;have:=bJ e;omega)).trans a.rb,Ap.aj a.uin (h.ufar X (by omega)) b,Ap.aj a.oin (h.ofar X (by omega)) b,l.aj (i X (aJ _) (h.ufar X (by omega)) (h.ofar X (by omega))) b,fun y g=>?_,i,h.ufar,h.ofar⟩;rcases m y g with rfl|g
 ·exact c
 ·exact h.mem y g
def ZY(u o:BAt)(w:World)(e:cH)(w':World):Prop:=∃a n c ls,e=aR (aQ #[aA o.aa,aA o.name,aB a n c])/\(ls.map LAt.I=SO (rulesOf o.aa) (u.ls.map LAt.I) (o.ls.map LAt.I)/\(∀y∈ls,y∈o.ls\/y∈u.ls)/\Ap w' (aB a n c) ls/\∀q,q<w.heap.size->Aw q u.v u.ls->Aw q o.v o.ls->Aw q (aB a n c) ls)/\Below w.heap.size w w'
def Afo(w:World)(u o:BAt)(i:Value)(W:World):Prop:=∃(j:Nat) (v:Value) (ls:List LAt),i=.int .i64 (j:Int)/\j<=o.ls.length/\ls.length=j/\ls.map LAt.I=BG (rulesOf o.aa) ((o.ls.map LAt.I).take j)/\ZX w w.heap.size (w.heap.size+1) (w.heap.size+3) u o ls v W
def Afp(w:World)(u o:BAt)(i:Value)(W:World):Prop:=∃(j:Nat) (v:Value) (ls:List LAt),i=.int .i64 (j:Int)/\j<=u.ls.length/\ls.length<=o.ls.length+j/\ls.map LAt.I=BG (rulesOf o.aa) (o.ls.map LAt.I++Hk ((u.ls.map LAt.I).take j) (o.ls.map LAt.I))/\ZX w w.heap.size (w.heap.size+1) (w.heap.size+3) u o ls v W
theorem Kw{o u:BAt}(a:Aj o.ls)(b:Aj u.ls)(c:∀y∈ls,y∈o.ls\/y∈u.ls)(d:ls.length<=1048576):Aj ls:=⟨d,fun x e=>by
 rcases c x e with h|h
 ·exact a.2 x h
 ·exact b.2 x h⟩
theorem I8(f:α->β){L D T:List α}{x:α}(e:L=D++x::T):(L.map f).take (D.length+1)=(L.map f).take D.length++[f x]:=by
 subst e;have a:(D.map f).length=D.length:=by simp
 rw[bB,bE,<-a,List.take_append_of_le_length (aJ _),bK,List.take_append,bI (by omega)];simp
theorem XR{b os:List PLine}{a:PLine}:Hk (b++[a]) os=Hk b os++(if (!hasK os a.key)=true then [a] else []):=by
 unfold Hk;rw[cS];congr 1;simp[List.filter_cons]
def ZZ(R:List Plain)(ls:List LAt)(v:Value)(x:LAt)(W1:World)(v':Value)(W2:World):Prop:=∃ls':List LAt,ls'.map LAt.I=Ca (lineLt R) x.I (ls.map LAt.I)/\ls'.length=ls.length+1/\(∀y∈ls',y=x\/y∈ls)/\Ap W2 v' ls'/\∀q,q<W1.heap.size->Aw q v ls->Bx q x.v x.ws.length->Aw q v' ls'
theorem OZ{x:LAt}(f:Ap W v ls)(g:Aj ls)(i:BL W x)(j:x.ws.length<=1048576):Calls prog 86 #[aQ #[aA kind,aA name,v],aQ #[aA x.key,x.v]] W fun e w'=>∃q m d,e=aR (aQ #[aA kind,aA name,aB q m d])/\ZZ (rulesOf kind) ls v x W (aB q m d) w'/\Below W.heap.size W w':=by
 refine(Eo (b:=⟨kind,name,v,ls⟩) (x:=x) f g i j).mono ?_;rintro e w' ⟨a,n,c,ls',rfl,h,b⟩;exact⟨a,n,c,rfl,⟨ls',h⟩,b⟩
theorem ZX.out{u o:BAt}{a:Option Addr}(h:ZX w w.heap.size (w.heap.size+1) (w.heap.size+3) u o ls (aB a n c) W)(d:ls.map LAt.I=SO (rulesOf o.aa) (u.ls.map LAt.I) (o.ls.map LAt.I))(cs:Array Value):ZY u o w (aR (aQ #[aA o.aa,aA o.name,aB a n c])) (W.setRow (w.heap.size+2) cs):=by
 have b:=Br W (w.heap.size+2) cs;exact⟨a,n,c,ls,rfl,⟨d,h.mem,h.lin.aj (h.aj _ (by omega) (h.ufar _ (by omega)) (h.ofar _ (by omega))) b,fun q g e f=>h.aj q (by omega) e f⟩,C7 h.bw h.bw.size (by omega) b⟩
theorem TK{u o:BAt}(Z:Bf w u)(aa:Bf w o)(ar:Aj u.ls)(au:Aj o.ls)(br:o.ls.length+u.ls.length<=1000000):Calls prog 53 #[aQ #[aA u.aa,aA u.name,u.v],aQ #[aA o.aa,aA o.name,o.v]] w fun e w'=>ZY u o w e w':=by
 obtain⟨F,G,bb⟩:=Z.1.ad;obtain⟨y,z,bc⟩:=aa.1.ad;obtain⟨H,I,cf,f⟩:=u;obtain⟨ok,on,cg,d⟩:=o;simp only at bb bc ar au br;subst bb bc;have a3:=Py (w:=w) (o1:=aE #[aA H,aA I,aB F f.length G] 46) (o2:=aE #[aA ok,aA on,aB y d.length z] 46) (o3:=aE #[aA ⟨#[]⟩,aA ⟨#[]⟩,aB aF 0 0] 46);have av:Below w.heap.size w (((w.alloc (aE #[aA H,aA I,aB F f.length G] 46)).alloc (aE #[aA ok,aA on,aB y d.length z] 46)).alloc (aE #[aA ⟨#[]⟩,aA ⟨#[]⟩,aB aF 0 0] 46)):=(((aL _ _).alloc (aJ _) _).alloc (by simp) _).alloc (by simp;omega) _;have bs:=Aa a3.2.2.1 0;have bt:=Aa a3.2.2.1 1;simp only[aG,aD,aI]at bs bt;obtain⟨bu,bd,be,bf⟩:=a3;have bg:ZX w w.heap.size (w.heap.size+1) (w.heap.size+3) ⟨H,I,aB F f.length G,f⟩ ⟨ok,on,aB y d.length z,d⟩ [] (aB aF 0 0) ((((w.alloc (aE #[aA H,aA I,aB F f.length G] 46)).alloc (aE #[aA ok,aA on,aB y d.length z] 46)).alloc (aE #[aA ⟨#[]⟩,aA ⟨#[]⟩,aB aF 0 0] 46)).alloc (aE #[aA ok,aA on,aB aF 0 0] 46)):=by
  generalize ch:((w.alloc (aE #[aA H,aA I,aB F f.length G] 46)).alloc (aE #[aA ok,aA on,aB y d.length z] 46)).alloc (aE #[aA ⟨#[]⟩,aA ⟨#[]⟩,aB aF 0 0] 46)=W3 at *;have al:=(aL W3.heap.size W3).alloc (aJ _) (aE #[aA ok,aA on,aB aF 0 0] 46);have z4:=Ai W3 (aE #[aA ok,aA on,aB aF 0 0] 46);rw[bu]at z4;have aw:=av.trans (al.mono av.size);exact⟨aw,(al.block _ (by omega)).trans bd,(al.block _ (by omega)).trans be,z4,(al.block _ (by omega)).trans bf,Bf.V Z (aw.mono (aJ _)),Bf.V aa (aw.mono (aJ _)),⟨⟨rfl,aF,0,rfl,⟨aJ _,cQ _⟩,.inl rfl⟩,by simp⟩,by simp,fun q _ _ _=>⟨.inl rfl,by simp⟩,fun q ax=>Ap.fresh Z ax,fun q ax=>Ap.fresh aa ax⟩
 have bh:=Ab bg;have ay:=Ab ar;have am:=Ab au;have ci:=Ab Z;have az:=Ab aa;clear bg Z aa ar au bd be bf av;generalize bi:f.length=O at *;generalize bj:d.length=ab at *;have P:=Ab bi;have J:=Ab bj;clear bi bj;go_enter func53,ntmps53;go_wp2;go_loopw [6] (fun i wr=>Afo w ⟨H,I,aB F O G,f⟩ ⟨ok,on,aB y ab z,d⟩ i wr) (fun i _=>ab-(intOf i).toNat)
 case atStart=>exact⟨0,aB aF 0 0,[],rfl,cQ _,rfl,by simp[BG],bh.out⟩
 case round =>
  obtain⟨j,v,ls,rfl,bv,bw,Q,a⟩:=hrel;simp only[J.out]at bv;simp only at Q;clear bh;have a0:=Aa a.ob 2;simp only[aG,aD,aI]at a0;obtain⟨an,ao,rfl⟩:=a.lin.1.ad;by_cases cj:j<ab
  ·have bx:(j:Int)<(ab:Int):=by omega
   obtain⟨D,⟨xk,a1,c⟩,T,R,ac⟩:=AC d j (by have:=J.out;omega);have p:=a.oin.1;simp only at p;rw[R]at p;obtain⟨b0,off,rfl,c0,A⟩:=p.ai;rw[ac]at c0 A;have C:=a.oin.2 ⟨xk,a1,c⟩ (by rw[R];simp);obtain⟨xa,xc,ad⟩:=C.ad;simp only at ad;subst ad;have S:=(am.out.2 ⟨xk,aB xa c.length xc,c⟩ (by rw[R];simp)).1;have a2:(⟨xk,aB xa c.length xc,c⟩:LAt)∈d:=by rw[R];simp
   have ae:∀W,Below wr.heap.size wr W->Calls prog 86 #[aQ #[aA ok,aA on,aB an ls.length ao],aQ #[aA xk,aB xa c.length xc]] W fun e w'=>∃q m B,e=aR (aQ #[aA ok,aA on,aB q m B])/\ZZ (rulesOf ok) ls (aB an ls.length ao) ⟨xk,aB xa c.length xc,c⟩ W (aB q m B) w'/\Below W.heap.size W w':=fun W g=>OZ (x:=⟨xk,aB xa c.length xc,c⟩) (a.lin.V g) (Kw am.out ay.out a.mem (by have:=J.out;omega)) (BL.V C g) S
   have bz:=Ab (show BG (rulesOf ok) ((d.map LAt.I).take (j+1))=Ca (lineLt (rulesOf ok)) (LAt.I ⟨xk,aB xa c.length xc,c⟩) (ls.map LAt.I) from by rw[Q,<-ac,I8 LAt.I R,Fr]);have h:=Ab a;have a4:=a.xb;have ck:=Ab bw;simp only at a4;clear a p C S Q R;generalize b1:ls.length=nl at *;generalize a5:c.length=nw at *;go_upto_region 5 with fail
   refine Zj (ZZ (rulesOf ok) ls (aB an nl ao) ⟨xk,aB xa nw xc,c⟩) a4 a0 c0 A (by omega) ae (by kernel_rfl) (by kernel_rfl) (by kernel_rfl) (by kernel_rfl) ?_;rintro v2 a' q m B W1 W2 l af ⟨ls',h1,b2,ag,ah,ai⟩ E;simp only[An,CY,aO,aV,aW]at l;subst l;have b3:=Ab (h.out.put rfl rfl rfl af E ah ag (.inl a2) ai);have U:=Ab (h1.trans bz.out.symm);clear ae h h1 ag ah ai af E c0 A a0 a4;go_wp2;go_roundw;case rel=>exact⟨j+1,aB q m B,ls',by go_num,by simp only;have:=J.out;omega,by omega,U.out,b3.out⟩
   case measure=>simp[intOf];omega
  ·obtain rfl:j=ab:=by omega
   have bx:¬((j:Int)<(j:Int)):=by omega
   have aj:(d.map LAt.I).take j=d.map LAt.I:=bI (by rw[bC,J.out];exact aJ _);rw[aj]at Q;have h:=Ab a;have U:=Ab Q;clear a Q aj;generalize b1:ls.length=nl at *;go_wp2;go_loopw [7] (fun i wr=>Afp w ⟨H,I,aB F O G,f⟩ ⟨ok,on,aB y j z,d⟩ i wr) (fun i _=>O-(intOf i).toNat)
   case atStart=>exact⟨0,aB an nl ao,ls,rfl,cQ _,by simp only;have:=J.out;omega,by simpa [Hk] using U.out,h.out⟩
   case round =>
    obtain⟨k,v2,r,rfl,b4,b5,K,a⟩:=hrel;simp only[P.out]at b4;simp only at K b5;clear h U;have L:=Aa a.ub 2;simp only[aG,aD,aI]at L;obtain⟨s,t,rfl⟩:=a.lin.1.ad;by_cases cl:k<O
    ·have b6:(k:Int)<(O:Int):=by omega
     obtain⟨D,⟨xk,a1,c⟩,T,M,ac⟩:=AC f k (by have:=P.out;omega);have p:=a.uin.1;simp only at p;rw[M]at p;obtain⟨b0,off,rfl,c0,A⟩:=p.ai;rw[ac]at c0 A;have C:=a.uin.2 ⟨xk,a1,c⟩ (by rw[M];simp);obtain⟨xa,xc,ad⟩:=C.ad;simp only at ad;subst ad;have S:=(ay.out.2 ⟨xk,aB xa c.length xc,c⟩ (by rw[M];simp)).1;have a2:(⟨xk,aB xa c.length xc,c⟩:LAt)∈f:=by rw[M];simp
     have V:∀W,Below wr.heap.size wr W->Calls prog 89 #[aQ #[aA ok,aA on,aB y j z],aA xk] W fun e w'=>Jv (!hasK (d.map LAt.I) xk) W e w':=fun W g=>OG xk (b:=⟨ok,on,aB y j z,d⟩) (Bf.V a.oin g) am.out
     have ap:=Ab (show Hk ((f.map LAt.I).take (k+1)) (d.map LAt.I)=Hk ((f.map LAt.I).take k) (d.map LAt.I)++(if (!hasK (d.map LAt.I) xk)=true then [LAt.I ⟨xk,aB xa c.length xc,c⟩] else []) from by rw[<-ac,I8 LAt.I M,XR];rfl);have aq:=Ab K;have ak:=a.ob;simp only at ak;cases X:(!hasK (d.map LAt.I) xk)
     ·rw[X]at V;have a6:=Ab (show r.map LAt.I=BG (rulesOf ok) (d.map LAt.I++Hk ((f.map LAt.I).take (k+1)) (d.map LAt.I)) from by rw[ap.out,X,aq.out];simp);have h:=Ab a;clear a p C S K M ap aq X;generalize bk:r.length=n at *;generalize a5:c.length=nw at *;go_upto_region 9 with fail
      refine SR ak L c0 (by omega) V (by kernel_rfl) (by kernel_rfl) (by kernel_rfl) (by kernel_rfl) ?_;intro v3 a' W' l N g;simp only[An,CY,aO,aV,aW,N]at l;subst l;have Y:=Ab (h.out.V g);clear V h g c0 A L ak N;go_wp2;go_roundw;case rel=>exact⟨k+1,aB s n t,r,by go_num,by simp only;have:=P.out;omega,by simp only;omega,a6.out,Y.out⟩
      case measure=>simp[intOf];omega
     ·rw[X]at V;have a6:=Ab (show BG (rulesOf ok) (d.map LAt.I++Hk ((f.map LAt.I).take (k+1)) (d.map LAt.I))=Ca (lineLt (rulesOf ok)) (LAt.I ⟨xk,aB xa c.length xc,c⟩) (r.map LAt.I) from by rw[ap.out,X,aq.out,if_pos rfl,<-cB,Fr]);have bl:Aj r:=Kw am.out ay.out a.mem (by have:=J.out;have:=P.out;omega);have h:=Ab a;have b7:=Ab C;have b8:=Ab S;have b9:=Ab bl;clear a p C S K M ap aq X bl;generalize bk:r.length=n at *;generalize a5:c.length=nw at *;go_upto_region 9 with fail
      refine SR ak L c0 (by omega) V (by kernel_rfl) (by kernel_rfl) (by kernel_rfl) (by kernel_rfl) ?_;intro v3 a' W' l N g;simp only[An,CY,aO,aV,aW,N]at l;subst l;have Y:=h.out.V g;have a7:=Y.xb;simp only at a7;have bm:=(g.cell (aC _ _ L)).trans L;have bn:=(g.cell (aC _ _ c0)).trans c0;have bo:=(g.cell (aC _ _ A)).trans A;have ae:∀W,Below W'.heap.size W' W->Calls prog 86 #[aQ #[aA ok,aA on,aB s n t],aQ #[aA xk,aB xa nw xc]] W fun e w'=>∃q m B,e=aR (aQ #[aA ok,aA on,aB q m B])/\ZZ (rulesOf ok) r (aB s n t) ⟨xk,aB xa nw xc,c⟩ W (aB q m B) w'/\Below W.heap.size W w':=fun W E=>OZ (x:=⟨xk,aB xa nw xc,c⟩) (Y.lin.V E) b9.out (BL.V (BL.V b7.out g) E) (by simp only;rw[a5];exact b8.out)
      have bp:=Ab Y;clear V h c0 A L ak N Y;go_upto_region 10 with fail
      refine Xp (ZZ (rulesOf ok) r (aB s n t) ⟨xk,aB xa nw xc,c⟩) a7 bm bn bo (by omega) ae (by kernel_rfl) (by kernel_rfl) (by kernel_rfl) (by kernel_rfl) ?_;rintro v4 a' q m B W1 W2 l af ⟨ls',h1,b2,ag,ah,ai⟩ E;simp only[An,CY,aO,aV,aW]at l;subst l;have ca:=Ab (bp.out.put rfl rfl rfl af E ah ag (.inr a2) ai);have U:=Ab (h1.trans a6.out.symm);clear ae bp h1 ag ah ai af E bn bo bm a7;go_wp2;go_roundw;case rel=>exact⟨k+1,aB q m B,ls',by go_num,by simp only;have:=P.out;omega,by simp only;omega,U.out,ca.out⟩
      case measure=>simp[intOf];omega
    ·obtain rfl:k=O:=by omega
     have b6:¬((k:Int)<(k:Int)):=by omega
     have aj:(f.map LAt.I).take k=f.map LAt.I:=bI (by rw[bC,P.out];exact aJ _);rw[aj]at K;have az:=Ab (a.out K #[aA ok,aA on,aB s r.length t]);have cb:=Aa a.xb 0;have cc:=Aa a.xb 1;have cd:=Aa a.xb 2;simp only[aG,aD,aI]at cb cc cd;have bq:=a.rb;clear a K aj;generalize bk:r.length=n at *;go_wp2_with (with_reducible show cT _ _ _ (cE _ (cC _ (bR 4) _) _ _ _ _::_) _ _;refine bF rfl 46 _ _ rfl (w.heap.size+2) #[aA ok,aA on,aB s n t] ?_ ?_ 46 _ bq ?_ ?_ ?_ ?_)
     all_goals (first|rfl|kernel_rfl|exact⟨rfl,rfl,rfl⟩|(obtain⟨i9,N,_,ce,_⟩:=bV Cj;exact⟨i9,N,ce⟩)|skip)
     have z5:(wr.setRow (w.heap.size+2) #[aA ok,aA on,aB s n t]).heap[w.heap.size+2]?=aH (aE #[aA ok,aA on,aB s n t] 46 (0,0)):=bP _ _ _ _ _ _ bq;have a8:=Aa z5 0;have a9:=Aa z5 1;have ba:=Aa z5 2;simp only[aG,aD,aI]at a8 a9 ba;generalize wr.setRow (w.heap.size+2) #[aA ok,aA on,aB s n t]=W at az a8 a9 ba z5⊢;exact bG (v:=aQ #[aA ok,aA on,aB s n t]) (by simp[cA,results53,go_sem,a8,a9,ba]) rfl az.out
variable {R:List Plain}
structure S6S(w:World)(X:Nat)(uv ov:Value)(us os xs:List BAt)(v:Value)(W:World):Prop where
 bw:Below w.heap.size w W
 ub:W.heap[w.heap.size]?=aH (aE #[uv] 25 (0,0))
 ob:W.heap[w.heap.size+1]?=aH (aE #[ov] 25 (0,0))
 rb:W.heap[w.heap.size+2]?=aH (aE #[aB aF 0 0] 25 (0,0))
 xb:W.heap[X]?=aH (aE #[v] 25 (0,0))
 uin:Au W uv us
 oin:Au W ov os
 bin:Au W v xs
 aj:A7 X v xs
 ufar:∀q,w.heap.size<=q->A7 q uv us
 ofar:∀q,w.heap.size<=q->A7 q ov os
 ah:∀y∈xs,y.name.size<=1048576/\Aj y.ls
 hX:w.heap.size+3<=X
theorem Aaa{u o:List PLine}:(SO R u o).length<=o.length+u.length:=by
 unfold SO;rw[(Cb _ _).length_eq,bZ];have:(Hk u o).length<=u.length:=cN _ _;omega
def Dw(key:ByteArray)(x:LAt):Bool:=!(x.key.toList==key.toList)
def KT(b:BAt)(key:ByteArray)(w:World)(e:cH)(w':World):Prop:=∃a n c,e=aR (aQ #[aA b.aa,aA b.name,aB a n c])/\w'.ownsRow w.heap.size 115 2 (aB a n c) (b.ls.filter (Dw key)).length ((b.ls.filter (Dw key)).flatMap LAt.cells)/\Below w.heap.size w w'
theorem Of{b:BAt}(key:ByteArray)(s:Bf w b)(t:Aj b.ls):Calls prog 107 #[aQ #[aA b.aa,aA b.name,b.v],aA key] w fun e w'=>KT b key w e w':=by
 obtain⟨bk,bn,bv,ls⟩:=b;unfold KT;unfold Bf at s;simp only at *;obtain⟨ao,f,rfl⟩:=s.1.ad;have bc:=t.1;generalize aa:ls.length=d at *;have ab:=Ab aa;clear aa;obtain⟨i0,ar,au,av,aw⟩:=bV CQ;have I:Below w.heap.size w ((w.alloc (aE #[aA bk,aA bn,aB ao d f] 46)).alloc (aE #[aA ⟨#[]⟩,aA ⟨#[]⟩,aB aF 0 0] 46)):=((aL w.heap.size w).alloc (aJ _) _).alloc (by simp) _;have J:((w.alloc (aE #[aA bk,aA bn,aB ao d f] 46)).alloc (aE #[aA ⟨#[]⟩,aA ⟨#[]⟩,aB aF 0 0] 46)).heap.size=w.heap.size+2:=by simp
 have K:((w.alloc (aE #[aA bk,aA bn,aB ao d f] 46)).alloc (aE #[aA ⟨#[]⟩,aA ⟨#[]⟩,aB aF 0 0] 46)).heap[w.heap.size]?=aH (aE #[aA bk,aA bn,aB ao d f] 46 (0,0)):=by
  have ax:=(aL (w.alloc (aE #[aA bk,aA bn,aB ao d f] 46)).heap.size (w.alloc (aE #[aA bk,aA bn,aB ao d f] 46))).alloc (aJ _) (aE #[aA ⟨#[]⟩,aA ⟨#[]⟩,aB aF 0 0] 46);rw[ax.block w.heap.size (by simp)];exact Ai w _
 have ac:((w.alloc (aE #[aA bk,aA bn,aB ao d f] 46)).alloc (aE #[aA ⟨#[]⟩,aA ⟨#[]⟩,aB aF 0 0] 46)).heap[w.heap.size+1]?=aH (aE #[aA ⟨#[]⟩,aA ⟨#[]⟩,aB aF 0 0] 46 (0,0)):=by
  have:=Ai (w.alloc (aE #[aA bk,aA bn,aB ao d f] 46)) (aE #[aA ⟨#[]⟩,aA ⟨#[]⟩,aB aF 0 0] 46);rw[aP]at this;exact this
 generalize ad:((w.alloc (aE #[aA bk,aA bn,aB ao d f] 46)).alloc (aE #[aA ⟨#[]⟩,aA ⟨#[]⟩,aB aF 0 0] 46))=w2 at *;have ae:=Aa K 2;simp only[aG,aD,aI]at ae;have z:=s.V I;have L:=bD (base:=w.heap.size+2) (e:=115) (size:=2) w2 #[] 0 (by omega) (by decide) rfl;rw[J]at L;have af:=(aL (w.heap.size+2) w2).alloc (by omega) (aE #[] 115);have ay:=Ab ad;clear s ad;go_enter func107,ntmps107;go_wp2;rw[ay.out];go_loopw [5,6] (fun u i wr=>∃(j:Nat) (done:List LAt),j<=d/\i=.int .i64 (j:Int)/\done=(ls.take j).filter (Dw key)/\wr.ownsRow (w.heap.size+2) 115 2 u done.length (done.flatMap LAt.cells)/\Below (w.heap.size+2) w2 wr) (fun _ i _=>d-(intOf i).toNat)
 case atStart=>exact⟨0,[],by omega,rfl,by simp,by simpa using L,af⟩
 case round =>
  obtain⟨j,done,bd,rfl,l,m,h⟩:=hrel;obtain⟨a,c,rfl,_⟩:=Al m;have be:done.length<=j:=by rw[l];exact cL (cN _ _) (by simp;omega)
  have bf:=(h.cell (p:=⟨w.heap.size,2,aF⟩) (by simp)).trans ae;have M:=(h.block w.heap.size (by omega)).trans K;have ag:=(h.block (w.heap.size+1) (by omega)).trans ac;have N:=h.size;rw[J]at N;by_cases bg:j<d
  ·obtain⟨D,x,T,o,A⟩:=AC ls j (by have:=ab.out;omega);have B:=z.V (by rw[J];exact h);have O:x∈ls:=by rw[o];simp
   have C:=B;rw[o]at C;obtain⟨g,off,rfl,az,c2⟩:=C.1.ai;obtain⟨E,F,q⟩:=Am.ad (B.2 x O);have G:=Ab (show (ls.take (j+1)).filter (Dw key)=done++[x].filter (Dw key) from by rw[l,o,<-A,Bk,By,cS]);rw[q]at c2;rw[A]at az c2;have bh:(0:Int)<=(j:Int):=by omega
   have bi:(j:Int)<(d:Int):=by omega
   have P:=Ab (show (LAt.cells x)=[aA x.key,aB E x.ws.length F] from by unfold LAt.cells;rw[q]);have Q:=Ab m;have ah:=Ab (show ∀k,(bH a done.length c).ownBlock=aH k->w.heap.size+2<=k from fun k a0=>(m.lt k a0).1);cases ai:(x.key.toList==key.toList)
   rotate_left 1
   ·have R:=Ab (show (ls.take (j+1)).filter (Dw key)=done from by rw[G.out];simp[Dw,ai]);clear B C l m o q A O G P z t;generalize x.key=xk at *;generalize x.ws.length=bj at *;go_wp2;go_roundw;case rel=>exact⟨j+1,done,by omega,by go_num,R.out.symm,Q.out,h⟩
    case measure=>simp[intOf];omega
   ·have R:=Ab (show (ls.take (j+1)).filter (Dw key)=done++[x] from by rw[G.out];simp[Dw,ai]);have S:=CM (ls:=[x]) (fun y a1=>by rw[aY.1 a1];exact⟨_,_,_,q⟩);rw[aZ,P.out]at S;clear B C l m o q A O G z t;have aj:=Q.out.alloc (aE #[aA x.key,aB E x.ws.length F] 115);have a2:=h.alloc N (aE #[aA x.key,aB E x.ws.length F] 115);have ak:=Bn wr #[aA x.key,aB E x.ws.length F] 115 2 rfl;go_wp2_with (at_builtin;refine AD (by rfl) _ _ 44 (by rfl) (w.heap.size+2) 115 i0 _ 2 40 underlying44 ar au av aw rfl (by decide) _ done.length _ (by rfl) aj _ 1 _ (by rfl) ak S ?c3 ?c4 (cL N (by simp)) ?_)
    case c3=>unfold bU;omega
    case c4=>omega
    intro a3 a4 a5 al am _;have a6:=a2.grown am (by simp;omega) ah.out;have H:=Ab (show a5.ownsRow (w.heap.size+2) 115 2 (aB a3 (done.length+1) a4) (done++[x]).length ((done++[x]).flatMap LAt.cells) from by
     rw[aU,aZ,P.out,bZ];exact al)
    clear aj ak S al am ah Q;go_wp2;go_roundw;case rel=>exact⟨j+1,done++[x],by omega,by go_num,R.out.symm,H.out,a6⟩
    case measure=>simp[intOf];omega
  ·obtain rfl:j=d:=by omega
   have an:ls.take j=ls:=by rw[<-ab.out,bK]
   rw[an]at l;have r:=AN wr w.heap.size 2 (aB a done.length c);have U:(wr.setCell ⟨w.heap.size,2,aF⟩ (aB a done.length c)).heap[w.heap.size]?=aH (aE #[aA bk,aA bn,aB a done.length c] 46 (0,0)):=by rw[bL wr w.heap.size 2 _ _ _ M];rfl
   have ap:=(r.block (w.heap.size+1) (by omega) (by intro e;have:=bJ e;omega)).trans ag;have bl:=Ac M 2;have a7:=Aa U 0;have a8:=Aa U 1;have a9:=Aa U 2;simp only[aG,aD,aI]at a7 a8 a9;have V:=Br (wr.setCell ⟨w.heap.size,2,aF⟩ (aB a done.length c)) (w.heap.size+1) #[aA bk,aA bn,aB a done.length c];have H:=Ab (show ((wr.setCell ⟨w.heap.size,2,aF⟩ (aB a done.length c)).setRow (w.heap.size+1) #[aA bk,aA bn,aB a done.length c]).ownsRow w.heap.size 115 2 (aB a done.length c) (ls.filter (Dw key)).length ((ls.filter (Dw key)).flatMap LAt.cells) from by
    rw[<-l];exact C3 (H0 (H0 m r (by omega)) V (by omega)) (by omega))
   have aq:=Ab (C7 (C7 (I.trans (h.mono (by omega))) (by omega) (aJ _) r) (by have:=r.size;omega) (by omega) V);clear z t m l an M ag K ac I af L r V;generalize done.length=n at *;go_wp2_with (with_reducible show cT _ _ _ (cE _ (cC _ (bR 4) _) _ _ _ _::_) _ _;refine bF rfl 46 _ _ rfl (w.heap.size+1) #[aA bk,aA bn,aB a n c] ?_ ?_ 46 _ ap ?_ ?_ ?_ ?_)
   all_goals (first|rfl|kernel_rfl|exact⟨rfl,rfl,rfl⟩|(obtain⟨i9,ba,_,bb,_⟩:=bV Cj;exact⟨i9,ba,bb⟩)|skip)
   have z5:=bP _ _ _ #[aA bk,aA bn,aB a n c] _ _ ap;have X:=Aa z5 0;have Y:=Aa z5 1;have Z:=Aa z5 2;simp only[aG,aD,aI]at X Y Z;generalize (wr.setCell ⟨w.heap.size,2,aF⟩ (aB a n c)).setRow (w.heap.size+1) #[aA bk,aA bn,aB a n c]=W at H aq X Y Z z5⊢;exact bG (v:=aQ #[aA bk,aA bn,aB a n c]) (by simp[cA,results107,go_sem,X,Y,Z]) rfl ⟨a,n,c,rfl,H.out,aq.out⟩
