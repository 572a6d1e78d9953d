import Derived.Test.YtpdahhnjhggocaaGreatDoorMr15
import Derived.Test.YtpdahhnjhggocaaGreatDoorMr21
import Derived.Lib.OwnKind
open Go.Proofs.Tryz
open Go.Value renaming slice->aA,string->aC,pointer->aH,tuple->bW
open Go.World renaming block_lt_of_cell?->aB,size_alloc->bI,alloc->cL
open Go.Obj renaming cells->aD
open Nat renaming le_refl->aE,le_trans->bD,reduceSub->bF,reduceAdd->bG,mul_le_mul_right->bR,lt_succ_self->cC,le_succ->cO
open Option renaming none->aF,some->aK
open List renaming length_append->aG,getElem?_cons_zero->aL,getElem?_toArray->aO,length_cons->aP,size_toArray->aQ,length_nil->aR,length_map->aV,append_toArray->aW,map_singleton->aY,push_toArray->aZ,getElem?_cons_succ->bA,cons_append->bB,take_of_length_le->bC,nil_append->bE,setIfInBounds_toArray->bL,mem_of_getElem?->bP,set_cons_zero->bT,set_cons_succ->bU,getElem?_map->bY,append_assoc->bZ,take_length->cB,map_append->cD,mem_cons->cH,mem_map->cM
open Go.Fence renaming wide->aI
open Go.Ending renaming returned->aJ,returned->cA
open Go.RowKit.Below renaming refl->aM
open Go renaming bodyPost_ret->aN,results_none->aS,TypeId->bO,callsIn_of_wp->bQ,AbidesFrom->cG,results->cJ,CallsIn->cK
open Array renaming replicate_zero->aT,replicate_succ->aU,getElem?_eq_some_iff->bK
open Go.Lib renaming wpList_append_own_string->aX,byteCells->bH,OthersKept->bM,cell_of_heap->cE,BuilderAtF->cI
open Go.Oper renaming semAt_some->bJ
open Go.ByteArray renaming toList_eq->bN
open Go.IntKind renaming wrap_i64->bS,i64->cF
open Go.CallsIn renaming inRound->bV
open Go.NoPanic renaming normal->bX
open Go.Lib.OthersKept renaming refl->cN
open ByteArray.mk renaming injEq->cP
namespace Go.Proofs.YtpdahhnjhggocaaGreatDoor
open Go.RowKit
set_option maxHeartbeats 16000000
set_option maxRecDepth 100000
variable {W W' w:World}{B n m k:Nat}{e:bO}{v:Value}{xs:List Value}{P:Program}
section
open Go.Shelf
attribute [local go_sem] bJ
def Tv(b:Nat)(W W':World):Prop:=W.heap.size<=W'.heap.size/\∀k cs T a,W.heap[k]?=aK (aD cs T a)->T≠5->k≠b->W'.heap[k]?=aK (aD cs T a)
theorem Tv.trans{b:Nat}{A B C:World}(h:Tv b A B)(k:Tv b B C):Tv b A C:=⟨bD h.1 k.1,fun i cs T a e c d=>k.2 i cs T a (h.2 i cs T a e c d) c d⟩
theorem Tv.put{b:Nat}(W:World)(l:Nat)(o c:Obj)(h:W.heap[l]?=aK o)(f:o.isCells=false):Tv b W (W.putObj l c):=by
 have d:=grownBy_putObj' W l c;refine⟨d.size,fun k cs T i a _ _=>?_⟩;have g:aK k≠aK l:=by
  intro e;cases e
  rw[h]at a;cases a
  cases f
 exact(d.block k (bK.1 a).1 g).trans a
theorem Tv.of_others{b:Nat}(a:W.heap.size<=W'.heap.size)(h:bM 5 (aK b) W W'):Tv b W W':=⟨a,fun k cs T i d f g=>h k _ d (fun e=>g (Option.some.inj e)) (fun c j e=>by cases e;exact f rfl)⟩
theorem Ad5{b:Nat}{size:Nat}(h:W.ownsRow B e size v n xs)(a:Tv b W W')(c:e≠5)(l:b<B):W'.ownsRow B e size v n xs:=by
 refine⟨h.1,h.2.imp id ?_⟩;rintro⟨g,d,f,h1,i,j,k⟩;exact⟨g,d,f,h1,i,a.2 g _ _ _ j c (by omega),k⟩
theorem Ad6{b:Nat}{L:List MRow}(h:Ay B W L)(c:Tv b W W')(d:∀r∈L,r.e≠5)(e:b<B):Ay B W' L:=⟨fun r a=>Ad5 (h.1 r a) c (d r a) e,h.2⟩
theorem Tw{cs:List Bl}{r:MRow}(h:r∈CG v cs):r.e≠5:=by
 rcases cH.1 h with rfl|h
 ·exact(by decide:(93:bO)≠5)
 ·obtain⟨c,_,h⟩:=List.mem_flatMap.1 h;rcases cH.1 h with rfl|h
  ·exact(by decide:(115:bO)≠5)
  ·obtain⟨x,_,rfl⟩:=cM.1 h;exact(by decide:(9:bO)≠5)
theorem Fz{f:FuncId}{args:Array Value}{R a:Ending->World->Prop}(h:Calls P f args w R)(b:∀e w',R e w'->a e w'):aI.fn f/\(aI.depth.isSome=true->1<=n)/\cK aI (n-1) P f args w a:=⟨trivial,fun h=>by simp[aI]at h,(callsIn_wide.2 h).mono b⟩
abbrev Ln:={ x:ByteArray // x.size<=300000 }
abbrev Ln.encs(x:Ln):Array Value:=#[aC x.1]
abbrev Ln.txt(x:Ln):List UInt8:=x.1.data.toList
theorem L4(h:Below W.heap.size W W'):W.grownBy W' aF:=⟨h.os,h.tape,h.output,h.size,fun k a _=>h.block k a⟩
theorem Vt{a b:List UInt8}(h:AU a=.bad m (k:Int)):reportLs a b=[faultL Abf m (k:Int)]:=by
 unfold reportLs;rw[h]
theorem OT{name:List UInt8}(c:name.length<=3)(a:m<=401)(b:k<12):(faultL name m (k:Int)).length<=300000:=by
 unfold faultL;have h1:=Kn k b;have d:=Ko m a;simp only[aG,aP,aR];split
 ·simp;omega
 ·simp only[aP];omega
theorem Acf(n:Nat)(l i B b:Nat)(a t:ByteArray)(C:a.size<=4000000)(d:AU a.data.toList=.bad m (k:Int))(J j:List Ln->World->Prop)
  (o:∀c x W,J c W->c.length<780->YieldAt aI (n-1) prog l (Ln.encs x) W fun e W'=>(e=aJ (.bool true)/\J (c++[x]) W'/\Tv b W W')\/(e=aJ (.bool false)/\j (c++[x]) W'))
  (W:World) (D:cG W.heap.size J) (Q:W.cell? ⟨i,0,aF⟩=aK (aC a)) (p:BZ W) (E:Ho W) (F:DB W) (G:J [] W) :
  cK aI n prog 160 #[.func (.yield l) #[] #[],aH (aK ⟨i,0,aF⟩),aH (aK ⟨B,0,aF⟩)] W fun e W'=>(∃v,e=aJ v) /\
   ((∃xs:List Ln,xs.map Ln.txt=reportLs a.data.toList t.data.toList/\J xs W')\/(∃c,True/\j c W')):=by
 obtain⟨q,R,S⟩:=CN d;rw[Vt d];have s:=I5 a (w:=W) C p E d;have T:((k:Int) != 0)=true:=by simp;omega
 clear d;refine bQ func160 rfl trivial ?_ rfl;simp only[ntmps160,aQ,aP,aR,bG,bF,aU,aT,aZ,aW,bE,bB]
 gi_wp2
 refine Fz s ?_;first|rintro e w1 rfl f|rintro e w1 ⟨rfl,f⟩
 obtain⟨u,_,U,V⟩:=FH w1 (aA aF 0 0) (m:Int) (k:Int);have g:=f.trans (u.mono f.size);have y:=I0 ⟨#[111,108,100]⟩ m k (w:=(w1.alloc (aD #[aA aF 0 0] 25)).alloc (aD #[.int .i64 (m:Int),.int .i64 (k:Int)] 38)) (by decide) q (by omega) (by omega) (p.V g) (F.V g);clear s u f;generalize H:(w1.alloc (aD #[aA aF 0 0] 25)).alloc (aD #[.int .i64 (m:Int),.int .i64 (k:Int)] 38)=W1 at *
 gi_wp2
 refine Fz y ?_;rintro e w2 ⟨x,rfl,z,I⟩;have K:=g.trans (I.mono g.size);have A:x.size<=300000:=by
  rw[<-AP,z];exact OT (by decide) q (by omega)
 obtain⟨X,tmps,assign,body,L,M⟩:=o [] ⟨x,A⟩ w2 (D [] W w2 aF G (L4 K) (fun r e=>by cases e)) (by decide);dsimp only[Ln.encs]at L;clear H y o
 gi_wp2
 refine⟨fun h=>by simp[aI]at h,M.mono ?_⟩;rintro e W3 (⟨rfl,N,_⟩|⟨rfl,O⟩)
 ·gi_wp2
  refine aN (aS rfl _ _ _) rfl ?_;exact⟨⟨_,rfl⟩,.inl ⟨[⟨x,A⟩],by rw[aY];exact congrArg (fun P=>[P]) z,N⟩⟩
 ·gi_wp2
  refine aN (aS rfl _ _ _) rfl ?_;exact⟨⟨_,rfl⟩,.inr ⟨_,trivial,O⟩⟩
theorem Tx{a b:List UInt8}{x:List PBlock}(c:AU a=.good x)(h:AU b=.bad m (k:Int)):reportLs a b=[faultL Abg m (k:Int)]:=by
 unfold reportLs;rw[c,h]
theorem KN(s:ByteArray){bs:List PBlock}(d:s.size<=4000000)(f:BZ w)(g:AU s.data.toList=.good bs):Calls prog 21 #[aC s] w fun e w'=>Zx bs w e w':=by
 refine(Hn s d f g).mono ?_;rintro e w' ⟨a,n,c,h,rfl,i,j,_,_,b⟩;exact⟨a,n,c,h.map DF.b,rfl,⟨i,JD j⟩,b⟩
theorem ZF(n:Nat)(l D E b:Nat)(a t:ByteArray)(V:a.size<=4000000)(X:t.size<=4000000){x:List PBlock}(u:AU a.data.toList=.good x)(i:AU t.data.toList=.bad m (k:Int))(J F:List Ln->World->Prop)
  (G:∀c x W,J c W->c.length<780->YieldAt aI (n-1) prog l (Ln.encs x) W fun e W'=>(e=aJ (.bool true)/\J (c++[x]) W'/\Tv b W W')\/(e=aJ (.bool false)/\F (c++[x]) W'))
  (W:World) (_hbW:b<W.heap.size) (Y:cG W.heap.size J) (a1:W.cell? ⟨D,0,aF⟩=aK (aC a)) (H:W.cell? ⟨E,0,aF⟩=aK (aC t)) (y:BZ W) (Z:Ho W) (aa:DB W) (ab:J [] W) :
  cK aI n prog 160 #[.func (.yield l) #[] #[],aH (aK ⟨D,0,aF⟩),aH (aK ⟨E,0,aF⟩)] W fun e W'=>(∃v,e=aJ v) /\
   ((∃xs:List Ln,xs.map Ln.txt=reportLs a.data.toList t.data.toList/\J xs W')\/(∃c,True/\F c W')):=by
 obtain⟨I,a2,a3⟩:=CN i;have ac:=Ab (Tx u i);have K:=KN a (w:=W) V y u;have ad:=Ab i;have a4:((k:Int) != 0)=true:=by simp;omega
 have a5:((0:Int) != 0)=false:=by decide
 generalize reportLs a.data.toList t.data.toList=RL at *;clear u i;refine bQ func160 rfl trivial ?_ rfl;simp only[ntmps160,aQ,aP,aR,bG,bF,aU,aT,aZ,aW,bE,bB]
 gi_wp2
 refine Fz K ?_;rintro e w1 ⟨xa,d,xc,a6,rfl,⟨ae,af⟩,j⟩;obtain⟨L,k0,ag,ah⟩:=FH w1 (aA xa d xc) 0 0;have f:=j.trans (L.mono j.size);have M:BB ((w1.alloc (aD #[aA xa d xc] 25)).alloc (aD #[.int .i64 0,.int .i64 0] 38)) (w1.heap.size+1) #[.int .i64 0,.int .i64 0] 38:=by
  have:=BB.new (w1.alloc (aD #[aA xa d xc] 25)) #[.int .i64 0,.int .i64 0] 38;rw[bI]at this;exact this
 have ai:=(f.cell (aB _ _ H)).trans H;have aj:=j.size;have N:=I5 t (w:=(w1.alloc (aD #[aA xa d xc] 25)).alloc (aD #[.int .i64 0,.int .i64 0] 38)) X (y.V f) (Z.V f (aE _)) ad.out;clear K j ae af L k0;have ak:((w1.alloc (aD #[aA xa d xc] 25)).alloc (aD #[.int .i64 0,.int .i64 0] 38)).heap.size=w1.heap.size+2:=by simp
 gi_wp2
 refine Fz N ?_;first|rintro e w2 rfl g|rintro e w2 ⟨rfl,g⟩
 have z:=(aM w2.heap.size w2).alloc (aE _) (aD #[aA aF 0 0] 25);have O:=BB.new w2 #[aA aF 0 0] 25;have o:=(M.V g).V z;have al:=g.size;rw[ak]at al;have am:=Aa o 0;have a7:=Ac o 0;have p:=o.set 0 (.int .i64 (m:Int));have P:=O.other (q:=w1.heap.size+1) 0 (.int .i64 (m:Int)) (by omega);have an:=Aa p 1;have a8:=Ac p 1;have A:=p.set 1 (.int .i64 (k:Int));have Q:=P.other (q:=w1.heap.size+1) 1 (.int .i64 (k:Int)) (by omega);have ao:=Aa A 0;have ap:=Aa A 1;have aq:=Aa Q 0;simp only[aO,aL,bA,bL,bT,bU]at am an ao ap aq;have B:=f.trans (g.mono f.size);have R:=B.trans (z.mono B.size);have a9:=aj;have s:=Ad (Ad R ⟨w1.heap.size+1,0,aF⟩ (by show W.heap.size<=w1.heap.size+1;omega) (.int .i64 (m:Int))) ⟨w1.heap.size+1,1,aF⟩ (by show W.heap.size<=w1.heap.size+1;omega) (.int .i64 (k:Int));have S:=I0 ⟨#[110,101,119]⟩ m k (w:=((w2.alloc (aD #[aA aF 0 0] 25)).setCell ⟨w1.heap.size+1,0,aF⟩ (.int .i64 (m:Int))).setCell ⟨w1.heap.size+1,1,aF⟩ (.int .i64 (k:Int))) (by decide) I (by omega) (by omega) (y.V s) (aa.V s);clear N o p A O P Q z B R g M ag ah ai;generalize ar:((w2.alloc (aD #[aA aF 0 0] 25)).setCell ⟨w1.heap.size+1,0,aF⟩ (.int .i64 (m:Int))).setCell ⟨w1.heap.size+1,1,aF⟩ (.int .i64 (k:Int))=ba at *
 gi_wp2
 refine Fz S ?_;rintro e w3 ⟨C,rfl,T,au⟩;have av:=s.trans (au.mono s.size);have U:C.size<=300000:=by
  rw[<-AP,T];exact OT (by decide) I (by omega)
 obtain⟨bb,tmps,assign,body,aw,ax⟩:=G [] ⟨C,U⟩ w3 (Y [] W w3 aF ab (L4 av) (fun r e=>by cases e)) (by decide);dsimp only[Ln.encs]at aw;clear ar S G
 gi_wp2
 refine⟨fun h=>by simp[aI]at h,ax.mono ?_⟩;rintro e W3 (⟨rfl,ay,_⟩|⟨rfl,az⟩)
 ·gi_wp2
  refine aN (aS rfl _ _ _) rfl ?_;exact⟨⟨_,rfl⟩,.inl ⟨[⟨C,U⟩],by rw[aY,ac.out];exact congrArg (fun a0=>[a0]) T,ay⟩⟩
 ·gi_wp2
  refine aN (aS rfl _ _ _) rfl ?_;exact⟨⟨_,rfl⟩,.inr ⟨_,trivial,az⟩⟩
end
variable {w':World}{bs:List BAt}
section
open Go.Shelf
attribute [local go_sem] bJ
def Ad7(P:List PChange)(w:World)(e:Ending)(w':World):Prop:=∃a n c cs,e=aJ (aA a n c)/\(cs.map Bl.I=P/\cs.length=n/\∀x∈cs,Aj x.ls)/\AV w.heap.size w' (aA a n c) cs/\Below w.heap.size w w'
theorem Afa{P:List PChange}{e:Ending}(h:D9 P w e w'):Ad7 P w e w':=by
 obtain⟨v',d,rfl,f,g,_,b,i⟩:=h;obtain⟨a,c,rfl,_⟩:=Al b.row;exact⟨a,_,c,d,rfl,⟨f,rfl,g⟩,b,i⟩
theorem Ty(h:Au w v bs)(f:AA (bs.map BAt.I))(g:BZ w)(b:Below w.heap.size w W):Calls prog 15 #[.agg #[v]] W fun e w'=>Ae5 (fillS (bs.map BAt.I)) W e w':=by
 refine(JI (h.V b) (Ey f) (g.V b)).mono ?_;rintro e w' ⟨v',bs',rfl,i,d,b⟩;obtain⟨a,c,rfl,_⟩:=Al d.row;exact⟨a,_,c,bs',rfl,i,d.bin,b⟩
theorem Tz{a b:List UInt8}{x y:List PBlock}(c:AU a=.good x)(h:AU b=.good y):reportLs a b=if diffS (fillS (AO x)) (fillS (AO y))=[] then [YM] else (diffS (fillS (AO x)) (fillS (AO y))).map tellC:=by
 unfold reportLs;rw[c,h];simp only;split
 ·rename_i e;rw[e,if_pos rfl]
 ·rename_i e;rw[if_neg (fun d=>e d)]
def ZG(J:List Ln->World->Prop)(B:Nat)(D:List PChange)(n:Nat)(v:Value)(cs:List Bl)(i:Value)(wr:World):Prop:=∃(k:Nat) (a:List Ln),i=.int .i64 (k:Int)/\k<=n/\a.map Ln.txt=(D.take k).map tellC/\a.length=k/\J a wr/\AV B wr v cs/\B<=wr.heap.size
theorem ZH(n:Nat)(l bi bj b:Nat)(a t:ByteArray)(c0:a.size<=4000000)(c1:t.size<=4000000){x:List PBlock}(O:AU a.data.toList=.good x){y:List PBlock}(P:AU t.data.toList=.good y)(J bk:List Ln->World->Prop)
  (aj:∀s x W,J s W->s.length<780->YieldAt aI (n-1) prog l (Ln.encs x) W fun e W'=>(e=aJ (.bool true)/\J (s++[x]) W'/\Tv b W W')\/(e=aJ (.bool false)/\bk (s++[x]) W'))
  (W:World) (d6:b<W.heap.size) (bl:cG W.heap.size J) (d7:W.cell? ⟨bi,0,aF⟩=aK (aC a)) (bm:W.cell? ⟨bj,0,aF⟩=aK (aC t)) (ak:BZ W) (_het:Ho W) (_hft:DB W) (c2:J [] W) :
  cK aI n prog 160 #[.func (.yield l) #[] #[],aH (aK ⟨bi,0,aF⟩),aH (aK ⟨bj,0,aF⟩)] W fun e W'=>(∃v,e=aJ v) /\
   ((∃xs:List Ln,xs.map Ln.txt=reportLs a.data.toList t.data.toList/\J xs W')\/(∃s,True/\bk s W')):=by
 have Q:=Ab (Tz O P);have al:=Ab (Eg (CF O));have am:=Ab (Eg (CF P));have bn:=KN a (w:=W) c0 ak O;have c3:=Ab P;have d8:((0:Int) != 0)=false:=by decide
 generalize reportLs a.data.toList t.data.toList=RL at *;clear O P;refine bQ func160 rfl trivial ?_ rfl;simp only[ntmps160,aQ,aP,aR,bG,bF,aU,aT,aZ,aW,bE,bB]
 gi_wp2
 refine Fz bn ?_;rintro e w1 ⟨xa,d,xc,d9,rfl,⟨bo,bp⟩,R⟩;obtain⟨T,k0,bq,br⟩:=FH w1 (aA xa d xc) 0 0;have E:=R.trans (T.mono R.size);have bs:BB ((w1.alloc (aD #[aA xa d xc] 25)).alloc (aD #[.int .i64 0,.int .i64 0] 38)) (w1.heap.size+1) #[.int .i64 0,.int .i64 0] 38:=by
  have:=BB.new (w1.alloc (aD #[aA xa d xc] 25)) #[.int .i64 0,.int .i64 0] 38;rw[bI]at this;exact this
 have c4:=(E.cell (aB _ _ bm)).trans bm;have c5:=R.size;have bt:=Hn t (w:=(w1.alloc (aD #[aA xa d xc] 25)).alloc (aD #[.int .i64 0,.int .i64 0] 38)) c1 (ak.V E) c3.out;have bu:=Ab bo;have bv:=Ab bp;have an:((w1.alloc (aD #[aA xa d xc] 25)).alloc (aD #[.int .i64 0,.int .i64 0] 38)).heap.size=w1.heap.size+2:=by simp
 clear bn R bo bp
 gi_wp2
 refine Fz bt ?_;rintro e w2 ⟨o,yn,yc,c6,rfl,bw,bx,_,_,u⟩;have z:=(aM w2.heap.size w2).alloc (aE _) (aD #[aA o yn yc] 25);have bz:=BB.new w2 #[aA o yn yc] 25;have U:=(bs.V u).V z;have c7:=u.size;rw[an]at c7;have b0:=Aa U 0;have c8:=Ac U 0;have V:=U.set 0 (.int .i64 0);have b1:=bz.other (q:=w1.heap.size+1) 0 (.int .i64 0) (by omega);have b2:=Aa V 1;have c9:=Ac V 1;have ao:=V.set 1 (.int .i64 0);have b3:=b1.other (q:=w1.heap.size+1) 1 (.int .i64 0) (by omega);have X:=Aa ao 0;have Y:=Aa ao 1;have A:=Aa b3 0;simp only[aO,aL,bA,bL,bT,bU]at b0 b2 X Y A;have ap:=E.trans (u.mono E.size);have b4:=ap.trans (z.mono ap.size);have ea:=c5;have F:=Ad (Ad b4 ⟨w1.heap.size+1,0,aF⟩ (by show W.heap.size<=w1.heap.size+1;omega) (.int .i64 0)) ⟨w1.heap.size+1,1,aF⟩ (by show W.heap.size<=w1.heap.size+1;omega) (.int .i64 0);have aq:=T.trans (u.mono T.size);have b5:=aq.trans (z.mono aq.size);have b6:=Ad (Ad b5 ⟨w1.heap.size+1,0,aF⟩ (cO _) (.int .i64 0)) ⟨w1.heap.size+1,1,aF⟩ (cO _) (.int .i64 0);have b7:=((bx.V z).setCell ⟨w1.heap.size+1,0,aF⟩ (by rw[an];exact cC _) (.int .i64 0)).setCell ⟨w1.heap.size+1,1,aF⟩ (by rw[an];exact cC _) (.int .i64 0);have da:=Ab (bv.out.V b6);have db:=Ab (JD b7);have b8:=Ab (show (c6.map DF.b).map BAt.I=AO y from bw);have ar:=Ab (ak.V F);have b9:(((w2.alloc (aD #[aA o yn yc] 25)).setCell ⟨w1.heap.size+1,0,aF⟩ (.int .i64 0)).setCell ⟨w1.heap.size+1,1,aF⟩ (.int .i64 0)).cell? ⟨w1.heap.size,0,aF⟩=aK (aA xa d xc):=by
  have cc:w1.heap.size≠w1.heap.size+1:=by omega
  have u1:=BB.new w1 #[aA xa d xc] 25;have u2:=u1.V ((aM _ (w1.alloc (aD #[aA xa d xc] 25))).alloc (aE _) (aD #[.int .i64 0,.int .i64 0] 38));have u3:=(((u2.V u).V z).other (q:=w1.heap.size+1) 0 (.int .i64 0) cc).other (q:=w1.heap.size+1) 1 (.int .i64 0) cc;have dc:=Aa u3 0;simpa only[aO,aL] using dc
 have G:=Ab (show X2 w1.heap.size w2.heap.size (aA xa d xc) (aA o yn yc) _ from⟨b9,A⟩);clear bt U V ao bz b1 b3 z ap b4 u bs k0 bq br c4 aq b5 b6 T bx b7 bw A b9 bv E;generalize cd:((w2.alloc (aD #[aA o yn yc] 25)).setCell ⟨w1.heap.size+1,0,aF⟩ (.int .i64 0)).setCell ⟨w1.heap.size+1,1,aF⟩ (.int .i64 0)=Z at *
 gi_wp2
 (try rw[cd])
 clear cd b0 b2 c8 c9;refine wpIn_wide.2 ?_;have dd:∀p:{ W:World // X2 w1.heap.size w2.heap.size (aA xa d xc) (aA o yn yc) W },p.1.cell? ⟨w1.heap.size,0,aF⟩=aK (aA xa d xc):=fun p=>p.2.1
 have t2:∀p:{ W:World // X2 w1.heap.size w2.heap.size (aA xa d xc) (aA o yn yc) W },p.1.cell? ⟨w2.heap.size,0,aF⟩=aK (aA o yn yc):=fun p=>p.2.2
 letI:Inhabited { W:World // X2 w1.heap.size w2.heap.size (aA xa d xc) (aA o yn yc) W }:=⟨⟨Z,G.out⟩⟩;have aa:Below Z.heap.size Z Z.drew:=(aM _ _).drew;have au:=Ty da.out (by rw[bu.out];exact al.out) ar.out aa;rw[bu.out]at au;refine AK (S:=X2 w1.heap.size w2.heap.size (aA xa d xc) (aA o yn yc)) 5 6 (by kernel_rfl) rfl ?_;refine A9 [true,false,true,false,false,false] 4 rfl (by kernel_rfl) (G.out.V aa) ?_;simp only[AZ,Bc,AX];iterate 2 (refine A2 (fun K j=>?_);go_simp;refine j _ ?_;clear j K)
 refine A8 ?_;refine Af (f:=3) (rs:=[1]) (by kernel_rfl) (by simp) ?_;refine Ag.cons rfl (by decide) (fun K j=>?_) Ag.nil;go_simp;go_wp2_with (go_at_call 15;refine au.mono ?_;rintro e eb ⟨ec,ed,ca,ee,rfl,av,ce,cf⟩)
 have H:=aa.trans cf;refine j.out _ _ (G.out.V H) ?_;clear j K;have aw:=Ty db.out (by rw[b8.out];exact am.out) ar.out H;rw[b8.out]at aw;refine Af (f:=2) (rs:=[3]) (by kernel_rfl) (by simp) ?_;refine Ag.cons rfl (by decide) (fun K j=>?_) Ag.nil;go_simp;go_wp2_with (go_at_call 15;refine aw.mono ?_;rintro e ab ⟨ef,eg,cb,eh,rfl,ax,cg,ay⟩)
 have B:=H.trans (ay.mono H.size);refine j.out _ _ (G.out.V B) ?_;clear j K;have az:=(QB (ce.V ay) cg (Ey (by rw[av,FQ al.out];exact Fd al.out)) (Ey (by rw[ax,FQ am.out];exact Fd am.out)) (ar.out.V B)).mono fun e w' h=>Afa h
 rw[av,ax]at az;refine Af (f:=1) (rs:=[4]) (by kernel_rfl) (by simp) ?_;refine Ag.cons rfl (by decide) (fun K j=>?_) Ag.nil;clear av ax ce cg;go_simp;go_wp2_with (go_at_call 18;refine az.mono ?_;rintro e a0 ⟨ch,m,a1,cs,rfl,⟨ci,cj,ck⟩,cl,a2⟩)
 have a3:=B.trans (a2.mono B.size);have de:=Ab (F.trans (a3.mono F.size));have ei:W.heap.size<=ab.heap.size:=bD F.size B.size;have df:=a2.size;refine j.out _ _ (G.out.V a3) ?_;clear j K az au aw dd t2;have dg:=Ab cl;have I:=Ab ci;have L:=Ab cj;have dh:=Ab ck;clear ci cj ck cl a2 a3 ay B cf H aa F;refine Bi (by kernel_rfl) rfl (by kernel_rfl) ?_;intro K j;go_simp;refine j.out _ _ (bX ?_);clear j K;have di:=Ab (show ∀c∈diffS (fillS (AO x)) (fillS (AO y)),Xe c from fun c dj=>M7 dj);have ej:m<=780:=by
  have:=Ka (fillS (AO x)) (fillS (AO y));rw[<-I.out,aV,L.out]at this;exact this
 generalize diffS (fillS (AO x)) (fillS (AO y))=D at *;have a4:=bl [] W a0 aF c2 (L4 de.out) (fun r e=>by cases e);by_cases ac:m=0
 ·have M:D=[]:=by rw[<-I.out,List.length_eq_zero_iff.1 (L.out.trans ac)];rfl
  rw[if_pos M]at Q;subst ac;obtain⟨dk,tmps,assign,body,a5,a6⟩:=aj [] ⟨⟨#[116,104,101,32,115,97,109,101]⟩,by decide⟩ a0 a4 (by decide);dsimp only[Ln.encs]at a5;clear aj M
  gi_wp2
  refine⟨fun h=>by simp[aI]at h,a6.mono ?_⟩;rintro e W3 (⟨rfl,dl,_⟩|⟨rfl,dm⟩)
  ·gi_wp2
   refine aN (aS rfl _ _ _) rfl ?_;exact⟨⟨_,rfl⟩,.inl ⟨_,by rw[Q.out];rfl,dl⟩⟩
  ·gi_wp2
   refine aN (aS rfl _ _ _) rfl ?_;exact⟨⟨_,rfl⟩,.inr ⟨_,trivial,dm⟩⟩
 ·have M:¬D=[]:=fun e=>ac (by rw[<-L.out,<-aV (f:=Bl.I),I.out,e];rfl)
  rw[if_neg M]at Q;have ek:((m:Int)==0)=false:=by rw[beq_eq_false_iff_ne];omega
  have cm:=Ab (show ZG J ab.heap.size D m (aA ch m a1) cs (.int .i64 0) a0 from⟨0,[],rfl,by omega,by simp,rfl,a4,dg.out,df⟩);clear M ac a4
  gi_wp2
  gi_loopw [46] (fun i wr=>ZG J ab.heap.size D m (aA ch m a1) cs i wr) (fun i _=>m-(intOf i).toNat)
  case atStart=>exact cm.out
  case round =>
   clear cm;obtain⟨k,N,rfl,el,ad,dn,a7,ae,em⟩:=hrel;by_cases en:k<m
   ·obtain⟨eo,c,ep,af,a8⟩:=AC cs k (by have:=L.out;omega);have a9:c∈cs:=by rw[af];simp
    have ba:=ae.cin.1;rw[af]at ba;obtain⟨g,off,rfl,X,Y,A,d3,d4⟩:=ba.change;rw[a8]at X Y A d3 d4;have bb:=(ae.ac c a9).lin;obtain⟨ag,ah,cn⟩:=bb.1.ad;have bc:D[k]?=aK c.I:=by rw[<-I.out,af,bY,List.getElem?_append_right (by omega),a8,Nat.sub_self];rfl
    have bd:=di.out c.I (bP bc);have dp:=Ab (show (D.take (k+1)).map tellC=N.map Ln.txt++[tellC c.I] from by
     obtain⟨dq,e⟩:=List.getElem?_eq_some_iff.1 bc;rw[List.take_succ_eq_append_getElem dq,cD,aY,e,ad])
    have ai:=(aM wr.heap.size wr).alloc (aE _) (aD #[.int .i64 c.what,aC c.aa,aC c.name,aC c.key,aA ag c.ls.length ah] 93);have C:=BB.new wr #[.int .i64 c.what,aC c.aa,aC c.name,aC c.key,aA ag c.ls.length ah] 93;have be:=Nc (w:=wr.alloc (aD #[.int .i64 c.what,aC c.aa,aC c.name,aC c.key,aA ag c.ls.length ah] 93)) (bb.V ai) bd (dh.out c a9);have eq:=Sx bd;rw[cn]at be d4;have dr:=Ab (ae.V ai);have co:=Aa C 0;have cp:=Aa C 1;have cq:=Aa C 2;have cr:=Aa C 3;have ct:=Aa C 4;simp only[aO,aL,bA]at co cp cq cr ct;have bq:(0:Int)<=(k:Int):=by omega
    have br:(k:Int)<(m:Int):=by omega
    clear ae ba bb cn af a8 a9 bc bd C ad;generalize tellC c.I=er at *;generalize c.what=ds at *;generalize c.aa=dt at *;generalize c.name=du at *;generalize c.key=dv at *;generalize c.ls.length=nl at *;generalize dw:wr.alloc (aD #[.int .i64 ds,aC dt,aC du,aC dv,aA ag nl ah] 93)=es at *
    gi_wp2
    refine Fz be ?_;rintro e cu ⟨bf,rfl,bg,cv⟩;have cw:=ai.trans (cv.mono ai.size);have cx:bf.size<=300000:=by rw[<-AP,bg];omega
    have cy:=bl N wr cu aF a7 (L4 cw) (fun r e=>by cases e);obtain⟨dk,tmps,assign,body,a5,a6⟩:=aj N ⟨bf,cx⟩ cu cy (by omega);dsimp only[Ln.encs]at a5;have dx:=Ab (dr.out.V cv);have dy:=Ab bg;have et:=cw.size;clear dw be co cp cq cr ct X Y A d3 d4 bg cy a7
    gi_wp2
    refine⟨fun h=>by simp[aI]at h,a6.mono ?_⟩;rintro e dz (⟨rfl,cz,bh⟩|⟨rfl,d0⟩)
    ·have d1:=Ab (show ZG J ab.heap.size D m (aA (aK ⟨g,off,aF⟩) m a1) cs (.int .i64 ((k:Int)+1)) dz from⟨k+1,N++[⟨bf,cx⟩],by rw[Int.natCast_add];rfl,by omega,by rw[dp.out,cD,aY,<-dy.out],by rw[aG,dn];rfl,cz,Ad6 dx.out bh (fun r d2=>Tw d2) (by omega),by have:=bh.1;omega⟩);clear cz bh
     gi_wp2
     go_roundw;case rel=>exact d1.out
     case measure=>simp[intOf];omega
    ·gi_wp2
     refine aN (aS rfl _ _ _) rfl ?_;exact⟨⟨_,rfl⟩,.inr ⟨_,trivial,d0⟩⟩
   ·obtain rfl:k=m:=by omega
    have d5:D.take k=D:=by rw[<-I.out,<-L.out,<-aV (f:=Bl.I),cB]
    rw[d5]at ad
    gi_wp2
    go_end0
    exact⟨⟨_,rfl⟩,.inl ⟨N,by rw[Q.out];exact ad,a7⟩⟩
end
section
open Go.Shelf
attribute [local go_sem] bJ
theorem XH(n e f b:Nat)(a t:ByteArray)(h:a.size<=4000000)(z:t.size<=4000000)(w:World)(E:b<w.heap.size)(A:w.cell? ⟨e,0,aF⟩=aK (aC a))(B:w.cell? ⟨f,0,aF⟩=aK (aC t))(i:BZ w)(j:Ho w)(o:DB w):
  SeqStopsK aI n prog 160 #[aH (aK ⟨e,0,aF⟩),aH (aK ⟨f,0,aF⟩)] (fun x:Ln=>Ln.encs x) (Tv b) (fun xs=>xs.map Ln.txt=reportLs a.data.toList t.data.toList) (fun _=>True) 780 w:=fun l J p W d q _ r s=>by
 have u:=(d.cell (aB _ _ A)).trans A;have C:=(d.cell (aB _ _ B)).trans B;have D:=Nat.lt_of_lt_of_le E d.size;cases g:AU a.data.toList with
 | bad m c =>
  obtain⟨k,rfl⟩:∃k:Nat,c=(k:Int):=⟨c.toNat,by have:=(CN g).2.1;omega⟩;exact Acf n l e f b a t h g J p r W q u (i.V d) (j.V d (aE _)) (o.V d) s
 | good x =>
  cases v:AU t.data.toList with
  | bad m c =>
   obtain⟨k,rfl⟩:∃k:Nat,c=(k:Int):=⟨c.toNat,by have:=(CN v).2.1;omega⟩;exact ZF n l e f b a t h z g v J p r W D q u C (i.V d) (j.V d (aE _)) (o.V d) s
  | good y=>exact ZH n l e f b a t h z g v J p r W D q u C (i.V d) (j.V d (aE _)) (o.V d) s
theorem Lj(a b:ByteArray)(w:World):Calls prog 100 #[aC a,aC b] w fun e w'=>e=aJ (.func (.func 160) #[] #[aH (aK ⟨w.heap.size,0,aF⟩),aH (aK ⟨w.heap.size+1,0,aF⟩)])/\w'=(w.alloc (aD #[aC a] 9)).alloc (aD #[aC b] 9):=by
 have f:∀(c:Fn) (first d:Array Value) (w:World),(Instr.makeFunc c first d).run prog w=.ok (.func c first d) w:=fun _ _ _ _=>rfl
 go_enter func100,ntmps100;go_wp2;go_ret;exact⟨rfl,rfl⟩
theorem XI(w0:World):X6 w0.heap.size w0.heap.size [] (w0.alloc (aD #[aH aF,aA aF 0 0] 100)):=by
 refine .inl ⟨aE _,aA aF 0 0,?_,World.ownsRowF_nil _ _ _ _,?_⟩
 ·unfold cL;simp
 ·intro e;cases e
theorem T3{b:Nat}{l:List UInt8}(h:X6 B b l w)(a:l≠[]):Calls prog 71 #[aH (aK ⟨b,0,aF⟩)] w fun e w'=>e=aJ (aC ⟨l.toArray⟩)/\Rwt B b l w w':=by
 refine(Ti B b l w h a).mono ?_;rintro e w' ⟨rfl,h1,c,d⟩;exact⟨rfl,h1,c,d⟩
theorem Acg{b:Nat}{l:List UInt8}{row:Option Nat}(h:X6 B b l W)(i:W.grownBy W' row)(j:∀r,row=aK r->∃o:Obj,W.heap[r]?=aK o/\o.isCells=false):X6 B b l W':=by
 have d:∀(k:Nat) (cs:Array Value) (T:bO) a,W.heap[k]?=aK (aD cs T a)->W'.heap[k]?=aK (aD cs T a):=by
  intro k cs T a c;refine(i.block k (bK.1 c).1 (fun e=>?_)).trans c;obtain⟨o,m,n⟩:=j k e.symm;rw[m]at c;cases c
  cases n
 have key:∀p,cI 100 5 B b p (bH l) W->cI 100 5 B b p (bH l) W':=by
  rintro p ⟨h1,v,q,f,s⟩;refine⟨h1,v,d _ _ _ _ q,⟨f.1,?_⟩,s⟩;rcases f.2 with h|⟨g,t,u,a,w,x,y,r⟩
  ·exact .inl h
  ·exact .inr ⟨g,t,u,a,w,x,d _ _ _ _ y,r⟩
 rcases h with h|h
 ·exact .inl (key _ h)
 ·exact .inr (key _ h)
theorem KO{b:Nat}{l:List UInt8}(h:X6 B b l W)(g:W.heap.size<=W'.heap.size)(i:bM 5 (aK b) W W'):KeepsOthers W W':=by
 refine⟨g,fun k o a d=>i k o a (fun e=>?_) (fun c j e=>by rw[e]at d;cases d)⟩;cases e
 rcases h with ⟨_,v,f,_⟩|⟨_,v,f,_⟩ <;> (rw[f]at a;cases a;cases d)
def KP(a:List Ln):List UInt8:=a.flatMap (fun x=>x.txt++[10])
theorem Vu(a:List Ln)(x:Ln):KP (a++[x])=KP a++x.txt++[10]:=by unfold KP;rw[List.flatMap_append,List.flatMap_singleton,bZ]
theorem ZI(a:List Ln):(KP a).length<=300001*a.length:=by
 unfold KP;refine FP _ 300001 a (fun x _=>?_);have:=x.2;rw[aG,List.length_singleton,AP];omega
theorem XJ(a b:List UInt8):reportS a b≠[]:=by
 unfold reportS;have h:reportLs a b≠[]:=by
  unfold reportLs;split
  ·simp
  ·split
   ·simp
   ·split
    ·simp
    ·rename_i h;simpa using h
 cases c:reportLs a b with
 | nil=>exact absurd c h
 | cons x L=>simp
theorem Nr(a t:ByteArray)(J:a.size<=4000000)(L:t.size<=4000000)(y:BZ w)(z:Ho w)(C:DB w):Calls prog 40 #[aC a,aC t] w fun e w'=>IR (reportS a.data.toList t.data.toList) w e w':=by
 have E:=XI w;have m:=(aM w.heap.size w).alloc (aE _) (aD #[aH aF,aA aF 0 0] 100);have F:=Lj a t (w.alloc (aD #[aH aF,aA aF 0 0] 100));have kk:=Ct (w:=w.alloc (aD #[aH aF,aA aF 0 0] 100)) (cs:=#[aC a]) (ds:=#[aC t]) (T:=9) (U:=9);have k0:=kk.1 0;have p:=kk.2 0;simp only[aO,aL]at k0 p;have q:=(((aM _ (w.alloc (aD #[aH aF,aA aF 0 0] 100))).alloc (aE _) (aD #[aC a] 9)).alloc (by simp) (aD #[aC t] 9));have M:=E.gr q;have j:=m.trans (q.mono m.size);have N:(((w.alloc (aD #[aH aF,aA aF 0 0] 100)).alloc (aD #[aC a] 9)).alloc (aD #[aC t] 9)).heap.size=w.heap.size+3:=by simp
 have O:=Ab (show reportS a.data.toList t.data.toList=(reportLs a.data.toList t.data.toList).flatMap (fun l=>l++[10]) from rfl);have P:=Ab (XJ a.data.toList t.data.toList);have Q:=XH 3 (w.heap.size+1) (w.heap.size+2) w.heap.size a t J L _ (by rw[N];omega) (by simpa using k0) (by simpa using p) (y.V j) (z.V j (aE _)) (C.V j);clear y z C E m q kk k0 p;generalize reportS a.data.toList t.data.toList=R at *;refine(callsIn_wide (n:=4)).1 ?_;refine callsIn_of_wp_marks func40 rfl trivial ?_ rfl;simp only[ntmps40,aQ,aP,aR,bG,bF,aU,aT,aZ,aW,bE,bB]
 gi_wp2
 refine⟨trivial,(callsIn_wide.2 F).mono ?_⟩;rintro e w2 ⟨rfl,rfl⟩;rw[bI];clear F;generalize ((w.alloc (aD #[aH aF,aA aF 0 0] 100)).alloc (aD #[aC a] 9)).alloc (aD #[aC t] 9)=W0 at *
 gi_wp2
 refine wpIn_rangeFunc_ownG rfl (by decide) (gf:=160) (lb:=#[aH (aK ⟨w.heap.size+1,0,aF⟩),aH (aK ⟨w.heap.size+2,0,aF⟩)]) rfl trivial (enters_of func160 (by kernel_rfl) rfl)
  Q (fun h k=>Tv.trans h k) (fun W l o S _ h V _=>Tv.put W l o S h V) (aM _ _) (fun _=>rfl)
  (fun b W=>X6 w.heap.size w.heap.size (KP b) W/\Below w.heap.size w W)
  (fun _ _ _=>False)
  (OwnFrom.and (I:=fun(b:List Ln) W=>X6 w.heap.size w.heap.size (KP b) W) (fun s A B row u X Y=>Acg u X (fun r e=>(Y r e).2)) (ownFrom_below (aE _) (by omega)))
  (fun _ _ _ _ _ u _ _=>u)
  ⟨M,j⟩
  (fun x=>{ tmps:=#[aC a,aC t,undef,undef,aC ⟨#[]⟩,aH (aK ⟨w.heap.size,0,aF⟩),aC x.1,aC a,aC t,.func (.func 160) #[] #[aH (aK ⟨w.heap.size+1,0,aF⟩),aH (aK ⟨w.heap.size+2,0,aF⟩)],aC x.1,undef,undef,undef,undef],defers:=[] })
  ?assign ?body ?done ?stop
 case assign =>
  intro l x W K v
  gi_wp2
  exact v
 case body =>
  rintro l b x W ⟨d,g⟩ ac;have ad:=ZI b;have ae:=x.2;have i:=Ob x.1 d (by rw[AP];omega) g.size
  gi_wp2
  refine⟨trivial,(bV l (callsIn_wide.2 i)).mono ?_⟩;rintro e w3 ⟨rfl,W3⟩;have G:=Tj (10:UInt8) W3.1 (by rw[aG,AP];omega) (bD g.size W3.2.1.size);clear i
  gi_wp2
  refine⟨trivial,(bV l (callsIn_wide.2 G)).mono ?_⟩;rintro e af ⟨rfl,W4⟩;have f:=W3.trans W4;clear G
  gi_wp2
  refine⟨(KO d f.2.1.size f.2.2).from _,Tv.of_others f.2.1.size f.2.2,by rw[Vu];exact f.1,g.trans f.2.1⟩
 case done =>
  rintro D ys W ag Z ⟨d,g⟩ v;have aa:KP ys=R:=by
   rw[O.out,<-Z,List.flatMap_map];rfl
  rw[aa]at d;have i:=T3 d P.out
  gi_wp2
  refine⟨trivial,(callsIn_wide.2 i).mono ?_⟩;rintro e w3 ⟨rfl,W3⟩;have H:=(KO d W3.2.1.size W3.2.2).same D _ v rfl;have ab:=Ab (g.trans W3.2.1);clear i W3
  gi_wp2
  refine⟨by simp,.inl ⟨_,_,rfl,run_takeDeferred H,?_⟩⟩;exact⟨_,results_tmp rfl _ _ _,_,rfl,rfl,ab.out.trans (belowK_b (w:=w) (aE _) w3 D _ _ (by omega) H rfl rfl)⟩
 case stop =>
  rintro D c b W _ _ h _;exact h.elim
end
variable {v':Value}{s:ByteArray}{N:Nat}
def Own(B:Nat)(w:World)(v:Value)(l:List UInt8):Prop:=w.ownsRow B 5 1 v l.length (bH l)
theorem Own.app{l:List UInt8}(h:Own B w v l)(c:B<=w.heap.size)(a:w'.ownsRow B 5 1 v' N (bH l++Lib.strCells s))(b:w.grownBy w' v.ownBlock):Own B w' v' (l++s.data.toList)/\Below B w w'/\bM 5 aF w w':=by
 obtain rfl:N=l.length+s.size:=by
  have:=a.1;rw[aG,Lib.byteCells_length,Lib.strCells_length]at this;omega
 refine⟨?_,?_,?_⟩
 ·unfold Own;rw[Dy,<-Fc,aG,show s.data.toList.length=s.size by simp];exact a
 ·exact(aM B w).grown b c (fun k d=>(h.lt k d).1)
 ·exact(cN 5 aF w).grown b (Lib.ownsRow_kind h)
def cntTo(bs:List PBlock)(j:Nat):Nat:=((bs.take j).map fun b=>b.ac.length+2).sum
theorem Ny(bs:List PBlock)(j:Nat)(b:PBlock)(a:bs[j]?=aK b):cntTo bs (j+1)=cntTo bs j+b.ac.length+2:=by
 unfold cntTo;rw[List.take_add_one,a];simp;omega
theorem TR{bs:List PBlock}(c:∀b∈bs,b.ac.length<=1048576):∀j,cntTo bs j<=j*1048578
 | 0=>by simp[cntTo]
 | j+1=>by
  have h:=TR c j;cases a:bs[j]? with
  | none =>
   have:bs.length<=j:=by simpa using a
   have e:cntTo bs (j+1)=cntTo bs j:=by unfold cntTo;rw[bC (by omega),bC (by omega)]
   omega
  | some b =>
   have:=c b (bP a);rw[Ny bs j b a];omega
theorem TT{bs:List PBlock}(h:AA bs):cntTo bs bs.length=(textLines (sheetL bs)).length:=by
 rw[GG bs (fun b a=>⟨(h.2.1 b a).1,(h.2.1 b a).2.1,(h.2.1 b a).2.2.1⟩),Pj];unfold cntTo;rw[cB]
theorem RF(t:ByteArray):t.size=t.data.toList.length:=by simp
theorem IC(W:Au w v bs)(K:A3 bs):Calls prog 25 #[.agg #[v]] w fun e w'=>e=aJ (aC ⟨(printL (bs.map BAt.I)).toArray⟩)/\Below w.heap.size w w':=by
 obtain⟨am,an,rfl⟩:=W.1.ad;obtain⟨ap,aq,ar,au,av⟩:=info_parts Mi;have dq:=K.1;have b0:Below w.heap.size w (w.alloc (aD #[aA am bs.length an] 25)):=(aM _ _).alloc (aE _) _;have X:=AH (w:=w) (cs:=#[aA am bs.length an]) (T:=25) 0;simp only[aO,aL]at X;have L:=D6 (W.V b0) K;have bo:=Ab (W.V b0);have co:=Ab K;clear W;generalize aw:bs.length=n at *;generalize Y:bs.map BAt.I=d at *;have cp:=Ab Y;have cq:=Ab aw;have ax:=Ab (show d.length=n by rw[<-Y,aV,aw]);have bp:=Ab (show ∀b∈d,b.ac.length<=1048576 by
  intro b Z;rw[<-Y]at Z;obtain⟨x,cr,rfl⟩:=cM.1 Z;have:=(K.2 x cr).2.1;simpa [BAt.I] using this)
 clear Y aw K;cases H:Bw d with
 | false =>
  rw[show printL d=[] by unfold printL;rw[if_pos (.inl H)]];rw[H]at L;go_enter func25,ntmps25;go_wp2_with (go_at_call 14;refine L.mono ?_)
  first|rintro e w2 rfl A|rintro e w2 ⟨rfl,A⟩
  go_wp2;go_ret;exact⟨rfl,b0.trans (A.mono b0.size)⟩
 | true =>
  rw[H]at L;have aa:=AS.1 H;have ay:=Ab (Xd aa bp.out);have ct:n<=60:=by rw[<-ax.out];exact aa.1
  have bq:=Ab (TT aa);have a0:=Ab (TR bp.out);have br:=Ab (show ∀b:Bool,b=decide (Cm (sheetL d))->printL d=if b then [] else sheetL d by
   rintro b rfl;unfold printL;by_cases h:Cm (sheetL d)
   ·rw[if_pos (.inr h),if_pos (decide_eq_true h)]
   ·rw[if_neg (by rintro(e|e);rw[H]at e;cases e;exact h e),if_neg (by simpa using h)])
  clear aa H;go_enter func25,ntmps25;go_wp2_with (go_at_call 14;refine L.mono ?_)
  first|rintro e w2 rfl A|rintro e w2 ⟨rfl,A⟩
  clear L;generalize cu:w.alloc (aD #[aA am n an] 25)=w1 at *;clear cu;have ab:=Ab (bo.out.V A);have a1:=(A.cell (p:=⟨w.heap.size,0,aF⟩) (aB w1 _ X)).trans X;have bt:=b0.trans (A.mono b0.size);clear bo X A b0;have bu:Own w2.heap.size (w2.alloc (aD #[] 5)) (aA (aK ⟨w2.heap.size,0,aF⟩) 0 0) []:=World.ownsRow_lit w2 #[] 0 (aE _) (by decide) rfl;have bv:Below w2.heap.size w2 (w2.alloc (aD #[] 5)):=(aM _ _).alloc (aE _) _;go_wp2;go_loopw [3,4,5] (fun s c i wr=>∃j:Nat,j<=n/\i=.int .i64 (j:Int)/\c=.int .i64 (cntTo d j:Int)/\Own w2.heap.size wr s (sheetL (d.take j))/\Below w2.heap.size w2 wr) (fun _ _ i _=>n-(intOf i).toNat)
  case atStart=>exact⟨0,by omega,rfl,by simp[cntTo],by simpa [sheetL] using bu,bv⟩
  case round =>
   obtain⟨j,dr,rfl,rfl,I,r⟩:=hrel;have cv:=(r.cell (p:=⟨w.heap.size,0,aF⟩) (aB w2 _ a1)).trans a1;by_cases ds:j<n
   ·obtain⟨D,y,T,ac,a2⟩:=AC bs j (by have:=cq.out;omega);have a3:=ab.out;rw[ac]at a3;obtain⟨g,off,rfl,c3,c4,c5⟩:=a3.1.block;have a4:y∈bs:=by rw[ac];simp
    obtain⟨t,z,a5⟩:=(ab.out.2 y a4).1.ad;rw[a2]at c3 c4 c5;rw[a5]at c5;have cw:=(r.cell (aB w2 _ c3)).trans c3;have cx:=(r.cell (aB w2 _ c4)).trans c4;have cy:=(r.cell (aB w2 _ c5)).trans c5;have a6:d[j]?=aK y.I:=by rw[<-cp.out,ac,<-a2];simp
    have bw:=Ab (Pv d j y.I a6);have bx:=Ab (Ny d j y.I a6);have cz:=bD (U6 d (j+1)) ay.out;rw[bw.out,aG]at cz;have a7:=a0.out (j+1);rw[bx.out]at a7;have a8:=(co.out.2 y a4).2;have a9:=Ab (show Ap w2 (aA t y.ls.length z) y.ls from a5▸ab.out.2 y a4);have c0:=Ab (K7 y.I);have ad:=Ab (U3 y.I);have ba:=Ab (Ps y.I);have bz:=Ab (show y.I.ac=y.ls.map LAt.I from rfl);have b1:=Ab (show Jm y.I=y.aa.data.toList++32::y.name.data.toList from rfl);have bb:y.I.ac.length=y.ls.length:=by rw[bz.out,aV]
    rw[bb]at a7;have b2:=Ab bb;have c1:=Ab a8;have dt:(j:Int)<(n:Int):=by omega
    have i0:(0:Int)<=(j:Int):=by omega
    have c2:y.aa.size+1+y.name.size+1<=140737488355328:=by
     have h1:=ad.out 0;rw[ba.out,b1.out]at h1;simp at h1;omega
    have du:=a8.1;have c6:=Ab (show ∀(k:Nat) (a:LAt),y.ls[k]?=aK a->y.I.ac[k]?=aK a.I by intro k a c7;rw[bz.out,bY,c7];rfl);clear c3 c4 c5 a3 a5 bb a8 a2 ac a6;generalize c8:sheetL (d.take (j+1))=dv at *;generalize sheetL (d.take j)=J at *;generalize c9:cntTo d (j+1)=dw at *;generalize cntTo d j=F at *;generalize b3:y.ls.length=m at *;generalize y.I=B at *;generalize y.aa=yk at *;generalize y.name=yn at *;have da:=Ab b3;clear b3;have db:¬ 9223372036854775807<yk.size+1:=by omega
    have dc:¬ 9223372036854775807<yk.size+1+yn.size:=by omega
    have dd:¬ 9223372036854775807<yk.size+1+yn.size+1:=by omega
    have de:(j+1)*1048578<=60*1048578:=bR _ (by omega);have dx:cF.wrap ((F:Int)+(m:Int))=(F:Int)+(m:Int):=by rw[bS];omega
    have dy:cF.wrap ((F:Int)+(m:Int)+2)=(F:Int)+(m:Int)+2:=by rw[bS];omega
    have o:(yk++⟨#[32]⟩++yn++⟨#[10]⟩:ByteArray).data.toList=Jm B++[10]:=by rw[b1.out];simp
    have C:(yk++⟨#[32]⟩++yn++⟨#[10]⟩:ByteArray).size=(Jm B++[10]).length:=by rw[<-o];exact RF _
    replace C:=Ab C;replace o:=Ab o;have b4:w2.heap.size<=wr.heap.size:=r.size;have b5:=ad.out 0;rw[ba.out]at b5;have bc:Own w2.heap.size (wr.alloc (aD #[aC yk,aC yn,aA t m z] 46)) u3 J:=I.alloc _;have b6:(wr.alloc (aD #[aC yk,aC yn,aA t m z] 46)).heap[wr.heap.size]?=aK (aD #[aC yk,aC yn,aA t m z] 46):=by unfold cL;simp
    have ae:∀c b7,(Obj.cells #[aC yk,aC yn,aA t m z] 46)≠aD c 5 b7:=by intro c b7 e;cases e
    have af:Below w2.heap.size w2 (wr.alloc (aD #[aC yk,aC yn,aA t m z] 46)):=r.alloc r.size _;have b8:J.length+(Jm B++[10]).length<=140737488355328:=by omega
    clear b5 c2 I;go_wp2_with (at_builtin;refine aX _ rfl _ _ 22 9 rfl w2.heap.size 5 ap underlying22 underlying9 aq ar au av _ _ _ rfl bc _ rfl ?c3 ?c4 ?c5 ?_)
    case c3=>rw[C.out];unfold maxLen;omega
    case c4=>rw[C.out];exact b8
    case c5=>exact af.size
    intro v4 dz b9 cb _;obtain⟨ag,cc,cd⟩:=bc.app af.size b9 cb;rw[o.out]at ag;have df:=Ab (cd _ _ b6 (by simp) ae);have dg:=Ab (af.trans cc);replace ag:=Ab ag;clear b9 cb cd cc bc b6 o C af db dc dd b8 cw cx cy;generalize (yk++⟨#[32]⟩++yn++⟨#[10]⟩:ByteArray)=hd at *;have d0:=Ab b4;clear b4 cv r;generalize wr.heap.size=q at *;clear wr;go_wp2;go_loopw [3,7] (fun s i bd=>∃k:Nat,k<=m/\i=.int .i64 (k:Int)/\Own w2.heap.size bd s (J++Dq B k)/\Below w2.heap.size w2 bd/\bd.heap[q]?=aK (aD #[aC yk,aC yn,aA t m z] 46)) (fun _ i _=>m-(intOf i).toNat)
    case atStart=>exact⟨0,by omega,rfl,by rw[ba.out];exact ag.out,dg.out,df.out⟩
    case round =>
     obtain⟨k,d1,rfl,M,bk,N⟩:=hrel;have ce:wr.cell? ⟨q,2,aF⟩=aK (aA t m z):=by rw[cE N];rfl
     by_cases d2:k<m
     ·obtain⟨d5,f,d6,be,cf⟩:=AC y.ls k (by have:=da.out;omega);have bf:=a9.out;rw[be]at bf;obtain⟨d7,d8,rfl,ah,O⟩:=bf.1.ai;have bg:f∈y.ls:=by rw[be];simp
      have cg:=c1.out.2 f bg;obtain⟨az,d9,bh⟩:=(a9.out.2 f bg).ad;rw[cf]at ah O;rw[bh]at O;have dh:=(bk.cell (aB w2 _ ah)).trans ah;have di:=(bk.cell (aB w2 _ O)).trans O;have ch:=Ab (Pt B k f.I (c6.out k f (by rw[be,<-cf];simp)));have ai:=ad.out (k+1);rw[ch.out]at ai;simp only[aG,aP,aR]at ai;have aj:=IK ((a9.out.2 f bg).V bk) (by omega) cg.1 cg.2;rw[bh]at aj;obtain⟨u,bi⟩:∃u:ByteArray,u=⟨(lineL f.I).toArray⟩:=⟨_,rfl⟩;have ci:u.data.toList=lineL f.I:=by rw[bi]
      simp only[<-bi]at aj;have dj:=RF u;rw[ci]at dj;have dk:=bk.size;have dl:¬ 9223372036854775807<2+u.size:=by omega
      have dm:¬ 9223372036854775807<2+u.size+1:=by omega
      have ea:(k:Int)<(m:Int):=by omega
      have eb:(0:Int)<=(k:Int):=by omega
      have o:(⟨#[32,32]⟩++u++⟨#[10]⟩:ByteArray).data.toList=[32,32]++lineL f.I++[10]:=by rw[<-ci];simp
      have C:=Ab (show (⟨#[32,32]⟩++u++⟨#[10]⟩:ByteArray).size=(lineL f.I).length+3 by rw[RF,o];simp);replace o:=Ab o;have G:(J++Dq B k).length+((lineL f.I).length+3)<=140737488355328:=by rw[aG];omega
      replace G:=Ab G;clear bi bf ah O bh ai;generalize f.ws.length=ec at *;generalize f.key=ed at *;go_wp2_with (go_at_call 88;refine aj.mono ?_)
      first|rintro e cj rfl P|rintro e cj ⟨rfl,P⟩
      have bj:Own w2.heap.size cj u3 (J++Dq B k):=AI M P;have ck:=Gn (e:=5) (b:=aF) P _ _ N (by simp) ae;have ak:=Ab (bk.trans (P.mono bk.size));clear aj M N ce dh di bk P;go_wp2_with (at_builtin;refine aX _ rfl _ _ 22 9 rfl w2.heap.size 5 ap underlying22 underlying9 aq ar au av _ _ _ rfl bj _ rfl ?d3 ?d4 ?d5 ?_)
      case d3=>rw[C.out];have:=G.out;unfold maxLen;omega
      case d4=>rw[C.out];exact G.out
      case d5=>exact ak.out.size
      intro dn cl Q R _;obtain⟨E,S,U⟩:=bj.app ak.out.size Q R;rw[o.out]at E;have al:=Ab (U _ _ ck (by simp) ae);have bl:=Ab (ak.out.trans S);replace E:=Ab E;clear Q R U S bj ck ak dl dm;go_wp2;go_roundw;case rel=>exact⟨k+1,by omega,by go_num,by rw[ch.out];simpa using E.out,bl.out,al.out⟩
      case measure=>simp[intOf];omega
     ·obtain rfl:k=m:=by omega
      have ai:=ad.out k;have G:=Ab (show (J++Dq B k).length+4<=140737488355328 by rw[aG];omega);have dk:=bk.size;go_wp2_with (at_builtin;refine aX _ rfl _ _ 22 9 rfl w2.heap.size 5 ap underlying22 underlying9 aq ar au av _ _ _ rfl M _ rfl ?d3 ?d4 ?d5 ?_)
      case d3=>show _+4<=_;have:=G.out;unfold maxLen;omega
      case d4=>exact G.out
      case d5=>exact bk.size
      intro dn cl Q R _;obtain⟨E,S,U⟩:=M.app (s:=⟨#[101,110,100,10]⟩) bk.size Q R;have al:=U _ _ N (by simp) ae;have ee:cl.cell? ⟨q,2,aF⟩=aK (aA t k z):=by rw[cE al];rfl
      have bl:=Ab (bk.trans S);replace E:=Ab E;clear Q R U S M N ce al;go_wp2;go_roundw;case rel=>exact⟨j+1,by omega,by go_num,by rw[c9,bx.out,b2.out];push_cast;rfl,by rw[c8,bw.out,<-c0.out,b2.out,<-bZ];exact E.out,bl.out⟩
      case measure=>simp[intOf];omega
   ·obtain rfl:j=n:=by omega
    rw[show d.take j=d by rw[bC (by rw[ax.out];exact aE _)]]at I;have cm:cntTo d j=(textLines (sheetL d)).length:=by rw[<-bq.out,ax.out]
    have a7:=a0.out j;have de:j*1048578<=60*1048578:=bR _ ct;have bm:=Ab (show ∀b:Bool,(b=true↔20000<(sheetL d).length\/400<cntTo d j)->printL d=if b then [] else sheetL d by
     intro b Z;refine br.out b ?_;rw[Bool.eq_iff_iff,Z,decide_eq_true_iff,cm];rfl)
    have ef:=ay.out;obtain⟨ao,ca,rfl⟩:=(AF I).ad;have eg:=FJ wr _ _ _ _ I;have bn:=Ab (bt.trans (r.mono bt.size));clear cm br ay bq a0 I ab a1 bu bv;generalize cntTo d j=F at *;generalize sheetL d=l at *;generalize eh:l.length=cn at *;by_cases h1:(20000:Int)<(cn:Int)
    ·have V:=Ab (bm.out true (by simp;omega));go_wp2;go_ret;exact⟨by rw[V.out];rfl,bn.out⟩
    ·have ei:decide ((20000:Int)<(cn:Int))=false:=decide_eq_false h1;by_cases dp:(400:Int)<(F:Int)
     ·have V:=Ab (bm.out true (by simp;omega));go_wp2;go_ret;exact⟨by rw[V.out];rfl,bn.out⟩
     ·have ej:decide ((400:Int)<(F:Int))=false:=decide_eq_false dp;have V:=Ab (bm.out false (by simp;omega));go_wp2;go_ret;exact⟨by rw[V.out];rfl,bn.out⟩
variable {X p:Nat}{cs:Array Value}
theorem RG{T:bO}(f:W.heap[X]?=aK (aD cs T (0,0)))(g:∀ (i:Nat) (s:ByteArray),cs[i]?≠aK (aC s)){size:Nat}(h:Am W v n size xs)(a:0<n->∃s,xs[0]?=aK (aC s)):Bx X v n:=by
 obtain⟨l,ao,m,rfl,o,c⟩:=h;rcases c with d|⟨b,off,rfl,c⟩
 ·exact .inl d
 ·by_cases d:n=0
  ·exact .inl d
  ·refine .inr fun b' p m' q e j=>?_
   obtain⟨s,a⟩:=a (by omega);have h1:=c 0 _ a;cases e
   subst j;have k:=Aa f (off+0);rw[k]at h1;exact g _ s h1
theorem V9{T:bO}(a:W.heap[X]?=aK (aD cs T (0,0)))(b:∀ (i:Nat) (s:ByteArray),cs[i]?≠aK (aC s))(h:Au W v bs):A7 X v bs:=by
 refine⟨RG a b h.1 fun k=>?_,fun x c=>⟨RG a b (h.2 x c).1 fun k=>?_,fun y d=>RG a b ((h.2 x c).2 y d) fun k=>?_⟩⟩
 ·cases bs with
  | nil=>exact absurd k (by simp)
  | cons y ls=>exact⟨y.aa,by simp[BAt.cells]⟩
 ·cases e:x.ls with
  | nil=>rw[e]at k;exact absurd k (by simp)
  | cons y ls=>exact⟨y.key,by simp[LAt.cells]⟩
 ·cases f:y.ws with
  | nil=>rw[f]at k;exact absurd k (by simp)
  | cons s g=>exact⟨⟨s.toArray⟩,by unfold strs;simp⟩
theorem Ael(h:Rd B W p k)(b:Au W v bs):A7 p v bs:=by
 obtain⟨_,a,d,e,c,_⟩:=h;refine V9 c (fun i s=>?_) b
 match i with
 | 0=>simp
 | 1=>simp
 | i+2=>simp
def Acr(w:World)(e:Ending)(w':World):Prop:=∃s t:ByteArray,e=aJ (bW #[aC s,aC t])/\(s.size<=4000000/\t.size<=4000000)/\Below w.heap.size w w'
theorem Nz(P:List PBlock):(printL P).length<=20000:=by
 unfold printL;split
 ·simp
 ·rename_i h;have a:¬Cm (sheetL P):=fun e=>h (.inr e)
  unfold Cm at a;omega
theorem N0(a:Option Addr)(o cap:Nat)(w:World)(h:Code w.heap.size w a o cap):Calls prog 39 #[aA a o cap] w fun e w'=>Acr w e w':=by
 have K:=Nt w.heap.size a o cap w (aE _) h.1 h.2.1 h.2.2.1 h.2.2.2;have L:=Ab h;clear h;go_enter func39,ntmps39;go_wp2_with (go_at_call 42;refine K.mono ?_)
 rintro e w1 ⟨rfl,h1,p⟩;have r:=p.size;have M:=Nx a o cap w1 (L.out.V p r);have ar:=h1.lt;clear K L;go_wp2_with (go_at_call 10;refine M.mono ?_)
 rintro e w2 ⟨sa,N,sc,O,sm,P,bs,au,rfl,⟨⟨Q,R,S⟩,T⟩,k⟩;obtain⟨l,x,z⟩:=Aeh w2 (aA sa N sc) (aA O sm P);have U:=Ab ((h1.V k).V l);have av:=k.size;have B:=Ab (Q.V l);have V:=Ab (T.V l);have i:=Ab R;have W:=IC B.out (Er (bD S (by decide)) i.out);have C:=Ab (p.trans ((k.trans (l.mono k.size)).mono r));have Z:=Ab (Nz (bs.map BAt.I));clear M h1 p k l Q T R r;generalize printL (bs.map BAt.I)=X at *;generalize aw:w2.heap.size=A at *;generalize aa:(w2.alloc (aD #[aA sa N sc] 25)).alloc (aD #[aA O sm P] 25)=W2 at *;go_wp2_with (go_at_call 25;(try rw[aa]);refine W.mono ?_)
 first|rintro e w3 rfl c|rintro e w3 ⟨rfl,c⟩
 obtain⟨cs,rfl,ab,ac⟩:=V.out.V c;have ad:=IC ab ac;have D:=Ab (Nz (cs.map BAt.I));have ae:=Ab (U.out.V c);have af:=Ab (B.out.V c);have E:=(c.cell (aB _ _ x)).trans x;have ap:=(c.cell (aB _ _ z)).trans z;have F:=Ab (C.out.trans (c.mono C.out.size));clear W U B V C c ab ac x z aa;generalize printL (cs.map BAt.I)=Y at *;go_wp2_with (go_at_call 25;refine ad.mono ?_)
 first|rintro e ag rfl j|rintro e ag ⟨rfl,j⟩
 have G:=ae.out.V j;have H:=Ab (af.out.V j);have ah:=(j.cell (aB _ _ E)).trans E;have I:=Ab (F.out.trans (j.mono F.out.size));have ai:=A1 _ _ 0 8 ag G (by omega) (by omega) (by omega);have aj:=G;clear ad ae af F j E ap G;have ax:(⟨X.toArray⟩:ByteArray).size<=20000:=by have:=Z.out;show X.toArray.size<=20000;rw[aQ];omega
 have ay:(⟨Y.toArray⟩:ByteArray).size<=20000:=by have:=D.out;show Y.toArray.size<=20000;rw[aQ];omega
 generalize (⟨X.toArray⟩:ByteArray)=s at *;generalize (⟨Y.toArray⟩:ByteArray)=t at *;clear Z D;go_wp2_with (go_at_call 44;refine ai.mono ?_)
 rintro e J ⟨y,D,rfl,f,q⟩;have z4:=I.out.size;have b:=Ea I.out z4 (aE _) q;have z5:=b.size;have az:w.heap.size<A:=by omega
 have a0:=q.cell ah (by simp;omega);have aq:y=0\/y=1\/y=2\/3<=y:=by omega
 have m:=Ab (H.out.aj (Ael aj H.out) q);clear ai H I q ah aj;rcases aq with rfl|rfl|rfl|a1
 ·clear m i;go_wp2_with (go_at_call 79;refine(Nv _ _ (0+1) s J f (by omega) (by omega)).mono ?_)
  rintro e ak ⟨u,al,am,an,rfl,n,d⟩;have g:=Ab (Ea b z5 (aE _) d);clear f b n d;go_wp2;exact aN (v:=bW #[aC u,aC t]) (by simp[cJ,results39,go_sem]) rfl ⟨u,t,rfl,⟨by omega,by omega⟩,g.out⟩
 ·clear m i;go_wp2_with (go_at_call 79;refine(Nv _ _ (0+1) t J f (by omega) (by omega)).mono ?_)
  rintro e ak ⟨u,al,am,an,rfl,n,d⟩;have g:=Ab (Ea b z5 (aE _) d);clear f b n d;go_wp2;exact aN (v:=bW #[aC s,aC u]) (by simp[cJ,results39,go_sem]) rfl ⟨s,u,rfl,⟨by omega,by omega⟩,g.out⟩
 ·have ao:=Og _ _ (0+1) J f (by omega) m.out S i.out;clear m i;go_wp2_with (go_at_call 77;refine ao.mono ?_)
  rintro e ak ⟨u,al,am,an,rfl,n,d⟩;have g:=Ab (Ea b z5 (aE _) d);clear ao f b n d;go_wp2;exact aN (v:=bW #[aC s,aC u]) (by simp[cJ,results39,go_sem]) rfl ⟨s,u,rfl,⟨by omega,by omega⟩,g.out⟩
 ·have a2:((y:Int)==0)=false:=by rw[beq_eq_false_iff_ne];omega
  have a3:((y:Int)==1)=false:=by rw[beq_eq_false_iff_ne];omega
  have a4:((y:Int)==2)=false:=by rw[beq_eq_false_iff_ne];omega
  have g:=Ab b;clear m i f b;go_wp2;exact aN (v:=bW #[aC s,aC t]) (by simp[cJ,results39,go_sem]) rfl ⟨s,t,rfl,⟨by omega,by omega⟩,g.out⟩
variable {v1 v2 yv:Value}{Y:Nat}
theorem KV(s:ByteArray)(i:s.size<=4000000):Calls prog 23 #[aC s] W fun e w'=>∃a n c,e=aJ (bW #[.agg #[aA a n c],.agg #[.int .i64 (parM s.data.toList),.int .i64 (parC s.data.toList)]])/\TO (parT s.data.toList) (aA a n c) w'/\Below W.heap.size W w':=by
 refine(FG s W i).mono ?_;rintro e w' ⟨d,h⟩;unfold parM parC parT;cases b:AU s.data.toList with
 | bad m c=>rw[b]at h;exact⟨aF,0,0,h,TO.nil _,d⟩
 | good x =>
  rw[b]at h;obtain⟨v',bs',j,f,g⟩:=h;obtain⟨a,c,rfl,_⟩:=Al g.row;exact⟨a,_,c,j,⟨bs',f,g.bin,Ey (by rw[f];exact Eg (CF b))⟩,d⟩
theorem Aan{T U:List PBlock}(h1:TO T v1 W)(a:TO U v2 W){E:Bool}(e:eqB T U=E):Calls prog 12 #[.agg #[v1],.agg #[v2]] W fun e w'=>e=aJ (.bool E)/\Below W.heap.size W w':=by
 obtain⟨az,rfl,b,c⟩:=h1;obtain⟨bs,rfl,i2,d⟩:=a;rw[<-e];exact Aaf b i2 c
structure RtS(w:World)(TX TY:List PBlock)(X Y:Nat)(xv yv:Value)(W:World):Prop where
 bw:Below w.heap.size w W
 cx:W.cell? ⟨X,0,aF⟩=aK xv
 cy:W.cell? ⟨Y,0,aF⟩=aK yv
 ix:TO TX xv W
 iy:TO TY yv W
 st:BZ W
theorem RtS.V{b c:List PBlock}{d:Value}(h:RtS w b c X Y d yv W)(a:Below W.heap.size W W'):RtS w b c X Y d yv W' :=
 ⟨h.bw.trans (a.mono h.bw.size),(a.cell (aB _ _ h.cx)).trans h.cx,(a.cell (aB _ _ h.cy)).trans h.cy,h.ix.V a,h.iy.V a,h.st.V a⟩
theorem RI(a:Option Addr)(i cap:Nat)(w:World)(F:i<=1048576->Code w.heap.size w a i cap)(bm:i<=9223372036854775807)(G:BZ w)(ag:Ho w)(ah:DB w):Calls prog 9 #[aA a i cap] w fun e w'=>e=aJ (.bool true)/\Below w.heap.size w w':=by
 by_cases bb:i<=1048576
 ·have bc:¬(1048576:Int)<(i:Int):=by omega
  have ai:=N0 a i cap w (F bb);clear F;go_enter func9,ntmps9;go_wp2_with (go_at_call 39;refine ai.mono ?_)
  rintro e w1 ⟨s,t,rfl,⟨H,I⟩,c⟩;have aj:=Nr s t H I (G.V c) (ag.V c (aE _)) (ah.V c);have ST:=Ab (G.V c);have J:=Ab c;clear ai G ag ah c;go_wp2_with (go_at_call 40;refine aj.mono ?_)
  rintro e w2 ⟨u,rfl,ak,l⟩;have al:=Nb s t (w:=w2) H I;have L:=Ab ak;have M:=Ab (J.out.trans (l.mono J.out.size));have am:=Ab (ST.out.V l);clear aj ak l J ST;go_wp2_with (go_at_call 41;refine al.mono ?_)
  rintro e w3 ⟨v,rfl,an,m⟩;obtain rfl:v=u:=by
   have h:=an.trans L.out.symm;cases u;cases v
   simp only at h;rw[cP];exact Array.toList_inj.1 h
  have bn:(v.toList != v.toList)=false:=by simp
  have N:=Ab (M.out.trans (m.mono M.out.size));have ao:=Ab (am.out.V m);have ap:=KV s (W:=w3) H;have bd:=LJ s.data.toList;have be:=LJ t.data.toList;have O:=Ab (Acv s.data.toList t.data.toList);have P:=Ab (Aam s.data.toList t.data.toList);have aq:=Ab (fun W=>KV t (W:=W) I);clear al an m M am;generalize parC s.data.toList=n at *;generalize parC t.data.toList=r at *;generalize parM s.data.toList=Q at *;generalize parM t.data.toList=R at *;generalize parT s.data.toList=j at *;generalize parT t.data.toList=k at *;go_wp2_with (go_at_call 23;refine ap.mono ?_)
  rintro e z ⟨xa,d,xc,rfl,ar,T⟩;obtain⟨U,V,_,Z⟩:=FH z (aA xa d xc) Q n;have aa:=T.trans (U.mono T.size);have ab:=Ab (N.out.trans (aa.mono N.out.size));have au:=Ab (ao.out.V aa);have av:=Ab (ar.V U);have aw:=aq.out ((z.alloc (aD #[aA xa d xc] 25)).alloc (aD #[.int .i64 Q,.int .i64 n] 38));clear ap N ao ar T U aa aq;generalize bf:z.heap.size=X at *;generalize ax:(z.alloc (aD #[aA xa d xc] 25)).alloc (aD #[.int .i64 Q,.int .i64 n] 38)=W4 at *;go_wp2_with (go_at_call 23;(try rw[ax]);refine aw.mono ?_)
  rintro e x ⟨g,yn,yc,rfl,ay,ac⟩;obtain⟨ad,az,_,bg⟩:=FH x (aA g yn yc) R r;have o:=ac.trans (ad.mono ac.size);have bh:=(o.cell (aB _ _ Z)).trans Z;have A:=Ab (show RtS w j k X x.heap.size (aA xa d xc) (aA g yn yc) ((x.alloc (aD #[aA g yn yc] 25)).alloc (aD #[.int .i64 R,.int .i64 r] 38)) from⟨ab.out.trans (o.mono ab.out.size),(o.cell (aB _ _ V)).trans V,az,av.out.V o,ay.V ad,au.out.V o⟩);clear aw ab au av ay ac ad o V Z az ax bf;by_cases B:n+r=0
  ·have h1:n=0:=by omega
   have bi:r=0:=by omega
   subst h1 bi;have a0:=Ab (P.out B);clear P O bd be B;go_upto_region 11 with fail
   generalize x.heap.size=Y at *;generalize (x.alloc (aD #[aA g yn yc] 25)).alloc (aD #[.int .i64 R,.int .i64 0] 38)=C at *;have a3:Below C.heap.size C C.drew:=(aM _ _).drew;have q:=Ab (A.out.V a3);have bj:∀p:{ u:World // RtS w j k X Y (aA xa d xc) (aA g yn yc) u },p.1.cell? ⟨X,0,aF⟩=aK (aA xa d xc):=fun p=>p.2.cx
   have t2:∀p:{ u:World // RtS w j k X Y (aA xa d xc) (aA g yn yc) u },p.1.cell? ⟨Y,0,aF⟩=aK (aA g yn yc):=fun p=>p.2.cy
   haveI:Inhabited { u:World // RtS w j k X Y (aA xa d xc) (aA g yn yc) u }:=⟨⟨C.drew,q.out⟩⟩
   refine AK (S:=RtS w j k X Y (aA xa d xc) (aA g yn yc)) 8 9 (by kernel_rfl) rfl ?_;refine A9 [true,true,true,false,true,false,false,false,false] 5 rfl (by kernel_rfl) q.out ?_;simp only[AZ,Bc,AX];iterate 4 (refine A2 (fun K b=>?_);go_simp;refine b _ ?_;clear b K)
   refine A8 ?_;clear bj t2 a3 A bh bg;have a4:=NA q.out.st q.out.ix;refine Af (f:=4) (rs:=[3]) (by kernel_rfl) (by simp) ?_;refine Ag.cons rfl (by decide) (fun K b=>?_) Ag.nil;go_simp;go_wp2_with (go_at_call 15;refine a4.mono ?_;rintro e v1 ⟨a1,bo,bp,rfl,a5,c⟩)
   have y:=Ab (q.out.V c);have a6:=Ab a5;have a7:=NA y.out.st y.out.iy;refine b.out _ _ y.out ?_;clear b K a4 a5 c q;refine Af (f:=3) (rs:=[5]) (by kernel_rfl) (by simp) ?_;refine Ag.cons rfl (by decide) (fun K b=>?_) Ag.nil;go_simp;go_wp2_with (go_at_call 15;refine a7.mono ?_;rintro e v2 ⟨a2,bq,c2,rfl,a8,l⟩)
   have ae:=Ab (y.out.V l);have a9:=Aan (a6.out.V l) a8 rfl;refine b.out _ _ ae.out ?_;clear b K a7 a8 l y a6;refine Af (f:=2) (rs:=[6]) (by kernel_rfl) (by simp) ?_;refine Ag.cons rfl (by decide) (fun K b=>?_) Ag.nil;go_simp;go_wp2_with (go_at_call 12;refine a9.mono ?_;rintro e v3 ⟨rfl,m⟩)
   have D:=Ab (ae.out.V m);refine b.out _ _ D.out ?_;clear b K a9 m ae;refine Af (f:=1) (rs:=[7]) (by kernel_rfl) (by simp) ?_;refine Ag.cons rfl (by decide) (fun K b=>?_) Ag.nil;go_simp;refine b.out _ _ D.out ?_;clear b K;refine Bi (by kernel_rfl) rfl (by kernel_rfl) ?_;intro K b;go_simp;refine b.out _ _ (bX ?_);clear b K;have af:=Ab D.out.bw;clear D;go_wp2;go_ret;refine⟨?_,af.out⟩;show cA (.bool ((v.toList==theSame)==eqB (fillS j) (fillS k)))=_
   have bk:(v.toList==theSame)=eqB (fillS j) (fillS k):=by
    rw[bN,L.out];by_cases E:fillS j=fillS k
    ·rw[E3 E,beq_iff_eq];exact a0.out.2 E
    ·rw[ES E,beq_eq_false_iff_ne];exact fun h=>E (a0.out.1 h)
   rw[bk];simp
  ·have ba:=O.out B;have af:=Ab A.out.bw;have br:((n+r:Int) != 0)=true:=by simpa using B
   have bl:(v.toList==theSame)=false:=by rw[bN,L.out,beq_eq_false_iff_ne];exact ba
   clear P O ba A;go_wp2;go_ret;refine⟨?_,af.out⟩;show cA (.bool !(v.toList==theSame))=_
   rw[bl];rfl
 ·have bc:(1048576:Int)<(i:Int):=by omega
  clear F;go_enter func9,ntmps9;go_wp2;go_ret;exact⟨rfl,aM _ _⟩
