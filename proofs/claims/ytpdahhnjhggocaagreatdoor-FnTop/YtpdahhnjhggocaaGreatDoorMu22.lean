import Derived.Test.YtpdahhnjhggocaaGreatDoorMu19
import Derived.Test.YtpdahhnjhggocaaGreatDoorMu21
open Go.Proofs.Tryz
open Go.Value renaming string->aA,slice->aB,pointer->aT,agg->aU,tuple->bL
open Option renaming none->aC,some->aD
open Go.World renaming block_lt_of_cell?->aE
open List renaming getElem?_cons_zero->aF,getElem?_toArray->aG,getElem?_cons_succ->aH,flatMap_append->aJ,length_map->aK,flatMap_cons->aL,append_assoc->aP,map_append->aR,perm_append_comm->aX,sublist_cons_self->bD,take_append_drop->bE,filter_sublist->bF,mem_singleton->bG,length_append->bH,length_take->bI,mem_filter->bJ,mem_append->bK,map_cons->bM
open Go.RowKit.Below renaming refl->aI
open Go.Obj renaming cells->aM
open Nat renaming le_refl->aN,zero_add->aW
open List.Perm renaming append_right->aO,swap->aZ,cons->bA
open List.Sublist renaming append->aQ,refl->aY,cons_cons->bB,trans->bN,map->bO
open Go.NoPanic renaming normal->aS
open Go.Ending renaming returned->aV
open Go.Instr renaming field->bC
namespace Go.Proofs.YtpdahhnjhggocaaGreatDoor
open Go.RowKit
set_option maxHeartbeats 16000000
set_option maxRecDepth 100000
variable {w:World}{B g n:Nat}{xv v v2:Value}{D T:List BAt}{ls:List LAt}
theorem U0(x:LAt)(rk:ByteArray)(g:Nat)(f:∃a n c,x.v=aB a n c)(b:w.cell? ⟨g,0,aC⟩=aD (aA rk)):Calls prog 224 #[aU #[aA x.key,x.v],aT (aD ⟨g,0,aC⟩)] w fun e w'=>e=aV (.bool (Cf rk x))/\Below w.heap.size w w':=by
 obtain⟨a,n,c,h⟩:=f;rw[h];unfold Cf;have d:=(aI w.heap.size w).alloc (aN _) (aM #[aA x.key,aB a n c] 115);have i:=(d.cell (aE w _ b)).trans b;have k0:=A3 (w:=w) (cs:=#[aA x.key,aB a n c]) (T:=115) 0;simp only[aG,aF]at k0;generalize x.key=xk at *;go_enter func224,ntmps224;go_wp2;go_ret;exact⟨rfl,d⟩
theorem Adx{xs:List LAt}{x:BAt}(p:LAt->Bool)(h:Az B w (CE xv xs++Dr v (D++x::T))):Az B w (⟨v,46,3,(D++x::T).length,(D++x::T).flatMap BAt.cells⟩::((x.ls.filter p++xs).map LAt.row++(D.flatMap BAt.ah++T.flatMap BAt.ah))):=by
 have h1:Az B w (xs.map LAt.row++(⟨v,46,3,(D++x::T).length,(D++x::T).flatMap BAt.cells⟩::(D.flatMap BAt.ah++((x.ls.filter p).map LAt.row++T.flatMap BAt.ah)))):=by
  refine h.sub ?_;unfold CE Dr;refine aQ (bD _ _) (bB _ ?_);rw[aJ,aL];refine aQ (aY _) (aQ ?_ (aY _));unfold BAt.ah CE;exact bN (bO _ bF) (bD _ _)
 refine h1.perm (List.perm_middle.trans (bA _ ?_));rw[aR];have a:(xs.map LAt.row++(D.flatMap BAt.ah++((x.ls.filter p).map LAt.row++T.flatMap BAt.ah))).Perm (xs.map LAt.row++((x.ls.filter p).map LAt.row++(D.flatMap BAt.ah++T.flatMap BAt.ah))):=List.Perm.append_left _ (by
  rw[<-aP,<-aP];exact aO _ aX)
 refine a.trans ?_;rw[<-aP];exact aO _ aX
theorem Ady{cap:Nat}{x:BAt}(h:w.ownsRow B 46 3 (aB (aD ⟨g,0,aC⟩) n cap) n ((D++x::T).flatMap BAt.cells)):(w.setCell ⟨g,D.length*3+2,aC⟩ v2).ownsRow B 46 3 (aB (aD ⟨g,0,aC⟩) n cap) n ((D++(⟨x.aa,x.name,v2,ls⟩:BAt)::T).flatMap BAt.cells):=by
 obtain⟨ys,h1,_,a⟩:=BT [v2] (D.length*3+2) w _ h;have e:=a (D.flatMap BAt.cells++[aA x.aa,aA x.name]) [x.v] (T.flatMap BAt.cells) (by rw[aJ,aL];unfold BAt.cells;simp) (by rw[bH,Bn BAt.cells 3 BAt.len];simp) rfl;have b:(D++(⟨x.aa,x.name,v2,ls⟩:BAt)::T).flatMap BAt.cells=ys:=by rw[e,aJ,aL];unfold BAt.cells;simp
 rw[b];exact h1
theorem Ab0{b:BAt}{M:List LAt}(a:b.v=v2/\b.ls=ls)(c:ls.Perm M)(h:Az B w (⟨v2,115,2,ls.length,ls.flatMap LAt.cells⟩::⟨v,46,3,(D++b::T).length,(D++b::T).flatMap BAt.cells⟩::(M.map LAt.row++(D.flatMap BAt.ah++T.flatMap BAt.ah)))):Aq B w v (D++b::T):=by
 unfold Aq Dr;refine h.perm ((aZ _ _ _).trans (bA _ ?_));have e:b.ah=⟨v2,115,2,ls.length,ls.flatMap LAt.cells⟩::ls.map LAt.row:=by unfold BAt.ah CE;rw[a.1,a.2]
 rw[aJ,aL,e];have d:(⟨v2,115,2,ls.length,ls.flatMap LAt.cells⟩::(M.map LAt.row++(D.flatMap BAt.ah++T.flatMap BAt.ah))).Perm ((⟨v2,115,2,ls.length,ls.flatMap LAt.cells⟩::ls.map LAt.row)++(D.flatMap BAt.ah++T.flatMap BAt.ah)):=bA _ (aO _ (c.map _).symm);refine d.trans ?_;rw[<-aP,<-aP];exact aO _ aX
variable {M i:Nat}
theorem Kf{cap:Nat}{p:Int}{x:BAt}{xs:List LAt}(key:ByteArray)(J:Mk B M p w (aB (aD ⟨g,0,aC⟩) n cap) (D++x::T))(aw:(D++x::T).length=n)(ax:D.length=i)(ay:Az B w (CE xv xs++Dr (aB (aD ⟨g,0,aC⟩) n cap) (D++x::T)))(az:Am ((D++x::T).map BAt.I))(bv:Ah xs)(bw:x.ls.length+xs.length<=1048576):
  Calls prog 175 #[aT (aD ⟨M,0,aC⟩),aT (aD ⟨g,i*3,aC⟩),aA key,xv] w fun e w'=>Ev B M p (if linesB (rulesOf x.aa) (DT (rulesOf x.aa) (x.ls.map LAt.I) key (xs.map LAt.I))=true then aD ((D.map BAt.I)++(⟨x.aa,x.name,DT (rulesOf x.aa) (x.ls.map LAt.I) key (xs.map LAt.I)⟩:PBlock)::T.map BAt.I) else aC) w e w':=by
 obtain⟨xk,xn,bx,k⟩:=x;have U:A5 B w bx k:=J.own.ac ⟨xk,xn,bx,k⟩ (by simp);obtain⟨ak,wc,rfl⟩:=U.lin.1.ae;have a0:A5 B w xv xs:=ay.left;obtain⟨xa,xc,rfl⟩:=a0.lin.1.ae;have a3:Ah k:=((Gu az).2 ⟨xk,xn,aB ak k.length wc,k⟩ (by simp)).2;have db:=J.size;have V:=J.own.row;rw[aw]at V;have X:=V.lt g rfl;have dc:M≠g:=fun e=>JQ J.box V (by decide) (by rw[e];rfl)
 obtain⟨a4,a5,E,Y,Z,G⟩:=(show Ap w (aB (aD ⟨g,0,aC⟩) n cap) n 3 ((D++(⟨xk,xn,aB ak k.length wc,k⟩:BAt)::T).flatMap BAt.cells) from AG V).block;cases E
 simp only[aW,ax]at Y Z G;have b0:=(aI w.heap.size w).alloc (aN _) (aM #[aA key] 9);have k0:=A3 (w:=w) (cs:=#[aA key]) (T:=9) 0;simp only[aG,aF]at k0;have bz:=aE _ _ k0;have b1:=E0 (F:=224) (q:=aT (aD ⟨w.heap.size,0,aC⟩)) (Cf key) (U.lin.V b0) a3.1 (fun y j W dd=>U0 y key w.heap.size (by obtain⟨a,c,e⟩:=Ap.ae (U.lin.2 y j);exact⟨a,_,c,e⟩) ((dd.cell bz).trans k0)) (enters_of func224 (by kernel_rfl) rfl);have de:=(b0.cell (aE w _ G)).trans G;have al:=Aa (J.V b0);have b2:=Aa (ay.V b0);have df:=Aa U;have b3:=Aa a0;have dg:=Aa a3;have dh:=Aa bv;have di:=Aa az;have b4:=Aa bw;have a6:=Aa (And.intro Y (And.intro Z G));obtain⟨O,a7⟩:∃O,(if linesB (rulesOf xk) (DT (rulesOf xk) (k.map LAt.I) key (xs.map LAt.I))=true then aD ((D.map BAt.I)++(⟨xk,xn,DT (rulesOf xk) (k.map LAt.I) key (xs.map LAt.I)⟩:PBlock)::T.map BAt.I) else aC)=O:=⟨_,rfl⟩;rw[a7];have b5:=Aa a7;have a8:=Aa aw;have am:=Aa ax;clear a7 J ay U a0 a3 bv az bw aw ax Y Z G V;generalize a9:w.alloc (aM #[aA key] 9)=W0 at *;have b6:=Aa a9;have b7:W0.heap.size=w.heap.size+1:=by rw[<-a9];simp
 clear a9;go_enter func175,ntmps175;go_upto_region 1 with fail
 rw[b6.out];clear b6;go_wp2_with (go_at_call 109;refine b1.mono ?_)
 first | rintro e w1 v1 rfl o1 ba | rintro e w1 ⟨v1,rfl,o1,ba⟩
 obtain⟨a1,b8,rfl,_⟩:=Ak o1;have H:Below W0.heap.size W0 w1:=by rw[b7];exact ba
 have b9:=b0.trans (H.mono b0.size);have A:=(aI w1.heap.size w1).alloc (aN _) (aM #[aB a1 (k.filter (Cf key)).length b8,aB xa xs.length xc] 44);have aa:=b9.trans (A.mono b9.size);have ca:=(AG o1).V A;have cb:=b3.out.lin.V aa;have eb:(k.filter (Cf key)).length<=k.length:=List.length_filter_le _ _;have cc:=Lm (g:=w1.heap.size) (AA.new w1 #[aB a1 (k.filter (Cf key)).length b8,aB xa xs.length xc] 44) ca cb.1 (Cy (fun y j=>by obtain⟨a,c,e⟩:=Ap.ae (df.out.lin.2 y (bJ.1 j).1);exact⟨a,_,c,e⟩)) (Cy (fun y j=>by obtain⟨a,c,e⟩:=Ap.ae (b3.out.lin.2 y j);exact⟨a,_,c,e⟩)) (by have:=b4.out;show _<=2000000;have h1:k.length+xs.length<=1048576:=this;omega);clear ca cb b1 o1 k0 bz de;go_wp2_with (go_at_call 112;refine cc.mono ?_)
 rintro e w2 ⟨v2,rfl,o2,ab⟩;obtain⟨a2,c2,rfl,_⟩:=Ak o2;have t:=aa.trans (ab.mono aa.size);obtain⟨d,ac⟩:∃d,d=k.filter (Cf key)++xs:=⟨_,rfl⟩;have bb:(k.filter (Cf key)).length+xs.length=d.length:=by rw[ac,bH]
 have cd:(k.filter (Cf key)).flatMap LAt.cells++xs.flatMap LAt.cells=d.flatMap LAt.cells:=by rw[ac,aJ]
 rw[bb,cd]at o2;rw[bb];have dj:d.length<=1048576:=by have h1:k.length+xs.length<=1048576:=b4.out;omega
 have bc:=Adx (Cf key) ((b2.out.V H).V A);rw[<-ac]at bc;have bd:=Az.join bc (N:=[⟨aB a2 d.length c2,115,2,d.length,d.flatMap LAt.cells⟩]) ⟨fun r dk=>by rw[bG.1 dk];exact o2,by simp⟩ ab (by have:=aa.size;omega);have be:w2.ownsRow B 46 3 (aB (aD ⟨g,0,aC⟩) n cap) n ((D++(⟨xk,xn,aB ak k.length wc,k⟩:BAt)::T).flatMap BAt.cells):=by have:=Az.head bd.tail;rw[a8.out]at this;exact this
 have z3:=(t.cell (p:=⟨g,i*3+2,aC⟩) X.2).trans a6.out.2.2;have dl:=(t.cell (p:=⟨g,i*3,aC⟩) X.2).trans a6.out.1;have z2:=(t.cell (p:=⟨g,i*3+1,aC⟩) X.2).trans a6.out.2.1;have dm:=be.frozenAt (i*3+2);have ad:=CM w2 g (i*3+2) (aB a2 d.length c2);have ae:=Ady (v2:=aB a2 d.length c2) (ls:=d) be;rw[am.out]at ae;have ce:Az B (w2.setCell ⟨g,i*3+2,aC⟩ (aB a2 d.length c2)) (⟨aB (aD ⟨g,0,aC⟩) n cap,46,3,n,(D++(⟨xk,xn,aB a2 d.length c2,d⟩:BAt)::T).flatMap BAt.cells⟩::⟨aB a2 d.length c2,115,2,d.length,d.flatMap LAt.cells⟩::(d.map LAt.row++(D.flatMap BAt.ah++T.flatMap BAt.ah))):=(bd.perm (aZ _ _ _)).grow ae ad (.inl rfl);have cf:=(al.out.box.V (H.trans ((A.trans (ab.mono A.size)).mono H.size))).grown ad dc;have cg:Below B w (w2.setCell ⟨g,i*3+2,aC⟩ (aB a2 d.length c2)):=Bh (t.mono db) (by have:=t.size;omega) X.1 ad;have dn:=Aa (al.out.std.V ((H.trans ((A.trans (ab.mono A.size)).mono H.size)).mono (by have:=b7;omega)));have ch:=Aa (dn.out.V (Bh (aI B w2) (by have:=t.size;omega) X.1 ad));have ec:(w2.setCell ⟨g,i*3+2,aC⟩ (aB a2 d.length c2)).heap.size=w2.heap.size:=World.size_setCell ..;have an:(w2.setCell ⟨g,i*3+2,aC⟩ (aB a2 d.length c2)).cell? ⟨g,i*3+2,aC⟩=aD (aB a2 d.length c2):=by
  have bf:=(show Ap (w2.setCell ⟨g,i*3+2,aC⟩ (aB a2 d.length c2)) (aB (aD ⟨g,0,aC⟩) n cap) n 3 ((D++(⟨xk,xn,aB a2 d.length c2,d⟩:BAt)::T).flatMap BAt.cells) from AG ae).block;obtain⟨a4,a5,E,_,_,af⟩:=bf;cases E
  rw[aW,am.out]at af;exact af
 have ao:(w2.setCell ⟨g,i*3+2,aC⟩ (aB a2 d.length c2)).cell? ⟨g,i*3,aC⟩=aD (aA xk):=by
  have bf:=(show Ap (w2.setCell ⟨g,i*3+2,aC⟩ (aB a2 d.length c2)) (aB (aD ⟨g,0,aC⟩) n cap) n 3 ((D++(⟨xk,xn,aB a2 d.length c2,d⟩:BAt)::T).flatMap BAt.cells) from AG ae).block;obtain⟨a4,a5,E,af,_,_⟩:=bf;cases E
  rw[aW,am.out]at af;exact af
 have ci:=Aa ce;have cj:∀q,(Value.slice a2 d.length c2).ownBlock=aD q->q<w2.heap.size/\B<=q:=fun q C=>⟨(o2.lt q C).2,by have:=(o2.lt q C).1;have:=aa.size;omega⟩
 have bg:=Aa cj;have ck:=Aa ac;have dp:=al.out.low;clear ce bd bc be ae o2 cc b2 cj ac bb cd ad ba H A ab al;generalize cl:d.length=l at *;have ap:=Aa cl;clear cl;generalize cm:w2.setCell ⟨g,i*3+2,aC⟩ (aB a2 l c2)=z at *;have dq:=Aa cm;clear cm;go_upto_region 3 with fail
 rw[dq.out];clear dl z2 z3 dm;have cn:g<z.heap.size:=by have:=t.size;omega
 have bh:=Aa (show ∀u,Below z.heap.size z u->u.cell? ⟨g,i*3+2,aC⟩=aD (aB a2 l c2)/\u.cell? ⟨g,i*3,aC⟩=aD (aA xk) from fun u co=>⟨(co.cell (p:=⟨g,i*3+2,aC⟩) cn).trans an,(co.cell (p:=⟨g,i*3,aC⟩) cn).trans ao⟩);have t0:∀q:{ W:World // W.cell? ⟨g,i*3+2,aC⟩=aD (aB a2 l c2)/\W.cell? ⟨g,i*3,aC⟩=aD (aA xk) },q.1.cell? ⟨g,i*3+2,aC⟩=aD (aB a2 l c2):=fun q=>q.2.1
 have dr:∀q:{ W:World // W.cell? ⟨g,i*3+2,aC⟩=aD (aB a2 l c2)/\W.cell? ⟨g,i*3,aC⟩=aD (aA xk) },q.1.cell? ⟨g,i*3,aC⟩=aD (aA xk):=fun q=>q.2.2
 letI ds:Inhabited { W:World // W.cell? ⟨g,i*3+2,aC⟩=aD (aB a2 l c2)/\W.cell? ⟨g,i*3,aC⟩=aD (aA xk) }:=⟨⟨z,an,ao⟩⟩;have dt:Below z.heap.size z z.drew:=(aI _ _).drew;have cp:=Cr xk z.drew;refine AW (S:=fun W=>W.cell? ⟨g,i*3+2,aC⟩=aD (aB a2 l c2)/\W.cell? ⟨g,i*3,aC⟩=aD (aA xk)) 10 11 (by kernel_rfl) rfl ?_;refine AF [true,true,true,true,true,true,true,true,false,false,false] 3 rfl (by kernel_rfl) ⟨an,ao⟩ ?_;simp only[AU,AV,AR];iterate 8 (refine Av (fun K o=>?_);go_simp;refine o _ ?_;clear o K)
 refine A4 ?_;clear t0 dr;refine Ae (f:=2) (rs:=[8]) (by kernel_rfl) (by simp) ?_;refine Af.cons rfl (by decide) (fun K o=>?_) Af.nil;go_simp;go_wp2_with (go_at_call 29;refine cp.mono ?_;rintro e u1 ⟨vr,L,rfl,bi,bj,du⟩)
 have aq:=dt.trans du;refine o.out _ _ (bh.out _ aq) ?_;clear o K cp;have bk:=bj.rin;have dv:=Ds xk bi;have cq:=Az.head bj;obtain⟨ag,ah,rfl⟩:=bk.1.ae;have cr:=CX (v:=aB ag L.length ah) ⟨_,_,_,rfl⟩ u1;refine Ae (f:=1) (rs:=[9]) (by kernel_rfl) (by simp) ?_;refine Af.cons rfl (by decide) (fun K o=>?_) Af.nil;go_simp;go_wp2_with (go_at_call 75;refine cr.mono ?_;rintro e u2 ⟨rfl,rfl⟩)
 have ct:=(aI u1.heap.size u1).alloc (aN _) (aM #[aB ag L.length ah] 47);have P:=aq.trans (ct.mono aq.size);refine o.out _ _ (bh.out _ P) ?_;clear o K cr bh ds;have ed:=aq.size;have ai:=(ci.out.V P).perm (aZ _ _ _);have bl:=A3 (w:=u1) (cs:=#[aB ag L.length ah]) (T:=47) 0;simp only[aG,aF]at bl;have cu:∀y∈d,BL (u1.alloc (aM #[aB ag L.length ah] 47)) y:=fun y j=>AG (ai.1 (LAt.row y) (by simp;exact .inr (.inr (.inl ⟨y,j,rfl⟩))))
 have bm:∀y∈d,y.ws.length<=1048576/\∀cv∈y.ws,cv.length<=1048576:=fun y j=>by
  rw[ck.out]at j;rcases bK.1 j with j | j
  ·exact dg.out.2 y (bJ.1 j).1
  ·exact dh.out.2 y j
 have bn:=E5 (g:=u1.heap.size) (ls:=d) (by have:=Az.head ai;rw[ap.out];exact this) dv (bk.V ct) bl (fun y j=>⟨cu y j,(bm y j).1⟩)
  (fun q C=>⟨Cc.above cq (by have:=(bg.out q C).1;show q<z.heap.size;omega),by have:=(bg.out q C).1;omega,fun y j=>JD (s:=LAt.row y) ai (by simp;exact .inr (.inl ⟨y,j,rfl⟩)) C⟩) (by rw[ap.out];omega)
 have dw:=Aa bm;have bo:=Aa ai;have dx:=Aa bi;have ar:=cf.V P;have cw:=cg.trans (P.mono (by have:=t.size;omega));have dy:=Aa (ch.out.V (P.mono (by have:=t.size;omega)));have ee:=P.size;clear cu bm ai bk cq bj bi cf ci ch ao an bl;generalize u1.alloc (aM #[aB ag L.length ah] 47)=cx at *;rw[ap.out]at bn;refine AK (by kernel_rfl) rfl (by kernel_rfl) ?_;intro K o;go_simp;go_wp2_with (go_at_call 74;refine bn.mono ?_;first | rintro e I rfl m Q o5 bp aj | rintro e I ⟨rfl,m,Q,o5,bp,aj⟩)
 refine o.out _ _ (aS ?_);clear o K bn;have cy:m.length=l:=by rw[Q.length_eq,ap.out]
 have cz:=bo.out.grow (r':=⟨aB a2 l c2,115,2,l,m.flatMap LAt.cells⟩) o5 aj (.inl rfl);have au:Aq B I (aB (aD ⟨g,0,aC⟩) n cap) (D++(⟨xk,xn,aB a2 l c2,m⟩:BAt)::T):=Ab0 (b:=⟨xk,xn,aB a2 l c2,m⟩) (M:=d) (ls:=m) ⟨rfl,rfl⟩ Q (by
  rw[cy,show (D++(⟨xk,xn,aB a2 l c2,m⟩:BAt)::T).length=n by have:=a8.out;simpa using this];have dz:(D++(⟨xk,xn,aB a2 l c2,m⟩:BAt)::T).flatMap BAt.cells=(D++(⟨xk,xn,aB a2 l c2,d⟩:BAt)::T).flatMap BAt.cells:=by rw[aJ,aL,aJ,aL];rfl
  rw[dz];exact cz)
 have bq:Below B cx I:=(aI B cx).grown aj (by have:=t.size;omega) (fun q C=>(bg.out q C).2);have c0:AA I M #[aB (aD ⟨g,0,aC⟩) n cap,.int .i64 p] 176:=(aj.block M ar.lt (fun e=>JQ (e:=115) ar (Az.head bo.out) (by decide) e.symm)).trans ar;have br:Mk B M p I (aB (aD ⟨g,0,aC⟩) n cap) (D++(⟨xk,xn,aB a2 l c2,m⟩:BAt)::T):=⟨c0,dp,au,dy.out.V bq⟩;have d0:=cw.trans bq;have c1:Ah m:=⟨by rw[cy];exact dj,fun y j=>dw.out y (Q.mem_iff.1 j)⟩;have av:=SU (R:=rulesOf xk) (ls:=k.map LAt.I) (xs:=xs.map LAt.I) (ms:=m.map LAt.I) (key:=key) (by have:=di.out.2.1 (BAt.I ⟨xk,xn,aB ak k.length wc,k⟩) (List.mem_map_of_mem (by simp));exact this.2.2) (by
   rw[<-OI,<-aR,<-ck.out];exact Q.map _) (by
   intro a b d1 y cv j c3;rw[List.getElem?_map,Option.map_eq_some_iff]at j c3;obtain⟨d2,d3,rfl⟩:=j;obtain⟨d4,d5,rfl⟩:=c3;have:=bp a b d1 d2 d4 d3 d5;rw[dx.out]at this;exact this)
 have c5:=Aa (show (linesB (rulesOf xk) (m.map LAt.I)=false->O=aC)/\(linesB (rulesOf xk) (m.map LAt.I)=true->O=aD ((D++(⟨xk,xn,aB a2 l c2,m⟩:BAt)::T).map BAt.I)) from⟨fun h=>by
   rw[<-b5.out,if_neg (fun d6=>by rw[Bs.2 (av.1.2 (Bs.1 d6))]at h;cases h)],fun h=>by
   have c6:=Bs.1 h;rw[<-b5.out,if_pos (Bs.2 (av.1.1 c6)),<-av.2 c6,aR,bM];rfl⟩)
 have c7:An I (aB a2 l c2) m:=(au.ac ⟨xk,xn,aB a2 l c2,m⟩ (by simp)).lin;have c8:=Fv xk xn c7 c1 br.std.at;have bs:=au.row;rw[show (D++(⟨xk,xn,aB a2 l c2,m⟩:BAt)::T).length=n by have:=a8.out;simpa using this]at bs;obtain⟨a4,a5,E,Y,Z,G⟩:=(show Ap I (aB (aD ⟨g,0,aC⟩) n cap) n 3 ((D++(⟨xk,xn,aB a2 l c2,m⟩:BAt)::T).flatMap BAt.cells) from AG bs).block;cases E
 simp only[aW,am.out]at Y Z G;have bt:=Aa br;clear av au cz br c7 c1 bs Q o5 bp aj ar c0 bq cw cg bo;generalize linesB (rulesOf xk) (m.map LAt.I)=d7 at *;go_wp2_with (go_at_call 67;refine c8.mono ?_)
 first | rintro e d8 rfl c4 | rintro e d8 ⟨rfl,c4⟩
 have bu:=bt.out.V c4;have c9:=d0.trans (c4.mono bt.out.size);have da:=Ab bu.box 1;simp only[aG,aF,aH]at da;have d9:=Aa bu;clear bu c8 bt;cases d7
 ·go_wp2_with (go_at_call 173;refine(Cg (p:=p) da).mono ?_;rintro e ea ⟨rfl,rfl⟩)
  exact⟨rfl,c9,.inl ⟨c5.out.1 trivial,rfl⟩⟩
 ·go_wp2_with (go_at_call 173;refine(D9 M _).mono ?_;rintro e ea ⟨rfl,rfl⟩)
  go_end0
  exact⟨c9,.inr ⟨_,_,_,c5.out.2 trivial,rfl,rfl,d9.out⟩⟩
variable {m:Nat}{w':World}{v':Value}{bs:List BAt}
theorem U1(p:Value)(W:World):(Instr.typeAssert (.iface 182 p) 91 185 true).run prog W=.ok (bL #[aU #[aA ⟨#[]⟩,aA ⟨#[]⟩,aB aC 0 0],.bool false]) W:=by kernel_rfl
theorem ON{x:BAt}(h:Aq B w v (D++x::T))(a:(D++T).length=m)(b:w'.ownsRow B 46 3 v' m ((D++T).flatMap BAt.cells))(c:w.grownBy w' v.ownBlock)(d:v'.ownBlock=v.ownBlock):Aq B w' v' (D++T):=by
 have h1:Az B w (⟨v,46,3,(D++x::T).length,(D++x::T).flatMap BAt.cells⟩::(D++T).flatMap BAt.ah):=Az.sub h (by
  unfold Dr;refine bB _ ?_;rw[aJ,aJ,aL];exact aQ (aY _) (List.sublist_append_right _ _))
 have e:=h1.grow (r':=⟨v',46,3,m,(D++T).flatMap BAt.cells⟩) b c (.inl d);unfold Aq Dr;rw[a];exact e
theorem YJ{p:Int}(l:Mk B M p w v bs)(E:Am (bs.map BAt.I))(ck cn:ByteArray):Calls prog 130 #[aT (aD ⟨M,0,aC⟩),(.iface 182 (aU #[aA ck,aA cn]))] w fun e w'=>Ev B M p (C0 (bs.map BAt.I) ⟨1,ck,cn,⟨#[]⟩,[]⟩) w e w':=by
 obtain⟨va,k,rfl,a3⟩:=Ak l.own.row;have bl:bs.length<=60:=by have:=E.1;rw[aK]at this;exact this
 have r:=Ab l.box 0;have ab:=Ab l.box 1;simp only[aG,aF,aH]at r ab;have a4:=l.size;have L:∀W,Below w.heap.size w W->Calls prog 132 #[aB va bs.length k,aU #[aA ck,aA cn]] W fun e w'=>F9 (bs.map BAt.I) ck cn W e w':=fun W a5=>Dd ck cn (l.own.bin.V a5) (by omega) (by have:=Es (P:=bs.map BAt.I) E.2.2 ck cn;rw[aK]at this;exact this)
 have ac:=fun W=>EF ck cn W
 have bm:=fun W=>U1 (aU #[aA ck,aA cn]) W
 have bn:=fun W=>JN (aU #[aA ck,aA cn]) W
 have bo:∀W,(bC 182 (aU #[aA ck,aA cn]) 0).run prog W=.ok (aU #[aA ck,aA cn]) W:=fun W=>by kernel_rfl
 have N:=Aa l;have ad:=Aa E;obtain⟨O,Q⟩:∃O,(C0 (bs.map BAt.I) ⟨1,ck,cn,⟨#[]⟩,[]⟩)=O:=⟨_,rfl⟩;rw[Q];have ae:=Aa Q;clear Q l E a3;obtain⟨af,R⟩:∃af,bs.map BAt.I=af:=⟨_,rfl⟩;have F:=Aa R;rw[R]at L;clear R;generalize ag:bs.length=n at *;have s:=Aa ag;clear ag;have G:=Aa (show ∀u,Below w.heap.size w u->u.cell? ⟨M,0,aC⟩=aD (aB va n k) from fun u a6=>(a6.cell (aE w _ r)).trans r);have t0:∀q:{ W:World // W.cell? ⟨M,0,aC⟩=aD (aB va n k) },q.1.cell? ⟨M,0,aC⟩=aD (aB va n k):=fun q=>q.2
 letI a7:Inhabited { W:World // W.cell? ⟨M,0,aC⟩=aD (aB va n k) }:=⟨⟨w,r⟩⟩;have ah:Below w.heap.size w w.drew:=(aI _ _).drew;go_enter func130,ntmps130;go_upto_region 0 with fail
 refine AW (S:=fun W=>W.cell? ⟨M,0,aC⟩=aD (aB va n k)) 11 12 (by kernel_rfl) rfl ?_;refine AF [true,true,true,true,true,false,false,false,false,false,false,false] 7 rfl (by kernel_rfl) r ?_;simp only[AU,AV,AR];iterate 5 (refine Av (fun K d=>?_);go_simp;refine d _ ?_;clear d K)
 refine A4 ?_;clear t0;refine Ae (f:=6) (rs:=[5]) (by kernel_rfl) (by simp) ?_;refine Af.cons rfl (by decide) (fun K d=>?_) Af.nil;go_simp;go_wp2_with (go_at_call 315;refine(ac _).mono ?_;rintro e u1 ⟨rfl,ai⟩)
 have t:=ah.trans ai;refine d.out _ _ (G.out _ t) ?_;clear d K ac;refine Ae (f:=5) (rs:=[6]) (by kernel_rfl) (by simp) ?_;refine Af.cons rfl (by decide) (fun K d=>?_) Af.nil;go_simp;go_wp2_with (go_at_call 132;refine(L _ t).mono ?_;rintro e u2 ⟨i,f,rfl,aj,ak,al⟩)
 have z:=t.trans (al.mono t.size);refine d.out _ _ (G.out _ z) ?_;clear d K L;refine AF [false,false,false,false,false,false,false,true,true,true,true,false] 1 rfl (by kernel_rfl) (G.out _ z) ?_;simp only[AU,AV,AR];iterate 4 (refine Av (fun K d=>?_);go_simp;refine d _ ?_;clear d K)
 refine A4 ?_;refine AK (by kernel_rfl) rfl (by kernel_rfl) ?_;intro K d;go_simp;refine d.out _ _ (aS ?_);clear d K G a7 ah ai al t r ab;have am:=Aa (N.out.V z);have an:=Aa aj;have ao:=Aa ak;have a8:=z.mono a4;have bp:=z.size;have bq:=N.out.box.lt;clear aj ak N;have ap:=(aI u2.heap.size u2).alloc (aN _) (aM #[aA ck,aA cn] 182);have H:=am.out.V ap;have a9:=Ab H.box 0;have aq:=Ab H.box 1;simp only[aG,aF,aH]at a9 aq;have ar:=a8.trans (ap.mono (by omega));have j:=Aa H;clear H;cases f
 ·have au:look (bs.map BAt.I) ck cn=aC:=by
   rw[F.out];exact Ke (by have:=ad.out.2.2;rw[F.out]at this;exact this) an.out (fun h=>by have:=ao.out.2 h;cases this)
  have ba:=Aa (show O=aC from by rw[<-ae.out];exact XL rfl (.inl au));clear au;go_wp2_with (go_at_call 173;refine(Cg (p:=p) aq).mono ?_;rintro e bb ⟨rfl,rfl⟩)
  exact⟨rfl,ar,.inl ⟨ba.out,rfl⟩⟩
 ·obtain⟨bc,av⟩:=ao.out.1 rfl;have aw:=Oc an.out bc av;obtain⟨D,x,T,o,U,ax,ay⟩:=NC F.out aw;obtain⟨g,rfl⟩:∃g,va=aD ⟨g,0,aC⟩:=by
   obtain⟨a',br,az,a0⟩:=Ak am.out.own.row;rw[s.out]at az a0;cases az
   rcases a0 with e | ⟨g,e⟩
   ·exfalso;have:=s.out;rw[o]at this;simp at this;omega
   ·exact⟨g,e⟩
  have V:=ad.out;have a1:bs.map BAt.I=D.map BAt.I++x.I::T.map BAt.I:=by rw[o];simp
  have bd:=Aa (show O=aD ((D++T).map BAt.I) from by
   rw[<-ae.out,Po (A:=bs.map BAt.I) (b:=x.I) rfl (by rw[F.out];exact ay) rfl rfl];rw[a1]at V⊢;show aD (Pn _ ck cn)=_
   rw[Hn V ax,aR])
  obtain⟨m,rfl⟩:∃m,n=m+1:=⟨n-1,by have:=s.out;rw[o]at this;simp at this;omega⟩;have X:(D++T).length=m:=by have:=s.out;rw[o]at this;simp at this⊢;omega
  have C:=j.out.own;rw[o]at C;have Y:=C.row;have Z:(D++x::T).length=m+1:=by rw[<-o];exact s.out
  rw[Z]at Y;have a2:=Wo (i:=i) Y Z U (fun y be=>by obtain⟨a,c,e⟩:=(C.bin.2 y be).1.ae;exact⟨a,_,c,e⟩);have bt:i<=m:=by rw[<-U,<-X];simp
  have bf:=Aa C;have bg:=Aa X;have bu:i<=60:=by omega
  clear C Y Z X a1 V o ax ay U aw av;go_wp2_with (first | (go_at_call 173;refine(D9 M _).mono ?_;rintro e bb ⟨rfl,rfl⟩) | (go_at_call 174;refine a2.mono ?_))
  first | rintro e I rfl o4 g4 | rintro e I ⟨rfl,o4,g4⟩
  have J:AA I M #[aB (aD ⟨g,0,aC⟩) (m+1) k,.int .i64 p] 176:=(g4.block M j.out.box.lt (fun e=>JQ j.out.box j.out.own.row (by decide) e.symm)).trans j.out.box;have bh:=Ab J 0;have fr:=Ad J 0;simp only[aG,aF]at bh;have aa:Below B (u2.alloc (aM #[aA ck,aA cn] 182)) I:=(aI B _).grown g4 j.out.size (fun q bi=>(j.out.own.row.lt q bi).1);have bj:=Aa (show Ev B M p O w (aV (bL #[])) (I.setCell ⟨M,0,aC⟩ (aB (aD ⟨g,0,aC⟩) m k)) from by
   obtain⟨h1,bk⟩:=Mk.lay J j.out.low (j.out.std.V aa) (ON bf.out bg.out o4 g4 rfl) rfl;exact⟨(ar.trans aa).trans bk,.inr ⟨_,_,_,bd.out,rfl,rfl,h1⟩⟩)
  clear o4 g4 a2 aa J;go_wp2;go_end0
  exact bj.out
variable {ck cn:ByteArray}{la:Option Addr}{nl lc:Nat}
theorem Afd{P:List PBlock}(e:Am P)(f:JM P ck cn i)(L:List PLine):(if headFault P ck cn=0/\linesB (rulesOf ck) L=true then aD (P.take i++⟨ck,cn,L⟩::P.drop i) else aC)=C0 P ⟨2,ck,cn,⟨#[]⟩,L⟩:=by
 by_cases h:headFault P ck cn=0/\linesB (rulesOf ck) L=true
 ·rw[if_pos h];obtain⟨h1,m⟩:=(Kz (b:=⟨ck,cn,L⟩) e).2 ⟨h.1,Bs.1 h.2⟩;rw[SW (c:=⟨2,ck,cn,⟨#[]⟩,L⟩) rfl h1 rfl m];have g:=FW blockLt (⟨ck,cn,L⟩:PBlock) (P.take i) (P.drop i) (fun y d=>by
   obtain⟨t,n,rfl⟩:=List.mem_iff_getElem.1 d;rw[bI]at n;have a:=f.2.1 t (by omega);rw[Eu (show t<P.length by omega)]at a;rw[List.getElem_take];exact(BC P[t] ⟨ck,cn,L⟩).1 a) (fun y d=>by
   rw[List.head?_drop]at d;obtain⟨j,rfl⟩:=List.getElem?_eq_some_iff.1 d;have a:=f.2.2 i (aN _) j;rw[Eu j]at a;cases o:blockLt P[i] ⟨ck,cn,L⟩
   ·rfl
   ·exact absurd ((BC P[i] ⟨ck,cn,L⟩).2 o) a)
  rw[bE]at g;rw[g]
 ·rw[if_neg h];have p:¬(look P ck cn=aC/\Am (Cb blockLt ⟨ck,cn,L⟩ P)):=fun k=>h (by
   obtain⟨q,r⟩:=(Kz (b:=⟨ck,cn,L⟩) e).1 k;exact⟨q,Bs.2 r⟩)
  by_cases l:look P ck cn=aC
  ·rw[SV (c:=⟨2,ck,cn,⟨#[]⟩,L⟩) rfl (.inr (.inr (fun s=>p ⟨l,s⟩)))]
  ·rw[SV (c:=⟨2,ck,cn,⟨#[]⟩,L⟩) rfl (.inl l)]
theorem Ab1{p:Int}(l:Mk B M p w v bs)(G:Am (bs.map BAt.I))(ck cn:ByteArray){o:List LAt}(ab:o.length=nl)(ac:An w (aB la nl lc) o)(ad:Ah o)(ae:cn.size<=1048576):Calls prog 130 #[aT (aD ⟨M,0,aC⟩),(.iface 185 (aU #[aA ck,aA cn,aB la nl lc]))] w fun e w'=>Ev B M p (C0 (bs.map BAt.I) ⟨2,ck,cn,⟨#[]⟩,o.map LAt.I⟩) w e w':=by
 obtain⟨va,m,rfl,a3⟩:=Ak l.own.row;have a5:bs.length<=60:=by have:=G.1;rw[aK]at this;exact this
 have r:=Ab l.box 0;have af:=Ab l.box 1;simp only[aG,aF,aH]at r af;have a6:=l.size;have N:∀W,Below w.heap.size w W->Calls prog 132 #[aB va bs.length m,aU #[aA ck,aA cn]] W fun e w'=>F9 (bs.map BAt.I) ck cn W e w':=fun W Q=>Dd ck cn (l.own.bin.V Q) (by omega) (by have:=Es (P:=bs.map BAt.I) G.2.2 ck cn;rw[aK]at this;exact this)
 have ag:=fun W=>EF ck cn W
 have bo:=fun W=>N7 (aU #[aA ck,aA cn,aB la nl lc]) W
 have bp:∀W,(bC 185 (aU #[aA ck,aA cn,aB la nl lc]) 0).run prog W=.ok (aU #[aA ck,aA cn]) W:=fun W=>by kernel_rfl
 have U:=Aa l;have a7:=Aa ac;have ah:=Aa ad;have a8:=Aa ae;have bq:=Aa ab;clear ac ad ae ab;have a9:=Aa G;obtain⟨O,g⟩:∃O,(C0 (bs.map BAt.I) ⟨2,ck,cn,⟨#[]⟩,o.map LAt.I⟩)=O:=⟨_,rfl⟩;rw[g];have ba:=Aa g;clear g l G a3;obtain⟨ai,V⟩:∃ai,bs.map BAt.I=ai:=⟨_,rfl⟩;have aj:=Aa V;rw[V]at N;clear V;generalize ak:bs.length=n at *;have X:=Aa ak;clear ak;have j:=Aa (show ∀u,Below w.heap.size w u->u.cell? ⟨M,0,aC⟩=aD (aB va n m) from fun u x=>(x.cell (aE w _ r)).trans r);have t0:∀q:{ W:World // W.cell? ⟨M,0,aC⟩=aD (aB va n m) },q.1.cell? ⟨M,0,aC⟩=aD (aB va n m):=fun q=>q.2
 letI bb:Inhabited { W:World // W.cell? ⟨M,0,aC⟩=aD (aB va n m) }:=⟨⟨w,r⟩⟩;have s:Below w.heap.size w w.drew:=(aI _ _).drew;go_enter func130,ntmps130;go_upto_region 0 with fail
 refine AW (S:=fun W=>W.cell? ⟨M,0,aC⟩=aD (aB va n m)) 11 12 (by kernel_rfl) rfl ?_;refine AF [true,true,true,true,true,false,false,false,false,false,false,false] 7 rfl (by kernel_rfl) r ?_;simp only[AU,AV,AR];iterate 5 (refine Av (fun K d=>?_);go_simp;refine d _ ?_;clear d K)
 refine A4 ?_;clear t0;refine Ae (f:=6) (rs:=[5]) (by kernel_rfl) (by simp) ?_;refine Af.cons rfl (by decide) (fun K d=>?_) Af.nil;go_simp;go_wp2_with (go_at_call 315;refine(ag _).mono ?_;rintro e u1 ⟨rfl,al⟩)
 have y:=s.trans al;refine d.out _ _ (j.out _ y) ?_;clear d K ag;refine Ae (f:=5) (rs:=[6]) (by kernel_rfl) (by simp) ?_;refine Af.cons rfl (by decide) (fun K d=>?_) Af.nil;go_simp;go_wp2_with (go_at_call 132;refine(N _ y).mono ?_;rintro e u2 ⟨i,f,rfl,am,an,ao⟩)
 have t:=y.trans (ao.mono y.size);refine d.out _ _ (j.out _ t) ?_;clear d K N;refine AF [false,false,false,false,false,false,false,true,true,true,true,false] 1 rfl (by kernel_rfl) (j.out _ t) ?_;simp only[AU,AV,AR];iterate 4 (refine Av (fun K d=>?_);go_simp;refine d _ ?_;clear d K)
 refine A4 ?_;refine AK (by kernel_rfl) rfl (by kernel_rfl) ?_;intro K d;go_simp;refine d.out _ _ (aS ?_);clear d K j bb s al ao y r af;have bc:=Aa (U.out.V t);have ap:=Aa am;have br:=Aa an;have bd:=t.mono a6;have be:=t.size;have bt:=U.out.box.lt;clear am an U;have H:=(aI u2.heap.size u2).alloc (aN _) (aM #[aA ck,aA cn,aB la nl lc] 185);have aq:=bc.out.V H;have I:=AA.new u2 #[aA ck,aA cn,aB la nl lc] 185;have z:=Ab I 0;have C:=Ab I 1;have E:=Ab I 2;simp only[aG,aF,aH]at z C E;have bf:=bd.trans (H.mono (by omega));have Y:=Aa aq;have bu:=H.size;have ar:∀W,Below (u2.alloc (aM #[aA ck,aA cn,aB la nl lc] 185)).heap.size (u2.alloc (aM #[aA ck,aA cn,aB la nl lc] 185)) W->Calls prog 94 #[aB la nl lc] W fun e w'=>∃v' ls',e=aV v'/\ls'.map LAt.I=o.map LAt.I/\A5 W.heap.size w' v' ls'/\Below W.heap.size W w':=fun W Q=>CB (a7.out.V ((t.trans (H.mono be)).trans (Q.mono (by omega)))) ah.out
 clear aq I;generalize au:u2.alloc (aM #[aA ck,aA cn,aB la nl lc] 185)=W3 at *;have bg:=Aa au;clear au;have j:=Aa (show ∀u,Below W3.heap.size W3 u->u.cell? ⟨u2.heap.size,0,aC⟩=aD (aA ck)/\u.cell? ⟨u2.heap.size,1,aC⟩=aD (aA cn)/\u.cell? ⟨u2.heap.size,2,aC⟩=aD (aB la nl lc) from fun u x=>⟨(x.cell (aE W3 _ z)).trans z,(x.cell (aE W3 _ C)).trans C,(x.cell (aE W3 _ E)).trans E⟩);have t0:∀q:{ W:World // W.cell? ⟨u2.heap.size,0,aC⟩=aD (aA ck)/\W.cell? ⟨u2.heap.size,1,aC⟩=aD (aA cn)/\W.cell? ⟨u2.heap.size,2,aC⟩=aD (aB la nl lc) },q.1.cell? ⟨u2.heap.size,0,aC⟩=aD (aA ck):=fun q=>q.2.1
 have bh:∀q:{ W:World // W.cell? ⟨u2.heap.size,0,aC⟩=aD (aA ck)/\W.cell? ⟨u2.heap.size,1,aC⟩=aD (aA cn)/\W.cell? ⟨u2.heap.size,2,aC⟩=aD (aB la nl lc) },q.1.cell? ⟨u2.heap.size,1,aC⟩=aD (aA cn):=fun q=>q.2.2.1
 have t2:∀q:{ W:World // W.cell? ⟨u2.heap.size,0,aC⟩=aD (aA ck)/\W.cell? ⟨u2.heap.size,1,aC⟩=aD (aA cn)/\W.cell? ⟨u2.heap.size,2,aC⟩=aD (aB la nl lc) },q.1.cell? ⟨u2.heap.size,2,aC⟩=aD (aB la nl lc):=fun q=>q.2.2.2
 letI bi:Inhabited { W:World // W.cell? ⟨u2.heap.size,0,aC⟩=aD (aA ck)/\W.cell? ⟨u2.heap.size,1,aC⟩=aD (aA cn)/\W.cell? ⟨u2.heap.size,2,aC⟩=aD (aB la nl lc) }:=⟨⟨W3,z,C,E⟩⟩;have s:Below W3.heap.size W3 W3.drew:=(aI _ _).drew;go_upto_region 4 with fail
 rw[bg.out];refine C5 (R:=fun c w'=>c=Lw p/\Below B w w'/\O=aC) (S:=fun W=>W.cell? ⟨u2.heap.size,0,aC⟩=aD (aA ck)/\W.cell? ⟨u2.heap.size,1,aC⟩=aD (aA cn)/\W.cell? ⟨u2.heap.size,2,aC⟩=aD (aB la nl lc)) 12 13 (by kernel_rfl) rfl (fun c a w' bj h=>⟨bj,h.2.1,.inl ⟨h.2.2,by rw[h.1]⟩⟩) ?_;refine BX [true,true,true,true,true,true,true,true,true,true,false,false,false] 3 rfl (by kernel_rfl) ⟨z,C,E⟩ ?_;simp only[AU,AV,AR];iterate 10 (refine Av (fun K d=>?_);go_simp;refine d _ ?_;clear d K)
 refine A4 ?_;clear t0 bh t2;refine Ae (f:=2) (rs:=[10]) (by kernel_rfl) (by simp) ?_;refine Af.cons rfl (by decide) (fun K d=>?_) Af.nil;go_simp;go_wp2_with (go_at_call 94;refine(ar _ s).mono ?_;rintro e bk ⟨v4,k,rfl,J,o4,Z⟩;obtain⟨a4,c4,rfl,_⟩:=Ak o4.row)
 have L:=s.trans Z;refine d.out _ _ (j.out _ L) ?_;clear d K ar;refine BX [false,false,false,false,false,false,false,false,false,false,false,true,false] 1 rfl (by kernel_rfl) (j.out _ L) ?_;simp only[AU,AV,AR];refine Av (fun K d=>?_);go_simp;refine d _ ?_;clear d K;refine A4 ?_;have bv:i<=n:=by have:=ap.out.1;rw[<-aj.out,aK,X.out]at this;exact this
 have av:(bs.take i).length=i:=by rw[bI,X.out];omega
 have F:bs.take i++bs.drop i=bs:=bE i bs;have aw:=Y.out.V L;have ax:=Az.join (show Az B W3.drew (Dr (aB va n m) bs) from Y.out.own.V s) (show Az W3.drew.heap.size bk (CE (aB a4 k.length c4) k) from o4) Z Y.out.size;have aa:=Sd (D:=bs.take i) (T:=bs.drop i) (b:=⟨ck,cn,aB a4 k.length c4,k⟩) (by rw[F];exact aw) (by rw[F];exact ax) av (by rw[F,X.out];exact a5) (ah.out.same J) a8.out;have ay:=Aa (show (if headFault ((bs.take i++bs.drop i).map BAt.I) ck cn=0/\linesB (rulesOf ck) (k.map LAt.I)=true then aD ((bs.take i++(⟨ck,cn,aB a4 k.length c4,k⟩:BAt)::bs.drop i).map BAt.I) else aC)=O from by
  rw[<-ba.out,F,J,<-Afd a9.out (by rw[aj.out];exact ap.out),aR,bM,List.map_take,List.map_drop];unfold BAt.I;rw[J])
 rw[ay.out]at aa;have az:=bf.trans (L.mono (by omega));clear aw ax J o4 Z ay j bi F av;generalize k.length=bw at *;refine AK (by kernel_rfl) rfl (by kernel_rfl) ?_;intro K d;go_simp;go_wp2_with (go_at_call 172;refine aa.mono ?_)
 rintro e bl ⟨a0,bm⟩;rcases bm with ⟨g,rfl⟩ | ⟨A,v',bs',g,rfl,a1,a2⟩
 ·exact CD.panic rfl ⟨rfl,az.trans a0,g⟩
 ·have bn:=Aa (show Ev B M p O w (aV (bL #[])) bl from⟨az.trans a0,.inr ⟨A,v',bs',g,rfl,a1,a2⟩⟩);clear a2 a1 g aa;refine d.out _ _ (CD.normal ?_);clear d K;go_wp2;go_end0
  exact bn.out
theorem Afe{D T:List PBlock}{b:PBlock}(e:Am (D++b::T)){d:ByteArray}{L:List PLine}(f:AE ck cn b=true)(h1:L≠[])(i:∀a∈L,a.key=d):(if linesB (rulesOf b.aa) (DT (rulesOf b.aa) b.ac d L)=true then aD (D++(⟨b.aa,b.name,DT (rulesOf b.aa) b.ac d L⟩:PBlock)::T) else aC)=C0 (D++b::T) ⟨3,ck,cn,d,L⟩:=by
 have g:=Fr e f;by_cases h:linesB (rulesOf b.aa) (DT (rulesOf b.aa) b.ac d L)=true
 ·rw[if_pos h,Ta (c:=⟨3,ck,cn,d,L⟩) rfl g h1 i (Bs.1 h)];exact congrArg aD (DP e f _).symm
 ·rw[if_neg h,SZ (c:=⟨3,ck,cn,d,L⟩) rfl (.inr (.inr (.inr ⟨b,g,fun k=>h (Bs.2 k)⟩)))]
theorem Ab2{D T:List PBlock}{b:PBlock}(d:Am (D++b::T)){a:ByteArray}(e:AE ck cn b=true)(h1:hasK b.ac a=true):(if linesB (rulesOf b.aa) (DT (rulesOf b.aa) b.ac a [])=true then aD (D++(⟨b.aa,b.name,DT (rulesOf b.aa) b.ac a []⟩:PBlock)::T) else aC)=C0 (D++b::T) ⟨4,ck,cn,a,[]⟩:=by
 have f:=Fr d e;have g:Aw (rulesOf b.aa) (DT (rulesOf b.aa) b.ac a []):=(d.2.1 b (by simp)).2.2.sub bF;rw[if_pos (Bs.2 g),Na (c:=⟨4,ck,cn,a,[]⟩) rfl f rfl h1];exact congrArg aD (DP d e _).symm
theorem Ab3{p:Int}(r:Mk B M p w v bs)(L:Am (bs.map BAt.I))(ck cn d:ByteArray){l:List LAt}(am:l.length=nl)(an:An w (aB la nl lc) l)(ao:Ah l)(ap:l≠[])(aq:∀y∈l,y.key=d)(ar:∀b∈bs,b.ls.length+l.length<=1048576):Calls prog 130 #[aT (aD ⟨M,0,aC⟩),(.iface 188 (aU #[aA ck,aA cn,aA d,aB la nl lc]))] w fun e w'=>Ev B M p (C0 (bs.map BAt.I) ⟨3,ck,cn,d,l.map LAt.I⟩) w e w':=by
 obtain⟨va,k,rfl,bv⟩:=Ak r.own.row;have ci:bs.length<=60:=by have:=L.1;rw[aK]at this;exact this
 have t:=Ab r.box 0;have au:=Ab r.box 1;simp only[aG,aF,aH]at t au;have bw:=r.size;have Z:∀W,Below w.heap.size w W->Calls prog 132 #[aB va bs.length k,aU #[aA ck,aA cn]] W fun e w'=>F9 (bs.map BAt.I) ck cn W e w':=fun W aa=>Dd ck cn (r.own.bin.V aa) (by omega) (by have:=Es (P:=bs.map BAt.I) L.2.2 ck cn;rw[aK]at this;exact this)
 have av:=fun W=>EF ck cn W
 have cj:=fun W=>N8 (aU #[aA ck,aA cn,aA d,aB la nl lc]) W
 have cl:=fun W=>Li (aU #[aA ck,aA cn,aA d,aB la nl lc]) W
 have cm:=fun W=>NA (aU #[aA ck,aA cn,aA d,aB la nl lc]) W
 have co:∀W,(bC 188 (aU #[aA ck,aA cn,aA d,aB la nl lc]) 0).run prog W=.ok (aU #[aA ck,aA cn]) W:=fun W=>by kernel_rfl
 have ab:=Aa r;have bx:=Aa an;have aw:=Aa ao;have bz:=Aa ar;have cp:=Aa am;have b0:=Aa ap;have b1:=Aa aq;clear an ao ar am ap aq;have ac:=Aa L;obtain⟨O,o⟩:∃O,(C0 (bs.map BAt.I) ⟨3,ck,cn,d,l.map LAt.I⟩)=O:=⟨_,rfl⟩;rw[o];have ax:=Aa o;clear o r L bv;obtain⟨ay,ad⟩:∃ay,bs.map BAt.I=ay:=⟨_,rfl⟩;have N:=Aa ad;rw[ad]at Z;clear ad;generalize az:bs.length=n at *;have Q:=Aa az;clear az;have s:=Aa (show ∀u,Below w.heap.size w u->u.cell? ⟨M,0,aC⟩=aD (aB va n k) from fun u F=>(F.cell (aE w _ t)).trans t);have t0:∀q:{ W:World // W.cell? ⟨M,0,aC⟩=aD (aB va n k) },q.1.cell? ⟨M,0,aC⟩=aD (aB va n k):=fun q=>q.2
 letI b2:Inhabited { W:World // W.cell? ⟨M,0,aC⟩=aD (aB va n k) }:=⟨⟨w,t⟩⟩;have z:Below w.heap.size w w.drew:=(aI _ _).drew;go_enter func130,ntmps130;go_upto_region 0 with fail
 refine AW (S:=fun W=>W.cell? ⟨M,0,aC⟩=aD (aB va n k)) 11 12 (by kernel_rfl) rfl ?_;refine AF [true,true,true,true,true,false,false,false,false,false,false,false] 7 rfl (by kernel_rfl) t ?_;simp only[AU,AV,AR];iterate 5 (refine Av (fun K j=>?_);go_simp;refine j _ ?_;clear j K)
 refine A4 ?_;clear t0;refine Ae (f:=6) (rs:=[5]) (by kernel_rfl) (by simp) ?_;refine Af.cons rfl (by decide) (fun K j=>?_) Af.nil;go_simp;go_wp2_with (go_at_call 315;refine(av _).mono ?_;rintro e u1 ⟨rfl,a0⟩)
 have G:=z.trans a0;refine j.out _ _ (s.out _ G) ?_;clear j K av;refine Ae (f:=5) (rs:=[6]) (by kernel_rfl) (by simp) ?_;refine Af.cons rfl (by decide) (fun K j=>?_) Af.nil;go_simp;go_wp2_with (go_at_call 132;refine(Z _ G).mono ?_;rintro e u2 ⟨i,f,rfl,a1,a2,a3⟩)
 have C:=G.trans (a3.mono G.size);refine j.out _ _ (s.out _ C) ?_;clear j K Z;refine AF [false,false,false,false,false,false,false,true,true,true,true,false] 1 rfl (by kernel_rfl) (s.out _ C) ?_;simp only[AU,AV,AR];iterate 4 (refine Av (fun K j=>?_);go_simp;refine j _ ?_;clear j K)
 refine A4 ?_;refine AK (by kernel_rfl) rfl (by kernel_rfl) ?_;intro K j;go_simp;refine j.out _ _ (aS ?_);clear j K s b2 z a0 a3 G t au;have a5:=Aa (ab.out.V C);have a6:=Aa a1;have a7:=Aa a2;have b3:=C.mono bw;have b4:=C.size;have cq:=ab.out.box.lt;clear a1 a2 ab;have U:=(aI u2.heap.size u2).alloc (aN _) (aM #[aA ck,aA cn,aA d,aB la nl lc] 188);have ae:=a5.out.V U;have af:=Ab ae.box 1;simp only[aG,aF,aH]at af;have a8:=b3.trans (U.mono (by omega));have V:=Aa ae;have cr:=U.size;clear ae;cases f
 ·have a9:look (bs.map BAt.I) ck cn=aC:=by
   rw[N.out];exact Ke (by have:=ac.out.2.2;rw[N.out]at this;exact this) a6.out (fun h=>by have:=a7.out.2 h;cases this)
  have b5:=Aa (show O=aC from by rw[<-ax.out];exact SZ rfl (.inl a9));clear a9;go_wp2_with (go_at_call 173;refine(Cg (p:=p) af).mono ?_;rintro e ag ⟨rfl,rfl⟩)
  exact⟨rfl,a8,.inl ⟨b5.out,rfl⟩⟩
 ·obtain⟨X,ba⟩:=a7.out.1 rfl;have bb:=Oc a6.out X ba;obtain⟨D,x,T,ah,bc,bd,b6⟩:=NC N.out bb;obtain⟨g,rfl⟩:∃g,va=aD ⟨g,0,aC⟩:=by
   obtain⟨a',cs,be,bf⟩:=Ak a5.out.own.row;rw[Q.out]at be bf;cases be
   rcases bf with e | ⟨g,e⟩
   ·exfalso;have:=Q.out;rw[ah]at this;simp at this;omega
   ·exact⟨g,e⟩
  have ct:i<n:=by rw[<-N.out,aK,Q.out]at X;exact X
  have cu:(i:Int)<(n:Int):=by omega
  have cv:(0:Int)<=(i:Int):=by omega
  have ai:=AA.new u2 #[aA ck,aA cn,aA d,aB la nl lc] 188;have H:=Ab ai 2;have I:=Ab ai 3;have J:=Ab V.out.box 0;simp only[aG,aF,aH]at H I J;have bg:∀W,Below (u2.alloc (aM #[aA ck,aA cn,aA d,aB la nl lc] 188)).heap.size (u2.alloc (aM #[aA ck,aA cn,aA d,aB la nl lc] 188)) W->Calls prog 94 #[aB la nl lc] W fun e w'=>∃v' ls',e=aV v'/\ls'.map LAt.I=l.map LAt.I/\A5 W.heap.size w' v' ls'/\Below W.heap.size W w':=fun W aa=>CB (bx.out.V ((C.trans (U.mono b4)).trans (aa.mono (by omega)))) aw.out
  have E:=Aa ah;have b7:=Aa bc;have b8:=Aa bd;clear ai X ba bb ah bc bd b6 af;generalize bh:u2.alloc (aM #[aA ck,aA cn,aA d,aB la nl lc] 188)=W3 at *;have bi:=Aa bh;clear bh;have s:=Aa (show ∀u,Below W3.heap.size W3 u->u.cell? ⟨M,0,aC⟩=aD (aB (aD ⟨g,0,aC⟩) n k)/\u.cell? ⟨u2.heap.size,2,aC⟩=aD (aA d)/\u.cell? ⟨u2.heap.size,3,aC⟩=aD (aB la nl lc) from fun u F=>⟨(F.cell (aE W3 _ J)).trans J,(F.cell (aE W3 _ H)).trans H,(F.cell (aE W3 _ I)).trans I⟩);have t0:∀q:{ W:World // W.cell? ⟨M,0,aC⟩=aD (aB (aD ⟨g,0,aC⟩) n k)/\W.cell? ⟨u2.heap.size,2,aC⟩=aD (aA d)/\W.cell? ⟨u2.heap.size,3,aC⟩=aD (aB la nl lc) },q.1.cell? ⟨M,0,aC⟩=aD (aB (aD ⟨g,0,aC⟩) n k):=fun q=>q.2.1
  have b9:∀q:{ W:World // W.cell? ⟨M,0,aC⟩=aD (aB (aD ⟨g,0,aC⟩) n k)/\W.cell? ⟨u2.heap.size,2,aC⟩=aD (aA d)/\W.cell? ⟨u2.heap.size,3,aC⟩=aD (aB la nl lc) },q.1.cell? ⟨u2.heap.size,2,aC⟩=aD (aA d):=fun q=>q.2.2.1
  have t2:∀q:{ W:World // W.cell? ⟨M,0,aC⟩=aD (aB (aD ⟨g,0,aC⟩) n k)/\W.cell? ⟨u2.heap.size,2,aC⟩=aD (aA d)/\W.cell? ⟨u2.heap.size,3,aC⟩=aD (aB la nl lc) },q.1.cell? ⟨u2.heap.size,3,aC⟩=aD (aB la nl lc):=fun q=>q.2.2.2
  letI ca:Inhabited { W:World // W.cell? ⟨M,0,aC⟩=aD (aB (aD ⟨g,0,aC⟩) n k)/\W.cell? ⟨u2.heap.size,2,aC⟩=aD (aA d)/\W.cell? ⟨u2.heap.size,3,aC⟩=aD (aB la nl lc) }:=⟨⟨W3,J,H,I⟩⟩;have z:Below W3.heap.size W3 W3.drew:=(aI _ _).drew;go_upto_region 11 with fail
  rw[bi.out];clear bi;go_wp2_with (go_at_call 173;refine(D9 M _).mono ?_;rintro e ag ⟨rfl,rfl⟩)
  refine C5 (R:=fun c w'=>c=Lw p/\Below B w w'/\O=aC) (S:=fun W=>W.cell? ⟨M,0,aC⟩=aD (aB (aD ⟨g,0,aC⟩) n k)/\W.cell? ⟨u2.heap.size,2,aC⟩=aD (aA d)/\W.cell? ⟨u2.heap.size,3,aC⟩=aD (aB la nl lc)) 12 13 (by kernel_rfl) rfl (fun c a w' cb h=>⟨cb,h.2.1,.inl ⟨h.2.2,by rw[h.1]⟩⟩) ?_;refine BX [true,true,true,true,true,true,true,true,true,true,true,false,false] 2 rfl (by kernel_rfl) ⟨J,H,I⟩ ?_;simp only[AU,AV,AR];iterate 11 (refine Av (fun K j=>?_);go_simp;refine j _ ?_;clear j K)
  refine A4 ?_;clear t0 b9 t2;refine Ae (f:=1) (rs:=[11]) (by kernel_rfl) (by simp) ?_;refine Af.cons rfl (by decide) (fun K j=>?_) Af.nil;go_simp;go_wp2_with (go_at_call 94;refine(bg _ z).mono ?_;rintro e cc ⟨v4,m,rfl,Y,o4,aj⟩;obtain⟨a4,c4,rfl,_⟩:=Ak o4.row)
  have ak:=z.trans aj;refine j.out _ _ (s.out _ ak) ?_;clear j K bg;have bj:=V.out.V ak;have bk:=Az.join (show Az B ag.drew (Dr (aB (aD ⟨g,0,aC⟩) n k) bs) from V.out.own.V z) (show Az ag.drew.heap.size cc (CE (aB a4 m.length c4) m) from o4) aj V.out.size;have bl:m.length=l.length:=by have:=congrArg List.length Y;simpa using this
  have bm:x.ls.length+m.length<=1048576:=by rw[bl];exact bz.out x (by rw[E.out];simp)
  have al:=Kf (D:=D) (T:=T) (x:=x) (i:=i) (xs:=m) (xv:=aB a4 m.length c4) d (by rw[<-E.out];exact bj) (by rw[<-E.out];exact Q.out) b7.out (by rw[<-E.out];exact bk) (by rw[<-E.out];exact ac.out) (aw.out.same Y) bm;have bn:=Aa (show (if linesB (rulesOf x.aa) (DT (rulesOf x.aa) (x.ls.map LAt.I) d (m.map LAt.I))=true then aD ((D.map BAt.I)++(⟨x.aa,x.name,DT (rulesOf x.aa) (x.ls.map LAt.I) d (m.map LAt.I)⟩:PBlock)::T.map BAt.I) else aC)=O from by
   have bo:=ac.out;have bp:bs.map BAt.I=D.map BAt.I++x.I::T.map BAt.I:=by rw[E.out];simp
   rw[bp]at bo;rw[<-ax.out,bp,Y];exact Afe (b:=x.I) bo b8.out (fun e=>b0.out (List.map_eq_nil_iff.1 e)) (fun cw cd=>by obtain⟨y,ce,rfl⟩:=List.mem_map.1 cd;exact b1.out y ce))
  rw[bn.out]at al;have bq:=a8.trans (ak.mono (by omega));clear bj bk Y o4 aj bn s ca bl bm;generalize m.length=cx at *;refine AK (by kernel_rfl) rfl (by kernel_rfl) ?_;intro K j;go_simp;go_wp2_with (go_at_call 175;refine al.mono ?_)
  rintro e cf ⟨br,cg⟩;rcases cg with ⟨o,rfl⟩ | ⟨A,v',bs',o,rfl,bt,bu⟩
  ·exact CD.panic rfl ⟨rfl,bq.trans br,o⟩
  ·have ch:=Aa (show Ev B M p O w (aV (bL #[])) cf from⟨bq.trans br,.inr ⟨A,v',bs',o,rfl,bt,bu⟩⟩);clear bu bt o al;refine j.out _ _ (CD.normal ?_);clear j K;go_wp2;go_end0
   exact ch.out
theorem Wx{p:Int}(s:Mk B M p w v bs)(ab:Am (bs.map BAt.I))(ck cn j:ByteArray):Calls prog 130 #[aT (aD ⟨M,0,aC⟩),(.iface 190 (aU #[aA ck,aA cn,aA j]))] w fun e w'=>Ev B M p (C0 (bs.map BAt.I) ⟨4,ck,cn,j,[]⟩) w e w':=by
 obtain⟨va,k,rfl,b6⟩:=Ak s.own.row;have co:bs.length<=60:=by have:=ab.1;rw[aK]at this;exact this
 have E:=Ab s.box 0;have az:=Ab s.box 1;simp only[aG,aF,aH]at E az;have b7:=s.size;have al:∀W,Below w.heap.size w W->Calls prog 132 #[aB va bs.length k,aU #[aA ck,aA cn]] W fun e w'=>F9 (bs.map BAt.I) ck cn W e w':=fun W F=>Dd ck cn (s.own.bin.V F) (by omega) (by have:=Es (P:=bs.map BAt.I) ab.2.2 ck cn;rw[aK]at this;exact this)
 have a0:=fun W=>EF ck cn W
 have cp:=fun W=>JO (aU #[aA ck,aA cn,aA j]) W
 have cq:=fun W=>II (aU #[aA ck,aA cn,aA j]) W
 have cr:=fun W=>JP (aU #[aA ck,aA cn,aA j]) W
 have cs:=fun W=>Hw (aU #[aA ck,aA cn,aA j]) W
 have ct:∀W,(bC 190 (aU #[aA ck,aA cn,aA j]) 0).run prog W=.ok (aU #[aA ck,aA cn]) W:=fun W=>by kernel_rfl
 have am:=Aa s;have ac:=Aa ab;obtain⟨O,m⟩:∃O,(C0 (bs.map BAt.I) ⟨4,ck,cn,j,[]⟩)=O:=⟨_,rfl⟩;rw[m];have an:=Aa m;clear m s ab b6;obtain⟨a1,ao⟩:∃a1,bs.map BAt.I=a1:=⟨_,rfl⟩;have L:=Aa ao;rw[ao]at al;clear ao;generalize a2:bs.length=n at *;have N:=Aa a2;clear a2;have l:=Aa (show ∀u,Below w.heap.size w u->u.cell? ⟨M,0,aC⟩=aD (aB va n k) from fun u G=>(G.cell (aE w _ E)).trans E);have t0:∀q:{ W:World // W.cell? ⟨M,0,aC⟩=aD (aB va n k) },q.1.cell? ⟨M,0,aC⟩=aD (aB va n k):=fun q=>q.2
 letI b8:Inhabited { W:World // W.cell? ⟨M,0,aC⟩=aD (aB va n k) }:=⟨⟨w,E⟩⟩;have t:Below w.heap.size w w.drew:=(aI _ _).drew;go_enter func130,ntmps130;go_upto_region 0 with fail
 refine AW (S:=fun W=>W.cell? ⟨M,0,aC⟩=aD (aB va n k)) 11 12 (by kernel_rfl) rfl ?_;refine AF [true,true,true,true,true,false,false,false,false,false,false,false] 7 rfl (by kernel_rfl) E ?_;simp only[AU,AV,AR];iterate 5 (refine Av (fun K d=>?_);go_simp;refine d _ ?_;clear d K)
 refine A4 ?_;clear t0;refine Ae (f:=6) (rs:=[5]) (by kernel_rfl) (by simp) ?_;refine Af.cons rfl (by decide) (fun K d=>?_) Af.nil;go_simp;go_wp2_with (go_at_call 315;refine(a0 _).mono ?_;rintro e u1 ⟨rfl,a3⟩)
 have Q:=t.trans a3;refine d.out _ _ (l.out _ Q) ?_;clear d K a0;refine Ae (f:=5) (rs:=[6]) (by kernel_rfl) (by simp) ?_;refine Af.cons rfl (by decide) (fun K d=>?_) Af.nil;go_simp;go_wp2_with (go_at_call 132;refine(al _ Q).mono ?_;rintro e u2 ⟨i,f,rfl,a4,a5,a6⟩)
 have U:=Q.trans (a6.mono Q.size);refine d.out _ _ (l.out _ U) ?_;clear d K al;refine AF [false,false,false,false,false,false,false,true,true,true,true,false] 1 rfl (by kernel_rfl) (l.out _ U) ?_;simp only[AU,AV,AR];iterate 4 (refine Av (fun K d=>?_);go_simp;refine d _ ?_;clear d K)
 refine A4 ?_;refine AK (by kernel_rfl) rfl (by kernel_rfl) ?_;intro K d;go_simp;refine d.out _ _ (aS ?_);clear d K l b8 t a3 a6 Q E az;have a7:=Aa (am.out.V U);have a8:=Aa a4;have a9:=Aa a5;have b9:=U.mono b7;have cu:=U.size;have cv:=am.out.box.lt;clear a4 a5 am;have ap:=(aI u2.heap.size u2).alloc (aN _) (aM #[aA ck,aA cn,aA j] 190);have ad:=a7.out.V ap;have y:=Ab ad.box 0;have o:=Ab ad.box 1;simp only[aG,aF,aH]at y o;have ba:=b9.trans (ap.mono (by omega));have aq:=Aa ad;have cw:=ap.size;clear ad;cases f
 ·have bb:look (bs.map BAt.I) ck cn=aC:=by
   rw[L.out];exact Ke (by have:=ac.out.2.2;rw[L.out]at this;exact this) a8.out (fun h=>by have:=a9.out.2 h;cases this)
  have ar:=Aa (show O=aC from by rw[<-an.out];exact MZ rfl (.inl bb));clear bb;generalize V:u2.alloc (aM #[aA ck,aA cn,aA j] 190)=W3 at *;have au:=Aa V;clear V;have t0:∀q:{ W:World // W.cell? ⟨M,0,aC⟩=aD (aB va n k)/\W.cell? ⟨M,1,aC⟩=aD (.int .i64 p) },q.1.cell? ⟨M,0,aC⟩=aD (aB va n k):=fun q=>q.2.1
  letI bc:Inhabited { W:World // W.cell? ⟨M,0,aC⟩=aD (aB va n k)/\W.cell? ⟨M,1,aC⟩=aD (.int .i64 p) }:=⟨⟨W3,y,o⟩⟩;have t:Below W3.heap.size W3 W3.drew:=(aI _ _).drew;go_upto_region 15 with fail
  rw[au.out];refine C5 (R:=fun c w'=>c=Lw p/\Below B w w'/\O=aC) (S:=fun W=>W.cell? ⟨M,0,aC⟩=aD (aB va n k)/\W.cell? ⟨M,1,aC⟩=aD (.int .i64 p)) 15 16 (by kernel_rfl) rfl (fun c a w' X h=>⟨X,h.2.1,.inl ⟨h.2.2,by rw[h.1]⟩⟩) ?_;refine Uy [true,true,true,true,true,true,true,true,true,true,true,true,true,true,true,false] 1 rfl (by kernel_rfl) ⟨y,o⟩ ?_;simp only[AU,AV,AR];iterate 3 (refine CN.step (fun K d=>?_);go_simp;refine d _ ?_;clear d K)
  iterate 11 (refine CN.skip (by kernel_rfl) ?_;simp only[Act.put,List.setIfInBounds_toArray,List.set_cons_zero,List.set_cons_succ])
  refine CN.step (fun K d=>?_);go_simp;refine d _ ?_;clear d K;refine CN.nil ?_;refine AK (by kernel_rfl) rfl (by kernel_rfl) ?_;intro K d;clear t0;have ca:W3.drew.cell? ⟨M,1,aC⟩=aD (.int .i64 p):=o;have cb:=ba.trans (t.mono (by omega));go_simp;go_wp2_with (go_at_call 173;refine(Cg (p:=p) ca).mono ?_;rintro e H ⟨rfl,rfl⟩)
  exact CD.panic rfl ⟨rfl,cb,ar.out⟩
 ·obtain⟨ae,bd⟩:=a9.out.1 rfl;have be:=Oc a8.out ae bd;obtain⟨D,x,T,I,av,bf,bg⟩:=NC L.out be;obtain⟨g,rfl⟩:∃g,va=aD ⟨g,0,aC⟩:=by
   obtain⟨a',cx,af,bh⟩:=Ak a7.out.own.row;rw[N.out]at af bh;cases af
   rcases bh with e | ⟨g,e⟩
   ·exfalso;have:=N.out;rw[I]at this;simp at this;omega
   ·exact⟨g,e⟩
  have cy:i<n:=by rw[<-L.out,aK,N.out]at ae;exact ae
  have cz:(i:Int)<(n:Int):=by omega
  have c0:(0:Int)<=(i:Int):=by omega
  have bi:=AA.new u2 #[aA ck,aA cn,aA j] 190;have Y:=Ab bi 2;simp only[aG,aF,aH]at Y;have aw:=aq.out.own.row;rw[N.out]at aw;have ag:An (u2.alloc (aM #[aA ck,aA cn,aA j] 190)) x.v x.ls:=(aq.out.own.ac x (by rw[I];simp)).lin;obtain⟨xa,xc,cc⟩:=ag.1.ae;obtain⟨c1,c2,af,bj,bk,J⟩:=(show Ap (u2.alloc (aM #[aA ck,aA cn,aA j] 190)) (aB (aD ⟨g,0,aC⟩) n k) n 3 ((D++x::T).flatMap BAt.cells) from by have:=AG aw;rw[I]at this;exact this).block;cases af
  simp only[aW,av]at bj bk J;rw[cc]at J ag;have ax:Ah x.ls:=((Gu ac.out).2 x (by rw[I];simp)).2;have bl:∀W,Below (u2.alloc (aM #[aA ck,aA cn,aA j] 190)).heap.size (u2.alloc (aM #[aA ck,aA cn,aA j] 190)) W->Calls prog 111 #[aB xa x.ls.length xc,aA j] W fun e w'=>e=aV (.bool (hasK (x.ls.map LAt.I) j))/\Below W.heap.size W w':=fun W F=>Je j (ag.V F) ax.1
  have Z:=Aa I;have cd:=Aa av;have ce:=Aa bf;have cf:=Aa bg;have cg:=Aa ax;clear bi ae bd be I av bf bg ag aw bj bk ax;generalize x.ls.length=z at *;generalize bm:hasK (x.ls.map LAt.I) j=ch at *;have bn:=Aa bm;clear bm;generalize V:u2.alloc (aM #[aA ck,aA cn,aA j] 190)=W3 at *;have au:=Aa V;clear V;have l:=Aa (show ∀u,Below W3.heap.size W3 u->u.cell? ⟨M,0,aC⟩=aD (aB (aD ⟨g,0,aC⟩) n k)/\u.cell? ⟨M,1,aC⟩=aD (.int .i64 p)/\u.cell? ⟨u2.heap.size,2,aC⟩=aD (aA j)/\u.cell? ⟨g,i*3+2,aC⟩=aD (aB xa z xc) from fun u G=>⟨(G.cell (aE W3 _ y)).trans y,(G.cell (aE W3 _ o)).trans o,(G.cell (aE W3 _ Y)).trans Y,(G.cell (aE W3 _ J)).trans J⟩);have t0:∀q:{ W:World // W.cell? ⟨M,0,aC⟩=aD (aB (aD ⟨g,0,aC⟩) n k)/\W.cell? ⟨M,1,aC⟩=aD (.int .i64 p)/\W.cell? ⟨u2.heap.size,2,aC⟩=aD (aA j)/\W.cell? ⟨g,i*3+2,aC⟩=aD (aB xa z xc) },q.1.cell? ⟨M,0,aC⟩=aD (aB (aD ⟨g,0,aC⟩) n k):=fun q=>q.2.1
  have ay:∀q:{ W:World // W.cell? ⟨M,0,aC⟩=aD (aB (aD ⟨g,0,aC⟩) n k)/\W.cell? ⟨M,1,aC⟩=aD (.int .i64 p)/\W.cell? ⟨u2.heap.size,2,aC⟩=aD (aA j)/\W.cell? ⟨g,i*3+2,aC⟩=aD (aB xa z xc) },q.1.cell? ⟨u2.heap.size,2,aC⟩=aD (aA j):=fun q=>q.2.2.2.1
  have t2:∀q:{ W:World // W.cell? ⟨M,0,aC⟩=aD (aB (aD ⟨g,0,aC⟩) n k)/\W.cell? ⟨M,1,aC⟩=aD (.int .i64 p)/\W.cell? ⟨u2.heap.size,2,aC⟩=aD (aA j)/\W.cell? ⟨g,i*3+2,aC⟩=aD (aB xa z xc) },q.1.cell? ⟨g,i*3+2,aC⟩=aD (aB xa z xc):=fun q=>q.2.2.2.2
  letI bc:Inhabited { W:World // W.cell? ⟨M,0,aC⟩=aD (aB (aD ⟨g,0,aC⟩) n k)/\W.cell? ⟨M,1,aC⟩=aD (.int .i64 p)/\W.cell? ⟨u2.heap.size,2,aC⟩=aD (aA j)/\W.cell? ⟨g,i*3+2,aC⟩=aD (aB xa z xc) }:=⟨⟨W3,y,o,Y,J⟩⟩;have t:Below W3.heap.size W3 W3.drew:=(aI _ _).drew;go_upto_region 15 with fail
  rw[au.out];refine C5 (R:=fun c w'=>c=Lw p/\Below B w w'/\O=aC) (S:=fun W=>W.cell? ⟨M,0,aC⟩=aD (aB (aD ⟨g,0,aC⟩) n k)/\W.cell? ⟨M,1,aC⟩=aD (.int .i64 p)/\W.cell? ⟨u2.heap.size,2,aC⟩=aD (aA j)/\W.cell? ⟨g,i*3+2,aC⟩=aD (aB xa z xc)) 15 16 (by kernel_rfl) rfl (fun c a w' X h=>⟨X,h.2.1,.inl ⟨h.2.2,by rw[h.1]⟩⟩) ?_;refine BX [true,true,true,true,true,true,true,true,true,true,true,true,true,false,false,false] 3 rfl (by kernel_rfl) ⟨y,o,Y,J⟩ ?_;simp only[AU,AV,AR];iterate 3 (refine Av (fun K d=>?_);go_simp;refine d _ ?_;clear d K)
  iterate 10 (refine Av (fun K d=>?_);rw[if_pos (by kernel_rfl)];go_simp;refine d _ ?_;clear d K)
  refine A4 ?_;refine Ae (f:=2) (rs:=[13]) (by kernel_rfl) (by simp) ?_;refine Af.cons rfl (by decide) (fun K d=>?_) Af.nil;rw[if_pos (by kernel_rfl)];go_simp;go_wp2_with (go_at_call 111;refine(bl _ t).mono ?_;first | rintro e ah rfl bo | rintro e ah ⟨rfl,bo⟩)
  have aa:=t.trans bo;refine d.out _ _ (l.out _ aa) ?_;clear d K bl;refine BX [false,false,false,false,false,false,false,false,false,false,false,false,false,false,true,false] 1 rfl (by kernel_rfl) (l.out _ aa) ?_;simp only[AU,AV,AR];refine Av (fun K d=>?_);go_simp;refine d _ ?_;clear d K;refine A4 ?_;refine AK (by kernel_rfl) rfl (by kernel_rfl) ?_;intro K d;clear t0 ay t2;have ai:=l.out _ aa;have bp:=ai.2.1;have bq:=ba.trans (aa.mono (by omega));have aj:bs.map BAt.I=D.map BAt.I++x.I::T.map BAt.I:=by rw[Z.out];simp
  cases ch
  ·have ar:=Aa (show O=aC from by rw[<-an.out];exact MZ rfl (.inr (.inr ⟨x.I,by rw[L.out];exact cf.out,bn.out⟩)));clear aj;go_simp;go_wp2_with (go_at_call 173;refine(Cg (p:=p) bp).mono ?_;rintro e H ⟨rfl,rfl⟩)
   exact CD.panic rfl ⟨rfl,bq,ar.out⟩
  ·have ak:=aq.out.V aa;have br:Az B ah (CE (aB aC 0 0) []++Dr (aB (aD ⟨g,0,aC⟩) n k) bs):=by
    refine⟨fun r C=>?_,?_⟩
    ·rcases bK.1 C with C | C
     ·unfold CE at C;rw[List.map_nil,bG]at C;rw[C];exact World.ownsRow_nil _ _ _ _
     ·exact ak.own.1 r C
    ·unfold CE;exact List.pairwise_cons.2 ⟨fun _ _=>.inl rfl,ak.own.2⟩
   have bt:x.ls.length+([]:List LAt).length<=1048576:=cg.out.1;have bu:=Aa (show (if linesB (rulesOf x.aa) (DT (rulesOf x.aa) (x.ls.map LAt.I) j (([]:List LAt).map LAt.I))=true then aD ((D.map BAt.I)++(⟨x.aa,x.name,DT (rulesOf x.aa) (x.ls.map LAt.I) j (([]:List LAt).map LAt.I)⟩:PBlock)::T.map BAt.I) else aC)=O from by
    have bv:=ac.out;rw[aj]at bv;rw[<-an.out,aj];exact Ab2 (b:=x.I) bv ce.out bn.out)
   have bw:∀W,Below ah.heap.size ah W->Calls prog 175 #[aT (aD ⟨M,0,aC⟩),aT (aD ⟨g,i*3,aC⟩),aA j,aB aC 0 0] W fun e w'=>Ev B M p O W e w':=fun W F=>by
    have bx:=Kf (D:=D) (T:=T) (x:=x) (i:=i) (xs:=[]) (xv:=aB aC 0 0) j (by rw[<-Z.out];exact ak.V F) (by rw[<-Z.out];exact N.out) cd.out (by rw[<-Z.out];exact br.V F) (by rw[<-Z.out];exact ac.out) ⟨by simp,fun _ h=>by cases h⟩ bt;rw[bu.out]at bx;exact bx
   have bz:=ai.1;have b0:=ai.2.2.1;have ci:=ak.size;clear aj br bt bu ai l bc bp;go_simp;go_wp2_with (go_at_call 173;refine(D9 M _).mono ?_;rintro e H ⟨rfl,rfl⟩)
   refine d.out _ _ (CD.normal ?_);clear d K;have t0:∀q:{ W:World // W.cell? ⟨M,0,aC⟩=aD (aB (aD ⟨g,0,aC⟩) n k)/\W.cell? ⟨u2.heap.size,2,aC⟩=aD (aA j) },q.1.cell? ⟨M,0,aC⟩=aD (aB (aD ⟨g,0,aC⟩) n k):=fun q=>q.2.1
   have ay:∀q:{ W:World // W.cell? ⟨M,0,aC⟩=aD (aB (aD ⟨g,0,aC⟩) n k)/\W.cell? ⟨u2.heap.size,2,aC⟩=aD (aA j) },q.1.cell? ⟨u2.heap.size,2,aC⟩=aD (aA j):=fun q=>q.2.2
   letI c3:Inhabited { W:World // W.cell? ⟨M,0,aC⟩=aD (aB (aD ⟨g,0,aC⟩) n k)/\W.cell? ⟨u2.heap.size,2,aC⟩=aD (aA j) }:=⟨⟨H,bz,b0⟩⟩;have b1:Below H.heap.size H H.drew:=(aI _ _).drew;go_upto_region 16 with fail
   refine C5 (R:=fun c w'=>c=Lw p/\Below B w w'/\O=aC) (S:=fun W=>W.cell? ⟨M,0,aC⟩=aD (aB (aD ⟨g,0,aC⟩) n k)/\W.cell? ⟨u2.heap.size,2,aC⟩=aD (aA j)) 9 10 (by kernel_rfl) rfl (fun c a w' X h=>⟨X,h.2.1,.inl ⟨h.2.2,by rw[h.1]⟩⟩) ?_;refine BX [true,true,true,true,true,true,true,true,true,false] 1 rfl (by kernel_rfl) ⟨bz,b0⟩ ?_;simp only[AU,AV,AR];iterate 9 (refine Av (fun K d=>?_);go_simp;refine d _ ?_;clear d K)
   refine A4 ?_;clear t0 ay;refine AK (by kernel_rfl) rfl (by kernel_rfl) ?_;intro K d;have b2:=bq.trans (b1.mono ci);go_simp;go_wp2_with (go_at_call 175;refine(bw _ b1).mono ?_)
   rintro e cj ⟨b3,cl⟩;rcases cl with ⟨m,rfl⟩ | ⟨A,v',bs',m,rfl,b4,b5⟩
   ·exact CD.panic rfl ⟨rfl,b2.trans b3,m⟩
   ·have cm:=Aa (show Ev B M p O w (aV (bL #[])) cj from⟨b2.trans b3,.inr ⟨A,v',bs',m,rfl,b4,b5⟩⟩);clear b5 b4 m bw;refine d.out _ _ (CD.normal ?_);clear d K;go_wp2;go_end0
    exact cm.out
