import Derived.Test.YtpdahhnjhggocaaGreatDoorMu15
import Derived.Test.YtpdahhnjhggocaaGreatDoorMu23
open Go.Proofs.Tryz
open Go.Value renaming slice->aA,string->aG,pointer->aI,agg->aV,tuple->bL
open List renaming getElem?_cons_zero->aB,getElem?_toArray->aC,getElem?_cons_succ->aH,setIfInBounds_toArray->aN,set_cons_zero->aT,set_cons_succ->aU,not_mem_nil->bA,mem_cons->bB,map_toArray->bF,length_map->bG,map_cons->bH,map_nil->bI
open Go.Obj renaming cells->aD
open Array renaming getElem?_eq_some_iff->aE
open Option renaming none->aF,some->aL
open Nat renaming le_refl->aJ,le_trans->bJ
open Option.some renaming inj->aK
open Go.RowKit.Below renaming refl->aM
open Go.Operand renaming tmp->aO
open Go.World renaming block_lt_of_cell?->aP,size_alloc->bD
open Go.Act renaming eval->aQ
open Go.Ground renaming textOnly->aR
open Go.Oper renaming wp->aS,mk->aY
open Go.Departure renaming lateStores->aW,lateStoresUnsure->aZ
open Go.Op renaming store->aX
open Go.Ending renaming returned->bC
open Go.NoPanic renaming normal->bE
open Go.Code renaming region->bK
namespace Go.Proofs.YtpdahhnjhggocaaGreatDoor
open Go.RowKit
set_option maxHeartbeats 16000000
set_option maxRecDepth 100000
variable {p c S Y n sc:Nat}{w1 W W':World}{v:Value}{bs bs':List BAt}{ls:List LAt}{sa:Option Addr}
def Ae7(B p k:Nat)(w1:World)(S n:Nat)(i:Value)(W:World):Prop:=∃(j kk:Nat) (v:Value) (cs:List BAt),i=.int .i64 (j:Int)/\j<=n/\cs.length<=j/\kk<=k+102*j/\Om B p w1 S kk v cs W
def Ae8(B p k:Nat)(w1:World)(S:Nat)(i:Value)(W:World):Prop:=∃(m kk:Nat) (v:Value) (cs:List BAt),i=.int .i64 (m:Int)/\m<=2/\cs.length<=62/\kk+100*m<=k+201/\Om B p w1 S kk v cs W
theorem Ae9(h:As w1 v bs)(a:AD p v bs)(g:w1.grownBy W (aL p)):As W v bs:=h.far a g
theorem Y2(h:An W' v ls)(a:∀q,q<W.heap.size->Ay q v ls)(f:c<=W.heap.size)(d:S<W.heap.size)(e:Y<W.heap.size):CP c [S,Y] W' v ls:=⟨h,fun q b=>by
 simp only[bB,bA,or_false]at b;rcases b with rfl | rfl
 ·exact a _ d
 ·exact a _ e,fun q b=>a q (by omega)⟩
theorem Fg{x:BAt}{cs:List BAt}(b:∀y∈bs',y=x\/y∈cs)(c:Dx x.name x.ls)(d:∀y∈cs,Dx y.name y.ls):∀y∈bs',Dx y.name y.ls:=fun y a=>by
 rcases b y a with rfl | a
 ·exact c
 ·exact d y a
theorem Ado{u o:BAt}{a:Option Addr}{d:Nat}(h:An W' (aA a n d) ls)(e:∀q,q<W.heap.size->Ay q u.v u.ls->Ay q o.v o.ls->Ay q (aA a n d) ls)(i:c<=W.heap.size)(j:S<W.heap.size)(k:Y<W.heap.size)(f:CP c [S,Y] W u.v u.ls)(g:CP c [S,Y] W o.v o.ls):CP c [S,Y] W' (aA a n d) ls:=⟨h,fun q b=>e q (by
 simp only[bB,bA,or_false]at b;rcases b with rfl | rfl <;> omega) (f.2.1 q b) (g.2.1 q b),fun q b=>e q (by omega) (f.2.2 q b) (g.2.2 q b)⟩
theorem Aba{u o:BAt}(a:ls.map LAt.I=DA (rulesOf o.aa) (u.ls.map LAt.I) (o.ls.map LAt.I))(b:∀y∈ls,y∈o.ls\/y∈u.ls)(c:Ah u.ls)(d:Ah o.ls)(e:o.ls.length+u.ls.length<=1048576):Ah ls:=by
 refine Ik d c b ?_;have:=TZ (R:=rulesOf o.aa) (u:=u.ls.map LAt.I) (o:=o.ls.map LAt.I);rw[<-a]at this;simp only[bG]at this;omega
theorem VL(B p k:Nat)(w:World)(h:Rd B w p k)(fm:k<=100000)(bt:As w (aA sa n sc) bs)(cl:AD p (aA sa n sc) bs)(cm:Ax bs)(ek:bs.length<=62)(cn:∀b∈bs,b.ls.length<=1000):Calls prog 45 #[aI (aL ⟨p,0,aF⟩),aV #[aA sa n sc]] w fun e w'=>Eg 7000 B p k w e w':=by
 have el:=h.lt;have co:n=bs.length:=by obtain⟨a',fn,e⟩:=bt.1.ae;cases e;rfl
 have a0:Below w.heap.size w ((w.alloc (aD #[aA sa n sc] 25)).alloc (aD #[aA aF 0 0] 25)):=((aM w.heap.size w).alloc (aJ _) _).alloc (by simp) _;have cp:=h.V a0;have em:=A2 a0 (aL p);have cq:((w.alloc (aD #[aA sa n sc] 25)).alloc (aD #[aA aF 0 0] 25)).heap.size=w.heap.size+2:=by simp
 have en:((w.alloc (aD #[aA sa n sc] 25)).alloc (aD #[aA aF 0 0] 25)).heap[w.heap.size]?=aL (aD #[aA sa n sc] 25 (0,0)):=by
  have eo:=(aM (w.alloc (aD #[aA sa n sc] 25)).heap.size (w.alloc (aD #[aA sa n sc] 25))).alloc (aJ _) (aD #[aA aF 0 0] 25);rw[eo.block w.heap.size (by simp)];exact Al w _
 have ep:((w.alloc (aD #[aA sa n sc] 25)).alloc (aD #[aA aF 0 0] 25)).heap[w.heap.size+1]?=aL (aD #[aA aF 0 0] 25 (0,0)):=by
  have:=Al (w.alloc (aD #[aA sa n sc] 25)) (aD #[aA aF 0 0] 25);rw[bD]at this;exact this
 have cr:=bt.V a0;generalize ct:(w.alloc (aD #[aA sa n sc] 25)).alloc (aD #[aA aF 0 0] 25)=w1 at *;have eq:=Aa ct;clear ct;have z2:=Al w1 (aD #[aA aF 0 0] 25);have bu:=(aM w1.heap.size w1).alloc (aJ _) (aD #[aA aF 0 0] 25);rw[cq]at z2;have cu:Om B p w1 (w.heap.size+2) k (aA aF 0 0) [] (w1.alloc (aD #[aA aF 0 0] 25)):=⟨cp.V bu,A2 bu _,z2,by omega,by omega,⟨⟨rfl,aF,0,rfl,⟨aJ _,Nat.zero_le _⟩,.inl rfl⟩,by simp⟩,fun q _=>⟨.inl rfl,by simp⟩,⟨.inl rfl,by simp⟩,by simp⟩;clear z2 bu cp a0 h;generalize cv:w1.alloc (aD #[aA aF 0 0] 25)=w2 at *;have er:=Aa cv;have cw:=Aa cu;have es:=Aa cr;have et:=Aa cl;have bw:=Aa cm;have eu:=Aa cn;have cx:=Aa co;have fo:n<=62:=by omega
 clear cv cu cr bt cl cm cn co ek;go_enter func45,ntmps45;go_wp2;rw[eq.out,er.out];rw[show w.heap.size+1+1=w.heap.size+2 from rfl];go_loopw [6] (fun i wr=>Ae7 B p k w1 (w.heap.size+2) n i wr) (fun i _=>n-(intOf i).toNat)
 case atStart=>exact⟨0,k,aA aF 0 0,[],rfl,by omega,by simp,by omega,cw.out⟩
 case round =>
  obtain⟨j,kk,v,cs,rfl,fp,fq,fr,a⟩:=hrel;obtain⟨xa,xc,rfl⟩:=a.bin.1.ae;have fs:=a.gr.size;have bx:=(a.gr.block w.heap.size (by omega) (by intro e;have:=aK e;omega)).trans en;have bz:=Ab bx 0;simp only[aC,aB]at bz;clear cw;by_cases ft:j<n
  ·have b1:=Ae9 es.out et.out a.gr;obtain⟨D,⟨bk,bn,bv,M⟩,T,ad,b2⟩:=AS bs j (by have:=cx.out;omega);have ai:(⟨bk,bn,bv,M⟩:BAt)∈bs:=by rw[ad];simp
   have b3:=b1.2 _ ai;obtain⟨ba,bc,cy⟩:=b3.1.ae;simp only at cy;subst cy;have b4:=b1.1;rw[<-cx.out,ad]at b4;obtain⟨b0,off,ev,cz,c1,c2⟩:=b4.block;cases ev
   simp only[b2]at cz c1 c2;have b5:=KW b3 (bw.out.2 _ ai).2;simp only at b5;have a1:=(bw.out.2 _ ai).1;have aj:=eu.out _ ai;have c4:=Aa (bw.out.2 _ ai).2;simp only at a1 aj;have fu:(0:Int)<=(j:Int):=by omega
   have fv:(j:Int)<(n:Int):=by omega
   have c:=Aa a;clear a b1 b4 b3 ai ad b2 bx;generalize b6:M.length=nl at *;go_wp2_with (go_at_call 105;refine b5.mono ?_)
   first | rintro e w3 v3 rfl J an o3 a2 | rintro e w3 v3 J rfl an o3 a2 | rintro e w3 ⟨v3,J,rfl,an,o3,a2⟩
   obtain⟨a3,c3,rfl,_⟩:=Ak o3.row;have b7:J.length=nl:=by have:=congrArg List.length an;simpa [b6] using this
   have U:=c.out.V a2;have ew:=U.bin;have L:=(aM w3.heap.size w3).alloc (aJ _) (aD #[aG bk,aG bn,aA a3 J.length c3] 46);have ae:=U.V L;have ex:=U.Slt;have fw:=U.gr.size;have fx:=a2.size;have c6:=Aa (Ub U.bin (aJ w3.heap.size));have b8:UF w1.heap.size (w.heap.size+2) w3.heap.size bk bn (aA a3 J.length c3) J (w3.alloc (aD #[aG bk,aG bn,aA a3 J.length c3] 46)):=⟨Al _ _,by omega,by omega,⟨o3.lin.V L,fun q F=>by
    simp only[bB,bA,or_false]at F;rcases F with rfl | rfl
    ·exact⟨Cc.above o3.row (c.out.Slt),fun y a4=>Cc.above (o3.words y a4) c.out.Slt⟩
    ·exact An.fresh o3.lin (aJ _),fun q F=>⟨Cc.above o3.row (by omega),fun y a4=>Cc.above (o3.words y a4) (by omega)⟩⟩,a1,c4.out.same an⟩
   rw[b7]at b8 L ae;generalize ey:w3.heap.size=Y at *;have ez:(w3.alloc (aD #[aG bk,aG bn,aA a3 nl c3] 46)).heap.size=Y+1:=by simp[ey]
   have fy:Y<(w3.alloc (aD #[aG bk,aG bn,aA a3 nl c3] 46)).heap.size:=by omega
   have ao:=Bc B p kk 5 _ ae.rd (by omega) (by omega) (by omega);have b9:=Aa ae;have c7:=Aa b8;have ap:=Aa b7;rw[b7];clear b5 c U ew ae b8 o3 L an c4 cz c1 c2 bz ex;generalize c8:w3.alloc (aD #[aG bk,aG bn,aA a3 nl c3] 46)=af at *;have e0:=Aa c8;clear c8;go_wp2_with (go_at_call 44;(try rw[e0.out]);refine ao.mono ?_)
   rintro e ca ⟨y,a4,rfl,da,a5⟩;have G:=b9.out.grown a5 da;have N:=c7.out.grown a5 b9.out.plt;have fz:=a5.size;clear ao b9 c7 da a5;obtain rfl | rfl | rfl | f0:y=0\/y=1\/y=2\/3<=y:=by omega
   ·have c:=Aa G;clear G N;go_wp2;go_roundw;case rel=>exact⟨j+1,kk+1,aA xa cs.length xc,cs,by go_num,by omega,by omega,by omega,c.out⟩
    case measure=>simp[intOf];omega
   ·have aq:=EP B p (kk+1) ca G.rd (by omega);have c:=Aa G;have l:=Aa N;have e1:=G.plt;have e2:=G.Slt;have e3:=N.lt;have e4:=G.gr.size;clear G N;go_wp2_with (go_at_call 106;refine aq.mono ?_)
    rintro e ag ⟨b,db,rfl,f1,dc,a6,⟨a7,cb⟩,dd,a8,bb,_⟩;obtain⟨Z,yc,de⟩:=a7.1.ae;obtain⟨yk,yn,f2,O⟩:=b;simp only at a7 cb dd a8 bb de;subst de;have ar:=c.out.grown a6 dc;have df:=l.out.grown a6 e1;have f3:=a6.size;have L:=(aM ag.heap.size ag).alloc (aJ _) (aD #[aG yk,aG yn,aA Z O.length yc] 46);have aa:=Al ag (aD #[aG yk,aG yn,aA Z O.length yc] 46);have r:=ar.V L;have au:=df.V L;have dg:=Ab aa 0;have cc:=Ab aa 2;have A:=Ab au.box 0;have H:=Ab au.box 1;have C:=Ab au.box 2;simp only[aC,aB,aH]at dg cc A H C;have bd:=Aa (show CP w1.heap.size [w.heap.size+2,Y] (ag.alloc (aD #[aG yk,aG yn,aA Z O.length yc] 46)) (aA Z O.length yc) O from Y2 (W:=ca) (a7.V L) cb e4 e2 e3);have be:=Aa (show Ah O from⟨by omega,fun x dh=>⟨bJ (bb x dh).1 (by decide),fun e5 e6=>bJ ((bb x dh).2 e5 e6) (by decide)⟩⟩);have ak:=Aa r;have V:=Aa au;clear aq c l ar df r au a7 cb bb dc a6 L aa dd;generalize di:O.length=bf at *;have dj:=Aa di;clear di;generalize dk:ag.alloc (aD #[aG yk,aG yn,aA Z bf yc] 46)=ah at *;have dl:=Aa dk;clear dk;go_upto_region 10 with fail
    rw[dl.out];cases f4:(yk.toList==bk.toList)
    ·have a:=ak.out;have g:=V.out;clear ak V bd be cc A H C;have X:=a.Slt;have bg:=g.lt;have K:=Ab a.box 0;have A:=Ab g.box 0;have H:=Ab g.box 1;have C:=Ab g.box 2;simp only[aC,aB,aH]at K A H C;have av:=a.gr.size;have E:=BU (x:=⟨bk,bn,aA a3 nl c3,J⟩) a.bin (by omega) g.free.1;have c:=Aa a;have l:=Aa g;clear a g;simp only at E;go_wp2_with (go_at_call 54;refine E.mono ?_)
     rintro e ah ⟨s,t,z,I,rfl,f,P⟩;have r:=c.out.V P;have Q:=r.box;have R:=Aa (r.put (v':=aA s t z) (bs':=I) f.2.2.2.1 (fun q F=>f.2.2.2.2 q (by omega) (c.out.abv q F) (l.out.free.2.2 q F)) (f.2.2.2.2 _ X c.out.farS (l.out.free.2.1 _ (by simp))) (Fg f.2.2.1 l.out.aj c.out.aj));have aw:=f.2.1;clear E f r c l K A H C;go_wp2_with (with_reducible show wpList _ _ _ (aY _ (aX _ (aO 5) _) _ _ _ _::_) _ _;refine wpList_store_row rfl 25 _ _ rfl (w.heap.size+2) #[aA s t z] ?_ ?_ 25 _ Q ?_ ?_ ?_ ?_)
     all_goals (first | rfl | kernel_rfl | exact AB | skip)
     go_roundw;case rel=>exact⟨j+1,db,aA s t z,I,by go_num,by omega,by omega,by omega,R.out⟩
     case measure=>simp[intOf];omega
    ·have dm:O.length+J.length<=1000000:=by have:=dj.out;have:=ap.out;omega
     have cd:=Lj (u:=⟨bk,bn,aA a3 nl c3,J⟩) (o:=⟨bk,bn,aA Z bf yc,O⟩) (w:=ah) V.out.free.1 bd.out.1 V.out.aj.2 be.out dm;simp only at cd;clear dm;go_wp2_with (go_at_call 53;(try rw[dl.out]);refine cd.mono ?_)
     rintro e dn ⟨bh,bi,bj,e7,rfl,⟨dp,dq,dr,dt⟩,du⟩;have dv:=ak.out.V du;have al:=V.out.V du;have ce:=al.box;have e8:=ak.out.gr.size;have dw:=Ado (u:=⟨bk,bn,aA a3 nl c3,J⟩) (o:=⟨bk,bn,aA Z bf yc,O⟩) dr dt e8 ak.out.Slt V.out.lt V.out.free bd.out;have dx:=Aba (u:=⟨bk,bn,aA a3 nl c3,J⟩) (o:=⟨bk,bn,aA Z bf yc,O⟩) dp dq V.out.aj.2 be.out (by have:=dj.out;have:=ap.out;simp only;omega);have cf:=Ba dn Y #[aG bk,aG bn,aA bh bi bj];have dy:=Aa (dv.turn cf al.cY al.YS c6.out);have dz:=Aa (al.put cf (setRow_heap _ _ _ _ _ _ ce) dw ⟨al.aj.1,dx⟩);clear cd ak V dv al bd be dp dq dr dt dw dx cf dg cc A H C;go_upto_region 15 with (with_reducible show wpList _ _ _ (aY _ (aX _ (aO 7) _) _ _ _ _::_) _ _;refine wpList_store_row rfl 46 _ _ rfl Y #[aG bk,aG bn,aA bh bi bj] ?_ ?_ 46 _ ce ?_ ?_ ?_ ?_)
     all_goals (first | rfl | kernel_rfl | exact⟨rfl,rfl,rfl⟩ | (obtain⟨i9,e9,_,fa,_⟩:=info_parts Bg;exact⟨i9,e9,fa⟩) | skip)
     generalize dn.setRow Y #[aG bk,aG bn,aA bh bi bj]=am at *;have a:=dy.out;have g:=dz.out;clear dy dz ce;have X:=a.Slt;have bg:=g.lt;have K:=Ab a.box 0;have A:=Ab g.box 0;have H:=Ab g.box 1;have C:=Ab g.box 2;simp only[aC,aB,aH]at K A H C;have av:=a.gr.size;have E:=BU (x:=⟨bk,bn,aA bh bi bj,e7⟩) a.bin (by omega) g.free.1;have c:=Aa a;have l:=Aa g;clear a g;simp only at E;go_wp2_with (go_at_call 54;refine E.mono ?_)
     rintro e ah ⟨s,t,z,I,rfl,f,P⟩;have r:=c.out.V P;have Q:=r.box;have R:=Aa (r.put (v':=aA s t z) (bs':=I) f.2.2.2.1 (fun q F=>f.2.2.2.2 q (by omega) (c.out.abv q F) (l.out.free.2.2 q F)) (f.2.2.2.2 _ X c.out.farS (l.out.free.2.1 _ (by simp))) (Fg f.2.2.1 l.out.aj c.out.aj));have aw:=f.2.1;clear E f r c l K A H C;go_wp2_with (with_reducible show wpList _ _ _ (aY _ (aX _ (aO 5) _) _ _ _ _::_) _ _;refine wpList_store_row rfl 25 _ _ rfl (w.heap.size+2) #[aA s t z] ?_ ?_ 25 _ Q ?_ ?_ ?_ ?_)
     all_goals (first | rfl | kernel_rfl | exact AB | skip)
     go_roundw;case rel=>exact⟨j+1,db,aA s t z,I,by go_num,by omega,by omega,by omega,R.out⟩
     case measure=>simp[intOf];omega
   ·have C:=Ab N.box 2;simp only[aC,aB,aH]at C;by_cases d0:nl=0
    ·have a:=G;have g:=N;clear G N;have fb:¬((nl:Int)>0):=by omega
     clear d0;go_upto_region 15 with fail
     clear C;have X:=a.Slt;have bg:=g.lt;have K:=Ab a.box 0;have A:=Ab g.box 0;have H:=Ab g.box 1;have C:=Ab g.box 2;simp only[aC,aB,aH]at K A H C;have av:=a.gr.size;have E:=BU (x:=⟨bk,bn,aA a3 nl c3,J⟩) a.bin (by omega) g.free.1;have c:=Aa a;have l:=Aa g;clear a g;simp only at E;go_wp2_with (go_at_call 54;refine E.mono ?_)
     rintro e ah ⟨s,t,z,I,rfl,f,P⟩;have r:=c.out.V P;have Q:=r.box;have R:=Aa (r.put (v':=aA s t z) (bs':=I) f.2.2.2.1 (fun q F=>f.2.2.2.2 q (by omega) (c.out.abv q F) (l.out.free.2.2 q F)) (f.2.2.2.2 _ X c.out.farS (l.out.free.2.1 _ (by simp))) (Fg f.2.2.1 l.out.aj c.out.aj));have aw:=f.2.1;clear E f r c l K A H C;go_wp2_with (with_reducible show wpList _ _ _ (aY _ (aX _ (aO 5) _) _ _ _ _::_) _ _;refine wpList_store_row rfl 25 _ _ rfl (w.heap.size+2) #[aA s t z] ?_ ?_ 25 _ Q ?_ ?_ ?_ ?_)
     all_goals (first | rfl | kernel_rfl | exact AB | skip)
     go_roundw;case rel=>exact⟨j+1,kk+1,aA s t z,I,by go_num,by omega,by omega,by omega,R.out⟩
     case measure=>simp[intOf];omega
    ·have fb:((nl:Int)>0):=by omega
     have c:=Aa G;have l:=Aa N;clear G N;obtain⟨d1,d2,fc⟩:∃d1 d2,(Value.slice a3 nl c3)=aA (aL ⟨d1,d2,aF⟩) nl c3:=by
      have d3:=l.out.free.1.1;obtain⟨D,x,T,ax,b2⟩:=AS J 0 (by have:=ap.out;omega);rw[ap.out,ax]at d3;obtain⟨b',fd,bl,_,_⟩:=d3.line;cases bl
      exact⟨b',fd,rfl⟩
     cases fc
     go_upto_region 14 with fail
     clear C;refine Y1 (B:=B) (w1:=w1) (S:=w.heap.size+2) c.out l.out c6.out ap.out (by omega) (by omega) (by omega) (by kernel_rfl) (by kernel_rfl) (by kernel_rfl) ?_;intro u fe m ff fg fh am a' d4 f5 a g;simp only[Ai,CL,aN,aT,aU]at d4;subst d4;clear c l;have X:=a.Slt;have bg:=g.lt;have K:=Ab a.box 0;have A:=Ab g.box 0;have H:=Ab g.box 1;have C:=Ab g.box 2;simp only[aC,aB,aH]at K A H C;have av:=a.gr.size;have E:=BU (x:=⟨bk,bn,aA fe m ff,fg⟩) a.bin (by omega) g.free.1;have c:=Aa a;have l:=Aa g;clear a g;simp only at E;go_wp2_with (go_at_call 54;refine E.mono ?_)
     rintro e ah ⟨s,t,z,I,rfl,f,P⟩;have r:=c.out.V P;have Q:=r.box;have R:=Aa (r.put (v':=aA s t z) (bs':=I) f.2.2.2.1 (fun q F=>f.2.2.2.2 q (by omega) (c.out.abv q F) (l.out.free.2.2 q F)) (f.2.2.2.2 _ X c.out.farS (l.out.free.2.1 _ (by simp))) (Fg f.2.2.1 l.out.aj c.out.aj));have aw:=f.2.1;clear E f r c l K A H C;go_wp2_with (with_reducible show wpList _ _ _ (aY _ (aX _ (aO 5) _) _ _ _ _::_) _ _;refine wpList_store_row rfl 25 _ _ rfl (w.heap.size+2) #[aA s t z] ?_ ?_ 25 _ Q ?_ ?_ ?_ ?_)
     all_goals (first | rfl | kernel_rfl | exact AB | skip)
     go_roundw;case rel=>exact⟨j+1,fh,aA s t z,I,by go_num,by omega,by omega,by omega,R.out⟩
     case measure=>simp[intOf];omega
   ·have d5:((y:Int)==0)=false:=by rw[beq_eq_false_iff_ne];omega
    have n1:((y:Int)==1)=false:=by rw[beq_eq_false_iff_ne];omega
    have n2:((y:Int)==2)=false:=by rw[beq_eq_false_iff_ne];omega
    have a:=G;have g:=N;clear G N;have X:=a.Slt;have bg:=g.lt;have K:=Ab a.box 0;have A:=Ab g.box 0;have H:=Ab g.box 1;have C:=Ab g.box 2;simp only[aC,aB,aH]at K A H C;have av:=a.gr.size;have E:=BU (x:=⟨bk,bn,aA a3 nl c3,J⟩) a.bin (by omega) g.free.1;have c:=Aa a;have l:=Aa g;clear a g;simp only at E;go_wp2_with (go_at_call 54;refine E.mono ?_)
    rintro e ah ⟨s,t,z,I,rfl,f,P⟩;have r:=c.out.V P;have Q:=r.box;have R:=Aa (r.put (v':=aA s t z) (bs':=I) f.2.2.2.1 (fun q F=>f.2.2.2.2 q (by omega) (c.out.abv q F) (l.out.free.2.2 q F)) (f.2.2.2.2 _ X c.out.farS (l.out.free.2.1 _ (by simp))) (Fg f.2.2.1 l.out.aj c.out.aj));have aw:=f.2.1;clear E f r c l K A H C;go_wp2_with (with_reducible show wpList _ _ _ (aY _ (aX _ (aO 5) _) _ _ _ _::_) _ _;refine wpList_store_row rfl 25 _ _ rfl (w.heap.size+2) #[aA s t z] ?_ ?_ 25 _ Q ?_ ?_ ?_ ?_)
    all_goals (first | rfl | kernel_rfl | exact AB | skip)
    go_roundw;case rel=>exact⟨j+1,kk+1,aA s t z,I,by go_num,by omega,by omega,by omega,R.out⟩
    case measure=>simp[intOf];omega
  ·obtain rfl:j=n:=by omega
   have f6:¬((j:Int)<(j:Int)):=by omega
   have ao:=Bc B p kk 3 wr a.rd (by omega) (by omega) (by omega);have c:=Aa a;clear a;go_wp2_with (go_at_call 44;refine ao.mono ?_)
   rintro e w3 ⟨d5,d0,rfl,d6,d7⟩;have U:=Aa (c.out.grown d7 d6);clear ao c d6 d7 bz bx;go_wp2;go_loopw [9] (fun i wr=>Ae8 B p kk w1 (w.heap.size+2) i wr) (fun i _=>(intOf i).toNat)
   case atStart=>exact⟨d5,kk+1,aA xa cs.length xc,cs,rfl,by omega,by omega,by omega,U.out⟩
   case round =>
    obtain⟨m,fi,v,ds,rfl,f7,f8,f9,a⟩:=hrel;obtain⟨ta,ga,rfl⟩:=a.bin.1.ae;have c0:=Ab a.box 0;simp only[aC,aB]at c0;clear U;cases m with
    | zero =>
     have d8:=Fw a.bin ⟨by omega,a.aj⟩;have c:=Aa a;have av:=a.gr.size;have d9:=(a.gr.block (w.heap.size+1) (by omega) (by intro e;have:=aK e;omega)).trans ep;clear a;go_wp2_with (go_at_call 55;refine d8.mono ?_)
     first | rintro e am v9 rfl bm bo o9 ay | rintro e am v9 bm rfl bo o9 ay | rintro e am ⟨v9,bm,rfl,bo,o9,ay⟩
     have z9:=(ay.block (w.heap.size+1) (by omega)).trans d9;obtain⟨a9,c9,rfl,_⟩:=Ak o9.row;have ea:=Aa (c.out.out (d:=7000) (k:=k) cq em el (by omega) (by omega) bo o9 ay #[aA a9 bm.length c9]);clear d8 c o9 bo ay d9;generalize bm.length=az at *;go_wp2_with (with_reducible show wpList _ _ _ (aY _ (aX _ (aO 4) _) _ _ _ _::_) _ _;refine wpList_store_row rfl 25 _ _ rfl (w.heap.size+1) #[aA a9 az c9] ?_ ?_ 25 _ z9 ?_ ?_ ?_ ?_)
     all_goals (first | rfl | kernel_rfl | exact AB | skip)
     have z5:(am.setRow (w.heap.size+1) #[aA a9 az c9]).heap[w.heap.size+1]?=aL (aD #[aA a9 az c9] 25 (0,0)):=setRow_heap _ _ _ _ _ _ z9;have A:=Ab z5 0;simp only[aC,aB]at A;generalize am.setRow (w.heap.size+1) #[aA a9 az c9]=W at ea A z5⊢;exact bodyPost_ret (v:=aV #[aA a9 az c9]) (by simp[results,results45,go_sem,A]) rfl ea.out
    | succ m =>
     have gb:((m+1:Nat):Int)>0:=by omega
     have aq:=EP B p fi wr a.rd (by omega);have c:=Aa a;have fj:=a.Slt;have gc:=a.gr.size;clear a;go_wp2_with (go_at_call 106;refine aq.mono ?_)
     rintro e af ⟨b,cg,rfl,gd,eb,ch,⟨aj,ci⟩,a1,a8,cj,_⟩;obtain⟨ba,bc,bl⟩:=aj.1.ae;obtain⟨bk,bn,bv,M⟩:=b;simp only at aj ci a1 a8 cj bl;subst bl;have ae:=c.out.grown ch eb;have ge:=ch.size;have L:=(aM af.heap.size af).alloc (aJ _) (aD #[aG bk,aG bn,aA ba M.length bc] 46);have G:=ae.V L;have aa:=Al af (aD #[aG bk,aG bn,aA ba M.length bc] 46);have bp:=Ab aa 0;have bq:=Ab aa 1;have br:=Ab aa 2;have c5:=Ab G.box 0;simp only[aC,aB,aH]at bp bq br c5;have ec:=Aa (aj.V L);have ed:=Aa ci;have fk:=Aa (show Dx bn M from(show Dw ⟨bk,bn,aA ba M.length bc,M⟩ from⟨by simp only;omega,a8,cj⟩).x);have ee:=GL bk bn G.bin (by omega);have ef:=Aa G;have ez:(af.alloc (aD #[aG bk,aG bn,aA ba M.length bc] 46)).heap.size=af.heap.size+1:=by simp
     clear aq c ae G aj ci cj eb ch L aa c0;generalize b6:M.length=nl at *;clear b6;generalize eg:af.alloc (aD #[aG bk,aG bn,aA ba nl bc] 46)=ca at *;go_wp2_with (go_at_call 52;(try rw[eg]);refine ee.mono ?_)
     first | rintro e ag eh ab | rintro e ag ⟨eh,ab⟩
     have ar:=ef.out.V ab;have ad:=(ab.cell (aP _ _ bp)).trans bp;have ck:=(ab.cell (aP _ _ bq)).trans bq;have ax:=(ab.cell (aP _ _ br)).trans br;have ei:=(ab.cell (aP _ _ c5)).trans c5;have gf:=ab.size;have ej:=Aa (ec.out.V ab);have ac:=Aa ar;clear ee ef ec bp bq br c5 ar eg;rcases eh with ⟨_,rfl⟩ | ⟨D,x,T,_,_,rfl⟩
     ·by_cases gg:ds.length<60
      ·have fl:((ds.length:Int)<60):=by omega
       have E:=BU (x:=⟨bk,bn,aA ba nl bc,M⟩) ac.out.bin (by omega) ej.out;go_wp2_with (go_at_call 54;refine E.mono ?_)
       rintro e ah ⟨s,t,z,I,rfl,f,P⟩;have r:=ac.out.V P;have Q:=r.box;have R:=Aa (r.put (v':=aA s t z) (bs':=I) f.2.2.2.1 (fun q F=>f.2.2.2.2 q (by omega) (ac.out.abv q F) (ed.out q (by omega))) (f.2.2.2.2 _ (by omega) ac.out.farS (ed.out _ fj)) (Fg f.2.2.1 fk.out ac.out.aj));have aw:=f.2.1;clear E f r ac ej ad ck ax ei;go_wp2_with (with_reducible show wpList _ _ _ (aY _ (aX _ (aO 5) _) _ _ _ _::_) _ _;refine wpList_store_row rfl 25 _ _ rfl (w.heap.size+2) #[aA s t z] ?_ ?_ 25 _ Q ?_ ?_ ?_ ?_)
       all_goals (first | rfl | kernel_rfl | exact AB | skip)
       go_roundw;case rel=>exact⟨m,cg,aA s t z,I,by go_num,by omega,by omega,by omega,R.out⟩
       case measure=>simp[intOf]
      ·have fl:¬((ds.length:Int)<60):=by omega
       clear ad ck ax;go_wp2;go_roundw;case rel=>exact⟨m,cg,_,ds,by go_num,by omega,by omega,by omega,ac.out⟩
       case measure=>simp[intOf]
     ·have gh:¬((D.length:Int)<0):=by omega
      clear ad ck ax ei;go_wp2;go_roundw;case rel=>exact⟨m,cg,_,ds,by go_num,by omega,by omega,by omega,ac.out⟩
      case measure=>simp[intOf]
variable {a:Act}{ds:List Nat}{d m i B kk k:Nat}{w w' W0:World}{v0 av bv:Value}{Q:Exit -> Act -> World -> Prop}
def RJ: Oper := ⟨aL 17, .load 25 (.tmp 5), 25, "l8_draw.go:374", #[], aF⟩
def RK: Oper := ⟨aL 18, .move (.tmp 4), 65, "l8_draw.go:374", #[], aF⟩
def RN: Oper := ⟨aL 19, .load 25 (.tmp 5), 25, "l8_draw.go:374", #[], aF⟩
def RO: Oper := ⟨aL 20, .call { callee := .value (.func 45), args := #[.tmp 18, .tmp 19], argTypes := #[65, 25] }, 25, "l8_draw.go:374", #[⟨1, .data⟩, ⟨2, .data⟩], aF⟩
def RP: Oper := ⟨aF, .store 25 (.tmp 2) (.tmp 17), 0, "l8_draw.go:374", #[⟨0, .data⟩, ⟨3, .chain⟩, ⟨0, .phase⟩, { on := 1, ground := aR aW }, { on := 2, ground := aR aW }, { on := 3, ground := aR aZ }], aF⟩
def RQ: Oper := ⟨aF, .store 25 (.tmp 3) (.tmp 20), 0, "l8_draw.go:374", #[⟨3, .data⟩, ⟨4, .chain⟩, ⟨0, .phase⟩, ⟨1, .phase⟩, ⟨2, .phase⟩, ⟨3, .phase⟩, ⟨4, .phase⟩], aF⟩
def Agm:List Oper:=[RJ,RK,RN,RO,RP,RQ]
def RR: Oper := ⟨aL 21, .load 25 (.tmp 5), 25, "l8_draw.go:376", #[], aF⟩
def RS: Oper := ⟨aL 22, .move (.tmp 4), 65, "l8_draw.go:376", #[], aF⟩
def RT: Oper := ⟨aL 23, .call { callee := .value (.func 43), args := #[.tmp 22], argTypes := #[65] }, 25, "l8_draw.go:376", #[⟨1, .data⟩], aF⟩
def RU: Oper := ⟨aF, .store 25 (.tmp 2) (.tmp 21), 0, "l8_draw.go:376", #[⟨0, .data⟩, ⟨2, .chain⟩, ⟨0, .phase⟩, { on := 1, ground := aR aW }, { on := 2, ground := aR aZ }], aF⟩
def RV: Oper := ⟨aF, .store 25 (.tmp 3) (.tmp 23), 0, "l8_draw.go:376", #[⟨2, .data⟩, ⟨3, .chain⟩, ⟨0, .phase⟩, ⟨1, .phase⟩, ⟨2, .phase⟩, ⟨3, .phase⟩], aF⟩
def Agn:List Oper:=[RR,RS,RT,RU,RV]
theorem Un{v:Nat->Value}(k:Nat){x:Value}(b:ds.Nodup)(c:ds[k]?=aL d)(e:a.tmps.size<=d):Ai a ds v=Ai a ds (fun j=>if j=k then x else v j):=by
 rw[<-Ao k b c];have f:=Pw ds v 0 a.tmps;show Ai a ds v=({ (Ai a ds v) with tmps:=(Ai a ds v).tmps.setIfInBounds d x }:Act)
 have:(Ai a ds v).tmps.setIfInBounds d x=(Ai a ds v).tmps:=Array.setIfInBounds_eq_of_size_le (by unfold Ai;simp only;omega);rw[this]
structure Wg(w:World)(p A:Nat)(v0 av:Value)(bs:List BAt)(W:World):Prop where
 bw:Below w.heap.size w W
 r0:W.heap[w.heap.size]?=aL (aD #[v0] 25 (0,0))
 r1:W.heap[w.heap.size+1]?=aL (aD #[aA aF 0 0] 25 (0,0))
 ab:W.heap[A]?=aL (aD #[av] 25 (0,0))
 ain:As W av bs
 far:∀q,q<=p->AD q av bs
 hp:w.heap.size+2<=p
 pA:p<A
theorem Wg.V{A:Nat}(h:Wg w p A v0 av bs W)(a:Below W.heap.size W W'):Wg w p A v0 av bs W' :=
 ⟨h.bw.trans (a.mono h.bw.size),(a.block _ (aE.1 h.r0).1).trans h.r0,(a.block _ (aE.1 h.r1).1).trans h.r1,(a.block A (aE.1 h.ab).1).trans h.ab,h.ain.V a,h.far,h.hp,h.pA⟩
theorem Wg.grown{A:Nat}(h:Wg w p A v0 av bs W)(a:W.grownBy W' (aL p)):Wg w p A v0 av bs W':=by
 have h1:=h.hp;have c:=h.pA;have b:=h.bw.size;exact⟨Bh h.bw b (by omega) a,(a.block w.heap.size (aE.1 h.r0).1 (by intro e;have:=aK e;omega)).trans h.r0,(a.block (w.heap.size+1) (aE.1 h.r1).1 (by intro e;have:=aK e;omega)).trans h.r1,(a.block A (aE.1 h.ab).1 (by intro e;have:=aK e;omega)).trans h.ab,h.ain.far (h.far p (aJ _)) a,h.far,h.hp,h.pA⟩
theorem Wg.store{A:Nat}(h:Wg w p A v0 av bs W):Wg w p A av av bs (W.setCell ⟨w.heap.size,0,aF⟩ av):=by
 have h1:=h.hp;have c:=h.pA;have b:=h.bw.size;have a:=AT W w.heap.size 0 av;refine⟨Bh h.bw b (aJ _) a,?_,(a.block (w.heap.size+1) (aE.1 h.r1).1 (by intro e;have:=aK e;omega)).trans h.r1,(a.block A (aE.1 h.ab).1 (by intro e;have:=aK e;omega)).trans h.ab,h.ain.far (h.far _ (by omega)) a,h.far,h.hp,h.pA⟩;rw[heap_setCell_same W w.heap.size 0 _ _ _ h.r0];rfl
def DvE(w:World)(av bv:Value)(bs cs:List BAt)(W:World):Prop:=Below w.heap.size w W/\W.cell? ⟨w.heap.size,0,aF⟩=aL av/\W.cell? ⟨w.heap.size+1,0,aF⟩=aL bv/\As W av bs/\As W bv cs/\Ax cs
theorem Wg.fin{A:Nat}{cs:List BAt}(h:Wg w p A av av bs W)(c:As W bv cs)(d:∀q,q<=p->AD q bv cs)(f:Ax cs):DvE w av bv bs cs (W.setCell ⟨w.heap.size+1,0,aF⟩ bv):=by
 have h1:=h.hp;have g:=h.bw.size;have a:=AT W (w.heap.size+1) 0 bv;have i:(W.setCell ⟨w.heap.size+1,0,aF⟩ bv).heap[w.heap.size+1]?=aL (aD #[bv] 25 (0,0)):=by rw[heap_setCell_same W (w.heap.size+1) 0 _ _ _ h.r1];rfl
 have z0:=(a.block w.heap.size (aE.1 h.r0).1 (by intro e;have:=aK e;omega)).trans h.r0;have c0:=Ab z0 0;have b:=Ab i 0;simp only[aC,aB]at c0 b;exact⟨Bh h.bw g (by omega) a,c0,b,h.ain.far (h.far _ (by omega)) a,c.far (d _ (by omega)) a,f⟩
def DvF(p m:Nat)(av:Value)(i:Nat)(x:Value)(W:World):Prop:=(i=0->x=aV #[av])/\(i=1->x=aI (aL ⟨p,0,aF⟩))/\(i=2->m=3->x=aV #[av])/\(i=m->∃a n c cs,x=aV #[aA a n c]/\As W (aA a n c) cs/\Ax cs/\∀q,q<=p->AD q (aA a n c) cs)
theorem DvF.af{x:Value}(h:DvF p m av i x W)(k:i=m->∀v cs,As W v cs->(∀q,q<=p->AD q v cs)->As W' v cs):DvF p m av i x W' :=
 ⟨h.1,h.2.1,h.2.2.1,fun e=>by
   obtain⟨a,n,c,cs,h1,d,f,b⟩:=h.2.2.2 e;exact⟨a,n,c,cs,h1,k e _ _ d b,f,b⟩⟩
def DvG(w:World)(B p A kk m s:Nat)(av:Value)(bs:List BAt)(L:Nat->Bool)(W:World):Prop:=∃v0,(L s=true->v0=av)/\(L m=false->Rd B W p kk)/\Wg w p A v0 av bs W
theorem DvG.af{A s:Nat}{L:Nat->Bool}(h:DvG w B p A kk m s av bs L W)(h1:i≠s)(a:i≠m):DvG w B p A kk m s av bs (CF L i) W:=by
 obtain⟨v0,a1,a2,a3⟩:=h;exact⟨v0,by simpa [CF,Ne.symm h1] using a1,by simpa [CF,Ne.symm a] using a2,a3⟩
theorem YF(h:AJ (bs.map BAt.I)=true):∀b∈bs,b.ls.length<=1000:=fun b a=>by
 have h1:=((A0.1 h).2.1 b.I (List.mem_map_of_mem a)).2.2.few;have c:=(Bf b.aa).1;simp only[BAt.I,bG]at h1;omega
theorem PI{a:Option Addr}(h:Eg d B p k w (bC (aV #[aA a n c])) w')(j:p<w.heap.size):∃cs,w.grownBy w' (aL p)/\As w' (aA a n c) cs/\Ax cs/\∀q,q<=p->AD q (aA a n c) cs:=by
 obtain⟨a',n',l,bs,k',b,_,_,e,f,g,i⟩:=h;cases b
 exact⟨bs,e,f,g.1,fun q m=>i q (by omega)⟩
theorem Abq{A D:Nat}(U:Wg w p A (aA aF 0 0) (aA sa n sc) bs W0)(V:Rd B W0 p kk)(X:∀W,Rd B W p kk->As W (aA sa n sc) bs->Calls prog 45 #[(aI (aL ⟨p,0,aF⟩)),aV #[(aA sa n sc)]] W fun e w'=>Eg D B p kk W e w')(H:a.eval (.tmp 2)=aI (aL ⟨w.heap.size,0,aF⟩))(Y:a.eval (.tmp 3)=aI (aL ⟨w.heap.size+1,0,aF⟩))(Z:a.eval (.tmp 4)=(aI (aL ⟨p,0,aF⟩)))(R:a.eval (.tmp 5)=(aI (aL ⟨A,0,aF⟩)))(ao:a.tmps.size=24)
  (aa:∀u b m c cs W' a',a'=Ai a [17,18,19,20,24] u->DvE w (aA sa n sc) (aA b m c) bs cs W'->Q .normal a' W'):(bK 4 Agm.toArray true).wp prog Q a W0:=by
 have r:([17,18,19,20,24]:List Nat).Nodup:=by decide
 refine Be [17,18,19,20,24] (DvF p 3 (aA sa n sc)) (DvG w B p A kk 3 4 (aA sa n sc) bs) 5 6 [0,1,2,3,4,5] (by kernel_rfl) rfl (by decide) (by kernel_rfl) ?h1 ⟨_,(fun h=>by cases h),fun _=>V.V (aM _ _).drew,U.V (aM _ _).drew⟩ ?hall;case h1 =>
  intro i x W ap;exact⟨fun e=>by omega,fun e=>by omega,fun e=>by omega,fun e=>by omega⟩
 refine Ag.ad (o:=RJ) [] (by kernel_rfl) (by decide) (by kernel_rfl) rfl ?o0 (Ag.ad (o:=RK) [] (by kernel_rfl) (by decide) (by kernel_rfl) rfl ?o1 (Ag.ad (o:=RN) [] (by kernel_rfl) (by decide) (by kernel_rfl) rfl ?o2 (Ag.ad (o:=RO) [1,2] (by kernel_rfl) (by decide) (by kernel_rfl) rfl ?o3 (Ag.ad (o:=RP) [0,3,0] (by kernel_rfl) (by decide) (by kernel_rfl) rfl ?o4 (Ag.lastQ (o:=RQ) [3,4,0,1,2,3,4] (by kernel_rfl) (by kernel_rfl) rfl ?o5)))));case o0 =>
  rintro G L _ W C l ⟨v,rfl,g,k⟩ K q;obtain⟨v0,E,F,f⟩:=id k;have cs:=Ab f.ab 0;simp only[aC,aB]at cs;have I:=(A1 (v:=v) (show 5 ∉ ([17,18,19,20,24]:List Nat) by decide)).trans R;have d : execOp (Ai a [17, 18, 19, 20, 24] v).eval RJ = execOp (aQ ⟨#[undef], []⟩) ⟨aL 0, .load 25 (.const (aI (aL ⟨A, 0, aF⟩))), 0, "", #[], aF⟩ := by simp only[execOp, Ac, RJ, I]
  refine Br.mk ?_;unfold aS;rw[d];clear d;go_simp;exact q.out _ _ (A7.next (W:=W) g 0 (aV #[(aA sa n sc)]) (Ao 0 r rfl) (fun _ _ h=>h) ⟨fun _=>rfl,fun e=>by omega,fun _ _=>rfl,fun e=>by omega⟩ (k.af (by decide) (by decide)))
 case o1 =>
  rintro G L _ W C l ⟨v,rfl,g,k⟩ K q;have ab:=(A1 (v:=v) (show 4 ∉ ([17,18,19,20,24]:List Nat) by decide)).trans Z;have d : execOp (Ai a [17, 18, 19, 20, 24] v).eval RK = execOp (aQ ⟨#[undef], []⟩) ⟨aL 0, .move (.const (aI (aL ⟨p, 0, aF⟩))), 0, "", #[], aF⟩ := by simp only[execOp, Ac, RK, ab]
  refine Br.mk ?_;unfold aS;rw[d];clear d;go_simp;exact q.out _ _ (A7.next (W:=W) g 1 (aI (aL ⟨p,0,aF⟩)) (Ao 1 r rfl) (fun _ _ h=>h) ⟨fun e=>by omega,fun _=>rfl,fun e=>by omega,fun e=>by omega⟩ (k.af (by decide) (by decide)))
 case o2 =>
  rintro G L _ W C l ⟨v,rfl,g,k⟩ K q;obtain⟨v0,E,F,f⟩:=id k;have cs:=Ab f.ab 0;simp only[aC,aB]at cs;have I:=(A1 (v:=v) (show 5 ∉ ([17,18,19,20,24]:List Nat) by decide)).trans R;have d : execOp (Ai a [17, 18, 19, 20, 24] v).eval RN = execOp (aQ ⟨#[undef], []⟩) ⟨aL 0, .load 25 (.const (aI (aL ⟨A, 0, aF⟩))), 0, "", #[], aF⟩ := by simp only[execOp, Ac, RN, I]
  refine Br.mk ?_;unfold aS;rw[d];clear d;go_simp;exact q.out _ _ (A7.next (W:=W) g 2 (aV #[(aA sa n sc)]) (Ao 2 r rfl) (fun _ _ h=>h) ⟨fun e=>by omega,fun e=>by omega,fun _ _=>rfl,fun e=>by omega⟩ (k.af (by decide) (by decide)))
 case o3 =>
  rintro G L _ W C l ⟨v,rfl,g,k⟩ K q;obtain⟨v0,E,F,f⟩:=id k;have ac:=X W (F C) f.ain;have ad:(Ai a [17,18,19,20,24] v).eval (.tmp 18)=_:=(Aj 1 r rfl (by omega)).trans ((g 1 (l 1 (by simp))).2.1 rfl);have ae:(Ai a [17,18,19,20,24] v).eval (.tmp 19)=_:=(Aj 2 r rfl (by omega)).trans ((g 2 (l 2 (by simp))).2.2.1 rfl rfl);have d : execOp (Ai a [17, 18, 19, 20, 24] v).eval RO = execOp (aQ ⟨#[undef], []⟩) ⟨aL 0, .call { callee := .value (.func 45), args := #[.const (aI (aL ⟨p, 0, aF⟩)), .const (aV #[(aA sa n sc)])], argTypes := #[65, 25] }, 0, "", #[], aF⟩ := by simp only[execOp, Ac, RO, resolve, BQ, bF, bH, bI, ad, ae]
  refine Br.mk ?_;unfold aS;rw[d];clear d;go_simp;refine ac.mono ?_;rintro e W' S;have af:=(F C).lt;obtain⟨s,t,z,ag⟩:∃s t z,e=bC (aV #[aA s t z]):=by obtain⟨s,t,z,_,_,d,_⟩:=S;exact⟨s,t,z,d⟩
  subst ag;obtain⟨cs,ah,J,M,N⟩:=PI S af;refine q.out _ _ (A7.ag (W:=W) g 3 (aV #[aA s t z]) (Ao 3 r rfl) (fun j y T h=>h.af (fun e=>by rw[e,C]at T;cases T)) ⟨fun e=>by omega,fun e=>by omega,fun e=>by omega,fun _=>⟨s,t,z,cs,rfl,J,M,N⟩⟩ ⟨v0,by simpa [CF] using E,by simp[CF],f.grown ah⟩)
 case o4 =>
  rintro G L _ W C l ⟨v,rfl,g,k⟩ K q;obtain⟨v0,E,F,f⟩:=id k;have O:=Ab f.r0 0;have fr:=Ad f.r0 0;simp only[aC,aB]at O;have P:=Aa f.store;have ai:=l 3 (by simp);have aq:=f.hp;have aj:=(A1 (v:=v) (show 2 ∉ ([17,18,19,20,24]:List Nat) by decide)).trans H;have ak:(Ai a [17,18,19,20,24] v).eval (.tmp 17)=_:=(Aj 0 r rfl (by omega)).trans ((g 0 (l 0 (by simp))).1 rfl);have d : execOp (Ai a [17, 18, 19, 20, 24] v).eval RP = execOp (aQ ⟨#[undef], []⟩) ⟨aL 0, .store 25 (.const (aI (aL ⟨w.heap.size, 0, aF⟩))) (.const (aV #[(aA sa n sc)])), 0, "", #[], aF⟩ := by simp only[execOp, Ac, RP, aj, ak]
  refine Br.mk ?_;unfold aS;rw[d];clear d;go_simp;refine q.out _ _ (A7.next (W:=W) g 4 undef (Un 4 r rfl (by omega)) (fun j y h=>h.af (fun _ u cs h1 H=>h1.far (H w.heap.size (by omega)) (AT W w.heap.size 0 _))) ⟨fun e=>by omega,fun e=>by omega,fun e=>by omega,fun e=>by omega⟩ ⟨_,fun _=>rfl,fun e=>?_,P.out⟩);have:(CF L 4) 3=L 3:=by simp[CF]
  rw[this,ai]at e;cases e
 case o5 =>
  rintro G L _ W C l ⟨v,rfl,g,k⟩ K q;obtain⟨v0,E,F,f⟩:=id k;obtain rfl:=E (l 4 (by simp));obtain⟨s,t,z,cs,al,J,M,N⟩:=(g 3 (l 3 (by simp))).2.2.2 rfl;have O:=Ab f.r1 0;have fr:=Ad f.r1 0;simp only[aC,aB]at O;have P:=Aa (f.fin J N M);have am:=(A1 (v:=v) (show 3 ∉ ([17,18,19,20,24]:List Nat) by decide)).trans Y;have an:(Ai a [17,18,19,20,24] v).eval (.tmp 20)=_:=(Aj 3 r rfl (by omega)).trans al;have d : execOp (Ai a [17, 18, 19, 20, 24] v).eval RQ = execOp (aQ ⟨#[undef], []⟩) ⟨aL 0, .store 25 (.const (aI (aL ⟨w.heap.size + 1, 0, aF⟩))) (.const (aV #[aA s t z])), 0, "", #[], aF⟩ := by simp only[execOp, Ac, RQ, am, an]
  refine Br.mk ?_;unfold aS;rw[d];clear d;go_simp;exact q.out _ _ (bE (aa v s t z cs _ _ rfl P.out))
theorem Uo{A D:Nat}(S:Wg w p A (aA aF 0 0) (aA sa n sc) bs W0)(T:Rd B W0 p kk)(U:∀W,Rd B W p kk->As W (aA sa n sc) bs->Calls prog 43 #[(aI (aL ⟨p,0,aF⟩))] W fun e w'=>Eg D B p kk W e w')(H:a.eval (.tmp 2)=aI (aL ⟨w.heap.size,0,aF⟩))(V:a.eval (.tmp 3)=aI (aL ⟨w.heap.size+1,0,aF⟩))(X:a.eval (.tmp 4)=(aI (aL ⟨p,0,aF⟩)))(Y:a.eval (.tmp 5)=(aI (aL ⟨A,0,aF⟩)))(an:a.tmps.size=24)
  (Z:∀u b m c cs W' a',a'=Ai a [21,22,23,24] u->DvE w (aA sa n sc) (aA b m c) bs cs W'->Q .normal a' W'):(bK 5 Agn.toArray true).wp prog Q a W0:=by
 have z:([21,22,23,24]:List Nat).Nodup:=by decide
 refine Be [21,22,23,24] (DvF p 2 (aA sa n sc)) (DvG w B p A kk 2 3 (aA sa n sc) bs) 4 5 [0,1,2,3,4] (by kernel_rfl) rfl (by decide) (by kernel_rfl) ?h1 ⟨_,(fun h=>by cases h),fun _=>T.V (aM _ _).drew,S.V (aM _ _).drew⟩ ?hall;case h1 =>
  intro i x W ao;exact⟨fun e=>by omega,fun e=>by omega,fun e=>by omega,fun e=>by omega⟩
 refine Ag.ad (o:=RR) [] (by kernel_rfl) (by decide) (by kernel_rfl) rfl ?o0 (Ag.ad (o:=RS) [] (by kernel_rfl) (by decide) (by kernel_rfl) rfl ?o1 (Ag.ad (o:=RT) [1] (by kernel_rfl) (by decide) (by kernel_rfl) rfl ?o2 (Ag.ad (o:=RU) [0,2,0] (by kernel_rfl) (by decide) (by kernel_rfl) rfl ?o3 (Ag.lastQ (o:=RV) [2,3,0,1,2,3] (by kernel_rfl) (by kernel_rfl) rfl ?o4))));case o0 =>
  rintro G L _ W C l ⟨v,rfl,g,k⟩ K q;obtain⟨v0,E,F,f⟩:=id k;have cs:=Ab f.ab 0;simp only[aC,aB]at cs;have aa:=(A1 (v:=v) (show 5 ∉ ([21,22,23,24]:List Nat) by decide)).trans Y;have d : execOp (Ai a [21, 22, 23, 24] v).eval RR = execOp (aQ ⟨#[undef], []⟩) ⟨aL 0, .load 25 (.const (aI (aL ⟨A, 0, aF⟩))), 0, "", #[], aF⟩ := by simp only[execOp, Ac, RR, aa]
  refine Br.mk ?_;unfold aS;rw[d];clear d;go_simp;exact q.out _ _ (A7.next (W:=W) g 0 (aV #[(aA sa n sc)]) (Ao 0 z rfl) (fun _ _ h=>h) ⟨fun _=>rfl,fun e=>by omega,fun _ _=>rfl,fun e=>by omega⟩ (k.af (by decide) (by decide)))
 case o1 =>
  rintro G L _ W C l ⟨v,rfl,g,k⟩ K q;have ab:=(A1 (v:=v) (show 4 ∉ ([21,22,23,24]:List Nat) by decide)).trans X;have d : execOp (Ai a [21, 22, 23, 24] v).eval RS = execOp (aQ ⟨#[undef], []⟩) ⟨aL 0, .move (.const (aI (aL ⟨p, 0, aF⟩))), 0, "", #[], aF⟩ := by simp only[execOp, Ac, RS, ab]
  refine Br.mk ?_;unfold aS;rw[d];clear d;go_simp;exact q.out _ _ (A7.next (W:=W) g 1 (aI (aL ⟨p,0,aF⟩)) (Ao 1 z rfl) (fun _ _ h=>h) ⟨fun e=>by omega,fun _=>rfl,fun e=>by omega,fun e=>by omega⟩ (k.af (by decide) (by decide)))
 case o2 =>
  rintro G L _ W C l ⟨v,rfl,g,k⟩ K q;obtain⟨v0,E,F,f⟩:=id k;have ac:=U W (F C) f.ain;have ad:(Ai a [21,22,23,24] v).eval (.tmp 22)=_:=(Aj 1 z rfl (by omega)).trans ((g 1 (l 1 (by simp))).2.1 rfl);have d : execOp (Ai a [21, 22, 23, 24] v).eval RT = execOp (aQ ⟨#[undef], []⟩) ⟨aL 0, .call { callee := .value (.func 43), args := #[.const (aI (aL ⟨p, 0, aF⟩))], argTypes := #[65] }, 0, "", #[], aF⟩ := by simp only[execOp, Ac, RT, resolve, BQ, bF, bH, bI, ad]
  refine Br.mk ?_;unfold aS;rw[d];clear d;go_simp;refine ac.mono ?_;rintro e W' P;have ae:=(F C).lt;obtain⟨r,s,t,af⟩:∃r s t,e=bC (aV #[aA r s t]):=by obtain⟨r,s,t,_,_,d,_⟩:=P;exact⟨r,s,t,d⟩
  subst af;obtain⟨cs,ag,I,J,M⟩:=PI P ae;refine q.out _ _ (A7.ag (W:=W) g 2 (aV #[aA r s t]) (Ao 2 z rfl) (fun j y R h=>h.af (fun e=>by rw[e,C]at R;cases R)) ⟨fun e=>by omega,fun e=>by omega,fun e=>by omega,fun _=>⟨r,s,t,cs,rfl,I,J,M⟩⟩ ⟨v0,by simpa [CF] using E,by simp[CF],f.grown ag⟩)
 case o3 =>
  rintro G L _ W C l ⟨v,rfl,g,k⟩ K q;obtain⟨v0,E,F,f⟩:=id k;have N:=Ab f.r0 0;have fr:=Ad f.r0 0;simp only[aC,aB]at N;have O:=Aa f.store;have ah:=l 2 (by simp);have ap:=f.hp;have ai:=(A1 (v:=v) (show 2 ∉ ([21,22,23,24]:List Nat) by decide)).trans H;have aj:(Ai a [21,22,23,24] v).eval (.tmp 21)=_:=(Aj 0 z rfl (by omega)).trans ((g 0 (l 0 (by simp))).1 rfl);have d : execOp (Ai a [21, 22, 23, 24] v).eval RU = execOp (aQ ⟨#[undef], []⟩) ⟨aL 0, .store 25 (.const (aI (aL ⟨w.heap.size, 0, aF⟩))) (.const (aV #[(aA sa n sc)])), 0, "", #[], aF⟩ := by simp only[execOp, Ac, RU, ai, aj]
  refine Br.mk ?_;unfold aS;rw[d];clear d;go_simp;refine q.out _ _ (A7.next (W:=W) g 3 undef (Un 3 z rfl (by omega)) (fun j y h=>h.af (fun _ u cs h1 H=>h1.far (H w.heap.size (by omega)) (AT W w.heap.size 0 _))) ⟨fun e=>by omega,fun e=>by omega,fun e=>by omega,fun e=>by omega⟩ ⟨_,fun _=>rfl,fun e=>?_,O.out⟩);have:(CF L 3) 2=L 2:=by simp[CF]
  rw[this,ah]at e;cases e
 case o4 =>
  rintro G L _ W C l ⟨v,rfl,g,k⟩ K q;obtain⟨v0,E,F,f⟩:=id k;obtain rfl:=E (l 3 (by simp));obtain⟨r,s,t,cs,ak,I,J,M⟩:=(g 2 (l 2 (by simp))).2.2.2 rfl;have N:=Ab f.r1 0;have fr:=Ad f.r1 0;simp only[aC,aB]at N;have O:=Aa (f.fin I M J);have al:=(A1 (v:=v) (show 3 ∉ ([21,22,23,24]:List Nat) by decide)).trans V;have am:(Ai a [21,22,23,24] v).eval (.tmp 23)=_:=(Aj 2 z rfl (by omega)).trans ak;have d : execOp (Ai a [21, 22, 23, 24] v).eval RV = execOp (aQ ⟨#[undef], []⟩) ⟨aL 0, .store 25 (.const (aI (aL ⟨w.heap.size + 1, 0, aF⟩))) (.const (aV #[aA r s t])), 0, "", #[], aF⟩ := by simp only[execOp, Ac, RV, al, am]
  refine Br.mk ?_;unfold aS;rw[d];clear d;go_simp;exact q.out _ _ (bE (Z v r s t cs _ _ rfl O.out))
theorem DvE.two{a b:Option Addr}{cs:List BAt}(h:DvE w (aA a n c) (aA b m d) bs cs W)(e:Ax bs):Um w (bC (bL #[aV #[aA a n c],aV #[aA b m d]])) W :=
 ⟨a,n,c,b,m,d,bs.map BAt.I,cs.map BAt.I,rfl,⟨⟨bs,rfl,h.2.2.2.1,e⟩,⟨cs,rfl,h.2.2.2.2.1,h.2.2.2.2.2⟩⟩,h.1⟩
theorem RW(a:Option Addr)(B cap:Nat)(w:World)(J:Code w.heap.size w a B cap):Calls prog 10 #[aA a B cap] w fun e w'=>Um w e w':=by
 have b0:Below w.heap.size w ((w.alloc (aD #[aA aF 0 0] 25)).alloc (aD #[aA aF 0 0] 25)):=((aM w.heap.size w).alloc (aJ _) _).alloc (by simp) _;have af:((w.alloc (aD #[aA aF 0 0] 25)).alloc (aD #[aA aF 0 0] 25)).heap.size=w.heap.size+2:=by simp
 have z0:((w.alloc (aD #[aA aF 0 0] 25)).alloc (aD #[aA aF 0 0] 25)).heap[w.heap.size]?=aL (aD #[aA aF 0 0] 25 (0,0)):=by
  have ag:=(aM (w.alloc (aD #[aA aF 0 0] 25)).heap.size (w.alloc (aD #[aA aF 0 0] 25))).alloc (aJ _) (aD #[aA aF 0 0] 25);rw[ag.block w.heap.size (by simp)];exact Al w _
 have K:((w.alloc (aD #[aA aF 0 0] 25)).alloc (aD #[aA aF 0 0] 25)).heap[w.heap.size+1]?=aL (aD #[aA aF 0 0] 25 (0,0)):=by
  have:=Al (w.alloc (aD #[aA aF 0 0] 25)) (aD #[aA aF 0 0] 25);rw[bD]at this;exact this
 have k:=J.V b0 (show w.heap.size<=w.heap.size+2 by omega);generalize L:(w.alloc (aD #[aA aF 0 0] 25)).alloc (aD #[aA aF 0 0] 25)=w1 at *;have C:=VA (w.heap.size+2) a B cap w1 (by omega) k.1 k.2.1 k.2.2.1 k.2.2.2;rw[af]at C;clear J k;go_enter func10,ntmps10;go_wp2_with (go_at_call 42;(try rw[L]);refine C.mono ?_)
 rintro e w2 ⟨rfl,D,l⟩;have M:=KJ _ _ 0 w2 D (by omega);have an:=l.size;have N:=(l.block w.heap.size (by omega)).trans z0;have O:=(l.block (w.heap.size+1) (by omega)).trans K;have E:=b0.trans (l.mono (by omega));have ao:=D.lt;clear C D L z0 K b0 l;go_wp2_with (go_at_call 43;refine M.mono ?_)
 rintro e w3 ⟨sa,n,sc,bs,ah,rfl,ap,P,o,Q,⟨R,ai⟩,S⟩;have aq:=o.size;have h:=(aM w3.heap.size w3).alloc (aJ _) (aD #[aA sa n sc] 25);have T:=Al w3 (aD #[aA sa n sc] 25);have U:Wg w (w.heap.size+2) w3.heap.size (aA aF 0 0) (aA sa n sc) bs (w3.alloc (aD #[aA sa n sc] 25)):=by
  have V:=Bh E E.size (show w.heap.size<=w.heap.size+2 by omega) o;refine⟨V.trans (h.mono V.size),?_,?_,T,Q.V h,fun q ar=>S q (by omega),aJ _,by omega⟩
  ·rw[h.block _ (by omega),o.block _ (by omega) (by intro e;have:=aK e;omega)];exact N
  ·rw[h.block _ (by omega),o.block _ (by omega) (by intro e;have:=aK e;omega)];exact O
 have X:=P.V h;have Y:=Bc _ _ ah 2 _ X (by omega) (by omega) (by omega);have Z:=Aa U;have p:=Aa R;clear M U P X o Q R S h T N O E;generalize aa:w3.alloc (aD #[aA sa n sc] 25)=au at *;generalize aj:w3.heap.size=A at *;go_upto_region 3 with fail
 (try rw[aa])
 go_wp2_with (go_at_call 44;refine Y.mono ?_)
 rintro e av ⟨y,aw,rfl,ab,ac⟩;have i:=Z.out.grown ac;have F:=Ab i.ab 0;simp only[aC,aB]at F;have r:=Aa i;have s:=Aa ab;clear Y Z ab ac aa aj;by_cases ak:y=0
 ·subst ak;have j:=DI i.ain p.out;have ad:=i.ain;clear i;cases G:AJ (bs.map BAt.I)
  ·rw[G]at j;clear ad;go_wp2_with (go_at_call 14;refine j.mono ?_)
   first | rintro e H rfl f | rintro e H ⟨rfl,f⟩
   have z:=Aa (r.out.V f);have I:=Aa (s.out.V f);clear j r s f F;go_upto_region 5 with fail
   refine Uo z.out I.out (fun W t _=>KJ _ _ _ W t (by omega)) (by kernel_rfl) (by kernel_rfl) (by kernel_rfl) (by kernel_rfl) (by kernel_rfl) ?_;intro u b m c cs W' a' g d;simp only[Ai,CL,aN,aT,aU]at g;subst g;have t0:=d.2.1;have x:=d.2.2.1;go_wp2;exact bodyPost_ret (v:=bL #[aV #[aA sa n sc],aV #[aA b m c]]) (by simp[results,results10,go_sem,t0,x]) rfl (d.two p.out)
  ·rw[G]at j;have ae:∀b∈bs,b.ls.length<=1000:=YF G;have al:=Aa ae;clear ad ae;go_wp2_with (go_at_call 14;refine j.mono ?_)
   first | rintro e H rfl f | rintro e H ⟨rfl,f⟩
   have z:=Aa (r.out.V f);have I:=Aa (s.out.V f);clear j r s f F;go_upto_region 4 with fail
   refine Abq z.out I.out (fun W t am=>VL _ _ _ W t (by omega) am (z.out.far _ (aJ _)) p.out ai al.out) (by kernel_rfl) (by kernel_rfl) (by kernel_rfl) (by kernel_rfl) (by kernel_rfl) ?_;intro u b m c cs W' a' g d;simp only[Ai,CL,aN,aT,aU]at g;subst g;have t0:=d.2.1;have x:=d.2.2.1;go_wp2;exact bodyPost_ret (v:=bL #[aV #[aA sa n sc],aV #[aA b m c]]) (by simp[results,results10,go_sem,t0,x]) rfl (d.two p.out)
 ·have ax:((y:Int)==0)=false:=by rw[beq_eq_false_iff_ne];omega
  clear i;go_upto_region 5 with fail
  refine Uo r.out s.out (fun W t _=>KJ _ _ _ W t (by omega)) (by kernel_rfl) (by kernel_rfl) (by kernel_rfl) (by kernel_rfl) (by kernel_rfl) ?_;intro u b m c cs W' a' g d;simp only[Ai,CL,aN,aT,aU]at g;subst g;have t0:=d.2.1;have x:=d.2.2.1;go_wp2;exact bodyPost_ret (v:=bL #[aV #[aA sa n sc],aV #[aA b m c]]) (by simp[results,results10,go_sem,t0,x]) rfl (d.two p.out)
