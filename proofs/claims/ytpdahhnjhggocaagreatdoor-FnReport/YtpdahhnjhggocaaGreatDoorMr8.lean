import Derived.Test.YtpdahhnjhggocaaGreatDoorMr7
import Derived.Deep.DeepCutAuto
open Go.Proofs.Tryz
open List renaming setIfInBounds_toArray->aA,set_cons_zero->aB,set_cons_succ->aC,map_append->aG,getElem?_eq_some_iff->aL,length->aO,map_cons->aP,getElem?_cons_zero->aQ,length_map->aT,getElem?_toArray->aU,take_succ_eq_append_getElem->aY,append_inj->bA,length_eq_zero_iff->bD,take_of_length_le->bE,length_append->bH,append_nil->bM,map_take->bP
open Go.World renaming block_lt_of_cell?->aD
open Go.Value renaming string->aE,slice->aH,bool->aS,agg->bO
open Go.RowKit.Below renaming refl->aF
open Go renaming wpQuiet_nil->aI,wpQuiet->bK
open Go.Ending renaming returned->aJ,returned->aM
open Go.Act renaming put->aK
open Option renaming some->aN,none->aW,ne_none_iff_exists'->aZ
open Bool renaming not_eq_true->aR,or_eq_false_iff->bF,not_eq_false'->bJ
open Nat renaming le_refl->aV,add_sub_cancel->aX
open Go.Obj renaming cells->bB
open Go.ByteArray renaming toList_eq->bC
open Go.IntKind renaming wrap_i64->bG,i64->bN
open List.cons renaming inj->bI
open Go.Region renaming wanted->bL
namespace Go.Proofs.YtpdahhnjhggocaaGreatDoor
open Go.RowKit
set_option maxHeartbeats 16000000
set_option maxRecDepth 100000
variable {P:Program}{id i c:Nat}{Q:Exit -> Act -> World -> Prop}{a:Act}{w:World}{v vl:Value}{ops:Array Oper}{C:World -> Prop}{o:Oper}{R:List Plain}{kind:ByteArray}{L:List AL}{ls:List LAt}
structure Gr(w:World) where
 u:World
 h:Below w.heap.size w u
instance (w:World):Inhabited (Gr w):=⟨⟨w,aF _ _⟩⟩
theorem A5{l:List Oper}(b:P.follows .mixedOrders=true)(c:Region.lexB .any l.toArray=true)
  (h:bK P l.toArray (fun w'=>∃p:Gr w,w'=p.u) (fun a'=>∀w',(∃p:Gr w,w'=p.u)->Q .normal a' w') l a):(Code.region id l.toArray true).wp P Q a w :=
 wp_region_quiet (C:=fun w'=>∃p:Gr w,w'=p.u) b c ⟨⟨w.drew,(aF _ _).drew⟩,rfl⟩ (by simpa using h)
theorem CD{f:FuncId}{args:Array Value}{p:Gr w}(h:Calls P f args p.u fun e w'=>e=aJ v/\Below p.u.heap.size p.u w'):Calls P f args p.u fun e a=>e=aJ v/\∃q:Gr w,a=q.u :=
 h.mono fun _ w' ⟨b,c⟩=>⟨b,⟨w',p.h.trans (c.mono p.h.size)⟩,rfl⟩
theorem AM{Q:Act->Prop}{rest:List Oper}(b:bL o (yielded ops a.tmps)=false)(h:bK P ops C Q rest (a.put o.dst undef)):bK P ops C Q (o::rest) a:=by
 unfold bK;rw[if_neg (by rw[b];decide)];exact h
theorem Aq{a:Addr}(h:w.cell? a=aN v)(p:Gr w):p.u.cell? a=aN v:=(p.h.cell (aD w _ h)).trans h
def EZ(R:List Plain)(ls:List PLine)(k:Nat):Prop:=∀i,i<k->Uo R ls i
theorem EZ.zero(R:List Plain)(ls:List PLine):EZ R ls 0:=fun _ h=>by omega
theorem EZ.all{ls:List PLine}(h:EZ R ls ls.length):true=linesB R ls:=by
 rw[eq_comm,CL];exact Jj h
def Fv(R:List Plain)(ls:List PLine)(i:Nat)(a:PLine):Prop:=BQ R a.key a.ws=true/\(i=0\/∃b,ls[i-1]?=aN b/\lineLt R b a=true)
theorem Ux{ls:List PLine}{a:PLine}(c:ls[i]?=aN a)(h:¬Fv R ls i a):false=linesB R ls:=by
 rw[eq_comm,<-aR,CL];intro e;obtain⟨b,d,h1,f,_⟩:=Jk e i (aL.1 c).1;rw[c]at d;cases d
 exact h ⟨h1,f⟩
theorem YD{ls:List PLine}{a:PLine}(c:ls[i]?=aN a)(h:¬((Cx R a.key=true\/keyN (ls.take (i+1)) a.key<=1)/\keyN (ls.take (i+1)) a.key<=10)):false=linesB R ls:=by
 rw[eq_comm,<-aR,CL];intro e;obtain⟨b,d,_,_,f⟩:=Jk e i (aL.1 c).1;rw[c]at d;cases d
 exact h f
theorem EZ.succ{ls:List PLine}{a:PLine}(h:EZ R ls i)(c:ls[i]?=aN a)(h1:Fv R ls i a)(b:(Cx R a.key=true\/keyN (ls.take (i+1)) a.key<=1)/\keyN (ls.take (i+1)) a.key<=10):EZ R ls (i+1):=by
 intro j d;by_cases e:j=i
 ·subst e;exact⟨a,c,h1.1,h1.2,b.1,b.2⟩
 ·exact h j (by omega)
theorem WZ{D T:List LAt}{r:LAt}{key:ByteArray}(h:c=keyN (((D++r::T).map LAt.I).take D.length) key)(B:Bool)(a:(r.key.toList==key.toList)=B):(if B=true then c+1 else c)=keyN (((D++r::T).map LAt.I).take (D.length+1)) key:=by
 rw[<-bP,Bk]at h;rw[<-bP,By,aG,Dg,<-h,List.map_singleton,Ha];cases B
 ·rw[if_neg (by decide),if_neg]
  ·rfl
  ·intro e;rw[show r.I.key=r.key from rfl]at e;rw[e]at a;simp at a
 ·rw[if_pos rfl,if_pos (show r.I.key=key from toList_inj (show r.key.toList=key.toList by simpa using a))]
theorem Abb{key:ByteArray}(b:L.map AL.I=rulesOf kind)(e:Bv (rulesOf kind) key≠aW):∃D r T,L=D++r::T/\placeI (rulesOf kind) key=(D.length:Int)/\r.many=Cx (rulesOf kind) key:=by
 obtain⟨p,c⟩:=aZ.1 e;obtain⟨i,f,a,h⟩:=De c;have g:i<L.length:=by
  have:=(aL.1 a).1;rw[<-b,aT]at this;exact this
 obtain⟨D,r,T,rfl,d⟩:=AC L i g;refine⟨D,r,T,rfl,by rw[f,d],?_⟩;rw[<-b,aG,aP,<-d]at a;have:r.I=p:=by simpa using a
 unfold Cx;rw[c,<-this];rfl
theorem NL(kind:ByteArray)(z:Ap w vl ls)(t:Aj ls):Calls prog 58 #[aE kind,vl] w fun e w'=>Got (.bool (linesB (rulesOf kind) (ls.map LAt.I))) w e w':=by
 obtain⟨cs,ct,rfl⟩:=z.1.ad;have cu:=t.1;generalize az:ls.length=n at *;generalize a0:ls.map LAt.I=d;have ae:=Ab a0;have a1:=Ab az;have b8:=Ab (show d.length=n by rw[<-a0,aT,az]);clear a0 az;go_enter func58,ntmps58;go_wp2;go_loopw [5] (fun i wr=>∃j:Nat,j<=n/\i=.int .i64 (j:Int)/\Below w.heap.size w wr/\EZ (rulesOf kind) d j) (fun i _=>n-(intOf i).toNat)
 case atStart=>exact⟨0,by omega,rfl,aF _ _,EZ.zero _ _⟩
 case round =>
  obtain⟨j,cv,rfl,af,C⟩:=hrel;by_cases b9:j<n
  ·obtain⟨D,x,T,u,ag⟩:=AC ls j (by have:=a1.out;omega);have q:=z.V af;have I:=q;rw[u]at I;obtain⟨g,off,rfl,E,c2⟩:=I.1.ai;have R:x∈ls:=by rw[u];simp
   have J:=t.2 x R;obtain⟨a2,a3,o⟩:=(q.2 x R).ad;rw[ag]at E c2;rw[o]at c2;have F:d[j]?=aN x.I:=by rw[<-ae.out,u,<-ag];simp
   have K:∀(W:World),Below wr.heap.size wr W->Calls prog 120 #[aE kind,aE x.key,aH a2 x.ws.length a3] W fun e w'=>e=aJ (.bool (BQ (rulesOf kind) x.key x.ws))/\Below W.heap.size W w':=by
    intro W a4;exact Jh kind x.key (o▸(q.V a4).2 x R) J.1 J.2
   have G:Fv (rulesOf kind) d j x.I↔BQ (rulesOf kind) x.key x.ws=true/\(j=0\/∃b,d[j-1]?=aN b/\lineLt (rulesOf kind) b x.I=true):=Iff.rfl;go_upto_region 4 with fail
   go_cut [45] from 15 to 45 (fun c X=>∃B:Bool,c=.bool B/\(B=false↔Fv (rulesOf kind) d j x.I)/\Below wr.heap.size wr X)
   case first =>
    have i0:(0:Int)<=(j:Int):=by omega
    have bm:(j:Int)<(n:Int):=by omega
    have bn:=fun p:Gr wr=>Aq E p
    have bo:=fun p:Gr wr=>Aq c2 p
    cases H:BQ (rulesOf kind) x.key x.ws
    ·have Y:=Ab (show true=false↔Fv (rulesOf kind) d j x.I by rw[G,H];simp);have S:=fun p:Gr wr=>K p.u p.h
     rw[H]at S;clear z q I t C u o F G J H K;generalize x.ws.length=bp at *;generalize x.key=xk at *;refine A5 (by kernel_rfl) (by kernel_rfl) ?_;iterate 11 quiet_step (fail)
     quiet_step ((go_at_call 120;refine CD (S _)))
     iterate 2 quiet_step (fail)
     iterate 16 (with_reducible refine AM ?_ ?_;kernel_rfl;simp only[aK,aA,aB,aC])
     quiet_step (fail)
     refine aI ?_;rintro _ ⟨⟨bq,A⟩,rfl⟩;go_wp2_with fail
     go_meet;exact⟨true,rfl,Y.out,A⟩
    ·have S:=fun p:Gr wr=>K p.u p.h
     rw[H]at S;by_cases br:j=0
     ·have Y:=Ab (show True↔Fv (rulesOf kind) d j x.I by rw[G,H];simp[br]);subst br;have cw:0<n:=b9;have cx:∀p:Gr wr,p.u.cell? ⟨g,off,aW⟩=aN (aE x.key):=fun p=>by simpa using bn p
      have cy:∀p:Gr wr,p.u.cell? ⟨g,off+1,aW⟩=aN (aH a2 x.ws.length a3):=fun p=>by simpa using bo p
      clear z q I t C u o F G J H K bn bo i0 bm;generalize x.ws.length=bp at *;generalize x.key=xk at *;refine A5 (by kernel_rfl) (by kernel_rfl) ?_;iterate 11 quiet_step (fail)
      quiet_step ((go_at_call 120;refine CD (S _)))
      iterate 5 quiet_step (fail)
      iterate 12 (with_reducible refine AM ?_ ?_;kernel_rfl;simp only[aK,aA,aB,aC])
      iterate 2 quiet_step (fail)
      refine aI ?_;rintro _ ⟨⟨bq,A⟩,rfl⟩;go_wp2_with fail
      go_meet;exact⟨false,rfl,⟨fun _=>Y.out.1 trivial,fun _=>rfl⟩,A⟩
     ·obtain⟨m,rfl⟩:∃m,j=m+1:=⟨j-1,by omega⟩;obtain⟨a5,y,f,ah,Z,M⟩:=Pp ls m (by have:=a1.out;omega);have ca:f=x/\ah=T:=by
       have h1:(a5++[y])++f::ah=D++x::T:=by rw[<-u,Z];simp
       have N:=bA h1 (by simp;omega);simpa using N.2
      obtain⟨rfl,rfl⟩:=ca;have ai:y∈ls:=by rw[Z];simp
      have a6:=q;rw[Z]at a6;obtain⟨bs,bt,aa,⟨ab,U⟩,d3,d4⟩:=a6.1.line2;cases aa
      obtain⟨cb,cc,a7⟩:=(q.2 y ai).ad;rw[M]at ab U;rw[a7]at U;have a8:d[m]?=aN y.I:=by rw[<-ae.out,Z,<-M];simp
      have cz:=fun p:Gr wr=>Aq ab p
      have c0:=fun p:Gr wr=>Aq U p
      have cd:∀p:Gr wr,Calls prog 121 #[aE kind,bO #[aE y.key,aH cb y.ws.length cc],bO #[aE f.key,aH a2 f.ws.length a3]] p.u fun e w'=>e=aJ (.bool (lineLt (rulesOf kind) y.I f.I))/\Below p.u.heap.size p.u w' :=
       fun p=>Hf kind y.I f.I (a7▸(q.V p.h).2 y ai) (o▸(q.V p.h).2 f R) (t.2 y ai).1 (t.2 f R).1
      have bu:Fv (rulesOf kind) d (m+1) f.I↔lineLt (rulesOf kind) y.I f.I=true:=by
       rw[G,H];constructor
       ·rintro⟨_,h|⟨b,aj,ce⟩⟩
        ·omega
        ·rw[aX,a8]at aj;cases aj;exact ce
       ·exact fun h=>⟨rfl,.inr ⟨y.I,by rw[aX];exact a8,h⟩⟩
      have i2:(0:Int)<=(m:Int):=by omega
      have i3:(m:Int)<(n:Int):=by omega
      have i4:bN.wrap (m:Int)=(m:Int):=by rw[bG];omega
      have i5:((m:Int)+1).toNat=m+1:=by omega
      have c1:(0:Int)<(m:Int)+1:=by omega
      have c3:(m:Int)+1<(n:Int):=by omega
      have c4:(0:Int)<=(m:Int)+1:=by omega
      have Y:=Ab (show ((!lineLt (rulesOf kind) y.I f.I)=false)↔Fv (rulesOf kind) d (m+1) f.I by rw[bu];simp);clear z q I a6 t C u Z o a7 F a8 G bu J H K ab U d3 d4 ag M R ai;generalize lineLt (rulesOf kind) y.I f.I=LT at *;generalize f.ws.length=bp at *;generalize y.ws.length=c5 at *;generalize f.key=xk at *;generalize y.key=yk at *;refine A5 (by kernel_rfl) (by kernel_rfl) ?_;iterate 11 quiet_step (fail)
      quiet_step ((go_at_call 120;refine CD (S _)))
      iterate 15 quiet_step (fail)
      quiet_step ((go_at_call 121;refine CD (cd _)))
      iterate 3 quiet_step (fail)
      refine aI ?_;rintro _ ⟨⟨bq,A⟩,rfl⟩;go_wp2_with fail
      go_meet;exact⟨!LT,rfl,Y.out,A⟩
   case rest =>
    obtain⟨B,rfl,ak,A⟩:=hcut;obtain⟨s,cf⟩:∃s,s=wc:=⟨_,rfl⟩;subst cf;have al:=af.trans (A.mono af.size);cases B
    ·have a9:=ak.1 rfl;have ba:Bv (rulesOf kind) x.key≠aW:=fun e=>by have:=a9.1;rw[show x.I.key=x.key from rfl,C4 _ e]at this;cases this
     have cg:∃P:Nat,placeI (rulesOf kind) x.key=(P:Int)/\∀(W:World),Calls prog 56 #[aE kind] W fun e w'=>∃V am bb,e=aJ (aH (aN ⟨V,0,aW⟩) am bb)/\((0:Int)<=(P:Int)/\(P:Int)<(am:Int))/\w'.cell? ⟨V,P*4+2,aW⟩=aN (.bool (Cx (rulesOf kind) x.key))/\Below W.heap.size W w':=by
      obtain⟨p,ch⟩:=aZ.1 ba;obtain⟨i,ci,c6,c7⟩:=De ch;refine⟨i,ci,fun W=>(Cf kind W).mono ?_⟩;rintro e w' ⟨v,L,rfl,cj,bv,ac⟩;obtain⟨bc,bw,bx,rfl,c8,ck⟩:=Abb cj ba;have cl:bc.length=i:=by omega
      obtain⟨c9,cm,rfl,bd⟩:=Al (show w'.ownsRow W.heap.size 54 4 v (bc++bw::bx).length ((bc++bw::bx).flatMap AL.cells) from Ay.head bv);rcases bd with bd|⟨V,rfl⟩
      ·simp at bd
      have bz:=(Bh.rm bv).cell 2 (by decide);rw[cl]at bz;refine⟨V,_,cm,rfl,⟨by omega,by simp;omega⟩,?_,ac⟩;rw[bz,<-ck];rfl
     obtain⟨P,b0,be⟩:=cg;have bf:∀W,Calls prog 90 #[aE kind,aE x.key] W fun e w'=>e=aJ (.int .i64 (P:Int))/\Below W.heap.size W w':=by rw[<-b0];exact fun W=>Fu kind x.key W
     have bg:∀W,Below s.heap.size s W->W.cell? ⟨g,off+j*2,aW⟩=aN (aE x.key):=fun W a4=>(a4.cell (aD s _ ((A.cell (aD wr _ E)).trans E))).trans ((A.cell (aD wr _ E)).trans E)
     have cn:=bg s (aF _ _);have i0:(0:Int)<=(j:Int):=by omega
     have bm:(j:Int)<(n:Int):=by omega
     have an:=Ab (show ¬((Cx (rulesOf kind) x.key=true\/keyN (d.take (j+1)) x.key<=1)/\keyN (d.take (j+1)) x.key<=10)->false=linesB (rulesOf kind) d from fun h=>YD (a:=x.I) F h);have ao:=Ab (show ((Cx (rulesOf kind) x.key=true\/keyN (d.take (j+1)) x.key<=1)/\keyN (d.take (j+1)) x.key<=10)->EZ (rulesOf kind) d (j+1) from fun N=>C.succ F a9 N);have bh:=Ab (z.V al);have b1:=Ab u;clear z q I t C u o F G J K E c2 ba b0 ak a9;generalize co:Cx (rulesOf kind) x.key=many at *;generalize b2:x.key=xk at *;have b3:=Ab b2;clear co b2;go_upto_region 6 with fail
     go_cut [6] from 46 to 57 (fun c X=>c=.bool many/\Below s.heap.size s X)
     case first =>
      clear an ao bh b1 b3;have ap:Below s.heap.size s s.drew:=(aF _ _).drew
      go_region_with (first
       | (go_at_call 56;refine(be _).mono ?_;rintro e b4 ⟨V,am,bb,rfl,cp,bi,ac⟩;have ad:=aq.trans (ac.mono aq.size))
       | (go_at_call 56;refine(be _).mono ?_;rintro e b4 ⟨V,am,bb,rfl,cp,bi,ac⟩;have ad:=ap.trans (ac.mono ap.size);have da:=bg b4 ad)
       | (go_at_call 90;refine(bf _).mono ?_;rintro e cq ⟨rfl,ar⟩;have aq:=ad.trans (ar.mono ad.size);have db:=(ar.cell (aD _ _ bi)).trans bi)
       | (go_at_call 90;refine(bf _).mono ?_;rintro e cq ⟨rfl,ar⟩;have aq:=ap.trans (ar.mono ap.size)))
      all_goals
       go_wp2_with fail
       go_meet;exact⟨rfl,by first|exact aq|exact ad⟩
     case rest =>
      obtain⟨rfl,b5⟩:=hcut;obtain⟨au,cr⟩:∃au,au=wc:=⟨_,rfl⟩;subst cr;have b6:=al.trans (b5.mono al.size);have bj:=Ab (bh.out.V b5);clear be bf bg cn bh;go_wp2;go_loopw [7,8] (fun sc bk X=>∃k c:Nat,k<=j+1/\c<=k/\bk=.int .i64 (k:Int)/\sc=.int .i64 (c:Int)/\Below au.heap.size au X/\c=keyN (d.take k) xk) (fun _ bk _=>j+1-(intOf bk).toNat)
      case atStart=>exact⟨0,0,by omega,by omega,rfl,rfl,aF _ _,by simp[keyN]⟩
      case round =>
       obtain⟨k,c,dc,dd,rfl,rfl,av,aw⟩:=hrel;have ax:=b6.trans (av.mono b6.size);by_cases de:k<j+1
       ·obtain⟨a5,y,ah,o,M⟩:=AC ls k (by have:=a1.out;omega);have h1:=bj.out.V av;have N:=h1;rw[o]at h1;rw[b1.out]at N;obtain⟨bs,bt,aa,ab,_⟩:=h1.1.ai;cases aa
        obtain⟨bs,bt,aa,U,_⟩:=N.1.ai;cases aa
        rw[M]at ab;rw[ag,b3.out]at U;have bl:=fun B aj=>WZ (D:=a5) (r:=y) (T:=ah) (key:=xk) (c:=c) (by rw[M,<-o,ae.out];exact aw) B aj
        rw[<-o,ae.out,M]at bl;have ay:=Ab bl;have i2:(0:Int)<=(k:Int):=by omega
        have i3:(k:Int)<(n:Int):=by omega
        have i4:(k:Int)<=(j:Int):=by omega
        clear h1 N o an ao bj aw bl;generalize y.key=yk at *;cases b7:(yk.toList==xk.toList)
        ·have l:=Ab (ay.out false b7);clear ay;go_wp2;go_quiet (fail)
         go_wp2;go_roundw;case rel=>exact⟨k+1,c,by omega,by omega,by go_num,rfl,below_drewN av _,l.out⟩
         case measure=>simp[intOf];omega
        ·have l:=Ab (ay.out true b7);clear ay;go_wp2;go_quiet (fail)
         go_wp2;go_roundw;case rel=>exact⟨k+1,c+1,by omega,by omega,by go_num,by go_num,below_drewN av _,l.out⟩
         case measure=>simp[intOf];omega
       ·obtain rfl:k=j+1:=by omega
        have O:=an.out;have Q:=ao.out;rw[<-aw]at O Q;have i4:¬(((j+1:Nat):Int)<=(j:Int)):=by omega
        have i5:¬((j:Int)+1<=(j:Int)):=by omega
        clear an ao bj aw;cases many
        ·by_cases h1:c<=1
         ·have l:=Q ⟨.inr h1,by omega⟩;clear O Q;go_wp2;go_roundw;case rel=>exact⟨j+1,by omega,by go_num,ax,l⟩
          case measure=>simp[intOf];omega
         ·have l:=Ab (O (fun h=>by rcases h.1 with h|h;cases h;omega));clear O Q;go_wp2;go_ret;exact⟨As l.out,ax⟩
        ·by_cases h1:c<=10
         ·have l:=Q ⟨.inl rfl,h1⟩;clear O Q;go_wp2;go_roundw;case rel=>exact⟨j+1,by omega,by go_num,ax,l⟩
          case measure=>simp[intOf];omega
         ·have l:=Ab (O (fun h=>by omega));clear O Q;go_wp2;go_ret;exact⟨As l.out,ax⟩
    ·have l:=Ab (Ux F (fun h=>by have:=ak.2 h;cases this));clear z q I t C u o F G J K E c2 ak;go_wp2;go_ret;exact⟨As l.out,al⟩
  ·obtain rfl:j=n:=by omega
   have l:=Ab (EZ.all (by rw[b8.out];exact C));clear z t C;go_wp2;go_ret;exact⟨As l.out,af⟩
variable {md:Region.Mode}{k:Nat}{listed:Array Bool}{bs:List BAt}
theorem Kg{b:Nat}(c:Region.ready md ops listed=[k])(d:ops[k]?=aN o)
  (h:∀K:Act->World->Prop,(∀a w,wpAny P md ops Q b (listed.setIfInBounds k true) a w->K a w)->if bL o (yielded ops a.tmps)=true then Oper.wp P o a w K Q else K (a.put o.dst undef) w):wpAny P md ops Q (b+1) listed a w :=
 wpAny_ready c (by simp) (AllReady.cons d (fun K e=>h K e) AllReady.nil)
theorem YP{b:List Oper}(k n:Nat)(c:Region.noSelect b.toArray=true)(d:(b.drop k).length=n)(e:Region.lexFrom md b.toArray n k listed=true)
  (h:bK P b.toArray (fun w'=>∃p:Gr w,w'=p.u) (fun a'=>∀w',(∃p:Gr w,w'=p.u)->Q .normal a' w') (b.drop k) a):wpAny P md b.toArray Q n listed a w:=by
 subst d;exact wpAny_of_quiet (Q:=fun a'=>∀w',(∃p:Gr w,w'=p.u)->Q .normal a' w') (fun _ w' f h=>h w' f) _ _ _ _ ⟨⟨w,aF _ _⟩,rfl⟩ (wpAnyQ_lex c (b.drop k) k listed a (fun j=>by simp) e h)
def DU(bs:List PBlock)(k:Nat):Prop:=∀i,i<k->JT bs i
theorem DU.zero(bs:List PBlock):DU bs 0:=fun _ h=>by omega
theorem DU.all{bs:List PBlock}(h:DU bs bs.length)(a:bs.length<=60):true=Bw bs:=by
 rw[eq_comm,AS];exact Jl a h
def DV(bs:List PBlock)(i:Nat)(b:PBlock):Prop:=(rulesOf b.aa).length≠0/\nameB b.name.data.toList=true/\linesB (rulesOf b.aa) b.ac=true/\(i=0\/∃a,bs[i-1]?=aN a/\blockLt a b=true)
theorem UA{bs:List PBlock}{b:PBlock}(a:bs[i]?=aN b)(h:¬DV bs i b):false=Bw bs:=by
 rw[eq_comm,<-aR,AS];intro e;obtain⟨c,d,h1,f,g,j⟩:=Pg e i (aL.1 a).1;rw[a]at d;cases d
 exact h ⟨h1,f,CL.2 g,j⟩
theorem DU.succ{bs:List PBlock}{b:PBlock}(h:DU bs i)(a:bs[i]?=aN b)(h1:DV bs i b):DU bs (i+1):=by
 intro j c;by_cases e:j=i
 ·subst e;exact⟨b,a,h1.1,h1.2.1,CL.1 h1.2.2.1,h1.2.2.2⟩
 ·exact h j (by omega)
theorem Abh{bs:List PBlock}(h:¬bs.length<=60):false=Bw bs:=by
 rw[eq_comm,<-aR,AS];exact fun a=>h a.1
theorem D6(F:Au w v bs)(G:A3 bs):Calls prog 14 #[bO #[v]] w fun e w'=>e=aJ (.bool (Bw (bs.map BAt.I)))/\Below w.heap.size w w':=by
 obtain⟨aw,ax,rfl⟩:=F.1.ad;have b1:=G.1;have b0:Below w.heap.size w (w.alloc (bB #[aH aw bs.length ax] 25)):=(aF _ _).alloc (aV _) _;have ad:=AH (w:=w) (cs:=#[aH aw bs.length ax]) (T:=25) 0;simp only[aU,aQ]at ad;generalize ay:bs.length=n at *;generalize az:bs.map BAt.I=b;have S:=Ab az;have U:=Ab ay;have N:=Ab (show b.length=n by rw[<-az,aT,ay]);clear az ay;by_cases a4:n<=60
 ·go_enter func14,ntmps14;go_wp2;generalize bf:w.alloc (bB #[aH aw n ax] 25)=w1 at *;clear bf;go_loopw [3] (fun i wr=>∃j:Nat,j<=n/\i=.int .i64 (j:Int)/\Below w1.heap.size w1 wr/\DU b j) (fun i _=>n-(intOf i).toNat)
  case atStart=>exact⟨0,by omega,rfl,aF _ _,DU.zero _⟩
  case round =>
   obtain⟨j,b2,rfl,ae,O⟩:=hrel;have af:=b0.trans (ae.mono b0.size);have a0:=(ae.cell (p:=⟨w.heap.size,0,aW⟩) (aD w1 _ ad)).trans ad;by_cases b3:j<n
   ·obtain⟨D,x,T,P,V⟩:=AC bs j (by have:=U.out;omega);have z:=F.V af;have X:=z;rw[P]at X;obtain⟨g,off,rfl,ag,c2,c3⟩:=X.1.block;have Q:x∈bs:=by rw[P];simp
    have Y:=G.2 x Q;obtain⟨r,s,Z⟩:=(z.2 x Q).1.ad;rw[V]at ag c2 c3;rw[Z]at c3;have aa:b[j]?=aN x.I:=by rw[<-S.out,P,<-V];simp
    have i0:(0:Int)<=(j:Int):=by omega
    have bg:(j:Int)<(n:Int):=by omega
    have ah:∀W,Calls prog 56 #[aE x.aa] W fun e w'=>∃a5 a6,e=aJ (aH a5 (rulesOf x.aa).length a6)/\Below W.heap.size W w':=by
     intro W;refine(Cf x.aa W).mono ?_;rintro e w' ⟨v,L,rfl,bh,bi,H⟩;obtain⟨bj,bk,rfl,_⟩:=Al (show w'.ownsRow W.heap.size 54 4 v L.length (L.flatMap AL.cells) from Ay.head bi);exact⟨bj,bk,by rw[<-bh,aT],H⟩
    have I:∀W,Calls prog 57 #[aE x.name] W fun e w'=>e=aJ (.bool (nameB x.name.data.toList))/\Below W.heap.size W w':=fun W=>(Gb x.name W Y.1).mono fun e w' ⟨bl,bm⟩=>⟨bl,bm▸aF _ _⟩
    have ai:∀W,Below wr.heap.size wr W->Calls prog 58 #[aE x.aa,aH r x.ls.length s] W fun e w'=>e=aJ (.bool (linesB (rulesOf x.aa) (x.ls.map LAt.I)))/\Below W.heap.size W w':=fun W bn=>NL x.aa (Z▸(z.V bn).2 x Q) Y.2
    have l:DV b j x.I↔(rulesOf x.aa).length≠0/\nameB x.name.data.toList=true/\linesB (rulesOf x.aa) (x.ls.map LAt.I)=true/\(j=0\/∃a,b[j-1]?=aN a/\blockLt a x.I=true):=Iff.rfl;have aj:=Ab (show j≠0->∃y d f,b[j-1]?=aN (BAt.I y)/\(wr.cell? ⟨g,off+(j-1)*3,aW⟩=aN (aE y.aa)/\wr.cell? ⟨g,off+(j-1)*3+1,aW⟩=aN (aE y.name)/\wr.cell? ⟨g,off+(j-1)*3+2,aW⟩=aN (aH d y.ls.length f)) from by
     intro J;obtain⟨b4,y,b5,b6,a1,a7⟩:=Pp bs (j-1) (by have:=U.out;omega);have a8:=z;rw[a1]at a8;obtain⟨b7,b8,bo,⟨ak,al,d3⟩,_⟩:=a8.1.block2;cases bo
     obtain⟨d,f,bp⟩:=(z.2 y (by rw[a1];simp)).1.ad;rw[a7]at ak al d3;rw[bp]at d3;exact⟨y,d,f,by rw[<-S.out,a1,<-a7];simp,ak,al,d3⟩)
    have am:=Ab (show ¬DV b j x.I->false=Bw b from fun h=>UA aa h);have an:=Ab (show DV b j x.I->DU b (j+1) from fun h=>O.succ aa h);have a2:∀(y:BAt) d f W,Calls prog 59 #[bO #[aE y.aa,aE y.name,aH d y.ls.length f],bO #[aE x.aa,aE x.name,aH r x.ls.length s]] W fun e w'=>e=aJ (.bool (blockLt y.I x.I))/\Below W.heap.size W w':=fun y d f W=>K4 y.I x.I y.ls.length x.ls.length f s d r W
    go_upto_region 7 with fail
    go_cut [54] from 21 to 54 (fun c bq=>∃B:Bool,c=.bool B/\(B=false↔DV b j x.I)/\Below wr.heap.size wr bq)
    case first =>
     have a9:Below wr.heap.size wr (wr.alloc (bB #[aE x.aa,aE x.name,aH r x.ls.length s] 46)):=(aF _ _).alloc (aV _) _;have k0:=(a9.cell (p:=⟨w.heap.size,0,aW⟩) (aD wr _ a0)).trans a0;have ao:=AH (w:=wr) (cs:=#[aE x.aa,aE x.name,aH r x.ls.length s]) (T:=46) 0;have ap:=AH (w:=wr) (cs:=#[aE x.aa,aE x.name,aH r x.ls.length s]) (T:=46) 1;have aq:=AH (w:=wr) (cs:=#[aE x.aa,aE x.name,aH r x.ls.length s]) (T:=46) 2;simp only[aU,aQ,List.getElem?_cons_succ]at ao ap aq;clear F z X G O P Z aa Y am an ag c2 c3 Q V ad a0 U S N;generalize linesB (rulesOf x.aa) (x.ls.map LAt.I)=br at *;generalize nameB x.name.data.toList=bt at *;generalize (rulesOf x.aa).length=ba at *;generalize x.ls.length=bb at *;generalize x.aa=xk at *;generalize x.name=bc at *;generalize wr.alloc (bB #[aE xk,aE bc,aH r bb s] 46)=W0 at *;refine wp_region_any (by kernel_rfl) ?_;refine Kg (k:=0) (by kernel_rfl) rfl (fun K A=>?_);go_simp;refine A _ _ ?_;clear A K;refine Kg (k:=1) (by kernel_rfl) rfl (fun K A=>?_);go_simp;refine A _ _ ?_;clear A K;refine Kg (k:=2) (by kernel_rfl) rfl (fun K A=>?_);go_simp;refine(ah _).mono ?_;rintro e C ⟨a5,a6,rfl,H⟩;refine A _ _ ?_;clear A K ah;have bd:=a9.drew;have o:=bd.trans (H.mono bd.size);have b9:=fun p:Gr C=>Aq ((H.cell (p:=⟨w.heap.size,0,aW⟩) (aD W0 _ k0)).trans k0) p
     have ca:=fun p:Gr C=>Aq ((H.cell (p:=⟨wr.heap.size,0,aW⟩) (aD W0 _ ao)).trans ao) p
     have cb:=fun p:Gr C=>Aq ((H.cell (p:=⟨wr.heap.size,1,aW⟩) (aD W0 _ ap)).trans ap) p
     have cc:=fun p:Gr C=>Aq ((H.cell (p:=⟨wr.heap.size,2,aW⟩) (aD W0 _ aq)).trans aq) p
     have ab:=fun p:Gr C=>ai p.u (o.trans (p.h.mono o.size))
     have R:=Ab (show j≠0->∃y d f,b[j-1]?=aN (BAt.I y)/\∀p:Gr C,(p.u.cell? ⟨g,off+(j-1)*3,aW⟩=aN (aE y.aa)/\p.u.cell? ⟨g,off+(j-1)*3+1,aW⟩=aN (aE y.name)/\p.u.cell? ⟨g,off+(j-1)*3+2,aW⟩=aN (aH d y.ls.length f)) from by
      intro J;obtain⟨y,d,f,bu,ak,al,d3⟩:=aj.out J;have a3:∀ {a:Addr} {v:Value},wr.cell? a=aN v->C.cell? a=aN v:=fun h=>(o.cell (aD wr _ h)).trans h
      exact⟨y,d,f,bu,fun p=>⟨Aq (a3 ak) p,Aq (a3 al) p,Aq (a3 d3) p⟩⟩)
     clear k0 ao ap aq ai aj;refine YP 3 31 (by kernel_rfl) (by rfl) (by kernel_rfl) ?_;simp only[List.drop_succ_cons,List.drop_zero];by_cases E:ba=0
     ·have t:=Ab (show true=false↔DV b j x.I by rw[l,E];simp);subst E;clear l ab I R;iterate 3 quiet_step (fail)
      iterate 4 (with_reducible refine AM ?_ ?_;kernel_rfl;simp only[aK,aA,aB,aC])
      iterate 2 quiet_step (fail)
      iterate 6 (with_reducible refine AM ?_ ?_;kernel_rfl;simp only[aK,aA,aB,aC])
      iterate 2 quiet_step (fail)
      iterate 3 (with_reducible refine AM ?_ ?_;kernel_rfl;simp only[aK,aA,aB,aC])
      iterate 9 (with_reducible refine AM ?_ ?_;kernel_rfl;simp only[aK,aA,aB,aC])
      iterate 1 (with_reducible refine AM ?_ ?_;kernel_rfl;simp only[aK,aA,aB,aC])
      quiet_step (fail)
      refine aI ?_;rintro _ ⟨⟨ar,q⟩,rfl⟩;have u:=o.trans (q.mono o.size);go_wp2_with fail
      go_meet;exact⟨true,rfl,t.out,u⟩
     have cd:((ba:Int)==0)=false:=by rw[beq_eq_false_iff_ne];omega
     cases bt
     ·have t:=Ab (show true=false↔DV b j x.I by rw[l];simp);clear l ab R E;iterate 5 quiet_step (fail)
      quiet_step ((go_at_call 57;refine CD (I _)))
      iterate 3 quiet_step (fail)
      iterate 6 (with_reducible refine AM ?_ ?_;kernel_rfl;simp only[aK,aA,aB,aC])
      iterate 2 quiet_step (fail)
      iterate 3 (with_reducible refine AM ?_ ?_;kernel_rfl;simp only[aK,aA,aB,aC])
      iterate 9 (with_reducible refine AM ?_ ?_;kernel_rfl;simp only[aK,aA,aB,aC])
      iterate 1 (with_reducible refine AM ?_ ?_;kernel_rfl;simp only[aK,aA,aB,aC])
      quiet_step (fail)
      refine aI ?_;rintro _ ⟨⟨ar,q⟩,rfl⟩;have u:=o.trans (q.mono o.size);go_wp2_with fail
      go_meet;exact⟨true,rfl,t.out,u⟩
     cases br
     ·have t:=Ab (show true=false↔DV b j x.I by rw[l];simp);clear l R E;iterate 5 quiet_step (fail)
      quiet_step ((go_at_call 57;refine CD (I _)))
      iterate 3 quiet_step (fail)
      iterate 4 quiet_step (fail)
      quiet_step ((go_at_call 58;refine CD (ab _)))
      iterate 3 quiet_step (fail)
      iterate 3 (with_reducible refine AM ?_ ?_;kernel_rfl;simp only[aK,aA,aB,aC])
      iterate 9 (with_reducible refine AM ?_ ?_;kernel_rfl;simp only[aK,aA,aB,aC])
      iterate 1 (with_reducible refine AM ?_ ?_;kernel_rfl;simp only[aK,aA,aB,aC])
      quiet_step (fail)
      refine aI ?_;rintro _ ⟨⟨ar,q⟩,rfl⟩;have u:=o.trans (q.mono o.size);go_wp2_with fail
      go_meet;exact⟨true,rfl,t.out,u⟩
     by_cases J:j=0
     ·have t:=Ab (show True↔DV b j x.I by rw[l];simp[E,J]);subst J;clear l R E i0 bg;iterate 5 quiet_step (fail)
      quiet_step ((go_at_call 57;refine CD (I _)))
      iterate 3 quiet_step (fail)
      iterate 4 quiet_step (fail)
      quiet_step ((go_at_call 58;refine CD (ab _)))
      iterate 3 quiet_step (fail)
      iterate 3 quiet_step (fail)
      iterate 9 (with_reducible refine AM ?_ ?_;kernel_rfl;simp only[aK,aA,aB,aC])
      iterate 2 quiet_step (fail)
      refine aI ?_;rintro _ ⟨⟨ar,q⟩,rfl⟩;have u:=o.trans (q.mono o.size);go_wp2_with fail
      go_meet;exact⟨false,rfl,⟨fun _=>t.out.1 trivial,fun _=>rfl⟩,u⟩
     ·obtain⟨y,d,f,au,ac⟩:=R.out J;obtain⟨m,rfl⟩:∃m,j=m+1:=⟨j-1,by omega⟩;simp only[aX]at au ac l;have ce:=fun p=>(ac p).1
      have cf:=fun p=>(ac p).2.1
      have cg:=fun p=>(ac p).2.2
      have bv:∀p:Gr C,Calls prog 59 #[bO #[aE y.aa,aE y.name,aH d y.ls.length f],bO #[aE xk,aE bc,aH r bb s]] p.u fun e w'=>e=aJ (.bool (blockLt y.I x.I))/\Below p.u.heap.size p.u w':=fun p=>a2 y d f p.u
      have t:=Ab (show ((!blockLt y.I x.I)=false)↔DV b (m+1) x.I by
       rw[l];constructor
       ·intro h;exact⟨E,trivial,trivial,.inr ⟨y.I,au,by simpa using h⟩⟩
       ·rintro⟨_,_,_,h|⟨a,be,bw⟩⟩
        ·omega
        ·rw[au]at be;cases be;rw[bw];rfl)
      have i2:(0:Int)<=(m:Int):=by omega
      have i3:(m:Int)<(n:Int):=by omega
      have i4:bN.wrap (m:Int)=(m:Int):=by rw[bG];omega
      have i5:((m:Int)+1).toNat=m+1:=by omega
      have ch:(0:Int)<(m:Int)+1:=by omega
      clear l R E ac au J;generalize blockLt y.I x.I=LT at *;generalize y.aa=yk at *;generalize y.name=yn at *;generalize y.ls.length=ci at *;iterate 5 quiet_step (fail)
      quiet_step ((go_at_call 57;refine CD (I _)))
      iterate 3 quiet_step (fail)
      iterate 4 quiet_step (fail)
      quiet_step ((go_at_call 58;refine CD (ab _)))
      iterate 3 quiet_step (fail)
      iterate 10 quiet_step (fail)
      quiet_step ((go_at_call 59;refine CD (bv _)))
      iterate 3 quiet_step (fail)
      refine aI ?_;rintro _ ⟨⟨ar,q⟩,rfl⟩;have u:=o.trans (q.mono o.size);go_wp2_with fail
      go_meet;exact⟨!LT,rfl,t.out,u⟩
    case rest =>
     obtain⟨B,rfl,av,q⟩:=hcut;have bx:=af.trans (q.mono af.size);have bz:=ae.trans (q.mono ae.size);cases B
     ·have M:=an.out (av.1 rfl);clear F z X G O P Z aa Y am an ag c2 c3 Q V U S N ah I ai aj l a2 av;go_wp2;go_roundw;case rel=>exact⟨j+1,by omega,by go_num,bz,M⟩
      case measure=>simp[intOf];omega
     ·have M:=Ab (am.out (fun h=>by have:=av.2 h;cases this));clear F z X G O P Z aa Y am an ag c2 c3 Q V U S N ah I ai aj l a2 av;go_wp2;go_ret;exact⟨As M.out,bx⟩
   ·obtain rfl:j=n:=by omega
    have M:=Ab (DU.all (by rw[N.out];exact O) (by rw[N.out];exact a4));clear F G O;go_wp2;go_ret;exact⟨As M.out,af⟩
 ·have M:=Ab (Abh (bs:=b) (by rw[N.out];exact a4));have cj:(60:Int)<(n:Int):=by omega
  clear F G;go_enter func14,ntmps14;go_wp2;go_ret;exact⟨As M.out,b0⟩
variable {α:Type}{j:Nat}{va vb:Value}{ys:List (List UInt8)}
theorem Aac(x y:List UInt8):((⟨x.toArray⟩:ByteArray).toList != (⟨y.toArray⟩:ByteArray).toList)=!decide (x=y):=by
 rw[bC,bC];by_cases h:x=y
 ·simp[h]
 ·simp[h]
theorem XU{xs ys:List α}(h:xs.take j=ys.take j)(a:j<xs.length)(b:j<ys.length)(e:xs[j]=ys[j]):xs.take (j+1)=ys.take (j+1):=by
 rw[aY a,aY b,h,e]
theorem Aad{xs:List (List UInt8)}(o:Am w va xs.length 1 (strs xs))(q:Am w vb ys.length 1 (strs ys))(S:xs.length<=1048576):Calls prog 96 #[va,vb] w fun e w'=>e=aJ (.bool (decide (xs=ys)))/\Below w.heap.size w w':=by
 obtain⟨ao,ca,rfl⟩:=o.ad;obtain⟨bo,cb,rfl⟩:=q.ad;by_cases r:xs.length=ys.length
 ·have z:=Ab o;have A:=Ab q;have s:=Ab (show ∀b:Bool,(b=true↔xs=ys)->b=decide (xs=ys) from fun b h=>by
   by_cases e:xs=ys
   ·rw[h.2 e];simp[e]
   ·have:b=false:=by cases b;rfl;exact absurd (h.1 rfl) e
    rw[this];simp[e])
  rw[<-r];generalize C:xs.length=n at *;have a:=Ab C;have d:=Ab r;clear o q C r;have M:((n:Int) != (n:Int))=false:=by simp
  go_enter func96,ntmps96;go_wp2;go_loopw [5] (fun i wr=>∃j:Nat,j<=n/\i=.int .i64 (j:Int)/\Hid (xs.take j=ys.take j)/\Below w.heap.size w wr) (fun i _=>n-(intOf i).toNat)
  case atStart=>exact⟨0,by omega,rfl,(by simp:xs.take 0=ys.take 0),aF _ _⟩
  case round =>
   obtain⟨j,T,rfl,t,f⟩:=hrel;by_cases D:j<n
   ·have E:j<xs.length:=by rw[a.out];exact D
    have F:j<ys.length:=by rw[<-d.out];exact D
    obtain⟨g,off,rfl,G⟩:=(z.out.V f).word j E;obtain⟨U,V,rfl,H⟩:=(A.out.V f).word j F;have B:=Ab (Aac xs[j] ys[j]);have W:(0:Int)<=(j:Int):=by omega
    have i2:(j:Int)<(n:Int):=by omega
    have u:=Ab (show xs[j]=ys[j]->xs.take (j+1)=ys.take (j+1) from XU t.out E F);have v:=Ab (show ¬xs[j]=ys[j]->false=decide (xs=ys) from fun N=>s.out false ⟨(fun h=>by cases h),(fun h=>absurd (by subst h;rfl) N)⟩);clear t s z A;have v1:=fun p:Gr wr=>Aq G p
    have v2:=fun p:Gr wr=>Aq H p
    clear G H;generalize I:(!decide (xs[j]=ys[j]))=J at B;have k:=Ab I;clear I;generalize (⟨xs[j].toArray⟩:ByteArray)=x at *;generalize (⟨ys[j].toArray⟩:ByteArray)=y at *;go_upto_region 6 with fail
    go_cut [25] from 17 to 25 (fun c O=>c=.bool J/\Below wr.heap.size wr O)
    case first =>
     clear u v k a d;refine A5 (by kernel_rfl) (by kernel_rfl) ?_;iterate 9 quiet_step (fail)
     refine aI ?_;rintro _ ⟨⟨X,P⟩,rfl⟩;go_wp2_with fail
     go_meet;exact⟨by rw[<-B.out];first|rfl|simp,P⟩
    case rest =>
     obtain⟨K,Q⟩:∃K,K=wc:=⟨_,rfl⟩;subst Q;obtain⟨rfl,bk⟩:=hcut;have L:=f.trans (bk.mono f.size);clear v1 v2 B;cases J
     ·have R:Hid (xs.take (j+1)=ys.take (j+1)):=u.out (by simpa using k.out);clear u v k a d;go_wp2;go_roundw;case rel=>exact⟨j+1,by omega,by go_num,R,L⟩
      case measure=>simp[intOf];omega
     ·have l:=Ab (v.out (by simpa using k.out));clear u v k a d;go_wp2;go_ret;exact⟨congrArg (fun b=>aM (aS b)) l.out,L⟩
   ·obtain rfl:j=n:=by omega
    have l:=Ab (s.out true ⟨fun _=>by
     have:=t.out;rw[bE (by rw[a.out];exact aV _),bE (by rw[<-d.out];exact aV _)]at this;exact this,fun _=>rfl⟩)
    clear t s z A a d;go_wp2;go_ret;exact⟨congrArg (fun b=>aM (aS b)) l.out,f⟩
 ·have l:decide (xs=ys)=false:=by
   rw[decide_eq_false_iff_not];exact fun e=>r (by rw[e])
  rw[l];have M:((xs.length:Int) != (ys.length:Int))=true:=by simp;omega
  clear o q;generalize xs.length=n at *;generalize ys.length=m at *;go_enter func96,ntmps96;go_wp2;go_ret;exact⟨rfl,aF _ _⟩
open Classical in
noncomputable def eqB{α:Type}(a b:α):Bool:=decide (a=b)
theorem E3{a b:α}(h:a=b):eqB a b=true:=by unfold eqB;simp[h]
theorem ES{a b:α}(h:a≠b):eqB a b=false:=by unfold eqB;simp[h]
theorem LI{a b:α}:eqB a b=true↔a=b:=by unfold eqB;simp
theorem Rv(a b:ByteArray):(a.toList != b.toList)=!eqB a b:=by
 by_cases h:a=b
 ·rw[E3 h,h];simp
 ·rw[ES h];simp only[bne_iff_ne,ne_eq,Bool.not_false];exact fun e=>h (toList_inj e)
theorem Aae{xs ys:List LAt}(z:Ap w va xs)(A:Ap w vb ys)(L:Aj xs):Calls prog 31 #[va,vb] w fun e w'=>e=aJ (.bool (eqB (xs.map LAt.I) (ys.map LAt.I)))/\Below w.heap.size w w':=by
 obtain⟨ao,ca,rfl⟩:=z.1.ad;obtain⟨bo,cb,rfl⟩:=A.1.ad;by_cases B:xs.length=ys.length
 ·have M:=Ab z;have N:=Ab A;have O:=Ab L;have ay:=L.1;rw[<-B];generalize aa:xs.length=n at *;have C:=Ab aa;have E:=Ab B;clear z A L aa B;have ak:((n:Int) != (n:Int))=false:=by simp
  go_enter func31,ntmps31;go_wp2;go_loopw [5] (fun i wr=>∃(D T f l:List LAt),i=.int .i64 (D.length:Int)/\D.length<=n/\Hid (xs=D++T/\ys=f++l/\D.length=f.length/\D.map LAt.I=f.map LAt.I)/\Below w.heap.size w wr) (fun i _=>n-(intOf i).toNat)
  case atStart=>exact⟨[],xs,[],ys,rfl,by simp,(⟨rfl,rfl,rfl,rfl⟩:xs=[]++xs/\ys=[]++ys/\_),aF _ _⟩
  case round =>
   obtain⟨D,T,f,l,rfl,az,o,q⟩:=hrel;cases T with
   | nil =>
    have al:D.length=n:=by rw[<-C.out,o.out.1];simp
    have a0:¬((D.length:Int)<(n:Int)):=by omega
    have r:=Ab (show true=eqB (xs.map LAt.I) (ys.map LAt.I) from by
     obtain⟨d,a,s,F⟩:=o.out;have:l=[]:=by
      have h1:=E.out;have k:=congrArg aO a;rw[bH]at k;exact bD.1 (by omega)
     subst this;rw[bM]at d a;rw[d,a,E3 F])
    clear o M N O C E;go_wp2;go_ret;exact⟨congrArg (fun b=>aM (aS b)) r.out,q⟩
   | cons x T =>
    obtain⟨d,a,s,F⟩:=o.out;have al:D.length<n:=by have h1:=C.out;rw[d]at h1;simp at h1;omega
    obtain⟨y,G,rfl⟩:∃y G,l=y::G:=by
     cases l with
     | nil =>
      exfalso;have h1:=E.out;have k:=congrArg aO a;simp at k;omega
     | cons y t=>exact⟨y,t,rfl⟩
    have P:x∈xs:=by rw[d];simp
    have ab:y∈ys:=by rw[a];simp
    have Q:=M.out.V q;have R:=N.out.V q;have S:=Q.1;have U:=R.1;rw[d]at S;rw[a]at U;obtain⟨g,off,rfl,ac,V⟩:=S.ai;obtain⟨a1,a2,rfl,W,H⟩:=U.ai;rw[<-s]at W H;have u:=Q.2 x P;have v:=R.2 y ab;obtain⟨xa,xc,ad⟩:=Am.ad u;obtain⟨am,yc,ae⟩:=Am.ad v;unfold BL at u v;rw[ad]at V u;rw[ae]at H v;have an:=(O.out.2 x P).1;have af:∀p:Gr wr,Calls prog 96 #[aH xa x.ws.length xc,aH am y.ws.length yc] p.u fun e w'=>e=aJ (.bool (decide (x.ws=y.ws)))/\Below p.u.heap.size p.u w':=fun p=>Aad (u.V p.h) (v.V p.h) an
    have j:=Rv x.key y.key;have I:=Ab (show (!eqB x.key y.key || !decide (x.ws=y.ws))=false->(xs=(D++[x])++T/\ys=(f++[y])++G/\(D++[x]).length=(f++[y]).length/\(D++[x]).map LAt.I=(f++[y]).map LAt.I) from fun h=>by
     simp only[bF,bJ]at h;refine⟨by rw[d];simp,by rw[a];simp,by simp[s],?_⟩;rw[aG,aG,F];congr 1;show [LAt.I x]=[LAt.I y]
     unfold LAt.I;rw[LI.1 h.1,of_decide_eq_true h.2])
    have J:=Ab (show (!eqB x.key y.key || !decide (x.ws=y.ws))=true->false=eqB (xs.map LAt.I) (ys.map LAt.I) from fun h=>by
     rw[ES];intro e;rw[d,a,aG,aG]at e;have k:=(bA e (by simp[s])).2;rw[aP,aP]at k;have ag:=(bI k).1;have ap:x.key=y.key:=congrArg PLine.key ag;have aq:x.ws=y.ws:=congrArg PLine.ws ag;rw[E3 ap]at h;simp[aq]at h)
    have a3:((D.length:Int)<(n:Int)):=by omega
    have a4:(0:Int)<=(D.length:Int):=by omega
    have v1:=fun p:Gr wr=>Aq ac p
    have v2:=fun p:Gr wr=>Aq V p
    have v3:=fun p:Gr wr=>Aq W p
    have v4:=fun p:Gr wr=>Aq H p
    clear o M N O C E d a s F Q R S U u v ad ae ac V W H P ab;have a5:(D++[x]).length=D.length+1:=by simp
    generalize decide (x.ws=y.ws)=ah at *;generalize eqB x.key y.key=X at *;generalize x.key=xk at *;generalize y.key=yk at *;generalize x.ws.length=a6 at *;generalize y.ws.length=a7 at *;go_upto_region 6 with fail
    go_cut [41] from 17 to 41 (fun c ar=>c=.bool (!X || !ah)/\Below wr.heap.size wr ar)
    case first =>
     clear I J;cases X
     ·have Y:¬xk.toList=yk.toList:=by simpa using j
      have au:(xk.toList != yk.toList)=true:=j;have a8:(xk.toList==yk.toList)=false:=by simpa using Y
      have a9:decide (xk.toList=yk.toList)=false:=by simpa using Y
      clear j;refine A5 (by kernel_rfl) (by kernel_rfl) ?_;iterate 12 quiet_step (fail)
      iterate 12 (with_reducible refine AM ?_ ?_;kernel_rfl;simp only[aK,aA,aB,aC])
      quiet_step (fail)
      refine aI ?_;rintro _ ⟨⟨av,Z⟩,rfl⟩;go_wp2_with fail
      go_meet;exact⟨rfl,Z⟩
     ·have Y:xk.toList=yk.toList:=by simpa using j
      have au:(xk.toList != yk.toList)=false:=j;clear j;refine A5 (by kernel_rfl) (by kernel_rfl) ?_;iterate 22 quiet_step (fail)
      quiet_step ((go_at_call 96;refine CD (af _)))
      iterate 2 quiet_step (fail)
      refine aI ?_;rintro _ ⟨⟨av,Z⟩,rfl⟩;go_wp2_with fail
      go_meet;exact⟨rfl,Z⟩
    case rest =>
     obtain⟨ai,aw⟩:∃ai,ai=wc:=⟨_,rfl⟩;subst aw;obtain⟨rfl,bk⟩:=hcut;have aj:=q.trans (bk.mono q.size);clear v1 v2 v3 v4 af j;cases K:(!X || !ah)
     ·have ax:Hid _:=I.out K;clear I J K;go_wp2;go_roundw;case rel=>exact⟨D++[x],T,f++[y],G,by simp,by omega,ax,aj⟩
      case measure=>simp[intOf];omega
     ·have r:=Ab (J.out K);clear I J K;go_wp2;go_ret;exact⟨congrArg (fun b=>aM (aS b)) r.out,aj⟩
 ·have r:eqB (xs.map LAt.I) (ys.map LAt.I)=false:=ES fun e=>B (by have:=congrArg aO e;simpa using this)
  rw[r];have ak:((xs.length:Int) != (ys.length:Int))=true:=by simp;omega
  clear z A;generalize xs.length=n at *;generalize ys.length=m at *;go_enter func31,ntmps31;go_wp2;go_ret;exact⟨rfl,aF _ _⟩
theorem Aaf{xs ys:List BAt}(F:Au w va xs)(G:Au w vb ys)(S:A3 xs):Calls prog 12 #[bO #[va],bO #[vb]] w fun e w'=>e=aJ (.bool (eqB (xs.map BAt.I) (ys.map BAt.I)))/\Below w.heap.size w w':=by
 obtain⟨ao,ca,rfl⟩:=F.1.ad;obtain⟨bo,cb,rfl⟩:=G.1.ad;have V:=Ct (w:=w) (cs:=#[aH ao xs.length ca]) (ds:=#[aH bo ys.length cb]) (T:=25) (U:=25);have c0:=V.1 0;have q:=V.2 0;simp only[aU,aQ]at c0 q;clear V;have f:Below w.heap.size w ((w.alloc (bB #[aH ao xs.length ca] 25)).alloc (bB #[aH bo ys.length cb] 25)):=((aF _ _).alloc (aV _) _).alloc (by simp) _;by_cases H:xs.length=ys.length
 ·have I:=Ab (F.V f);have J:=Ab (G.V f);have W:=Ab S;have bg:=S.1;rw[<-H]at q f c0 I J⊢;generalize ak:xs.length=n at *;have K:=Ab ak;have L:=Ab H;clear F G S ak H;have a1:((n:Int) != (n:Int))=false:=by simp
  generalize al:(w.alloc (bB #[aH ao n ca] 25)).alloc (bB #[aH bo n cb] 25)=W0 at *;go_enter func12,ntmps12;go_wp2;go_loopw [5] (fun i wr=>∃(D T j v:List BAt),i=.int .i64 (D.length:Int)/\D.length<=n/\Hid (xs=D++T/\ys=j++v/\D.length=j.length/\D.map BAt.I=j.map BAt.I)/\Below W0.heap.size W0 wr) (fun i _=>n-(intOf i).toNat)
  case atStart =>
   try rw[al]
   exact⟨[],xs,[],ys,rfl,by simp,(⟨rfl,rfl,rfl,rfl⟩:xs=[]++xs/\ys=[]++ys/\_),aF _ _⟩
  case round =>
   obtain⟨D,T,j,v,rfl,bh,z,l⟩:=hrel;have a2:=f.trans (l.mono f.size);have am:=(l.cell (aD W0 _ c0)).trans c0;have an:=(l.cell (aD W0 _ q)).trans q;clear al;cases T with
   | nil =>
    have a3:D.length=n:=by rw[<-K.out,z.out.1];simp
    have bi:¬((D.length:Int)<(n:Int)):=by omega
    have r:=Ab (show true=eqB (xs.map BAt.I) (ys.map BAt.I) from by
     obtain⟨d,a,A,M⟩:=z.out;have:v=[]:=by
      have h1:=L.out;have s:=congrArg aO a;rw[bH]at s;exact bD.1 (by omega)
     subst this;rw[bM]at d a;rw[d,a,E3 M])
    clear z I J W K L c0 q;go_wp2;go_ret;exact⟨congrArg (fun b=>aM (aS b)) r.out,a2⟩
   | cons x T =>
    obtain⟨d,a,A,M⟩:=z.out;have a3:D.length<n:=by have h1:=K.out;rw[d]at h1;simp at h1;omega
    obtain⟨y,N,rfl⟩:∃y N,v=y::N:=by
     cases v with
     | nil =>
      exfalso;have h1:=L.out;have s:=congrArg aO a;simp at s;omega
     | cons y t=>exact⟨y,t,rfl⟩
    have X:x∈xs:=by rw[d];simp
    have ap:y∈ys:=by rw[a];simp
    have Y:=I.out.V l;have Z:=J.out.V l;have aa:=Y.1;have ab:=Z.1;rw[d]at aa;rw[a]at ab;obtain⟨g,off,rfl,aq,ar,ac⟩:=aa.block;obtain⟨bj,bl,rfl,ad,ae,O⟩:=ab.block;rw[<-A]at ad ae O;have B:=Y.2 x X;have C:=Z.2 y ap;obtain⟨xa,xc,au⟩:=B.1.ad;obtain⟨a4,yc,av⟩:=C.1.ad;unfold Bf at B C;rw[au]at ac B;rw[av]at O C;have a5:=(W.out.2 x X).2;have aw:∀p:Gr wr,Calls prog 31 #[aH xa x.ls.length xc,aH a4 y.ls.length yc] p.u fun e w'=>e=aJ (.bool (eqB (x.ls.map LAt.I) (y.ls.map LAt.I)))/\Below p.u.heap.size p.u w':=fun p=>Aae (B.V p.h) (C.V p.h) a5
    have o:=Rv x.aa y.aa;have k:=Rv x.name y.name;have P:=Ab (show (!eqB x.aa y.aa || !eqB x.name y.name || !eqB (x.ls.map LAt.I) (y.ls.map LAt.I))=false->(xs=(D++[x])++T/\ys=(j++[y])++N/\(D++[x]).length=(j++[y]).length/\(D++[x]).map BAt.I=(j++[y]).map BAt.I) from fun h=>by
     simp only[bF,bJ]at h;refine⟨by rw[d];simp,by rw[a];simp,by simp[A],?_⟩;rw[aG,aG,M];congr 1;show [BAt.I x]=[BAt.I y]
     unfold BAt.I;rw[LI.1 h.1.1,LI.1 h.1.2,LI.1 h.2])
    have Q:=Ab (show (!eqB x.aa y.aa || !eqB x.name y.name || !eqB (x.ls.map LAt.I) (y.ls.map LAt.I))=true->false=eqB (xs.map BAt.I) (ys.map BAt.I) from fun h=>by
     rw[ES];intro e;rw[d,a,aG,aG]at e;have s:=(bA e (by simp[A])).2;rw[aP,aP]at s;have af:=(bI s).1;have a6:x.aa=y.aa:=congrArg PBlock.aa af;have a7:x.name=y.name:=congrArg PBlock.name af;have a8:x.ls.map LAt.I=y.ls.map LAt.I:=congrArg PBlock.ac af;rw[E3 a6,E3 a7,E3 a8]at h;cases h)
    have bm:((D.length:Int)<(n:Int)):=by omega
    have bn:(0:Int)<=(D.length:Int):=by omega
    have u1:=fun p:Gr wr=>Aq am p
    have u2:=fun p:Gr wr=>Aq an p
    have v1:=fun p:Gr wr=>Aq aq p
    have v2:=fun p:Gr wr=>Aq ar p
    have v3:=fun p:Gr wr=>Aq ac p
    have v4:=fun p:Gr wr=>Aq ad p
    have v5:=fun p:Gr wr=>Aq ae p
    have a9:=fun p:Gr wr=>Aq O p
    clear z I J W K L d a A M Y Z aa ab B C au av aq ar ac ad ae O X ap c0 q;have bp:(D++[x]).length=D.length+1:=by simp
    generalize eqB (x.ls.map LAt.I) (y.ls.map LAt.I)=ax at *;generalize eqB x.aa y.aa=ag at *;generalize eqB x.name y.name=ah at *;generalize x.aa=xk at *;generalize y.aa=yk at *;generalize x.name=u at *;generalize y.name=yn at *;generalize x.ls.length=bq at *;generalize y.ls.length=br at *;go_upto_region 6 with fail
    go_cut [63] from 20 to 63 (fun c ba=>c=.bool (!ag || !ah || !ax)/\Below wr.heap.size wr ba)
    case first =>
     clear P Q am an;cases ag
     ·have ai:¬xk.toList=yk.toList:=by simpa using o
      have bb:(xk.toList != yk.toList)=true:=o;have bs:(xk.toList==yk.toList)=false:=by simpa using ai
      have bt:decide (xk.toList=yk.toList)=false:=by simpa using ai
      clear o k;refine A5 (by kernel_rfl) (by kernel_rfl) ?_;iterate 14 quiet_step (fail)
      iterate 13 (with_reducible refine AM ?_ ?_;kernel_rfl;simp only[aK,aA,aB,aC])
      iterate 2 quiet_step (fail)
      iterate 14 (with_reducible refine AM ?_ ?_;kernel_rfl;simp only[aK,aA,aB,aC])
      quiet_step (fail)
      refine aI ?_;rintro _ ⟨⟨ay,E⟩,rfl⟩;go_wp2_with fail
      go_meet;exact⟨rfl,E⟩
     ·have ai:xk.toList=yk.toList:=by simpa using o
      have bb:(xk.toList != yk.toList)=false:=o;clear o;cases ah
      ·have aj:¬u.toList=yn.toList:=by simpa using k
       have bc:(u.toList != yn.toList)=true:=k;have bu:(u.toList==yn.toList)=false:=by simpa using aj
       have bv:decide (u.toList=yn.toList)=false:=by simpa using aj
       clear k;refine A5 (by kernel_rfl) (by kernel_rfl) ?_;iterate 29 quiet_step (fail)
       iterate 14 (with_reducible refine AM ?_ ?_;kernel_rfl;simp only[aK,aA,aB,aC])
       quiet_step (fail)
       refine aI ?_;rintro _ ⟨⟨ay,E⟩,rfl⟩;go_wp2_with fail
       go_meet;exact⟨rfl,E⟩
      ·have aj:u.toList=yn.toList:=by simpa using k
       have bc:(u.toList != yn.toList)=false:=k;clear k;refine A5 (by kernel_rfl) (by kernel_rfl) ?_;iterate 41 quiet_step (fail)
       quiet_step ((go_at_call 31;refine CD (aw _)))
       iterate 2 quiet_step (fail)
       refine aI ?_;rintro _ ⟨⟨ay,E⟩,rfl⟩;go_wp2_with fail
       go_meet;exact⟨rfl,E⟩
    case rest =>
     obtain⟨az,bd⟩:∃az,az=wc:=⟨_,rfl⟩;subst bd;obtain⟨rfl,bk⟩:=hcut;have a0:=l.trans (bk.mono l.size);have be:=f.trans (a0.mono f.size);clear v1 v2 v3 v4 v5 a9 u1 u2 aw o k;cases R:(!ag || !ah || !ax)
     ·have bf:Hid _:=P.out R;clear P Q R;go_wp2;go_roundw;case rel=>exact⟨D++[x],T,j++[y],N,by simp,by omega,bf,a0⟩
      case measure=>simp[intOf];omega
     ·have r:=Ab (Q.out R);clear P Q R;go_wp2;go_ret;exact⟨congrArg (fun b=>aM (aS b)) r.out,be⟩
 ·have r:eqB (xs.map BAt.I) (ys.map BAt.I)=false:=ES fun e=>H (by have:=congrArg aO e;simpa using this)
  rw[r];have a1:((xs.length:Int) != (ys.length:Int))=true:=by simp;omega
  clear F G r;generalize xs.length=n at *;generalize ys.length=m at *;go_enter func12,ntmps12;go_wp2;go_ret;exact⟨rfl,f⟩
